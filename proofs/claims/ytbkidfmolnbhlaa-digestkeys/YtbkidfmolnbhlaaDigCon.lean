/- Contracts: constants, rounds. -/
import Derived.Test.YtbkidfmolnbhlaaDigRow
namespace Go.Proofs.Ytbkidfmolnbhlaa
open Go.RowKit
set_option linter.unusedVariables false
set_option maxRecDepth 100000

theorem Try.info64 : (Try.prog.info? 47).map (·.size) = some 64 := by kernel_rfl
theorem oneCell_tabV : tabV.toArray.all (·.oneCell') = true := by decide +kernel
set_option maxHeartbeats 1000000 in
theorem const_any (w : World) : Calls Try.prog 30 #[] w fun e w' => e = .returned (.agg tabV.toArray) ∧ Touch (fun _ => False) w w' := by
  go_enter Try.func30, Try.ntmps30
  go_wp2_with (refine wpList_store_row rfl 47 (.tmp 0) (.tmp 1) rfl w.heap.size tabV.toArray rfl rfl 47 _ (row_new w 47 _) (by rw [Try.info64]; rfl) rfl oneCell_tabV ?_)
  refine bodyPost_ret (results_cell_row Try.results30 _ _ w.heap.size 47 tabV.toArray (0, 0) _ rfl ((row_new w 47 _).setRow tabV.toArray) Try.underlying47 rfl (by rw [Try.info64]; rfl)) rfl ?_
  exact ⟨rfl, ((Touch.refl _ w).alloc _).setRow (Or.inr (Nat.le_refl _)) _⟩
/-- The four rounds' cells. -/
def rndV : List Value := [
  .func (.func 35) #[] #[], .int .i64 1, .int .i64 0, .int .i64 7, .int .i64 12, .int .i64 17, .int .i64 22,
  .func (.func 36) #[] #[], .int .i64 5, .int .i64 1, .int .i64 5, .int .i64 9, .int .i64 14, .int .i64 20,
  .func (.func 37) #[] #[], .int .i64 3, .int .i64 5, .int .i64 4, .int .i64 11, .int .i64 16, .int .i64 23,
  .func (.func 38) #[] #[], .int .i64 7, .int .i64 0, .int .i64 6, .int .i64 10, .int .i64 15, .int .i64 21]
theorem Try.info28 : (Try.prog.info? 53).map (·.size) = some 28 := by kernel_rfl
theorem oneCell_rndV : rndV.toArray.all (·.oneCell') = true := by decide +kernel
set_option maxHeartbeats 1000000 in
theorem rounds_any (w : World) : Calls Try.prog 31 #[] w fun e w' => e = .returned (.agg rndV.toArray) ∧ Touch (fun _ => False) w w' := by
  go_enter Try.func31, Try.ntmps31
  go_wp2_with (refine wpList_store_row rfl 53 (.tmp 0) (.tmp 9) rfl w.heap.size rndV.toArray rfl rfl 53 _ (row_new w 53 _) (by rw [Try.info28]; rfl) rfl oneCell_rndV ?_)
  refine bodyPost_ret (results_cell_row Try.results31 _ _ w.heap.size 53 rndV.toArray (0, 0) _ rfl ((row_new w 53 _).setRow rndV.toArray) Try.underlying53 rfl (by rw [Try.info28]; rfl)) rfl ?_
  exact ⟨rfl, ((Touch.refl _ w).alloc _).setRow (Or.inr (Nat.le_refl _)) _⟩
end Go.Proofs.Ytbkidfmolnbhlaa
