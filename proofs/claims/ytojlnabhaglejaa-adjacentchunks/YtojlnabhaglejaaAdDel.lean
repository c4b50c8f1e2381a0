
/- The one key is found and struck. -/
import Derived.Test.YtojlnabhaglejaaAdDesc2
import Derived.Deep.Upon
import Derived.Laws.IdiomCopy
import Derived.Lib.SliceRun
namespace Go.Proofs.Ytojlnabhaglejaa
open Go.RowKit
set_option linter.unusedVariables false
set_option maxRecDepth 100000

set_option maxHeartbeats 1000000 in
theorem index_one (w : World) (g cc : Nat) (k0 : w.cell? ⟨g, 0, none⟩ = some (.int .u8 1)) (k1 : w.cell? ⟨g, 1, none⟩ = some (.int .u32 2)) (k2 : w.cell? ⟨g, 2, none⟩ = some (.int .u32 2)) : Calls Try.prog 69 #[.slice (some ⟨g, 0, none⟩) 1 cc, .agg #[.int .u8 1, .int .u32 2, .int .u32 2]] w fun e w' => e = .returned (.int .i64 0) ∧ Touch (fun _ => False) w w' := by
  have hg := lt_of_cell k0
  have heq : ∀ w, Sem.run Try.prog (binOp .eql 47 (.agg #[.int .u8 1, .int .u32 2, .int .u32 2]) (.agg #[.int .u8 1, .int .u32 2, .int .u32 2])) w = .ok (.bool true) w := fun _ => rfl
  go_enter Try.func69, Try.ntmps69
  go_wp2_with fail
  go_loopw [8] (fun i wr => i = .int .i64 0 ∧ wr = w.alloc (.cells #[.int .u8 1, .int .u32 2, .int .u32 2] 47)) (fun _ _ => 0)
  case atStart => exact ⟨rfl, rfl⟩
  case round =>
    obtain ⟨rfl, rfl⟩ := hrel
    go_wp2_with fail
    go_region
    go_wp2_with fail
    go_ret
    exact ⟨rfl, ((Touch.refl _ _).alloc _).drew⟩
theorem append_none (g cc : Nat) (a : Option Addr) (c : Nat) (ty : TypeId) (w : World) : (Builtin.append_ #[57, 57] ty #[.slice (some ⟨g, 0, none⟩) 0 cc, .slice a 0 c]).run Try.prog w = .ok (.slice (some ⟨g, 0, none⟩) 0 cc) w := by
  obtain ⟨i0, hi0, hz0, hz1, hz2⟩ := infoParts infoKey
  refine run_append_nothing w 57 57 ty 47 i0 Try.underlying57 hi0 _ 0 cc (Nat.zero_le _) _ ⟨Or.inl ⟨_, Try.underlying57⟩, fun _ => rfl, ?_, ?_, by simp, by simp⟩
  · cases a <;> first | rfl | simp [Builtin.firstCells, loadCells, loadCellsFrom]
  · cases a <;> first | rfl | simp [Builtin.firstCells, loadCells, loadCellsFrom]
theorem zeroKey (w : World) : (zeroValue 47).run Try.prog w = .ok (.agg #[.int .u8 0, .int .u32 0, .int .u32 0]) w := by rfl
theorem clear_one (w : World) (g cc : Nat) (ty : TypeId) (hc : ∀ j, j < 3 → (w.cell? ⟨g, 0 + j, none⟩).isSome = true) (hf : ∀ j, j < 3 → w.frozen? ⟨g, 0 + j, none⟩ = false) : (Builtin.clear_ #[57] ty #[.slice (some ⟨g, 0, none⟩) 1 cc]).run Try.prog w = .ok (.tuple #[]) (w.setCells g 0 [.int .u8 0, .int .u32 0, .int .u32 0]) := by
  have hst := run_storeCells_cells (P := Try.prog) g 0 [.int .u8 0, .int .u32 0, .int .u32 0] 0 w (by simpa using hc) (by simpa using hf) (by intro v hv; simp at hv; rcases hv with rfl | rfl <;> rfl)
  simp only [Nat.add_zero] at hst
  have hzc : (Builtin.zeroCells (Value.agg #[.int .u8 0, .int .u32 0, .int .u32 0]).cells 1).toList = [.int .u8 0, .int .u32 0, .int .u32 0] := by first | kernel_rfl | decide | (simp [Builtin.zeroCells, Value.cells]; rfl)
  simp [Builtin.clear_, run_underlying Try.underlying57, hzc, hst]
theorem touch_cells {w : World} {g o : Nat} (l : List Value) : Touch (fun k => k = g) w (w.setCells g o l) := by
  induction l generalizing w o with
  | nil => exact Touch.refl _ _
  | cons v l ih => exact ((Touch.refl (fun k => k = g) w).setCell (p := ⟨g, o, none⟩) (Or.inl rfl) v).trans ih
set_option maxHeartbeats 2000000 in
theorem delete_one (base : Nat) (w : World) (g cc : Nat) (h : KR base w (.slice (some ⟨g, 0, none⟩) 1 cc)) : Calls Try.prog 70 #[.slice (some ⟨g, 0, none⟩) 1 cc, .int .i64 0, .int .i64 1] w fun e w' => e = .returned (.slice (some ⟨g, 0, none⟩) 0 cc) ∧ Touch (fun k => k = g) w w' := by
  obtain ⟨g', cc', e, hg, hlt, hc1, k0, k1, k2, f0, f1, f2⟩ := h.form
  simp only [Value.slice.injEq, Option.some.injEq, Addr.mk.injEq, and_true, true_and] at e
  obtain ⟨rfl, rfl⟩ := e
  have hc2 : (1 : Int) ≤ (cc : Int) := by omega
  have hap := append_none g cc
  have hcl := fun ty => clear_one w.drew g cc ty (by
    intro j hj
    rcases (by omega : j = 0 ∨ j = 1 ∨ j = 2) with rfl | rfl | rfl
    · show (w.cell? ⟨g, 0, none⟩).isSome = true; rw [k0]; rfl
    · show (w.cell? ⟨g, 1, none⟩).isSome = true; rw [k1]; rfl
    · show (w.cell? ⟨g, 2, none⟩).isSome = true; rw [k2]; rfl) (by
    intro j hj
    rcases (by omega : j = 0 ∨ j = 1 ∨ j = 2) with rfl | rfl | rfl
    · exact f0
    · exact f1
    · exact f2)
  clear h hg k0 k1 k2 f0 f1 f2
  go_enter Try.func70, Try.ntmps70
  go_wp2_with fail
  clear hap
  go_region_law (refine step_run_append rfl (.tmp 22) (.tmp 25) 57 rfl _ _ _ _ (by rfl) (by rfl) (append_none g cc _ _ _ _) ?_)
  all_goals go_wp2_with fail
  all_goals go_ret
  all_goals exact ⟨rfl, (Touch.refl (fun k => k = g) w).drew.trans (touch_cells _)⟩
end Go.Proofs.Ytojlnabhaglejaa
