/- Contracts: constants, rounds. -/
import Derived.Test.YthilfealloakdaaNumB
namespace Go.Proofs.Ythilfealloakdaa
open Go.RowKit
set_option linter.unusedVariables false
set_option maxRecDepth 100000

theorem Try.info64 : (Try.prog.info? 145).map (·.size) = some 64 := by kernel_rfl
theorem oneCell_tabV : tabV.toArray.all (·.oneCell') = true := by decide +kernel
set_option maxHeartbeats 1000000 in
theorem const_any (w : World) : Calls Try.prog 98 #[] w fun e w' => e = .returned (.agg tabV.toArray) ∧ Touch (fun _ => False) w w' := by
  go_enter Try.func98, Try.ntmps98
  go_wp2_with (refine wpList_store_row rfl 145 (.tmp 0) (.tmp 1) rfl w.heap.size tabV.toArray rfl rfl 145 _ (row_new w 145 _) (by rw [Try.info64]; rfl) rfl oneCell_tabV ?_)
  refine bodyPost_ret (results_cell_row Try.results98 _ _ w.heap.size 145 tabV.toArray (0, 0) _ rfl ((row_new w 145 _).setRow tabV.toArray) Try.underlying145 rfl (by rw [Try.info64]; rfl)) rfl ?_
  exact ⟨rfl, ((Touch.refl _ w).alloc _).setRow (Or.inr (Nat.le_refl _)) _⟩
/-- The four rounds' cells. -/
def rndV : List Value := [
  .func (.func 104) #[] #[], .int .i64 1, .int .i64 0, .int .i64 7, .int .i64 12, .int .i64 17, .int .i64 22,
  .func (.func 105) #[] #[], .int .i64 5, .int .i64 1, .int .i64 5, .int .i64 9, .int .i64 14, .int .i64 20,
  .func (.func 106) #[] #[], .int .i64 3, .int .i64 5, .int .i64 4, .int .i64 11, .int .i64 16, .int .i64 23,
  .func (.func 107) #[] #[], .int .i64 7, .int .i64 0, .int .i64 6, .int .i64 10, .int .i64 15, .int .i64 21]
theorem Try.info28 : (Try.prog.info? 151).map (·.size) = some 28 := by kernel_rfl
theorem oneCell_rndV : rndV.toArray.all (·.oneCell') = true := by decide +kernel
set_option maxHeartbeats 1000000 in
theorem rounds_any (w : World) : Calls Try.prog 99 #[] w fun e w' => e = .returned (.agg rndV.toArray) ∧ Touch (fun _ => False) w w' := by
  go_enter Try.func99, Try.ntmps99
  go_wp2_with (refine wpList_store_row rfl 151 (.tmp 0) (.tmp 9) rfl w.heap.size rndV.toArray rfl rfl 151 _ (row_new w 151 _) (by rw [Try.info28]; rfl) rfl oneCell_rndV ?_)
  refine bodyPost_ret (results_cell_row Try.results99 _ _ w.heap.size 151 rndV.toArray (0, 0) _ rfl ((row_new w 151 _).setRow rndV.toArray) Try.underlying151 rfl (by rw [Try.info28]; rfl)) rfl ?_
  exact ⟨rfl, ((Touch.refl _ w).alloc _).setRow (Or.inr (Nat.le_refl _)) _⟩
end Go.Proofs.Ythilfealloakdaa

namespace Go.Proofs.Ythilfealloakdaa
open Go.RowKit
set_option linter.unusedVariables false
set_option maxRecDepth 100000

/-- The mill's cells. -/
def millV (q : Q4) : List Value := .int .u32 (q.a : Int) :: .int .u32 (q.b : Int) :: .int .u32 (q.c : Int) :: .int .u32 (q.d : Int) :: (tabV ++ rndV)
def Mill (w : World) (g : Nat) (q : Q4) : Prop := Row w g 154 (millV q)
theorem wpList_build_is {P : Program} {ops : Array Oper} {rest : List Oper} {o : Oper} {a : Act} {w : World} {Q : Exit → Act → World → Prop} (hg : o.guard = none) (t : TypeId) (parts : List (Nat × Operand)) (ho : o.op = .build t parts.toArray) (C : Array Value)
    (hb : P.built t (parts.map fun p => (p.1, a.eval p.2)) = some C) (h : wpList P ops Q rest (a.put o.dst (.agg C)) w) : wpList P ops Q (o :: rest) a w :=
  have e : P.built t (parts.toArray.map fun (i, x) => (i, a.eval x)).toList = some C := by
    rw [← hb]
    simp
  wpList_build hg t parts.toArray ho (by rw [e]; rfl) (by rw [e]; exact h)
set_option maxHeartbeats 1000000 in
theorem begin_any (w : World) : Calls Try.prog 89 #[] w fun e w' => (∃ g, e = .returned (.pointer (some ⟨g, 0, none⟩)) ∧ Mill w' g startN ∧ w.heap.size ≤ g) ∧ Touch (fun _ => False) w w' := by
  have HC := const_any
  have HR := rounds_any
  generalize hT : tabV.toArray = TV at HC
  generalize hN : rndV.toArray = RV at HR
  have HB : Hid (Try.prog.built 154 [(0, .agg #[.int .u32 1732584193, .int .u32 4023233417, .int .u32 2562383102, .int .u32 271733878]), (1, .agg TV), (2, .agg RV)] = some (millV startN).toArray) := by
    subst hT hN
    show _ = _
    kernel_rfl
  clear hT hN
  go_enter Try.func89, Try.ntmps89
  have hM : (millV startN).length = 96 := by decide
  generalize hMV : (millV startN).toArray = MV at HB
  have HM : Hid ((millV startN).toArray = MV) := hMV
  have hMs : MV.size = 96 := by rw [← hMV, List.size_toArray, hM]
  clear hMV hM
  go_wp2_with (first | refine (HC _).mono ?_; rintro e w1 ⟨rfl, t1⟩ | refine (HR _).mono ?_; rintro e w2 ⟨rfl, t2⟩ | refine wpList_build_is rfl 154 _ rfl MV HB.out ?_)
  trace_state
  go_ret
  refine ⟨⟨w2.heap.size, rfl, ?_, ?_⟩, ?_⟩
  · have := row_new w2 154 MV
    rw [← HM.out] at this ⊢
    exact this
  · exact (t1.trans t2).size
  · exact (t1.trans t2).alloc _
end Go.Proofs.Ythilfealloakdaa
