/- Contract: begin; the mill in memory. -/
import Derived.Test.YtbkidfmolnbhlaaDigCon
namespace Go.Proofs.Ytbkidfmolnbhlaa
open Go.RowKit
set_option linter.unusedVariables false
set_option maxRecDepth 100000

/-- The mill's cells. -/
def millV (q : Q4) : List Value := .int .u32 (q.a : Int) :: .int .u32 (q.b : Int) :: .int .u32 (q.c : Int) :: .int .u32 (q.d : Int) :: (tabV ++ rndV)
def Mill (w : World) (g : Nat) (q : Q4) : Prop := Row w g 56 (millV q)
theorem wpList_build_is {P : Program} {ops : Array Oper} {rest : List Oper} {o : Oper} {a : Act} {w : World} {Q : Exit → Act → World → Prop} (hg : o.guard = none) (t : TypeId) (parts : List (Nat × Operand)) (ho : o.op = .build t parts.toArray) (C : Array Value)
    (hb : P.built t (parts.map fun p => (p.1, a.eval p.2)) = some C) (h : wpList P ops Q rest (a.put o.dst (.agg C)) w) : wpList P ops Q (o :: rest) a w :=
  have e : P.built t (parts.toArray.map fun (i, x) => (i, a.eval x)).toList = some C := by
    rw [← hb]
    simp
  wpList_build hg t parts.toArray ho (by rw [e]; rfl) (by rw [e]; exact h)
set_option maxHeartbeats 1000000 in
theorem begin_any (w : World) : Calls Try.prog 21 #[] w fun e w' => (∃ g, e = .returned (.pointer (some ⟨g, 0, none⟩)) ∧ Mill w' g startN ∧ w.heap.size ≤ g) ∧ Touch (fun _ => False) w w' := by
  have HC := const_any
  have HR := rounds_any
  generalize hT : tabV.toArray = TV at HC
  generalize hN : rndV.toArray = RV at HR
  have HB : Hid (Try.prog.built 56 [(0, .agg #[.int .u32 1732584193, .int .u32 4023233417, .int .u32 2562383102, .int .u32 271733878]), (1, .agg TV), (2, .agg RV)] = some (millV startN).toArray) := by
    subst hT hN
    show _ = _
    kernel_rfl
  clear hT hN
  go_enter Try.func21, Try.ntmps21
  have hM : (millV startN).length = 96 := by decide
  generalize hMV : (millV startN).toArray = MV at HB
  have HM : Hid ((millV startN).toArray = MV) := hMV
  have hMs : MV.size = 96 := by rw [← hMV, List.size_toArray, hM]
  clear hMV hM
  go_wp2_with (first | refine (HC _).mono ?_; rintro e w1 ⟨rfl, t1⟩ | refine (HR _).mono ?_; rintro e w2 ⟨rfl, t2⟩ | refine wpList_build_is rfl 56 _ rfl MV HB.out ?_)
  trace_state
  go_ret
  refine ⟨⟨w2.heap.size, rfl, ?_, ?_⟩, ?_⟩
  · have := row_new w2 56 MV
    rw [← HM.out] at this ⊢
    exact this
  · exact (t1.trans t2).size
  · exact (t1.trans t2).alloc _
end Go.Proofs.Ytbkidfmolnbhlaa
