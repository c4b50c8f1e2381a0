
/- A link state that came in. -/
import Derived.Test.YtedolfggbgmklaaSpArgs
namespace Go.Proofs.Ytedolfggbgmklaa
open Go.ChangeShapes Go.WideShapes Go.ChangeAt Go.RowKit
set_option linter.unusedVariables false
set_option maxRecDepth 100000

section
variable {H : Type} {enc : TypeId × Value → H} {w : World} {base : Nat} {held : Bool}
theorem open_st15 {sp : Nat → Bool} {r : Reach} {b0 : Nat} {v : Value} {d : DataW H} {ps : List MemPlace} (hval : Value.okWide Try.prog w r b0 53 v) (hd : DataW.Trod enc Try.prog w base sp held 53 v d ps) :
    ∃ (h : HV) (u : Value), v = .agg #[.int .u16 h.age, .int .u8 h.opts, .int .u8 h.typ, .int .u32 h.id, .int .u32 h.adv, .int .i32 h.seq, .int .u16 h.sum, .int .u16 h.len, u] ∧ h.Al := by
  obtain ⟨cs, rfl, _⟩ := okWide_struct Try.underlying53 hval
  obtain ⟨fuel, hf⟩ := hd
  have hl := sp_len Try.underlying53 hf
  have hc : Try.prog.cellsOf 53 = 9 := by kernel_rfl
  rw [hc] at hl
  obtain ⟨m0, y0, a0⟩ := sp_field Try.underlying53 hf 0 _ rfl 0 8 rfl (by kernel_rfl)
  obtain ⟨a, e0, ok0⟩ := open_head_c a0
  simp only [Value.cells] at *
  obtain ⟨cs⟩ := cs
  simp only at *
  match cs, hl with
  | [c0, c1, c2, c3, c4, c5, c6, c7, c8], _ =>
    simp only [HV.c8, List.drop, List.take, List.cons.injEq, and_true] at e0
    obtain ⟨rfl, rfl, rfl, rfl, rfl, rfl, rfl, rfl⟩ := e0
    exact ⟨a, c8, rfl, ok0⟩
end
end Go.Proofs.Ytedolfggbgmklaa
