
/- A head that came in. -/
import Derived.Test.YtojlnabhaglejaaHeadV
import Derived.ProofKit
import Derived.OpenShut
import Derived.ChangeOld
namespace Go.Proofs.Ytojlnabhaglejaa
open Go.ChangeShapes Go.WideShapes Go.ChangeAt Go.RowKit
set_option linter.unusedVariables false
set_option maxRecDepth 100000

section
variable {H : Type} {enc : TypeId × Value → H} {w : World} {base : Nat} {sp : Nat → Bool} {held : Bool}

/-- One cell of a struct of numbers. -/
theorem flat_cell {fuel : Nat} {t : TypeId} {fs : Array Field} {cs : List Value} {x : DataW H × List MemPlace} (ht : Try.prog.underlying t = some (.struct fs)) (h : DataW.trod enc Try.prog w base sp held fuel t cs = some x)
    (i : Nat) (f : Field) (hf : fs[i]? = some f) (ho : f.offset = i) (k : IntKind) (hk : Try.prog.underlying f.type = some (.int k)) (hc : Try.prog.cellsOf f.type = 1) : ∃ n, (cs.drop i).take 1 = [.int k n] ∧ (Lit.int k n).wf = true := by
  obtain ⟨xs, m, _, _, _, hlen, hall⟩ := DataW.trod_struct ht h
  have hi : i < xs.length := by
    have := (Array.getElem?_eq_some_iff.mp hf).1
    omega
  have := hall i f hf
  rw [ho, hc, List.getElem?_eq_getElem hi] at this
  obtain ⟨n, e, _, wf⟩ := DataW.trod_int hk this
  exact ⟨n, e, wf⟩
theorem flat_len {fuel : Nat} {t : TypeId} {fs : Array Field} {cs : List Value} {x : DataW H × List MemPlace} (ht : Try.prog.underlying t = some (.struct fs)) (h : DataW.trod enc Try.prog w base sp held fuel t cs = some x) : cs.length = Try.prog.cellsOf t := by
  obtain ⟨xs, m, _, _, hl, _⟩ := DataW.trod_struct ht h
  exact hl
theorem open_head {r : Reach} {b0 : Nat} {v : Value} {d : DataW H} {ps : List MemPlace} (hval : Value.okWide Try.prog w r b0 50 v) (hd : DataW.Trod enc Try.prog w base sp held 50 v d ps) :
    ∃ h : HV, v = h.v ∧ h.Ok ∧ h.OkS := by
  obtain ⟨cs, rfl, _⟩ := okWide_struct Try.underlying50 hval
  obtain ⟨fuel, hf⟩ := hd
  have hl := flat_len Try.underlying50 hf
  have hc : Try.prog.cellsOf 50 = 8 := by kernel_rfl
  rw [hc] at hl
  obtain ⟨n0, e0, w0⟩ := flat_cell Try.underlying50 hf 0 _ rfl rfl .u16 Try.underlying39 (by kernel_rfl)
  obtain ⟨n1, e1, w1⟩ := flat_cell Try.underlying50 hf 1 _ rfl rfl .u8 Try.underlying5 (by kernel_rfl)
  obtain ⟨n2, e2, w2⟩ := flat_cell Try.underlying50 hf 2 _ rfl rfl .u8 Try.underlying5 (by kernel_rfl)
  obtain ⟨n3, e3, w3⟩ := flat_cell Try.underlying50 hf 3 _ rfl rfl .u32 Try.underlying24 (by kernel_rfl)
  obtain ⟨n4, e4, w4⟩ := flat_cell Try.underlying50 hf 4 _ rfl rfl .u32 Try.underlying24 (by kernel_rfl)
  obtain ⟨n5, e5, w5⟩ := flat_cell Try.underlying50 hf 5 _ rfl rfl .i32 Try.underlying21 (by kernel_rfl)
  obtain ⟨n6, e6, w6⟩ := flat_cell Try.underlying50 hf 6 _ rfl rfl .u16 Try.underlying39 (by kernel_rfl)
  obtain ⟨n7, e7, w7⟩ := flat_cell Try.underlying50 hf 7 _ rfl rfl .u16 Try.underlying39 (by kernel_rfl)
  simp only [Value.cells] at *
  obtain ⟨cs⟩ := cs
  simp only at *
  match cs, hl with
  | [c0, c1, c2, c3, c4, c5, c6, c7], _ =>
    simp only [List.drop, List.take, List.cons.injEq, and_true] at e0 e1 e2 e3 e4 e5 e6 e7
    subst e0 e1 e2 e3 e4 e5 e6 e7
    have b0 := bounds_u16 w0
    have b1 := bounds_u8 w1
    have b2 := bounds_u8 w2
    have b3 := bounds_u32 w3
    have b4 := bounds_u32 w4
    have b5 := bounds_i32 w5
    have b6 := bounds_u16 w6
    have b7 := bounds_u16 w7
    exact ⟨⟨n0, n1, n2, n3, n4, n5, n6, n7⟩, rfl, ⟨by dsimp only; omega, by dsimp only; omega, by dsimp only; omega, by dsimp only; omega⟩, ⟨by dsimp only; omega, by dsimp only; omega⟩⟩
end
end Go.Proofs.Ytojlnabhaglejaa
