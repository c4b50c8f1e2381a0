/- A prefix, and a list of prefixes, that came in. -/
import Derived.Test.YtmofndckjjbfgaaDoorPreLaid
import Derived.ProofKit
import Derived.OpenShut
import Derived.ChangeOld
namespace Go.Proofs.YtmofndckjjbfgaaDoor
open Go.ChangeShapes Go.WideShapes Go.ChangeAt Go.RowKit
set_option linter.unusedVariables false
set_option maxRecDepth 100000

section
variable {H : Type} {enc : TypeId × Value → H} {w : World} {base : Nat} {sp : Nat → Bool} {held : Bool}

/-- Two cells that read as a prefix. -/
theorem px_cells {fuel : Nat} {cs : List Value} {x : DataW H × List MemPlace} (h : DataW.trod enc Tryd.prog w base sp held fuel 24 cs = some x) :
    ∃ a n, cs = [.int .u32 a, .int .u8 n] ∧ (0 ≤ a ∧ a ≤ 4294967295) ∧ (0 ≤ n ∧ n ≤ 255) := by
  obtain ⟨y0, y1, k, _, hl, h0, h1⟩ := trod_struct2 Tryd.underlying24 h
  obtain ⟨a, e0, _, wa⟩ := DataW.trod_int Tryd.underlying22 h0
  obtain ⟨n, e1, _, wn⟩ := DataW.trod_int Tryd.underlying5 h1
  have hc : Tryd.prog.cellsOf 24 = 2 := by kernel_rfl
  have hc0 : Tryd.prog.cellsOf 22 = 1 := by kernel_rfl
  have hc1 : Tryd.prog.cellsOf 5 = 1 := by kernel_rfl
  rw [hc] at hl
  match cs, hl with
  | [c0, c1], _ =>
    rw [hc0] at e0
    rw [hc1] at e1
    have e0' : c0 = .int .u32 a := by simpa using e0
    have e1' : c1 = .int .u8 n := by simpa using e1
    exact ⟨a, n, by rw [e0', e1'], bounds_u32 wa, bounds_u8 wn⟩

theorem open_px {r : Reach} {b0 : Nat} {v : Value} {d : DataW H} {ps : List MemPlace} (hval : Value.okWide Tryd.prog w r b0 24 v) (hd : DataW.Trod enc Tryd.prog w base sp held 24 v d ps) :
    ∃ a n, v = .agg #[.int .u32 a, .int .u8 n] ∧ (0 ≤ a ∧ a ≤ 4294967295) ∧ (0 ≤ n ∧ n ≤ 255) := by
  obtain ⟨cs, rfl, _⟩ := okWide_struct Tryd.underlying24 hval
  obtain ⟨fuel, hf⟩ := hd
  obtain ⟨a, n, e, h1, h2⟩ := px_cells hf
  refine ⟨a, n, ?_, h1, h2⟩
  have : cs.toList = [.int .u32 a, .int .u8 n] := by simpa [Value.cells] using e
  rw [← Array.toArray_toList (xs := cs), this]
end
end Go.Proofs.YtmofndckjjbfgaaDoor
