/- A state, a head that came in. -/
import Derived.Test.YtfdpmlogieaiaaaStRow0
import Derived.ProofKit
import Derived.OpenShut
import Derived.ChangeOld
import Derived.Deep.Slices
import Derived.Deep.Matrix
namespace Go.Proofs.Ytfdpmlogieaiaaa
open Go.ChangeShapes Go.WideShapes Go.ChangeAt Go.RowKit
set_option linter.unusedVariables false
set_option maxRecDepth 100000

section
variable {H : Type} {enc : TypeId × Value → H} {w : World} {base : Nat} {held : Bool}

/-- One cell of a struct of numbers. -/
theorem flat_cell {sp : Nat → Bool} {fuel : Nat} {t : TypeId} {fs : Array Field} {cs : List Value} {x : DataW H × List MemPlace} (ht : Try.prog.underlying t = some (.struct fs)) (h : DataW.trod enc Try.prog w base sp held fuel t cs = some x)
    (i : Nat) (f : Field) (hf : fs[i]? = some f) (ho : f.offset = i) (k : IntKind) (hk : Try.prog.underlying f.type = some (.int k)) (hc : Try.prog.cellsOf f.type = 1) : ∃ n, (cs.drop i).take 1 = [.int k n] ∧ (Lit.int k n).wf = true := by
  obtain ⟨xs, m, _, _, _, hlen, hall⟩ := DataW.trod_struct ht h
  have hi : i < xs.length := by
    have := (Array.getElem?_eq_some_iff.mp hf).1
    omega
  have := hall i f hf
  rw [ho, hc, List.getElem?_eq_getElem hi] at this
  obtain ⟨n, e, _, wf⟩ := DataW.trod_int hk this
  exact ⟨n, e, wf⟩
theorem open_bytes_c {fuel : Nat} {cs : List Value} {x : DataW H × List MemPlace} (h : DataW.trod enc Try.prog w base (fun _ => true) held fuel 28 cs = some x) :
    ∃ a len cap rs, cs = [.slice a len cap] ∧ rs.length = len ∧ ArgAt w (.slice a len cap) rs ∧ ∀ z ∈ rs, 0 ≤ z ∧ z < 256 := by
  have hs : ∃ a len cap, cs = [.slice a len cap] := by
    rcases open_ints Try.underlying28 Try.underlying5 (by kernel_rfl) h with ⟨hcs, _⟩ | ⟨ad, l, c, zs, hcs, _⟩
    · exact ⟨_, _, _, hcs⟩
    · exact ⟨_, _, _, hcs⟩
  obtain ⟨a, len, cap, rfl⟩ := hs
  obtain ⟨rs, h1, h2, h3, _⟩ := open_bytes h
  exact ⟨a, len, cap, rs, rfl, h1, h2, h3⟩
/-- A field of a struct. -/
theorem field_at {sp : Nat → Bool} {fuel : Nat} {t : TypeId} {fs : Array Field} {cs : List Value} {x : DataW H × List MemPlace} (ht : Try.prog.underlying t = some (.struct fs)) (h : DataW.trod enc Try.prog w base sp held fuel t cs = some x)
    (i : Nat) (f : Field) (hf : fs[i]? = some f) (o n : Nat) (ho : f.offset = o) (hc : Try.prog.cellsOf f.type = n) : ∃ m y, DataW.trod enc Try.prog w base sp held m f.type ((cs.drop o).take n) = some y := by
  obtain ⟨xs, m, _, _, _, hlen, hall⟩ := DataW.trod_struct ht h
  have hi : i < xs.length := by
    have := (Array.getElem?_eq_some_iff.mp hf).1
    omega
  have := hall i f hf
  rw [ho, hc, List.getElem?_eq_getElem hi] at this
  exact ⟨m, _, this⟩
theorem len_of {sp : Nat → Bool} {fuel : Nat} {t : TypeId} {fs : Array Field} {cs : List Value} {x : DataW H × List MemPlace} (ht : Try.prog.underlying t = some (.struct fs)) (h : DataW.trod enc Try.prog w base sp held fuel t cs = some x) : cs.length = Try.prog.cellsOf t := by
  obtain ⟨xs, m, _, _, hl, _⟩ := DataW.trod_struct ht h
  exact hl
/-- A state's cells. -/
theorem open_state_c {fuel : Nat} {cs : List Value} {x : DataW H × List MemPlace} (h : DataW.trod enc Try.prog w base (fun _ => true) held fuel 34 cs = some x) : ∃ s : SE, cs = s.cells ∧ s.Ok w := by
  have hl := len_of Try.underlying34 h
  have hc : Try.prog.cellsOf 34 = 9 := by kernel_rfl
  rw [hc] at hl
  obtain ⟨m0, y0, a0⟩ := field_at Try.underlying34 h 0 _ rfl 0 8 rfl (by kernel_rfl)
  obtain ⟨m1, y1, a1⟩ := field_at Try.underlying34 h 1 _ rfl 8 1 rfl (by kernel_rfl)
  obtain ⟨ba, bl, bc, rs, eb, hrl, harg, hby⟩ := open_bytes_c a1
  obtain ⟨n0, e0, w0⟩ := flat_cell Try.underlying25 a0 0 _ rfl rfl .u16 Try.underlying22 (by kernel_rfl)
  obtain ⟨n1, e1, w1⟩ := flat_cell Try.underlying25 a0 1 _ rfl rfl .u8 Try.underlying5 (by kernel_rfl)
  obtain ⟨n2, e2, w2⟩ := flat_cell Try.underlying25 a0 2 _ rfl rfl .u8 Try.underlying5 (by kernel_rfl)
  obtain ⟨n3, e3, w3⟩ := flat_cell Try.underlying25 a0 3 _ rfl rfl .u32 Try.underlying23 (by kernel_rfl)
  obtain ⟨n4, e4, w4⟩ := flat_cell Try.underlying25 a0 4 _ rfl rfl .u32 Try.underlying23 (by kernel_rfl)
  obtain ⟨n5, e5, w5⟩ := flat_cell Try.underlying25 a0 5 _ rfl rfl .i32 Try.underlying21 (by kernel_rfl)
  obtain ⟨n6, e6, w6⟩ := flat_cell Try.underlying25 a0 6 _ rfl rfl .u16 Try.underlying22 (by kernel_rfl)
  obtain ⟨n7, e7, w7⟩ := flat_cell Try.underlying25 a0 7 _ rfl rfl .u16 Try.underlying22 (by kernel_rfl)
  match cs, hl with
  | [c0, c1, c2, c3, c4, c5, c6, c7, c8], _ =>
    simp only [List.drop, List.take, List.cons.injEq, and_true] at e0 e1 e2 e3 e4 e5 e6 e7 eb
    subst e0 e1 e2 e3 e4 e5 e6 e7 eb
    have b0 := bounds_u16 w0
    have b1 := bounds_u8 w1
    have b2 := bounds_u8 w2
    have b3 := bounds_u32 w3
    have b4 := bounds_u32 w4
    have b5 := bounds_i32 w5
    have b6 := bounds_u16 w6
    have b7 := bounds_u16 w7
    refine ⟨⟨⟨n0, n1, n2, n3, n4, n5, n6, n7⟩, .slice ba bl bc, rs⟩, rfl, ⟨⟨?_, ?_, ?_, ?_, ?_, ?_, ?_, ?_⟩, harg, hby⟩⟩ <;> (dsimp only; omega)
theorem open_state {r : Reach} {b0 : Nat} {v : Value} {d : DataW H} {ps : List MemPlace} (hval : Value.okWide Try.prog w r b0 34 v) (hd : DataW.Trod enc Try.prog w base (fun _ => true) held 34 v d ps) :
    ∃ (h : HV) (u : Value) (rs : List Int), v = h.sv u ∧ h.All ∧ ArgAt w u rs ∧ ∀ z ∈ rs, 0 ≤ z ∧ z < 256 := by
  obtain ⟨cs, rfl, _⟩ := okWide_struct Try.underlying34 hval
  obtain ⟨fuel, hf⟩ := hd
  obtain ⟨s, e, ok⟩ := open_state_c hf
  simp only [Value.cells] at e
  obtain ⟨cs⟩ := cs
  simp only at e
  subst e
  exact ⟨s.h, s.v, s.rs, rfl, ok.all, ok.arg, ok.byte⟩
end
end Go.Proofs.Ytfdpmlogieaiaaa
