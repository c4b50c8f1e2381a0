/- A chain of keys that came in, with its sizes. -/
import Derived.Test.YtjjgbcjgmjggnaaGreatAuRow
import Derived.Test.YtjjgbcjgmjggnaaGreatDigBase
import Derived.SizedLaws
import Derived.ProofKit
import Derived.OpenShut
import Derived.ChangeOld
import Derived.Deep.Slices
import Derived.Deep.Matrix
import Derived.Test.YtjjgbcjgmjggnaaGreatStRow0
namespace Go.Proofs.YtjjgbcjgmjggnaaGreat
open Go.ChangeShapes Go.WideShapes Go.ChangeAt Go.RowKit
set_option linter.unusedVariables false
set_option maxRecDepth 100000

section
variable {H : Type} {enc : TypeId × Value → H} {w : World} {base : Nat} {held : Bool}
theorem k_flat_cell {sp : Nat → Bool} {fuel : Nat} {t : TypeId} {fs : Array Field} {cs : List Value} {x : DataW H × List MemPlace} (ht : Tryz.prog.underlying t = some (.struct fs)) (h : DataW.trod enc Tryz.prog w base sp held fuel t cs = some x)
    (i : Nat) (f : Field) (hf : fs[i]? = some f) (ho : f.offset = i) (k : IntKind) (hk : Tryz.prog.underlying f.type = some (.int k)) (hc : Tryz.prog.cellsOf f.type = 1) : ∃ n, (cs.drop i).take 1 = [.int k n] ∧ (Lit.int k n).wf = true := by
  obtain ⟨xs, m, _, _, _, hlen, hall⟩ := DataW.trod_struct ht h
  have hi : i < xs.length := by
    have := (Array.getElem?_eq_some_iff.mp hf).1
    omega
  have := hall i f hf
  rw [ho, hc, List.getElem?_eq_getElem hi] at this
  obtain ⟨n, e, _, wf⟩ := DataW.trod_int hk this
  exact ⟨n, e, wf⟩
theorem k_open_bytes_c {fuel : Nat} {cs : List Value} {x : DataW H × List MemPlace} (h : DataW.trod enc Tryz.prog w base (fun _ => true) held fuel 43 cs = some x) :
    ∃ a len cap rs, cs = [.slice a len cap] ∧ rs.length = len ∧ ArgAt w (.slice a len cap) rs ∧ ∀ z ∈ rs, 0 ≤ z ∧ z < 256 := by
  have hs : ∃ a len cap, cs = [.slice a len cap] := by
    rcases open_ints Tryz.underlying43 Tryz.underlying5 (by kernel_rfl) h with ⟨hcs, _⟩ | ⟨ad, l, c, zs, hcs, _⟩
    · exact ⟨_, _, _, hcs⟩
    · exact ⟨_, _, _, hcs⟩
  obtain ⟨a, len, cap, rfl⟩ := hs
  obtain ⟨rs, h1, h2, h3, _⟩ := open_bytes h
  exact ⟨a, len, cap, rs, rfl, h1, h2, h3⟩
/-- No row in it is larger than memory is. -/
def k_Light (t : TypeId) (d : DataW H) : Prop := ∀ n ∈ d.weights Tryz.prog t, n ≤ 140737488355328
theorem k_field_light {sp : Nat → Bool} {fuel : Nat} {t : TypeId} {fs : Array Field} {cs : List Value} {x : DataW H × List MemPlace} (ht : Tryz.prog.underlying t = some (.struct fs)) (h : DataW.trod enc Tryz.prog w base sp held fuel t cs = some x) (hL : k_Light t x.1)
    (i : Nat) (f : Field) (hf : fs[i]? = some f) (o n : Nat) (ho : f.offset = o) (hc : Tryz.prog.cellsOf f.type = n) : ∃ m y, DataW.trod enc Tryz.prog w base sp held m f.type ((cs.drop o).take n) = some y ∧ k_Light f.type y.1 := by
  obtain ⟨xs, m, _, hx, _, hlen, hall⟩ := DataW.trod_struct ht h
  have hi : i < xs.length := by
    have := (Array.getElem?_eq_some_iff.mp hf).1
    omega
  have h1 := hall i f hf
  rw [ho, hc, List.getElem?_eq_getElem hi] at h1
  refine ⟨m, _, h1, fun n hn => hL n ?_⟩
  rw [hx]
  simp only [DataW.weights, ht]
  exact DataW.weights_mem_each (j := i) (t := f.type) (d := xs[i].1) (by simp [hf]) (by simp [hi]) n hn
theorem k_slice_light {t e : TypeId} {fuel : Nat} {cs : List Value} {x : DataW H × List MemPlace} (ht : Tryz.prog.underlying t = some (.slice e)) (he : 0 < Tryz.prog.bytesOf e) (h : DataW.trod enc Tryz.prog w base (fun _ => true) held fuel t cs = some x) (hL : k_Light t x.1) :
    ∀ a len cap, cs = [.slice a len cap] → len ≤ 140737488355328 := by
  intro a len cap hcs
  rcases Deep.open_slice ht h with ⟨h0, _⟩ | ⟨ad, l, c, m, n, D, Pl, h0, _, hl, hm, hmm, hx, hel⟩
  · rw [hcs] at h0
    simp at h0
    omega
  · rw [hcs] at h0
    simp at h0
    obtain ⟨-, rfl, -⟩ := h0
    have := hL ((len + (m - len)) * Tryz.prog.bytesOf e) (by rw [hx]; simp [DataW.weights, ht])
    have h2 : len * 1 ≤ (len + (m - len)) * Tryz.prog.bytesOf e := Nat.mul_le_mul (by omega) he
    omega
theorem k_len {sp : Nat → Bool} {fuel : Nat} {t : TypeId} {fs : Array Field} {cs : List Value} {x : DataW H × List MemPlace} (ht : Tryz.prog.underlying t = some (.struct fs)) (h : DataW.trod enc Tryz.prog w base sp held fuel t cs = some x) : cs.length = Tryz.prog.cellsOf t := by
  obtain ⟨xs, m, _, _, hl, _⟩ := DataW.trod_struct ht h
  exact hl
theorem open_ke {fuel : Nat} {cs : List Value} {x : DataW H × List MemPlace} (h : DataW.trod enc Tryz.prog w base (fun _ => true) held fuel 56 cs = some x) (hL : k_Light 56 x.1) : ∃ s : KE, cs = s.cells ∧ s.Ok w ∧ s.p.sec.length ≤ 140737488355328 := by
  have hl := k_len Tryz.underlying56 h
  have hc : Tryz.prog.cellsOf 56 = 7 := by kernel_rfl
  rw [hc] at hl
  obtain ⟨n0, e0, w0⟩ := k_flat_cell Tryz.underlying56 h 0 _ rfl rfl .u8 Tryz.underlying5 (by kernel_rfl)
  obtain ⟨n1, e1, w1⟩ := k_flat_cell Tryz.underlying56 h 1 _ rfl rfl .u16 Tryz.underlying23 (by kernel_rfl)
  obtain ⟨n3, e3, w3⟩ := k_flat_cell Tryz.underlying56 h 3 _ rfl rfl .i64 Tryz.underlying3 (by kernel_rfl)
  obtain ⟨n4, e4, w4⟩ := k_flat_cell Tryz.underlying56 h 4 _ rfl rfl .i64 Tryz.underlying3 (by kernel_rfl)
  obtain ⟨n5, e5, w5⟩ := k_flat_cell Tryz.underlying56 h 5 _ rfl rfl .i64 Tryz.underlying3 (by kernel_rfl)
  obtain ⟨n6, e6, w6⟩ := k_flat_cell Tryz.underlying56 h 6 _ rfl rfl .i64 Tryz.underlying3 (by kernel_rfl)
  obtain ⟨m2, y2, a2, l2⟩ := k_field_light Tryz.underlying56 h hL 2 _ rfl 2 1 rfl (by kernel_rfl)
  have hz := k_slice_light Tryz.underlying43 (of_decide_eq_true (by kernel_rfl)) a2 l2
  obtain ⟨ba, bl, bc, rs, eb, hrl, harg, hby⟩ := k_open_bytes_c a2
  have hz' := hz _ _ _ eb
  match cs, hl with
  | [c0, c1, c2, c3, c4, c5, c6], _ =>
    simp only [List.drop, List.take, List.cons.injEq, and_true] at e0 e1 e3 e4 e5 e6 eb
    subst e0 e1 e3 e4 e5 e6 eb
    have b0 := bounds_u8 w0
    have b1 := bounds_u16 w1
    have b3 := bounds_i64 w3
    have b4 := bounds_i64 w4
    have b5 := bounds_i64 w5
    have b6 := bounds_i64 w6
    subst hrl
    exact ⟨⟨⟨n0, n1, rs, n3, n4, n5, n6⟩, ba, bc⟩, rfl, ⟨⟨by dsimp only; omega, by dsimp only; omega, hby, by dsimp only; omega, by dsimp only; omega, by dsimp only; omega, by dsimp only; omega⟩, harg⟩, hz'⟩
end
end Go.Proofs.YtjjgbcjgmjggnaaGreat

namespace Go.Proofs.YtjjgbcjgmjggnaaGreat
open Go.ChangeShapes Go.WideShapes Go.ChangeAt Go.RowKit
set_option linter.unusedVariables false
set_option maxRecDepth 100000

section
variable {H : Type} {enc : TypeId × Value → H} {w : World} {base : Nat} {held : Bool}
theorem open_akey {r : Reach} {b0 : Nat} {v : Value} {d : DataW H} {ps : List MemPlace} (hval : Value.okWide Tryz.prog w r b0 56 v) (hd : DataW.Trod enc Tryz.prog w base (fun _ => true) held 56 v d ps) (hL : k_Light 56 d) :
    ∃ s : KE, v = s.agg ∧ s.Ok w ∧ s.p.sec.length ≤ 140737488355328 := by
  obtain ⟨cs, rfl, _⟩ := okWide_struct Tryz.underlying56 hval
  obtain ⟨fuel, hf⟩ := hd
  obtain ⟨s, e, ok, sl⟩ := open_ke hf hL
  refine ⟨s, ?_, ok, sl⟩
  simp only [Value.cells] at e
  obtain ⟨cs⟩ := cs
  simp only at e
  rw [e]
  rfl
end
end Go.Proofs.YtjjgbcjgmjggnaaGreat

namespace Go.Proofs.YtjjgbcjgmjggnaaGreat
open Go.ChangeShapes Go.WideShapes Go.ChangeAt Go.RowKit
set_option linter.unusedVariables false
set_option maxRecDepth 100000

section
variable {H : Type} {enc : TypeId × Value → H} {w : World} {base : Nat} {held : Bool}

/-- One cell of a struct of numbers. -/
theorem flat_cell {sp : Nat → Bool} {fuel : Nat} {t : TypeId} {fs : Array Field} {cs : List Value} {x : DataW H × List MemPlace} (ht : Tryz.prog.underlying t = some (.struct fs)) (h : DataW.trod enc Tryz.prog w base sp held fuel t cs = some x)
    (i : Nat) (f : Field) (hf : fs[i]? = some f) (ho : f.offset = i) (k : IntKind) (hk : Tryz.prog.underlying f.type = some (.int k)) (hc : Tryz.prog.cellsOf f.type = 1) : ∃ n, (cs.drop i).take 1 = [.int k n] ∧ (Lit.int k n).wf = true := by
  obtain ⟨xs, m, _, _, _, hlen, hall⟩ := DataW.trod_struct ht h
  have hi : i < xs.length := by
    have := (Array.getElem?_eq_some_iff.mp hf).1
    omega
  have := hall i f hf
  rw [ho, hc, List.getElem?_eq_getElem hi] at this
  obtain ⟨n, e, _, wf⟩ := DataW.trod_int hk this
  exact ⟨n, e, wf⟩
theorem open_bytes_c {fuel : Nat} {cs : List Value} {x : DataW H × List MemPlace} (h : DataW.trod enc Tryz.prog w base (fun _ => true) held fuel 43 cs = some x) :
    ∃ a len cap rs, cs = [.slice a len cap] ∧ rs.length = len ∧ ArgAt w (.slice a len cap) rs ∧ ∀ z ∈ rs, 0 ≤ z ∧ z < 256 := by
  have hs : ∃ a len cap, cs = [.slice a len cap] := by
    rcases open_ints Tryz.underlying43 Tryz.underlying5 (by kernel_rfl) h with ⟨hcs, _⟩ | ⟨ad, l, c, zs, hcs, _⟩
    · exact ⟨_, _, _, hcs⟩
    · exact ⟨_, _, _, hcs⟩
  obtain ⟨a, len, cap, rfl⟩ := hs
  obtain ⟨rs, h1, h2, h3, _⟩ := open_bytes h
  exact ⟨a, len, cap, rs, rfl, h1, h2, h3⟩
/-- A field of a struct. -/
theorem field_at {sp : Nat → Bool} {fuel : Nat} {t : TypeId} {fs : Array Field} {cs : List Value} {x : DataW H × List MemPlace} (ht : Tryz.prog.underlying t = some (.struct fs)) (h : DataW.trod enc Tryz.prog w base sp held fuel t cs = some x)
    (i : Nat) (f : Field) (hf : fs[i]? = some f) (o n : Nat) (ho : f.offset = o) (hc : Tryz.prog.cellsOf f.type = n) : ∃ m y, DataW.trod enc Tryz.prog w base sp held m f.type ((cs.drop o).take n) = some y := by
  obtain ⟨xs, m, _, _, _, hlen, hall⟩ := DataW.trod_struct ht h
  have hi : i < xs.length := by
    have := (Array.getElem?_eq_some_iff.mp hf).1
    omega
  have := hall i f hf
  rw [ho, hc, List.getElem?_eq_getElem hi] at this
  exact ⟨m, _, this⟩
theorem len_of {sp : Nat → Bool} {fuel : Nat} {t : TypeId} {fs : Array Field} {cs : List Value} {x : DataW H × List MemPlace} (ht : Tryz.prog.underlying t = some (.struct fs)) (h : DataW.trod enc Tryz.prog w base sp held fuel t cs = some x) : cs.length = Tryz.prog.cellsOf t := by
  obtain ⟨xs, m, _, _, hl, _⟩ := DataW.trod_struct ht h
  exact hl
/-- A state's cells. -/
theorem open_state_c {fuel : Nat} {cs : List Value} {x : DataW H × List MemPlace} (h : DataW.trod enc Tryz.prog w base (fun _ => true) held fuel 95 cs = some x) : ∃ s : SE, cs = s.cells ∧ s.Ok w := by
  have hl := len_of Tryz.underlying95 h
  have hc : Tryz.prog.cellsOf 95 = 9 := by kernel_rfl
  rw [hc] at hl
  obtain ⟨m0, y0, a0⟩ := field_at Tryz.underlying95 h 0 _ rfl 0 8 rfl (by kernel_rfl)
  obtain ⟨m1, y1, a1⟩ := field_at Tryz.underlying95 h 1 _ rfl 8 1 rfl (by kernel_rfl)
  obtain ⟨ba, bl, bc, rs, eb, hrl, harg, hby⟩ := open_bytes_c a1
  obtain ⟨n0, e0, w0⟩ := flat_cell Tryz.underlying93 a0 0 _ rfl rfl .u16 Tryz.underlying23 (by kernel_rfl)
  obtain ⟨n1, e1, w1⟩ := flat_cell Tryz.underlying93 a0 1 _ rfl rfl .u8 Tryz.underlying5 (by kernel_rfl)
  obtain ⟨n2, e2, w2⟩ := flat_cell Tryz.underlying93 a0 2 _ rfl rfl .u8 Tryz.underlying5 (by kernel_rfl)
  obtain ⟨n3, e3, w3⟩ := flat_cell Tryz.underlying93 a0 3 _ rfl rfl .u32 Tryz.underlying22 (by kernel_rfl)
  obtain ⟨n4, e4, w4⟩ := flat_cell Tryz.underlying93 a0 4 _ rfl rfl .u32 Tryz.underlying22 (by kernel_rfl)
  obtain ⟨n5, e5, w5⟩ := flat_cell Tryz.underlying93 a0 5 _ rfl rfl .i32 Tryz.underlying21 (by kernel_rfl)
  obtain ⟨n6, e6, w6⟩ := flat_cell Tryz.underlying93 a0 6 _ rfl rfl .u16 Tryz.underlying23 (by kernel_rfl)
  obtain ⟨n7, e7, w7⟩ := flat_cell Tryz.underlying93 a0 7 _ rfl rfl .u16 Tryz.underlying23 (by kernel_rfl)
  match cs, hl with
  | [c0, c1, c2, c3, c4, c5, c6, c7, c8], _ =>
    simp only [List.drop, List.take, List.cons.injEq, and_true] at e0 e1 e2 e3 e4 e5 e6 e7 eb
    subst e0 e1 e2 e3 e4 e5 e6 e7 eb
    have b0 := bounds_u16 w0
    have b1 := bounds_u8 w1
    have b2 := bounds_u8 w2
    have b3 := bounds_u32 w3
    have b4 := bounds_u32 w4
    have b5 := bounds_i32 w5
    have b6 := bounds_u16 w6
    have b7 := bounds_u16 w7
    refine ⟨⟨⟨n0, n1, n2, n3, n4, n5, n6, n7⟩, .slice ba bl bc, rs⟩, rfl, ⟨⟨?_, ?_, ?_, ?_, ?_, ?_, ?_, ?_⟩, harg, hby⟩⟩ <;> (dsimp only; omega)
end
end Go.Proofs.YtjjgbcjgmjggnaaGreat
