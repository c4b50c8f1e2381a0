/- A state, a head that came in. -/
import Derived.Test.YtjffcflhbnmjmaaGreatStRow0
import Derived.ProofKit
import Derived.OpenShut
import Derived.ChangeOld
import Derived.Deep.Slices
import Derived.Deep.Matrix
import Derived.SizedLaws
namespace Go.Proofs.YtjffcflhbnmjmaaGreat
open Go.ChangeShapes Go.WideShapes Go.ChangeAt Go.RowKit
set_option linter.unusedVariables false
set_option maxRecDepth 100000

section
variable {H : Type} {enc : TypeId × Value → H} {w : World} {base : Nat} {held : Bool}

/-- One cell of a struct of numbers. -/
theorem flat_cell {sp : Nat → Bool} {fuel : Nat} {t : TypeId} {fs : Array Field} {cs : List Value} {x : DataW H × List MemPlace} (ht : Tryz.prog.underlying t = some (.struct fs)) (h : DataW.trod enc Tryz.prog w base sp held fuel t cs = some x)
    (i : Nat) (f : Field) (hf : fs[i]? = some f) (ho : f.offset = i) (k : IntKind) (hk : Tryz.prog.underlying f.type = some (.int k)) (hc : Tryz.prog.cellsOf f.type = 1) : ∃ n, (cs.drop i).take 1 = [.int k n] ∧ (Lit.int k n).wf = true := by
  obtain ⟨xs, m, _, _, _, hlen, hall⟩ := DataW.trod_struct ht h
  have hi : i < xs.length := by
    have := (Array.getElem?_eq_some_iff.mp hf).1
    omega
  have := hall i f hf
  rw [ho, hc, List.getElem?_eq_getElem hi] at this
  obtain ⟨n, e, _, wf⟩ := DataW.trod_int hk this
  exact ⟨n, e, wf⟩
theorem open_bytes_c {fuel : Nat} {cs : List Value} {x : DataW H × List MemPlace} (h : DataW.trod enc Tryz.prog w base (fun _ => true) held fuel 50 cs = some x) :
    ∃ a len cap rs, cs = [.slice a len cap] ∧ rs.length = len ∧ ArgAt w (.slice a len cap) rs ∧ ∀ z ∈ rs, 0 ≤ z ∧ z < 256 := by
  have hs : ∃ a len cap, cs = [.slice a len cap] := by
    rcases open_ints Tryz.underlying50 Tryz.underlying5 (by kernel_rfl) h with ⟨hcs, _⟩ | ⟨ad, l, c, zs, hcs, _⟩
    · exact ⟨_, _, _, hcs⟩
    · exact ⟨_, _, _, hcs⟩
  obtain ⟨a, len, cap, rfl⟩ := hs
  obtain ⟨rs, h1, h2, h3, _⟩ := open_bytes h
  exact ⟨a, len, cap, rs, rfl, h1, h2, h3⟩
/-- A field of a struct. -/
theorem field_at {sp : Nat → Bool} {fuel : Nat} {t : TypeId} {fs : Array Field} {cs : List Value} {x : DataW H × List MemPlace} (ht : Tryz.prog.underlying t = some (.struct fs)) (h : DataW.trod enc Tryz.prog w base sp held fuel t cs = some x)
    (i : Nat) (f : Field) (hf : fs[i]? = some f) (o n : Nat) (ho : f.offset = o) (hc : Tryz.prog.cellsOf f.type = n) : ∃ m y, DataW.trod enc Tryz.prog w base sp held m f.type ((cs.drop o).take n) = some y := by
  obtain ⟨xs, m, _, _, _, hlen, hall⟩ := DataW.trod_struct ht h
  have hi : i < xs.length := by
    have := (Array.getElem?_eq_some_iff.mp hf).1
    omega
  have := hall i f hf
  rw [ho, hc, List.getElem?_eq_getElem hi] at this
  exact ⟨m, _, this⟩
theorem len_of {sp : Nat → Bool} {fuel : Nat} {t : TypeId} {fs : Array Field} {cs : List Value} {x : DataW H × List MemPlace} (ht : Tryz.prog.underlying t = some (.struct fs)) (h : DataW.trod enc Tryz.prog w base sp held fuel t cs = some x) : cs.length = Tryz.prog.cellsOf t := by
  obtain ⟨xs, m, _, _, hl, _⟩ := DataW.trod_struct ht h
  exact hl
/-- A state's cells. -/
theorem open_state_c {fuel : Nat} {cs : List Value} {x : DataW H × List MemPlace} (h : DataW.trod enc Tryz.prog w base (fun _ => true) held fuel 52 cs = some x) : ∃ s : SE, cs = s.cells ∧ s.Ok w := by
  have hl := len_of Tryz.underlying52 h
  have hc : Tryz.prog.cellsOf 52 = 9 := by kernel_rfl
  rw [hc] at hl
  obtain ⟨m0, y0, a0⟩ := field_at Tryz.underlying52 h 0 _ rfl 0 8 rfl (by kernel_rfl)
  obtain ⟨m1, y1, a1⟩ := field_at Tryz.underlying52 h 1 _ rfl 8 1 rfl (by kernel_rfl)
  obtain ⟨ba, bl, bc, rs, eb, hrl, harg, hby⟩ := open_bytes_c a1
  obtain ⟨n0, e0, w0⟩ := flat_cell Tryz.underlying49 a0 0 _ rfl rfl .u16 Tryz.underlying47 (by kernel_rfl)
  obtain ⟨n1, e1, w1⟩ := flat_cell Tryz.underlying49 a0 1 _ rfl rfl .u8 Tryz.underlying5 (by kernel_rfl)
  obtain ⟨n2, e2, w2⟩ := flat_cell Tryz.underlying49 a0 2 _ rfl rfl .u8 Tryz.underlying5 (by kernel_rfl)
  obtain ⟨n3, e3, w3⟩ := flat_cell Tryz.underlying49 a0 3 _ rfl rfl .u32 Tryz.underlying23 (by kernel_rfl)
  obtain ⟨n4, e4, w4⟩ := flat_cell Tryz.underlying49 a0 4 _ rfl rfl .u32 Tryz.underlying23 (by kernel_rfl)
  obtain ⟨n5, e5, w5⟩ := flat_cell Tryz.underlying49 a0 5 _ rfl rfl .i32 Tryz.underlying21 (by kernel_rfl)
  obtain ⟨n6, e6, w6⟩ := flat_cell Tryz.underlying49 a0 6 _ rfl rfl .u16 Tryz.underlying47 (by kernel_rfl)
  obtain ⟨n7, e7, w7⟩ := flat_cell Tryz.underlying49 a0 7 _ rfl rfl .u16 Tryz.underlying47 (by kernel_rfl)
  match cs, hl with
  | [c0, c1, c2, c3, c4, c5, c6, c7, c8], _ =>
    simp only [List.drop, List.take, List.cons.injEq, and_true] at e0 e1 e2 e3 e4 e5 e6 e7 eb
    subst e0 e1 e2 e3 e4 e5 e6 e7 eb
    have b0 := bounds_u16 w0
    have b1 := bounds_u8 w1
    have b2 := bounds_u8 w2
    have b3 := bounds_u32 w3
    have b4 := bounds_u32 w4
    have b5 := bounds_i32 w5
    have b6 := bounds_u16 w6
    have b7 := bounds_u16 w7
    refine ⟨⟨⟨n0, n1, n2, n3, n4, n5, n6, n7⟩, .slice ba bl bc, rs⟩, rfl, ⟨⟨?_, ?_, ?_, ?_, ?_, ?_, ?_, ?_⟩, harg, hby⟩⟩ <;> (dsimp only; omega)
end
end Go.Proofs.YtjffcflhbnmjmaaGreat

namespace Go.Proofs.YtjffcflhbnmjmaaGreat
open Go.ChangeShapes Go.WideShapes Go.ChangeAt Go.RowKit
set_option linter.unusedVariables false
set_option maxRecDepth 100000

section
variable {H : Type} {enc : TypeId × Value → H} {w : World} {base : Nat} {held : Bool}
/-- No row in it is larger than memory is. -/
def LightG (t : TypeId) (d : DataW H) : Prop := ∀ n ∈ d.weights Tryz.prog t, n ≤ 140737488355328
theorem field_lightG {sp : Nat → Bool} {fuel : Nat} {t : TypeId} {fs : Array Field} {cs : List Value} {x : DataW H × List MemPlace} (ht : Tryz.prog.underlying t = some (.struct fs)) (h : DataW.trod enc Tryz.prog w base sp held fuel t cs = some x) (hL : LightG t x.1)
    (i : Nat) (f : Field) (hf : fs[i]? = some f) (o n : Nat) (ho : f.offset = o) (hc : Tryz.prog.cellsOf f.type = n) : ∃ m y, DataW.trod enc Tryz.prog w base sp held m f.type ((cs.drop o).take n) = some y ∧ LightG f.type y.1 := by
  obtain ⟨xs, m, _, hx, _, hlen, hall⟩ := DataW.trod_struct ht h
  have hi : i < xs.length := by
    have := (Array.getElem?_eq_some_iff.mp hf).1
    omega
  have h1 := hall i f hf
  rw [ho, hc, List.getElem?_eq_getElem hi] at h1
  refine ⟨m, _, h1, fun n hn => hL n ?_⟩
  rw [hx]
  simp only [DataW.weights, ht]
  exact DataW.weights_mem_each (j := i) (t := f.type) (d := xs[i].1) (by simp [hf]) (by simp [hi]) n hn
theorem slice_lightG {t e : TypeId} {fuel : Nat} {cs : List Value} {x : DataW H × List MemPlace} (ht : Tryz.prog.underlying t = some (.slice e)) (he : 0 < Tryz.prog.bytesOf e) (h : DataW.trod enc Tryz.prog w base (fun _ => true) held fuel t cs = some x) (hL : LightG t x.1) :
    ∀ a len cap, cs = [.slice a len cap] → len ≤ 140737488355328 := by
  intro a len cap hcs
  rcases Deep.open_slice ht h with ⟨h0, _⟩ | ⟨ad, l, c, m, n, D, Pl, h0, _, hl, hm, hmm, hx, hel⟩
  · rw [hcs] at h0
    simp at h0
    omega
  · rw [hcs] at h0
    simp at h0
    obtain ⟨-, rfl, -⟩ := h0
    have := hL ((len + (m - len)) * Tryz.prog.bytesOf e) (by rw [hx]; simp [DataW.weights, ht])
    have h2 : len * 1 ≤ (len + (m - len)) * Tryz.prog.bytesOf e := Nat.mul_le_mul (by omega) he
    omega
theorem elem_lightG {t e : TypeId} {l k : Nat} {D : Nat → DataW H} {x : DataW H × List MemPlace} {q : List (DataW H)} {p : List MemPlace} (ht : Tryz.prog.underlying t = some (.slice e)) (hx : x = (.slice ((List.range l).map D) q, p)) (hL : LightG t x.1) (i : Nat) (hi : i < l) : LightG e (D i) := by
  intro n hn
  refine hL n ?_
  rw [hx]
  simp only [DataW.weights, ht, List.mem_cons, List.mem_append]
  refine Or.inr (Or.inl ?_)
  have G : ∀ (ds : List (DataW H)) (d : DataW H), d ∈ ds → n ∈ d.weights Tryz.prog e → n ∈ DataW.weightsAll Tryz.prog e ds := by
    intro ds
    induction ds with
    | nil => intro d hd; cases hd
    | cons a r ih =>
      intro d hd hn
      simp only [DataW.weightsAll, List.mem_append]
      rcases List.mem_cons.mp hd with rfl | hd
      · exact Or.inl hn
      · exact Or.inr (ih d hd hn)
  exact G _ (D i) (by simp only [List.mem_map, List.mem_range]; exact ⟨i, hi, rfl⟩) hn
theorem open_stateL {fuel : Nat} {cs : List Value} {x : DataW H × List MemPlace} (h : DataW.trod enc Tryz.prog w base (fun _ => true) held fuel 52 cs = some x) (hL : LightG 52 x.1) : ∃ s : SE, cs = s.cells ∧ s.Ok w ∧ s.rs.length ≤ 140737488355328 := by
  obtain ⟨s, e, ok⟩ := open_state_c h
  obtain ⟨m1, y1, a1, l1⟩ := field_lightG Tryz.underlying52 h hL 1 _ rfl 8 1 rfl (by kernel_rfl)
  obtain ⟨a, c, ev, -⟩ := ok.arg.form
  refine ⟨s, e, ok, slice_lightG Tryz.underlying50 (of_decide_eq_true (by kernel_rfl)) a1 l1 a _ c ?_⟩
  rw [e, ← ev]
  rfl
theorem open_statesL {fuel : Nat} {cs : List Value} {x : DataW H × List MemPlace} (h : DataW.trod enc Tryz.prog w base (fun _ => true) held fuel 22 cs = some x) (hL : LightG 22 x.1) :
    ∃ a len cap ls, cs = [.slice a len cap] ∧ List.length ls = len ∧ StatesAt w (.slice a len cap) ls ∧ (∀ y ∈ ls, SE.Ok w y ∧ y.rs.length ≤ 140737488355328) ∧ len ≤ 140737488355328 := by
  have hcl : Tryz.prog.cellsOf 52 = 9 := by kernel_rfl
  have hz := slice_lightG Tryz.underlying22 (of_decide_eq_true (by kernel_rfl)) h hL
  rcases Deep.open_slice Tryz.underlying22 h with ⟨hcs, _⟩ | ⟨ad, l, c, m, n, D, Pl, hcs, _, hl, hm, hmm, hx, hel⟩
  · exact ⟨none, 0, 0, [], hcs, rfl, ⟨⟨rfl, Or.inl ⟨rfl, rfl⟩⟩, by simp⟩, (by simp), by omega⟩
  · simp at hmm
    subst hmm
    have each : ∀ i, i < l → ∃ s : SE, (s.Ok w ∧ s.rs.length ≤ 140737488355328) ∧ ∀ r u, s.cells[r]? = some u → w.cell? (ad.add (i * 9 + r)) = some u := by
      intro i hi
      obtain ⟨cs', h1, h2⟩ := hel i (by omega)
      rw [hcl] at h1
      obtain ⟨_, hlen, hcell⟩ := World.cells?_some h1
      obtain ⟨s, rfl, ok, sl⟩ := open_stateL h2 (elem_lightG (k := 0) Tryz.underlying22 hx hL i hi)
      refine ⟨s, ⟨ok, sl⟩, fun r u hu => ?_⟩
      have hr : r < 9 := (List.getElem?_eq_some_iff.mp hu).1
      have q := hcell r (by omega)
      rw [Deep.add_add] at q
      rw [q]
      exact hu
    haveI : Inhabited SE := ⟨⟨HV.zero, .slice none 0 0, []⟩⟩
    obtain ⟨f, hf⟩ := Deep.choose_lt each
    have hok : ∀ y ∈ (List.range l).map f, SE.Ok w y ∧ y.rs.length ≤ 140737488355328 := by
      intro x hx
      simp only [List.mem_map, List.mem_range] at hx
      obtain ⟨i, hi, rfl⟩ := hx
      exact (hf i hi).1
    refine ⟨some ad, l, _, (List.range l).map f, hcs, by simp, ⟨⟨by simp [length_statesC], Or.inr ⟨ad, _, by rw [List.length_map, List.length_range], by rw [List.length_map, List.length_range]; exact hl, hm, fun j u hj => ?_⟩⟩, fun x hx => (hok x hx).1⟩, hok, hz _ _ _ hcs⟩
    have hjl := (List.getElem?_eq_some_iff.mp hj).1
    rw [length_statesC, List.length_map, List.length_range] at hjl
    have hi : j / 9 < l := by omega
    have e := statesC_at ((List.range l).map f) (j / 9) (j % 9) (f (j / 9)) (by simp [hi]) (Nat.mod_lt _ (by omega))
    have hdm : j / 9 * 9 + j % 9 = j := by omega
    rw [hdm] at e
    rw [e] at hj
    have := (hf (j / 9) hi).2 (j % 9) u hj
    rwa [hdm] at this
/-- A row of states that came in. -/
theorem open_statesG {a : Option Addr} {len cap : Nat} {d : DataW H} {p : List MemPlace} (hd : DataW.Trod enc Tryz.prog w base (fun _ => true) held 22 (.slice a len cap) d p) (hL : LightG 22 d) :
    ∃ ls : List SE, StatesAt w (.slice a len cap) ls ∧ (∀ y ∈ ls, y.rs.length ≤ 140737488355328) ∧ ls.length ≤ 140737488355328 := by
  obtain ⟨fuel, hf⟩ := hd
  have h : DataW.trod enc Tryz.prog w base (fun _ => true) held fuel 22 [.slice a len cap] = some (d, p) := by simpa [Value.cells] using hf
  obtain ⟨a', len', cap', ls, e, h1, h2, h3, h4⟩ := open_statesL h hL
  simp at e
  obtain ⟨rfl, rfl, rfl⟩ := e
  exact ⟨ls, h2, fun y hy => (h3 y hy).2, by omega⟩
end
end Go.Proofs.YtjffcflhbnmjmaaGreat
