/- A state, a head that came in. -/
import Derived.Test.YtjgeklipeeooaaaGreatDoorPkUpd
import Derived.ProofKit
import Derived.OpenShut
import Derived.ChangeOld
import Derived.Deep.Slices
import Derived.Deep.Matrix
import Derived.Test.YtjgeklipeeooaaaGreatDoorPkLive
import Derived.SizedLaws
namespace Go.Proofs.YtjgeklipeeooaaaGreatDoor
open Go.ChangeShapes Go.WideShapes Go.ChangeAt Go.RowKit
set_option linter.unusedVariables false
set_option maxRecDepth 100000

section
variable {H : Type} {enc : TypeId × Value → H} {w : World} {base : Nat} {held : Bool}

/-- One cell of a struct of numbers. -/
theorem flat_cell {sp : Nat → Bool} {fuel : Nat} {t : TypeId} {fs : Array Field} {cs : List Value} {x : DataW H × List MemPlace} (ht : Tryz.prog.underlying t = some (.struct fs)) (h : DataW.trod enc Tryz.prog w base sp held fuel t cs = some x)
    (i : Nat) (f : Field) (hf : fs[i]? = some f) (ho : f.offset = i) (k : IntKind) (hk : Tryz.prog.underlying f.type = some (.int k)) (hc : Tryz.prog.cellsOf f.type = 1) : ∃ n, (cs.drop i).take 1 = [.int k n] ∧ (Lit.int k n).wf = true := by
  obtain ⟨xs, m, _, _, _, hlen, hall⟩ := DataW.trod_struct ht h
  have hi : i < xs.length := by
    have := (Array.getElem?_eq_some_iff.mp hf).1
    omega
  have := hall i f hf
  rw [ho, hc, List.getElem?_eq_getElem hi] at this
  obtain ⟨n, e, _, wf⟩ := DataW.trod_int hk this
  exact ⟨n, e, wf⟩
theorem open_bytes_c {fuel : Nat} {cs : List Value} {x : DataW H × List MemPlace} (h : DataW.trod enc Tryz.prog w base (fun _ => true) held fuel 40 cs = some x) :
    ∃ a len cap rs, cs = [.slice a len cap] ∧ rs.length = len ∧ ArgAt w (.slice a len cap) rs ∧ ∀ z ∈ rs, 0 ≤ z ∧ z < 256 := by
  have hs : ∃ a len cap, cs = [.slice a len cap] := by
    rcases open_ints Tryz.underlying40 Tryz.underlying5 (by kernel_rfl) h with ⟨hcs, _⟩ | ⟨ad, l, c, zs, hcs, _⟩
    · exact ⟨_, _, _, hcs⟩
    · exact ⟨_, _, _, hcs⟩
  obtain ⟨a, len, cap, rfl⟩ := hs
  obtain ⟨rs, h1, h2, h3, _⟩ := open_bytes h
  exact ⟨a, len, cap, rs, rfl, h1, h2, h3⟩
/-- A field of a struct. -/
theorem field_at {sp : Nat → Bool} {fuel : Nat} {t : TypeId} {fs : Array Field} {cs : List Value} {x : DataW H × List MemPlace} (ht : Tryz.prog.underlying t = some (.struct fs)) (h : DataW.trod enc Tryz.prog w base sp held fuel t cs = some x)
    (i : Nat) (f : Field) (hf : fs[i]? = some f) (o n : Nat) (ho : f.offset = o) (hc : Tryz.prog.cellsOf f.type = n) : ∃ m y, DataW.trod enc Tryz.prog w base sp held m f.type ((cs.drop o).take n) = some y := by
  obtain ⟨xs, m, _, _, _, hlen, hall⟩ := DataW.trod_struct ht h
  have hi : i < xs.length := by
    have := (Array.getElem?_eq_some_iff.mp hf).1
    omega
  have := hall i f hf
  rw [ho, hc, List.getElem?_eq_getElem hi] at this
  exact ⟨m, _, this⟩
theorem len_of {sp : Nat → Bool} {fuel : Nat} {t : TypeId} {fs : Array Field} {cs : List Value} {x : DataW H × List MemPlace} (ht : Tryz.prog.underlying t = some (.struct fs)) (h : DataW.trod enc Tryz.prog w base sp held fuel t cs = some x) : cs.length = Tryz.prog.cellsOf t := by
  obtain ⟨xs, m, _, _, hl, _⟩ := DataW.trod_struct ht h
  exact hl
/-- A state's cells. -/
theorem open_state_c {fuel : Nat} {cs : List Value} {x : DataW H × List MemPlace} (h : DataW.trod enc Tryz.prog w base (fun _ => true) held fuel 95 cs = some x) : ∃ s : SE, cs = s.cells ∧ s.Ok w := by
  have hl := len_of Tryz.underlying95 h
  have hc : Tryz.prog.cellsOf 95 = 9 := by kernel_rfl
  rw [hc] at hl
  obtain ⟨m0, y0, a0⟩ := field_at Tryz.underlying95 h 0 _ rfl 0 8 rfl (by kernel_rfl)
  obtain ⟨m1, y1, a1⟩ := field_at Tryz.underlying95 h 1 _ rfl 8 1 rfl (by kernel_rfl)
  obtain ⟨ba, bl, bc, rs, eb, hrl, harg, hby⟩ := open_bytes_c a1
  obtain ⟨n0, e0, w0⟩ := flat_cell Tryz.underlying93 a0 0 _ rfl rfl .u16 Tryz.underlying23 (by kernel_rfl)
  obtain ⟨n1, e1, w1⟩ := flat_cell Tryz.underlying93 a0 1 _ rfl rfl .u8 Tryz.underlying5 (by kernel_rfl)
  obtain ⟨n2, e2, w2⟩ := flat_cell Tryz.underlying93 a0 2 _ rfl rfl .u8 Tryz.underlying5 (by kernel_rfl)
  obtain ⟨n3, e3, w3⟩ := flat_cell Tryz.underlying93 a0 3 _ rfl rfl .u32 Tryz.underlying22 (by kernel_rfl)
  obtain ⟨n4, e4, w4⟩ := flat_cell Tryz.underlying93 a0 4 _ rfl rfl .u32 Tryz.underlying22 (by kernel_rfl)
  obtain ⟨n5, e5, w5⟩ := flat_cell Tryz.underlying93 a0 5 _ rfl rfl .i32 Tryz.underlying21 (by kernel_rfl)
  obtain ⟨n6, e6, w6⟩ := flat_cell Tryz.underlying93 a0 6 _ rfl rfl .u16 Tryz.underlying23 (by kernel_rfl)
  obtain ⟨n7, e7, w7⟩ := flat_cell Tryz.underlying93 a0 7 _ rfl rfl .u16 Tryz.underlying23 (by kernel_rfl)
  match cs, hl with
  | [c0, c1, c2, c3, c4, c5, c6, c7, c8], _ =>
    simp only [List.drop, List.take, List.cons.injEq, and_true] at e0 e1 e2 e3 e4 e5 e6 e7 eb
    subst e0 e1 e2 e3 e4 e5 e6 e7 eb
    have b0 := bounds_u16 w0
    have b1 := bounds_u8 w1
    have b2 := bounds_u8 w2
    have b3 := bounds_u32 w3
    have b4 := bounds_u32 w4
    have b5 := bounds_i32 w5
    have b6 := bounds_u16 w6
    have b7 := bounds_u16 w7
    refine ⟨⟨⟨n0, n1, n2, n3, n4, n5, n6, n7⟩, .slice ba bl bc, rs⟩, rfl, ⟨⟨?_, ?_, ?_, ?_, ?_, ?_, ?_, ?_⟩, harg, hby⟩⟩ <;> (dsimp only; omega)
end
end Go.Proofs.YtjgeklipeeooaaaGreatDoor

namespace Go.Proofs.YtjgeklipeeooaaaGreatDoor
open Go.ChangeShapes Go.WideShapes Go.ChangeAt Go.RowKit
set_option linter.unusedVariables false
set_option maxRecDepth 100000

theorem length_keysC (l : List KV) : (keysC l).length = l.length * 3 := by
  induction l with
  | nil => rfl
  | cons x r ih => simp only [keysC, List.flatMap_cons, List.length_append, List.length_cons] at ih ⊢; rw [ih]; simp [KV.cells]; omega
section
variable {H : Type} {enc : TypeId × Value → H} {w : World} {base : Nat} {held : Bool}
/-- No row in it is larger than memory is. -/
def Light (t : TypeId) (d : DataW H) : Prop := ∀ n ∈ d.weights Tryz.prog t, n ≤ 140737488355328
theorem field_light {sp : Nat → Bool} {fuel : Nat} {t : TypeId} {fs : Array Field} {cs : List Value} {x : DataW H × List MemPlace} (ht : Tryz.prog.underlying t = some (.struct fs)) (h : DataW.trod enc Tryz.prog w base sp held fuel t cs = some x) (hL : Light t x.1)
    (i : Nat) (f : Field) (hf : fs[i]? = some f) (o n : Nat) (ho : f.offset = o) (hc : Tryz.prog.cellsOf f.type = n) : ∃ m y, DataW.trod enc Tryz.prog w base sp held m f.type ((cs.drop o).take n) = some y ∧ Light f.type y.1 := by
  obtain ⟨xs, m, _, hx, _, hlen, hall⟩ := DataW.trod_struct ht h
  have hi : i < xs.length := by
    have := (Array.getElem?_eq_some_iff.mp hf).1
    omega
  have h1 := hall i f hf
  rw [ho, hc, List.getElem?_eq_getElem hi] at h1
  refine ⟨m, _, h1, fun n hn => hL n ?_⟩
  rw [hx]
  simp only [DataW.weights, ht]
  exact DataW.weights_mem_each (j := i) (t := f.type) (d := xs[i].1) (by simp [hf]) (by simp [hi]) n hn
theorem slice_light {t e : TypeId} {fuel : Nat} {cs : List Value} {x : DataW H × List MemPlace} (ht : Tryz.prog.underlying t = some (.slice e)) (he : 0 < Tryz.prog.bytesOf e) (h : DataW.trod enc Tryz.prog w base (fun _ => true) held fuel t cs = some x) (hL : Light t x.1) :
    ∀ a len cap, cs = [.slice a len cap] → len ≤ 140737488355328 := by
  intro a len cap hcs
  rcases Deep.open_slice ht h with ⟨h0, _⟩ | ⟨ad, l, c, m, n, D, Pl, h0, _, hl, hm, hmm, hx, hel⟩
  · rw [hcs] at h0
    simp at h0
    omega
  · rw [hcs] at h0
    simp at h0
    obtain ⟨-, rfl, -⟩ := h0
    have := hL ((len + (m - len)) * Tryz.prog.bytesOf e) (by rw [hx]; simp [DataW.weights, ht])
    have h2 : len * 1 ≤ (len + (m - len)) * Tryz.prog.bytesOf e := Nat.mul_le_mul (by omega) he
    omega
theorem elem_light {t e : TypeId} {l k : Nat} {D : Nat → DataW H} {x : DataW H × List MemPlace} {q : List (DataW H)} {p : List MemPlace} (ht : Tryz.prog.underlying t = some (.slice e)) (hx : x = (.slice ((List.range l).map D) q, p)) (hL : Light t x.1) (i : Nat) (hi : i < l) : Light e (D i) := by
  intro n hn
  refine hL n ?_
  rw [hx]
  simp only [DataW.weights, ht, List.mem_cons, List.mem_append]
  refine Or.inr (Or.inl ?_)
  have G : ∀ (ds : List (DataW H)) (d : DataW H), d ∈ ds → n ∈ d.weights Tryz.prog e → n ∈ DataW.weightsAll Tryz.prog e ds := by
    intro ds
    induction ds with
    | nil => intro d hd; cases hd
    | cons a r ih =>
      intro d hd hn
      simp only [DataW.weightsAll, List.mem_append]
      rcases List.mem_cons.mp hd with rfl | hd
      · exact Or.inl hn
      · exact Or.inr (ih d hd hn)
  exact G _ (D i) (by simp only [List.mem_map, List.mem_range]; exact ⟨i, hi, rfl⟩) hn
theorem open_headL {fuel : Nat} {cs : List Value} {x : DataW H × List MemPlace} (a0 : DataW.trod enc Tryz.prog w base (fun _ => true) held fuel 93 cs = some x) : ∃ h : HV, cs = h.cells ∧ h.All := by
  have hl := len_of Tryz.underlying93 a0
  have hc : Tryz.prog.cellsOf 93 = 8 := by kernel_rfl
  rw [hc] at hl
  obtain ⟨n0, en0, wn0⟩ := flat_cell Tryz.underlying93 a0 0 _ rfl rfl .u16 Tryz.underlying23 (by kernel_rfl)
  obtain ⟨n1, en1, wn1⟩ := flat_cell Tryz.underlying93 a0 1 _ rfl rfl .u8 Tryz.underlying5 (by kernel_rfl)
  obtain ⟨n2, en2, wn2⟩ := flat_cell Tryz.underlying93 a0 2 _ rfl rfl .u8 Tryz.underlying5 (by kernel_rfl)
  obtain ⟨n3, en3, wn3⟩ := flat_cell Tryz.underlying93 a0 3 _ rfl rfl .u32 Tryz.underlying22 (by kernel_rfl)
  obtain ⟨n4, en4, wn4⟩ := flat_cell Tryz.underlying93 a0 4 _ rfl rfl .u32 Tryz.underlying22 (by kernel_rfl)
  obtain ⟨n5, en5, wn5⟩ := flat_cell Tryz.underlying93 a0 5 _ rfl rfl .i32 Tryz.underlying21 (by kernel_rfl)
  obtain ⟨n6, en6, wn6⟩ := flat_cell Tryz.underlying93 a0 6 _ rfl rfl .u16 Tryz.underlying23 (by kernel_rfl)
  obtain ⟨n7, en7, wn7⟩ := flat_cell Tryz.underlying93 a0 7 _ rfl rfl .u16 Tryz.underlying23 (by kernel_rfl)
  match cs, hl with
  | [c0, c1, c2, c3, c4, c5, c6, c7], _ =>
    simp only [List.drop, List.take, List.cons.injEq, and_true] at en0 en1 en2 en3 en4 en5 en6 en7
    subst en0 en1 en2 en3 en4 en5 en6 en7
    have bn0 := bounds_u16 wn0
    have bn1 := bounds_u8 wn1
    have bn2 := bounds_u8 wn2
    have bn3 := bounds_u32 wn3
    have bn4 := bounds_u32 wn4
    have bn5 := bounds_i32 wn5
    have bn6 := bounds_u16 wn6
    have bn7 := bounds_u16 wn7
    refine ⟨⟨n0, n1, n2, n3, n4, n5, n6, n7⟩, rfl, ⟨?_, ?_, ?_, ?_, ?_, ?_, ?_, ?_⟩⟩ <;> (dsimp only; omega)
theorem open_keyL {fuel : Nat} {cs : List Value} {x : DataW H × List MemPlace} (a0 : DataW.trod enc Tryz.prog w base (fun _ => true) held fuel 125 cs = some x) : ∃ h : KV, cs = h.cells ∧ h.All := by
  have hl := len_of Tryz.underlying125 a0
  have hc : Tryz.prog.cellsOf 125 = 3 := by kernel_rfl
  rw [hc] at hl
  obtain ⟨n0, en0, wn0⟩ := flat_cell Tryz.underlying125 a0 0 _ rfl rfl .u8 Tryz.underlying5 (by kernel_rfl)
  obtain ⟨n1, en1, wn1⟩ := flat_cell Tryz.underlying125 a0 1 _ rfl rfl .u32 Tryz.underlying22 (by kernel_rfl)
  obtain ⟨n2, en2, wn2⟩ := flat_cell Tryz.underlying125 a0 2 _ rfl rfl .u32 Tryz.underlying22 (by kernel_rfl)
  match cs, hl with
  | [c0, c1, c2], _ =>
    simp only [List.drop, List.take, List.cons.injEq, and_true] at en0 en1 en2
    subst en0 en1 en2
    have bn0 := bounds_u8 wn0
    have bn1 := bounds_u32 wn1
    have bn2 := bounds_u32 wn2
    refine ⟨⟨n0, n1, n2⟩, rfl, ⟨?_, ?_, ?_⟩⟩ <;> (dsimp only; omega)
theorem open_headsL {fuel : Nat} {cs : List Value} {x : DataW H × List MemPlace} (h : DataW.trod enc Tryz.prog w base (fun _ => true) held fuel 27 cs = some x) (hL : Light 27 x.1) :
    ∃ a len cap ls, cs = [.slice a len cap] ∧ List.length ls = len ∧ HeadsAt w (.slice a len cap) ls ∧ (∀ y ∈ ls, HV.All y) ∧ len ≤ 140737488355328 := by
  have hcl : Tryz.prog.cellsOf 93 = 8 := by kernel_rfl
  have hz := slice_light Tryz.underlying27 (of_decide_eq_true (by kernel_rfl)) h hL
  rcases Deep.open_slice Tryz.underlying27 h with ⟨hcs, _⟩ | ⟨ad, l, c, m, n, D, Pl, hcs, _, hl, hm, hmm, hx, hel⟩
  · exact ⟨none, 0, 0, [], hcs, rfl, ⟨rfl, Or.inl ⟨rfl, rfl⟩⟩, (by simp), by omega⟩
  · simp at hmm
    subst hmm
    have each : ∀ i, i < l → ∃ y : HV, y.All ∧ ∀ r u, y.cells[r]? = some u → w.cell? (ad.add (i * 8 + r)) = some u := by
      intro i hi
      obtain ⟨cs', h1, h2⟩ := hel i (by omega)
      rw [hcl] at h1
      obtain ⟨_, hlen, hcell⟩ := World.cells?_some h1
      obtain ⟨s, rfl, ok⟩ := open_headL h2
      refine ⟨s, ok, fun r u hu => ?_⟩
      have hr : r < 8 := (List.getElem?_eq_some_iff.mp hu).1
      have q := hcell r (by omega)
      rw [Deep.add_add] at q
      rw [q]
      exact hu
    haveI : Inhabited HV := ⟨HV.zero⟩
    obtain ⟨f, hf⟩ := Deep.choose_lt each
    refine ⟨some ad, l, _, (List.range l).map f, hcs, by simp, ⟨by simp [length_headsC], Or.inr ⟨ad, _, by rw [List.length_map, List.length_range], by rw [List.length_map, List.length_range]; exact hl, hm, fun j u hj => ?_⟩⟩, fun y hy => ?_, hz _ _ _ hcs⟩
    · have hjl := (List.getElem?_eq_some_iff.mp hj).1
      rw [length_headsC, List.length_map, List.length_range] at hjl
      have hi : j / 8 < l := by omega
      have e := headsC_at ((List.range l).map f) (j / 8) (j % 8) (f (j / 8)) (by simp [hi]) (Nat.mod_lt _ (by omega))
      have hdm : j / 8 * 8 + j % 8 = j := by omega
      rw [hdm] at e
      rw [e] at hj
      have := (hf (j / 8) hi).2 (j % 8) u hj
      rwa [hdm] at this
    · simp only [List.mem_map, List.mem_range] at hy
      obtain ⟨i, hi, rfl⟩ := hy
      exact (hf i hi).1
theorem open_keysL {fuel : Nat} {cs : List Value} {x : DataW H × List MemPlace} (h : DataW.trod enc Tryz.prog w base (fun _ => true) held fuel 30 cs = some x) (hL : Light 30 x.1) :
    ∃ a len cap ls, cs = [.slice a len cap] ∧ List.length ls = len ∧ KeysAt w (.slice a len cap) ls ∧ (∀ y ∈ ls, KV.All y) ∧ len ≤ 140737488355328 := by
  have hcl : Tryz.prog.cellsOf 125 = 3 := by kernel_rfl
  have hz := slice_light Tryz.underlying30 (of_decide_eq_true (by kernel_rfl)) h hL
  rcases Deep.open_slice Tryz.underlying30 h with ⟨hcs, _⟩ | ⟨ad, l, c, m, n, D, Pl, hcs, _, hl, hm, hmm, hx, hel⟩
  · exact ⟨none, 0, 0, [], hcs, rfl, ⟨rfl, Or.inl ⟨rfl, rfl⟩⟩, (by simp), by omega⟩
  · simp at hmm
    subst hmm
    have each : ∀ i, i < l → ∃ y : KV, y.All ∧ ∀ r u, y.cells[r]? = some u → w.cell? (ad.add (i * 3 + r)) = some u := by
      intro i hi
      obtain ⟨cs', h1, h2⟩ := hel i (by omega)
      rw [hcl] at h1
      obtain ⟨_, hlen, hcell⟩ := World.cells?_some h1
      obtain ⟨s, rfl, ok⟩ := open_keyL h2
      refine ⟨s, ok, fun r u hu => ?_⟩
      have hr : r < 3 := (List.getElem?_eq_some_iff.mp hu).1
      have q := hcell r (by omega)
      rw [Deep.add_add] at q
      rw [q]
      exact hu
    haveI : Inhabited KV := ⟨⟨0, 0, 0⟩⟩
    obtain ⟨f, hf⟩ := Deep.choose_lt each
    refine ⟨some ad, l, _, (List.range l).map f, hcs, by simp, ⟨by simp [length_keysC], Or.inr ⟨ad, _, by rw [List.length_map, List.length_range], by rw [List.length_map, List.length_range]; exact hl, hm, fun j u hj => ?_⟩⟩, fun y hy => ?_, hz _ _ _ hcs⟩
    · have hjl := (List.getElem?_eq_some_iff.mp hj).1
      rw [length_keysC, List.length_map, List.length_range] at hjl
      have hi : j / 3 < l := by omega
      have e := keysC_at ((List.range l).map f) (j / 3) (j % 3) (f (j / 3)) (by simp [hi]) (Nat.mod_lt _ (by omega))
      have hdm : j / 3 * 3 + j % 3 = j := by omega
      rw [hdm] at e
      rw [e] at hj
      have := (hf (j / 3) hi).2 (j % 3) u hj
      rwa [hdm] at this
    · simp only [List.mem_map, List.mem_range] at hy
      obtain ⟨i, hi, rfl⟩ := hy
      exact (hf i hi).1
theorem open_wordsL {fuel : Nat} {cs : List Value} {x : DataW H × List MemPlace} (h : DataW.trod enc Tryz.prog w base (fun _ => true) held fuel 24 cs = some x) (hL : Light 24 x.1) :
    ∃ a len cap ls, cs = [.slice a len cap] ∧ List.length ls = len ∧ WordsAt w (.slice a len cap) ls ∧ (∀ z ∈ ls, (0 : Int) ≤ z ∧ z < 4294967296) ∧ len ≤ 140737488355328 := by
  have hz0 := slice_light Tryz.underlying24 (of_decide_eq_true (by kernel_rfl)) h hL
  rcases open_ints Tryz.underlying24 Tryz.underlying22 (by kernel_rfl) h with ⟨hcs, hx⟩ | ⟨ad, l, c, zs, hcs, _, hl, hm, hz, hx, hcell, hwz⟩
  · exact ⟨none, 0, 0, [], hcs, rfl, ⟨rfl, Or.inl ⟨rfl, rfl⟩⟩, (by simp), by omega⟩
  · have hz' : zs.length = c := by simpa using hz
    have hlen : (zs.take l).length = l := by simp; omega
    refine ⟨some ad, l, c, zs.take l, hcs, hlen, ⟨by simp [wordsC], Or.inr ⟨ad, c, by rw [hlen], by rw [hlen]; exact hl, hm, fun j u hj => ?_⟩⟩, fun z hzm => ?_, hz0 _ _ _ hcs⟩
    · have hjl : j < l := by
        have := (List.getElem?_eq_some_iff.mp hj).1
        simp [wordsC] at this
        omega
      have := hcell j (by omega)
      rw [this]
      simp only [wordsC, List.getElem?_map, List.getElem?_take, if_pos hjl] at hj
      rw [List.getElem?_eq_getElem (by omega)] at hj
      rw [← hj]
      simp [List.getD, show j < zs.length by omega]
    · have := bounds_u32 (hwz z (List.mem_of_mem_take hzm))
      omega
theorem open_stateL {fuel : Nat} {cs : List Value} {x : DataW H × List MemPlace} (h : DataW.trod enc Tryz.prog w base (fun _ => true) held fuel 95 cs = some x) (hL : Light 95 x.1) : ∃ s : SE, cs = s.cells ∧ s.Ok w ∧ s.rs.length ≤ 140737488355328 := by
  obtain ⟨s, e, ok⟩ := open_state_c h
  obtain ⟨m1, y1, a1, l1⟩ := field_light Tryz.underlying95 h hL 1 _ rfl 8 1 rfl (by kernel_rfl)
  obtain ⟨a, c, ev, -⟩ := ok.arg.form
  refine ⟨s, e, ok, slice_light Tryz.underlying40 (of_decide_eq_true (by kernel_rfl)) a1 l1 a _ c ?_⟩
  rw [e, ← ev]
  rfl
theorem open_statesL {fuel : Nat} {cs : List Value} {x : DataW H × List MemPlace} (h : DataW.trod enc Tryz.prog w base (fun _ => true) held fuel 31 cs = some x) (hL : Light 31 x.1) :
    ∃ a len cap ls, cs = [.slice a len cap] ∧ List.length ls = len ∧ StatesAt w (.slice a len cap) ls ∧ (∀ y ∈ ls, SE.Ok w y ∧ y.rs.length ≤ 140737488355328) ∧ len ≤ 140737488355328 := by
  have hcl : Tryz.prog.cellsOf 95 = 9 := by kernel_rfl
  have hz := slice_light Tryz.underlying31 (of_decide_eq_true (by kernel_rfl)) h hL
  rcases Deep.open_slice Tryz.underlying31 h with ⟨hcs, _⟩ | ⟨ad, l, c, m, n, D, Pl, hcs, _, hl, hm, hmm, hx, hel⟩
  · exact ⟨none, 0, 0, [], hcs, rfl, ⟨⟨rfl, Or.inl ⟨rfl, rfl⟩⟩, by simp⟩, (by simp), by omega⟩
  · simp at hmm
    subst hmm
    have each : ∀ i, i < l → ∃ s : SE, (s.Ok w ∧ s.rs.length ≤ 140737488355328) ∧ ∀ r u, s.cells[r]? = some u → w.cell? (ad.add (i * 9 + r)) = some u := by
      intro i hi
      obtain ⟨cs', h1, h2⟩ := hel i (by omega)
      rw [hcl] at h1
      obtain ⟨_, hlen, hcell⟩ := World.cells?_some h1
      obtain ⟨s, rfl, ok, sl⟩ := open_stateL h2 (elem_light (k := 0) Tryz.underlying31 hx hL i hi)
      refine ⟨s, ⟨ok, sl⟩, fun r u hu => ?_⟩
      have hr : r < 9 := (List.getElem?_eq_some_iff.mp hu).1
      have q := hcell r (by omega)
      rw [Deep.add_add] at q
      rw [q]
      exact hu
    haveI : Inhabited SE := ⟨⟨HV.zero, .slice none 0 0, []⟩⟩
    obtain ⟨f, hf⟩ := Deep.choose_lt each
    have hok : ∀ y ∈ (List.range l).map f, SE.Ok w y ∧ y.rs.length ≤ 140737488355328 := by
      intro x hx
      simp only [List.mem_map, List.mem_range] at hx
      obtain ⟨i, hi, rfl⟩ := hx
      exact (hf i hi).1
    refine ⟨some ad, l, _, (List.range l).map f, hcs, by simp, ⟨⟨by simp [length_statesC], Or.inr ⟨ad, _, by rw [List.length_map, List.length_range], by rw [List.length_map, List.length_range]; exact hl, hm, fun j u hj => ?_⟩⟩, fun x hx => (hok x hx).1⟩, hok, hz _ _ _ hcs⟩
    have hjl := (List.getElem?_eq_some_iff.mp hj).1
    rw [length_statesC, List.length_map, List.length_range] at hjl
    have hi : j / 9 < l := by omega
    have e := statesC_at ((List.range l).map f) (j / 9) (j % 9) (f (j / 9)) (by simp [hi]) (Nat.mod_lt _ (by omega))
    have hdm : j / 9 * 9 + j % 9 = j := by omega
    rw [hdm] at e
    rw [e] at hj
    have := (hf (j / 9) hi).2 (j % 9) u hj
    rwa [hdm] at this
end
end Go.Proofs.YtjgeklipeeooaaaGreatDoor

namespace Go.Proofs.YtjgeklipeeooaaaGreatDoor
open Go.ChangeShapes Go.WideShapes Go.ChangeAt Go.RowKit
set_option linter.unusedVariables false
set_option maxRecDepth 100000

section
variable {H : Type} {enc : TypeId × Value → H} {w : World} {base : Nat} {held : Bool}
set_option maxHeartbeats 1000000 in
theorem open_packet {r : Reach} {b0 : Nat} {v : Value} {d : DataW H} {ps : List MemPlace} (hval : Value.okWide Tryz.prog w r b0 33 v) (hd : DataW.Trod enc Tryz.prog w base (fun _ => true) held 33 v d ps) (hL : Light 33 d) :
    ∃ (C : PkC) (vn vd vk vs vh : Value), v = C.P.v vn vd vk vs vh ∧ C.Ok ∧ C.Sz ∧ PkAt w C vn vd vk vs vh := by
  obtain ⟨cs, rfl, _⟩ := okWide_struct Tryz.underlying33 hval
  obtain ⟨fuel, h⟩ := hd
  have hl := len_of Tryz.underlying33 h
  have hc : Tryz.prog.cellsOf 33 = 19 := by kernel_rfl
  rw [hc] at hl
  obtain ⟨n0, en0, wn0⟩ := flat_cell Tryz.underlying33 h 0 _ rfl rfl .u8 Tryz.underlying5 (by kernel_rfl)
  obtain ⟨n1, en1, wn1⟩ := flat_cell Tryz.underlying33 h 1 _ rfl rfl .u32 Tryz.underlying22 (by kernel_rfl)
  obtain ⟨n2, en2, wn2⟩ := flat_cell Tryz.underlying33 h 2 _ rfl rfl .u32 Tryz.underlying22 (by kernel_rfl)
  obtain ⟨m3, y3, h3, l3⟩ := field_light Tryz.underlying33 h hL 3 _ rfl 3 8 rfl (by kernel_rfl)
  obtain ⟨m4, y4, h4, l4⟩ := field_light Tryz.underlying33 h hL 4 _ rfl 11 5 rfl (by kernel_rfl)
  obtain ⟨m5, y5, h5, l5⟩ := field_light Tryz.underlying33 h hL 5 _ rfl 16 1 rfl (by kernel_rfl)
  obtain ⟨m6, y6, h6, l6⟩ := field_light Tryz.underlying33 h hL 6 _ rfl 17 1 rfl (by kernel_rfl)
  obtain ⟨m7, y7, h7, l7⟩ := field_light Tryz.underlying33 h hL 7 _ rfl 18 1 rfl (by kernel_rfl)
  obtain ⟨p0, ep0, wp0⟩ := flat_cell Tryz.underlying26 h3 0 _ rfl rfl .u32 Tryz.underlying22 (by kernel_rfl)
  obtain ⟨p1, ep1, wp1⟩ := flat_cell Tryz.underlying26 h3 1 _ rfl rfl .u16 Tryz.underlying23 (by kernel_rfl)
  obtain ⟨p2, ep2, wp2⟩ := flat_cell Tryz.underlying26 h3 2 _ rfl rfl .u8 Tryz.underlying5 (by kernel_rfl)
  obtain ⟨p3, ep3, wp3⟩ := flat_cell Tryz.underlying26 h3 3 _ rfl rfl .u8 Tryz.underlying5 (by kernel_rfl)
  obtain ⟨p4, ep4, wp4⟩ := flat_cell Tryz.underlying26 h3 4 _ rfl rfl .u32 Tryz.underlying22 (by kernel_rfl)
  obtain ⟨p5, ep5, wp5⟩ := flat_cell Tryz.underlying26 h3 5 _ rfl rfl .u32 Tryz.underlying22 (by kernel_rfl)
  obtain ⟨p6, ep6, wp6⟩ := flat_cell Tryz.underlying26 h3 6 _ rfl rfl .u32 Tryz.underlying22 (by kernel_rfl)
  obtain ⟨m8, y8, h8, l8⟩ := field_light Tryz.underlying26 h3 l3 7 _ rfl 7 1 rfl (by kernel_rfl)
  obtain ⟨q0, eq0, wq0⟩ := flat_cell Tryz.underlying29 h4 0 _ rfl rfl .u16 Tryz.underlying23 (by kernel_rfl)
  obtain ⟨q1, eq1, wq1⟩ := flat_cell Tryz.underlying29 h4 1 _ rfl rfl .u8 Tryz.underlying5 (by kernel_rfl)
  obtain ⟨q2, eq2, wq2⟩ := flat_cell Tryz.underlying29 h4 2 _ rfl rfl .u8 Tryz.underlying5 (by kernel_rfl)
  obtain ⟨q3, eq3, wq3⟩ := flat_cell Tryz.underlying29 h4 3 _ rfl rfl .u32 Tryz.underlying22 (by kernel_rfl)
  obtain ⟨m9, y9, h9, l9⟩ := field_light Tryz.underlying29 h4 l4 4 _ rfl 4 1 rfl (by kernel_rfl)
  obtain ⟨aN, lN, cN, nb, eN, hlN, hAN, hON, hzN⟩ := open_wordsL h8 l8
  obtain ⟨aD, lD, cD, dh, eD, hlD, hAD, hOD, hzD⟩ := open_headsL h9 l9
  obtain ⟨aK, lK, cK, ks, eK, hlK, hAK, hOK, hzK⟩ := open_keysL h5 l5
  obtain ⟨aS, lS, cS, ss, eS, hlS, hAS, hOS, hzS⟩ := open_statesL h6 l6
  obtain ⟨aH, lH, cH, hs, eH, hlH, hAH, hOH, hzH⟩ := open_headsL h7 l7
  clear h h3 h4 h5 h6 h7 h8 h9 l3 l4 l5 l6 l7 l8 l9 hL
  simp only [Value.cells] at *
  obtain ⟨cs⟩ := cs
  simp only at *
  match cs, hl with
  | [c0, c1, c2, c3, c4, c5, c6, c7, c8, c9, c10, c11, c12, c13, c14, c15, c16, c17, c18], _ =>
    simp only [List.drop, List.take, List.cons.injEq, and_true] at en0 en1 en2 ep0 ep1 ep2 ep3 ep4 ep5 ep6 eN eq0 eq1 eq2 eq3 eD eK eS eH
    subst en0 en1 en2 ep0 ep1 ep2 ep3 ep4 ep5 ep6 eN eq0 eq1 eq2 eq3 eD eK eS eH
    subst hlN hlD hlK hlS hlH
    have bn0 := bounds_u8 wn0
    have bn1 := bounds_u32 wn1
    have bn2 := bounds_u32 wn2
    have bp0 := bounds_u32 wp0
    have bp1 := bounds_u16 wp1
    have bp2 := bounds_u8 wp2
    have bp3 := bounds_u8 wp3
    have bp4 := bounds_u32 wp4
    have bp5 := bounds_u32 wp5
    have bp6 := bounds_u32 wp6
    have bq0 := bounds_u16 wq0
    have bq1 := bounds_u8 wq1
    have bq2 := bounds_u8 wq2
    have bq3 := bounds_u32 wq3
    refine ⟨⟨⟨n0, n1, n2, p0, p1, p2, p3, p4, p5, p6, q0, q1, q2, q3⟩, nb, dh, ks, ss.map SE.p, hs⟩, .slice aN nb.length cN, .slice aD dh.length cD, .slice aK ks.length cK, .slice aS ss.length cS, .slice aH hs.length cH, rfl, ⟨⟨?_, ?_, ?_, ?_, ?_, ?_, ?_, ?_, ?_, ?_, ?_, ?_, ?_, ?_⟩, hON, hOD, hOK, ?_, ?_, hOH⟩, ⟨hzN, hzD, hzK, ?_, ?_, hzH⟩, ⟨hAN, hAD, hAK, ⟨ss, rfl, hAS⟩, hAH⟩⟩
    case refine_15 =>
      intro s hm
      obtain ⟨y, hy, rfl⟩ := List.mem_map.mp hm
      exact (hOS y hy).1.all
    case refine_16 =>
      intro s hm
      obtain ⟨y, hy, rfl⟩ := List.mem_map.mp hm
      exact (hOS y hy).1.byte
    case refine_17 => simpa using hzS
    case refine_18 =>
      intro s hm
      obtain ⟨y, hy, rfl⟩ := List.mem_map.mp hm
      exact (hOS y hy).2
    all_goals (dsimp only; omega)
theorem open_arr8 {fuel : Nat} {cs : List Value} {x : DataW H × List MemPlace} (h : DataW.trod enc Tryz.prog w base (fun _ => true) held fuel 34 cs = some x) : ∃ d0 d1 d2 d3 d4 d5 d6 d7 : Int, cs = [.int .u8 d0, .int .u8 d1, .int .u8 d2, .int .u8 d3, .int .u8 d4, .int .u8 d5, .int .u8 d6, .int .u8 d7] ∧ (0 ≤ d0 ∧ d0 < 256) ∧ (0 ≤ d1 ∧ d1 < 256) ∧ (0 ≤ d2 ∧ d2 < 256) ∧ (0 ≤ d3 ∧ d3 < 256) ∧ (0 ≤ d4 ∧ d4 < 256) ∧ (0 ≤ d5 ∧ d5 < 256) ∧ (0 ≤ d6 ∧ d6 < 256) ∧ (0 ≤ d7 ∧ d7 < 256) := by
  obtain ⟨xs, m, _, _, hl, hlen, hall⟩ := DataW.trod_array Tryz.underlying34 h
  have hc : Tryz.prog.cellsOf 34 = 8 := by kernel_rfl
  have h1 : Tryz.prog.cellsOf 5 = 1 := by kernel_rfl
  rw [hc] at hl
  have each : ∀ i, i < 8 → ∃ n, (cs.drop i).take 1 = [.int .u8 n] ∧ (Lit.int .u8 n).wf = true := by
    intro i hi
    have := hall i hi
    rw [h1, List.getElem?_eq_getElem (by omega), Nat.mul_one] at this
    obtain ⟨n, e, _, wf⟩ := DataW.trod_int Tryz.underlying5 this
    exact ⟨n, e, wf⟩
  obtain ⟨n0, e0, w0⟩ := each 0 (by omega)
  obtain ⟨n1, e1, w1⟩ := each 1 (by omega)
  obtain ⟨n2, e2, w2⟩ := each 2 (by omega)
  obtain ⟨n3, e3, w3⟩ := each 3 (by omega)
  obtain ⟨n4, e4, w4⟩ := each 4 (by omega)
  obtain ⟨n5, e5, w5⟩ := each 5 (by omega)
  obtain ⟨n6, e6, w6⟩ := each 6 (by omega)
  obtain ⟨n7, e7, w7⟩ := each 7 (by omega)
  match cs, hl with
  | [c0, c1, c2, c3, c4, c5, c6, c7], _ =>
    simp only [List.drop, List.take, List.cons.injEq, and_true] at e0 e1 e2 e3 e4 e5 e6 e7
    subst e0 e1 e2 e3 e4 e5 e6 e7
    have b0 := bounds_u8 w0
    have b1 := bounds_u8 w1
    have b2 := bounds_u8 w2
    have b3 := bounds_u8 w3
    have b4 := bounds_u8 w4
    have b5 := bounds_u8 w5
    have b6 := bounds_u8 w6
    have b7 := bounds_u8 w7
    exact ⟨n0, n1, n2, n3, n4, n5, n6, n7, rfl, by omega⟩
theorem open_auth {r : Reach} {b0 : Nat} {v : Value} {d : DataW H} {ps : List MemPlace} (hval : Value.okWide Tryz.prog w r b0 36 v) (hd : DataW.Trod enc Tryz.prog w base (fun _ => true) held 36 v d ps) : ∃ A : AuV, v = A.v ∧ A.Ok := by
  obtain ⟨cs, rfl, _⟩ := okWide_struct Tryz.underlying36 hval
  obtain ⟨fuel, h⟩ := hd
  have hl := len_of Tryz.underlying36 h
  have hc : Tryz.prog.cellsOf 36 = 9 := by kernel_rfl
  rw [hc] at hl
  obtain ⟨k, ek, wk⟩ := flat_cell Tryz.underlying36 h 0 _ rfl rfl .u16 Tryz.underlying23 (by kernel_rfl)
  obtain ⟨m1, y1, h1⟩ := field_at Tryz.underlying36 h 1 _ rfl 1 8 rfl (by kernel_rfl)
  obtain ⟨d0, d1, d2, d3, d4, d5, d6, d7, e8, hb⟩ := open_arr8 h1
  simp only [Value.cells] at *
  obtain ⟨cs⟩ := cs
  simp only at *
  match cs, hl with
  | [c0, c1, c2, c3, c4, c5, c6, c7, c8], _ =>
    simp only [List.drop, List.take, List.cons.injEq, and_true] at ek e8
    obtain ⟨rfl, rfl, rfl, rfl, rfl, rfl, rfl, rfl⟩ := e8
    subst ek
    have bk := bounds_u16 wk
    refine ⟨⟨k, d0, d1, d2, d3, d4, d5, d6, d7⟩, rfl, ⟨?_, ?_, ?_, ?_, ?_, ?_, ?_, ?_, ?_⟩⟩ <;> (dsimp only; omega)
end
end Go.Proofs.YtjgeklipeeooaaaGreatDoor
