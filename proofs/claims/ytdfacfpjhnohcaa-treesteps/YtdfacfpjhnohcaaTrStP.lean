
/- Plain facts and memory for TreeSteps. -/
import Derived.Test.YtdfacfpjhnohcaaTrFind
namespace Go.Proofs.Ytdfacfpjhnohcaa
open Go.RowKit
set_option linter.unusedVariables false
set_option maxRecDepth 100000

/-- An edge to another node, at a cost from 1 to 2^16. -/
def SfE (N i : Nat) (e : TE) : Prop := 0 ≤ e.dst ∧ e.dst < (N : Int) ∧ e.dst ≠ (i : Int) ∧ 1 ≤ e.cost ∧ e.cost ≤ 65536
/-- A router with an ID of its own. -/
def SfN (ns : List NM) (i : Nat) (x : NM) : Prop := x.t.net = false ∧ x.t.id ≠ 0 ∧ fdI ns false x.t.id = (i : Int) ∧ ∀ e ∈ x.t.edges, SfE ns.length i e
def SfF (ns : List NM) (i : Nat) : Prop := ∀ j y, j < i → ns[j]? = some y → SfN ns j y
def SfK (N i : Nat) (es : List TE) (k : Nat) : Prop := ∀ j e, j < k → es[j]? = some e → SfE N i e
theorem SfF.step {ns : List NM} {i : Nat} (h : SfF ns i) {x : NM} (hx : ns[i]? = some x) (hf : SfN ns i x) : SfF ns (i + 1) := by
  intro j y hj hjy
  rcases Nat.lt_or_ge j i with h1 | h1
  · exact h j y h1 hjy
  · have : j = i := by omega
    subst this
    rw [hx] at hjy
    injection hjy with hjy
    rw [← hjy]; exact hf
theorem SfK.step {N i : Nat} {es : List TE} {k : Nat} (h : SfK N i es k) {e : TE} (he : es[k]? = some e) (hf : SfE N i e) : SfK N i es (k + 1) := by
  intro j e' hj hje
  rcases Nat.lt_or_ge j k with h1 | h1
  · exact h j e' h1 hje
  · have : j = k := by omega
    subst this
    rw [he] at hje
    injection hje with hje
    rw [← hje]; exact hf
theorem SfK.all {N i : Nat} {es : List TE} {k : Nat} (h : SfK N i es k) (hk : es.length ≤ k) : ∀ e ∈ es, SfE N i e := by
  intro x hx
  obtain ⟨j, hj, e⟩ := List.mem_iff_getElem.1 hx
  exact h j x (by omega) (by rw [List.getElem?_eq_getElem hj, e])
theorem ok_steps {ns : List NM} (ok : ∀ y ∈ ns, NOk y) (hf : SfF ns ns.length) (hs : esum ns ≤ 200) : GOk (ns.map (·.t)) 65536 200 := by
  have hall : ∀ y ∈ ns, ∃ j, SfN ns j y := fun y hy => by
    obtain ⟨j, hj, e⟩ := List.mem_iff_getElem.1 hy
    exact ⟨j, hf j y hj (by rw [List.getElem?_eq_getElem hj, e])⟩
  refine ⟨fun t ht => ?_, fun t ht => ?_, fun t ht e he => ?_, fun t ht => ?_, by omega⟩
  all_goals obtain ⟨y, hy, rfl⟩ := List.mem_map.1 ht
  · exact (ok y hy).id
  · obtain ⟨j, h⟩ := hall y hy
    exact fun _ => h.2.1
  · have h1 := (ok y hy).ed e he
    obtain ⟨j, h⟩ := hall y hy
    have h2 := h.2.2.2 e he
    exact ⟨h1.2.1.1, h2.2.2.2.2, h1.2.1.2, h1.2.2.1, h1.2.2.2⟩
  · exact Nat.le_trans (esum_mem hy) hs
/-- Of a hop of a shortest way: the edge, and what is left. -/
theorem step_of {ns : List NM} {r x i : Nat} {s : Sp} {R : Nat → RV} {Z : Nat → Sp} (G : GOk (ns.map (·.t)) 65536 200) (hf : SfF ns ns.length) (hn : ns.length ≤ 40) (hr : r < ns.length) (I : Inv (ns.map (·.t)) 65536 r x i s [] R Z) (hd : (gn (ns.map (·.t)) x).edges.length ≤ i)
    {y : NM} (hy : ns[r]? = some y) {v : Nat} {h : HK} (hh : h ∈ (R v).hops) :
    ∃ (j0 : Nat) (e : TE) (t : Nat), y.t.edges[j0]? = some e ∧ e.dst = (t : Int) ∧ t < ns.length ∧ fdI ns false h.via = (t : Int) ∧ h.out = e.data ∧ h.vr = e.vr ∧
      ∀ (x' i' : Nat) (s' : Sp) (R' : Nat → RV) (Z' : Nat → Sp), Inv (ns.map (·.t)) 65536 t x' i' s' [] R' Z' → (gn (ns.map (·.t)) x').edges.length ≤ i' → (R' v).is = true ∧ e.cost + (R' v).cost = (R v).cost ∧ 0 ≤ (R' v).cost ∧ (R' v).cost ≤ 65536 * 40 := by
  have hlen : (ns.map (·.t)).length = ns.length := by simp
  have hM : (65536 : Int) * ((ns.map (·.t)).length : Int) ≤ 4294967295 := by rw [hlen]; omega
  obtain ⟨hv, hvr, hvi⟩ := I.hs v (fun e => by rw [e] at hh; cases hh)
  obtain ⟨⟨e, he, t, h1, h2, h3, ⟨c', h4, h5⟩, h6, h7⟩, -, -⟩ := (I.hc v h hh).1
  rw [gn_of hy] at he
  rw [hlen] at h2
  obtain ⟨z, hz⟩ : ∃ z, ns[t]? = some z := ⟨_, List.getElem?_eq_getElem h2⟩
  rw [gn_of hz] at h7
  have hS := hf t z h2 hz
  have hk := h7 hS.1
  obtain ⟨j0, hj0, hje⟩ := List.mem_iff_getElem.1 he
  refine ⟨j0, e, t, by rw [List.getElem?_eq_getElem hj0, hje], h1, h2, ?_, h6, ?_, fun x' i' s' R' Z' I' hd' => ?_⟩
  · rw [hk]; exact hS.2.2.1
  · rw [hk]
  · obtain ⟨a1, a2, a3⟩ := I'.opt G hd' hM h4
    have W0 : Wk (ns.map (·.t)) r t (0 + e.cost) := Wk.snoc (Wk.nil r (by rw [hlen]; exact hr)) (by rw [gn_of hy]; exact he) h1 (by rw [hlen]; exact h2)
    obtain ⟨-, b2, -⟩ := I.opt G hd hM (W0.trans (I'.wk v hv a1))
    have hb := I'.bs v hv a3
    have hc := cnt_le (ns.map (·.t)) t R'
    rw [hlen] at hc
    have hp := (I'.rc v).1
    exact ⟨a1, by omega, hp, by omega⟩

/-- What was found, with its hops, in memory. -/
structure LsH (N : Nat) (w : World) (rb : Nat) (R : Nat → RV) : Prop where
  c : ∀ i, i < N → w.cell? ⟨rb, i * 3, none⟩ = some (.bool (R i).is) ∧ w.cell? ⟨rb, i * 3 + 1, none⟩ = some (.int .u32 (R i).cost) ∧ ∃ a c, w.cell? ⟨rb, i * 3 + 2, none⟩ = some (.slice a (R i).hops.length c) ∧ ((R i).hops = [] ∨ ∃ g, a = some ⟨g, 0, none⟩ ∧ ∀ k h, (R i).hops[k]? = some h → ∀ d u, h.cs[d]? = some u → w.cell? ⟨g, k * 3 + d, none⟩ = some u)
theorem LsH.keep {N : Nat} {w w' : World} {rb : Nat} {R : Nat → RV} (h : LsH N w rb R) (t : Touch (fun _ => False) w w') : LsH N w' rb R := by
  refine ⟨fun i hi => ?_⟩
  obtain ⟨h1, h2, a, c, h3, h4⟩ := h.c i hi
  refine ⟨t.cellN h1, t.cellN h2, a, c, t.cellN h3, ?_⟩
  rcases h4 with h4 | ⟨g, h4, h5⟩
  · exact Or.inl h4
  · exact Or.inr ⟨g, h4, fun k h hk d u hd => t.cellN (h5 k h hk d u hd)⟩
theorem LsH.of {B N : Nat} {w : World} {rb : Nat} {R : Nat → RV} {H : Nat → Value} (rr : RR B w (.slice (some ⟨rb, 0, none⟩) N N) (tab N (fun j => (R j, H j)))) (hh : ∀ j, j < N → RH B w (H j) (R j).hops) : LsH N w rb R := by
  refine ⟨fun i hi => ⟨RG.cell (d := 0) rcs_len rr (tab_get _ hi) rfl, RG.cell (d := 1) rcs_len rr (tab_get _ hi) rfl, ?_⟩⟩
  have hc2 : w.cell? ⟨rb, i * 3 + 2, none⟩ = some (H i) := RG.cell (d := 2) rcs_len rr (tab_get _ hi) rfl
  have hi' := hh i hi
  rcases Nat.eq_zero_or_pos (R i).hops.length with h0 | h0
  · obtain ⟨a, c, e⟩ := RG.shape hi'
    exact ⟨a, c, by rw [← e]; exact hc2, Or.inl (List.length_eq_zero_iff.1 h0)⟩
  · obtain ⟨g, c, e, -, -, -⟩ := RG.form hi' h0
    rw [e] at hi' hc2
    exact ⟨_, c, hc2, Or.inr ⟨g, rfl, fun k h hk d u hd => RG.cell HK.len hi' hk hd⟩⟩
end Go.Proofs.Ytdfacfpjhnohcaa
