/- What stays between two calls of OctetReads. -/
import Derived.Test.YtcpagamkpmmgpaaDoorPartHeavy
import Derived.Test.YtcpagamkpmmgpaaDoorHeavy
import Derived.Test.YtcpagamkpmmgpaaDoorWide
namespace Go.Proofs.YtcpagamkpmmgpaaDoor
open Go.RowKit
set_option linter.unusedVariables false
set_option maxRecDepth 100000

theorem BagB.touch {F : Nat → Prop} {w w' : World} {b : Nat} {gv : Value} {vs : List Value} (h : BagB w b gv vs) (t : Touch F w w') (hb : ¬ F b) (hg : ∀ k, gv.ownBlock = some k → ¬ F k) (hv : ∀ (m : Nat) (v : Value) (k : Nat), vs[m]? = some v → v.ownBlock = some k → ¬ F k) : BagB w' b gv vs :=
  ⟨(t.cell (p := ⟨b, 0, none⟩) (lt_of_cell h.cell) hb).trans h.cell, own_touch h.own t hg, fun m v hm => by obtain ⟨xs, h1, h2⟩ := h.rows m v hm; exact ⟨xs, h1, own_touch h2 t (fun k hk => hv m v k hm hk)⟩, h.apart, h.nb, h.ng, h.nbg, h.few, h.small⟩

/-- The blocks of the reader and of the document's reader lie below the bag's. -/
structure Base (w : World) (bb b : Nat) (rv : Value) (d : Nat) (dv : Value) : Prop where
  b1 : b < bb
  d1 : d < bb
  r1 : ∀ k, rv.ownBlock = some k → k < bb
  v1 : ∀ k, dv.ownBlock = some k → k < bb
  b0 : w.heap.size ≤ b
  d0 : w.heap.size ≤ d

structure In5 (w wr : World) (bb b : Nat) (rv : Value) (d : Nat) (dv : Value) (rs : List Int) (k p : Nat) (err : Int) : Prop where
  two : Two wr b rv d dv rs p err
  ex : ∃ gv vs, BagB wr bb gv vs ∧ wr.frozen? ⟨bb, 0, none⟩ = false ∧ (∀ kb, gv.ownBlock = some kb → bb < kb) ∧ (∀ (m : Nat) (v : Value) (kb : Nat), vs[m]? = some v → v.ownBlock = some kb → bb < kb) ∧ vs.length ≤ k
  none_ : BagN wr bb
  touch : Touch (fun _ => False) w wr

theorem In5.lt {w wr : World} {bb b : Nat} {rv : Value} {d : Nat} {dv : Value} {rs : List Int} {k p : Nat} {err : Int} (h : In5 w wr bb b rv d dv rs k p err) : bb < wr.heap.size := lt_of_cell (h.none_ 1 (by omega) (by omega))

/-- A step that touches what lies below the bag, and new blocks, alone. -/
theorem In5.step {F : Nat → Prop} {w wr w' : World} {bb b : Nat} {rv : Value} {d : Nat} {dv : Value} {rs : List Int} {k p p' : Nat} {err err' : Int} (h : In5 w wr bb b rv d dv rs k p err) (t : Touch F wr w') (hF : ∀ i, i < wr.heap.size → F i → i < bb ∧ w.heap.size ≤ i) (h2 : Two w' b rv d dv rs p' err') : In5 w w' bb b rv d dv rs k p' err' := by
  have hl := h.lt
  have hbb : ¬ F bb := fun f => by have := hF bb hl f; omega
  obtain ⟨gv, vs, hb, hf, hg, hv, hk⟩ := h.ex
  refine ⟨h2, ⟨gv, vs, hb.touch t hbb (fun kb e f => ?_) (fun m v kb hm e f => ?_), (t.frozen (p := ⟨bb, 0, none⟩) hl hbb).trans hf, hg, hv, hk⟩, h.none_.touch t hbb, h.touch.trans' t (fun i hi f => ?_)⟩
  · have h1 := hg kb e
    have h2 := hF kb (own_lt hb.own e) f
    omega
  · have h1 := hv m v kb hm e
    obtain ⟨xs, _, ho⟩ := hb.rows m v hm
    have h2 := hF kb (own_lt ho e) f
    omega
  · have hs := h.touch.size
    have h3 := hF i (by omega) f
    omega

theorem In5.mono {w wr : World} {bb b : Nat} {rv : Value} {d : Nat} {dv : Value} {rs : List Int} {k k' p : Nat} {err : Int} (h : In5 w wr bb b rv d dv rs k p err) (hk : k ≤ k') : In5 w wr bb b rv d dv rs k' p err := by
  obtain ⟨gv, vs, h1, h2, h3, h4, h5⟩ := h.ex
  exact ⟨h.two, ⟨gv, vs, h1, h2, h3, h4, by omega⟩, h.none_, h.touch⟩

theorem In5.drew {w wr : World} {bb b : Nat} {rv : Value} {d : Nat} {dv : Value} {rs : List Int} {k p : Nat} {err : Int} (h : In5 w wr bb b rv d dv rs k p err) (n : Nat) : In5 w (wr.drewN n) bb b rv d dv rs k p err :=
  h.step (F := fun _ => False) ((Touch.refl _ wr).drewN n) (fun _ _ f => f.elim) (h.two.touch ((Touch.refl (fun _ => False) wr).drewN n) (fun h => h) (fun h => h) (fun _ _ h => h) (fun _ _ h => h))

theorem In5.own {w wr : World} {bb b : Nat} {rv : Value} {d : Nat} {dv : Value} {rs : List Int} {k p : Nat} {err : Int} (h : In5 w wr bb b rv d dv rs k p err) : ∃ gv vs, BagB wr bb gv vs ∧ wr.frozen? ⟨bb, 0, none⟩ = false ∧ (∀ kb, gv.ownBlock = some kb → bb < kb ∧ kb < wr.heap.size) ∧ (∀ (m : Nat) (v : Value) (kb : Nat), vs[m]? = some v → v.ownBlock = some kb → bb < kb ∧ kb < wr.heap.size) ∧ vs.length ≤ k := by
  obtain ⟨gv, vs, hb, hf, hg, hvs, hk'⟩ := h.ex
  refine ⟨gv, vs, hb, hf, fun kb e => ⟨hg kb e, own_lt hb.own e⟩, fun m v kb hm e => ⟨hvs m v kb hm e, ?_⟩, hk'⟩
  obtain ⟨xs, _, ho⟩ := hb.rows m v hm
  exact own_lt ho e

/-- The call AddBytes within the loop: of a list that is new. -/
theorem In5.add {F : Nat → Prop} {w wr w3 : World} {bb b : Nat} {rv : Value} {d : Nat} {dv : Value} {rs : List Int} {k p p' : Nat} {err err' : Int} (h : In5 w wr bb b rv d dv rs k p err) (hbase : Base w bb b rv d dv) (t3 : Touch F wr w3) (hF : ∀ i, i < wr.heap.size → F i → i < bb ∧ w.heap.size ≤ i) (h2 : Two w3 b rv d dv rs p' err')
    (hk : k < 300) (v : Value) (xs : List Int) (hv : w3.ownsRow 0 5 1 v xs.length (bytesOf xs)) (hlen : xs.length ≤ 1048576) (hnew : ∀ kb, v.ownBlock = some kb → wr.heap.size ≤ kb) :
    Calls Tryd.prog 15 #[.pointer (some ⟨bb, 0, none⟩), v] w3 fun e w' => e = .returned (.tuple #[]) ∧ In5 w w' bb b rv d dv rs (k + 1) p' err' := by
  have hl := h.lt
  obtain ⟨gv, vs, hb0, hf0, hg, hvs, hk'⟩ := h.own
  have hbb : ¬ F bb := fun f => by have := hF bb hl f; omega
  have hb : BagB w3 bb gv vs := hb0.touch t3 hbb (fun kb e f => by have := hg kb e; have := hF kb (by omega) f; omega) (fun m v kb hm e f => by have := hvs m v kb hm e; have := hF kb (by omega) f; omega)
  have hf : w3.frozen? ⟨bb, 0, none⟩ = false := (t3.frozen (p := ⟨bb, 0, none⟩) hl hbb).trans hf0
  have h3 := h.step t3 hF h2
  refine (add_any bb gv vs v xs w3 hb hf hv hlen (fun kb e => ?_) (by omega) (fun kb e => (hg kb e).1)).mono ?_
  · have hn := hnew kb e
    exact ⟨by omega, fun e' => by have := hg kb e'; omega, fun m u hm e' => by have := hvs m u kb hm e'; omega⟩
  · rintro e w' ⟨rfl, gv', hb', hf', hg', hat, t, hcs⟩
    have hlow : ∀ i, i < bb → ¬ (i = bb ∨ gv.ownBlock = some i) := by
      rintro i hi (e | e)
      · omega
      · have := hg i e; omega
    refine ⟨rfl, h2.touch t (hlow _ hbase.b1) (hlow _ hbase.d1) (fun i hi => hlow i (hbase.r1 i hi)) (fun i hi => hlow i (hbase.v1 i hi)), ⟨gv', vs ++ [v], hb', hf', hg', ?_, by simp; omega⟩, fun j h1 h2 => hcs j _ h1 (h3.none_ j h1 h2), ?_⟩
    · intro m u kb hm e
      rcases Nat.lt_or_ge m vs.length with hlt | hge
      · rw [List.getElem?_append_left hlt] at hm; exact (hvs m u kb hm e).1
      · rw [List.getElem?_append_right hge] at hm
        have : m - vs.length < [v].length := (List.getElem?_eq_some_iff.mp hm).1
        simp at this
        rw [show m - vs.length = 0 by omega] at hm
        simp at hm
        subst hm
        have := hnew kb e
        omega
    · exact h3.touch.trans' t (fun i hi f => by rcases f with f | f; (have := hbase.b0; have := hbase.b1; omega); (have := hg i f; have := hbase.b0; have := hbase.b1; omega))
end Go.Proofs.YtcpagamkpmmgpaaDoor
