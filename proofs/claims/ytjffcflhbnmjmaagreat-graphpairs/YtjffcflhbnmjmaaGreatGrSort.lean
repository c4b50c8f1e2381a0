/- Package graph: what counts is sorted. -/
import Derived.Test.YtjffcflhbnmjmaaGreatMaskBits
import Derived.Test.YtjffcflhbnmjmaaGreatGrOrd
namespace Go.Proofs.YtjffcflhbnmjmaaGreat
open Go.RowKit Go.Shelf Go.Lib Go.Sort
set_option linter.unusedVariables false
set_option maxRecDepth 100000

def sd0 : SD := ⟨⟨0, 0, 0, 0, 0, 0, 0, 0⟩, BV.zero, .slice none 0 0, .slice none 0 0, .slice none 0 0⟩
def ofI (L : List SD) (i : Nat) : SD := (L[i]?).getD sd0
def encL (L : List SD) (i : Nat) : List Value := (ofI L i).cells
def cfL (L : List SD) (i j : Nat) : Int := keyS (ofI L i) (ofI L j)
/-- One stands ahead of another by its key. -/
def SD.ahead (x y : SD) : Prop := x.h.typ < y.h.typ ∨ x.h.typ = y.h.typ ∧ (x.h.id < y.h.id ∨ x.h.id = y.h.id ∧ x.h.adv < y.h.adv)
theorem keyS_neg (x y : SD) : keyS x y < 0 ↔ x.ahead y := by
  unfold keyS keyI SD.ahead fstI cmpI
  split <;> split <;> (try split) <;> (try split) <;> (try split) <;> (try split) <;> (try split) <;> omega
theorem lt_cfL (L : List SD) (i j : Nat) : ltOf (cfL L) i j = true ↔ (ofI L i).ahead (ofI L j) := by
  unfold ltOf
  rw [decide_eq_true_iff]
  exact keyS_neg _ _
theorem nlt_cfL (L : List SD) (i j : Nat) : ltOf (cfL L) i j = false ↔ ¬ (ofI L i).ahead (ofI L j) := by
  rw [← lt_cfL]
  simp
theorem swo_cfL (L : List SD) : SWO (ltOf (cfL L)) where
  irrefl x := (nlt_cfL L x x).2 (by unfold SD.ahead; omega)
  trans x y z h1 h2 := by rw [lt_cfL] at *; unfold SD.ahead at *; omega
  ntrans x y z h1 h2 := by rw [nlt_cfL] at *; unfold SD.ahead at *; omega
theorem own_holds {w : World} {g cap base : Nat} {L : List SD} (h : w.ownsRow base 69 17 (.slice (some ⟨g, 0, none⟩) L.length cap) L.length (saidC L)) : HoldsK (encL L) 17 w g 0 (List.range L.length).toArray := by
  intro j hj
  rw [size_flatK] at hj
  have hj' : j < L.length * 17 := by simpa using hj
  have hi : j / 17 < L.length := by omega
  have hm : j % 17 < 17 := by omega
  rcases h.2 with ⟨h1, -⟩ | ⟨g', cap', cur, hv, -, hb, -, -, hs, ht⟩
  · cases h1
  · injection hv with hv1 hv2 hv3
    injection hv1 with hv1
    injection hv1 with hv1
    subst hv1
    subst hv3
    rw [get_flatK _ _ _ _ hj, Nat.zero_add]
    have e1 : ((List.range L.length).toArray)[j / 17]! = j / 17 := by
      rw [getElem!_pos _ _ (by simpa using hi)]
      simp
    have e2 : ofI L (j / 17) = L[j / 17] := by unfold ofI; simp [hi]
    refine ⟨?_, frozen_of_row w g j cur 69 hb⟩
    rw [cell_of_row w g j cur 69 _ hb, e1]
    have e3 : cur[j]? = (saidC L)[j]? := by
      rw [← ht, List.getElem?_take, if_pos hj']
      simp
    have e4 : (saidC L)[j]? = (L[j / 17]).cells[j % 17]? := by
      have := saidC_at L (j / 17) (j % 17) L[j / 17] (by simp [hi]) hm
      rwa [show j / 17 * 17 + j % 17 = j from by omega] at this
    have hcl : j % 17 < (L[j / 17]).cells.length := by simp [SD.cells]; omega
    rw [e3, e4]
    show _ = some ((encL L (j / 17))[j % 17]!)
    unfold encL
    rw [e2, List.getElem?_eq_getElem hcl, getElem!_pos (L[j / 17]).cells (j % 17) hcl]
theorem holds_vals {w : World} {g cap : Nat} {L : List SD} {d : Array Nat} (h : HoldsK (encL L) 17 w g 0 d) (h1 : d.size ≤ cap) (h2 : cap ≤ maxLen) : ValsAt w 17 (.slice (some ⟨g, 0, none⟩) d.size cap) d.size (saidC (d.toList.map (ofI L))) := by
  refine ⟨by rw [length_saidC]; simp, Or.inr ⟨_, _, rfl, h1, h2, fun j u hj => ?_⟩⟩
  have hjl := (List.getElem?_eq_some_iff.1 hj).1
  rw [length_saidC, List.length_map, Array.length_toList] at hjl
  have hi : j / 17 < d.size := by omega
  have hm : j % 17 < 17 := by omega
  rw [add_plain]
  have hh := (h j (by rw [size_flatK]; exact hjl)).1
  rw [get_flatK _ _ _ _ hjl] at hh
  rw [hh]
  have e4 := saidC_at (d.toList.map (ofI L)) (j / 17) (j % 17) (ofI L d[j / 17]) (by simp [hi]) hm
  rw [show j / 17 * 17 + j % 17 = j from by omega, hj] at e4
  have hcl : j % 17 < (ofI L d[j / 17]).cells.length := by simp [SD.cells]; omega
  rw [getElem!_pos d _ hi]
  show some ((encL L d[j / 17])[j % 17]!) = _
  unfold encL
  rw [e4, List.getElem?_eq_getElem hcl, getElem!_pos (ofI L d[j / 17]).cells (j % 17) hcl]
theorem put_touch (L : List SD) (w : World) (m blk off : Nat) (d : Array Nat) : Touch (fun k => k = blk) w (putRowK (encL L) 17 (Sort.ahead w m) blk off d) := by
  unfold putRowK putRow mapBlock
  exact ⟨rfl, rfl, rfl, by simp [Sort.ahead], fun k hk hn => by simp [Sort.ahead, Array.getElem?_modify, Ne.symm hn]⟩
theorem grow_touch0 (w : World) (os : Array Obj) : Touch (fun _ => False) w (grow w os) :=
  ⟨rfl, rfl, rfl, by simp [grow], fun k hk _ => by simp [grow, Array.getElem?_append_left hk]⟩
/-- Two of unlike places: ahead by type and ID. -/
theorem ahead_lt {x y : SD} (hn : ¬ y.ahead x) (hp : x.sv.pl ≠ y.sv.pl) (hx : x.sv.Fine) (hy : y.sv.Fine) : x.sv.lt y.sv := by
  unfold SD.ahead at hn
  unfold SV.lt
  show x.h.typ < y.h.typ ∨ x.h.typ = y.h.typ ∧ x.h.id < y.h.id
  have h3 : ¬ (x.h.typ = y.h.typ ∧ x.h.id = y.h.id) := fun e => hp (by
    show (x.h.typ == 2, x.h.id) = (y.h.typ == 2, y.h.id)
    rw [e.1, e.2])
  omega
/-- What counting answers. -/
structure SaidP (w : World) (P : List SV) (u : Value) (w' : World) : Prop where
  out : ∃ L, SaidsAt w' u L ∧ L.map SD.sv = P
  t : Touch (fun _ => False) w w'
set_option maxHeartbeats 1000000 in
theorem sortS_any (w w' : World) (g : Nat) (B : List SE) (L : List SD) (nd : (B.map (fun y => y.h.pl)).Nodup) (hn : B.length ≤ 1000000) (hg : w.heap.size ≤ g) (t : Touch (fun _ => False) w w') (own : w'.ownsRow w.heap.size 69 17 (.slice (some ⟨g, 0, none⟩) L.length B.length) L.length (saidC L)) (hx : ∀ x ∈ L, x.Kn ∧ BOwn (g + 1) w' x.b x.vl x.vr x.vd) (hp : (L.map SD.sv).Perm (B.map SE.sv)) :
    Calls Tryz.prog 82 #[.slice (some ⟨g, 0, none⟩) L.length B.length, .func (.func 83) #[] #[]] w' fun e w'' => e = .returned (.tuple #[]) ∧ ∃ P, (P.Perm (B.map SE.sv) ∧ P.Pairwise SV.lt) ∧ SaidP w P (.slice (some ⟨g, 0, none⟩) L.length B.length) w'' := by
  have eg : ∀ args w, (callFunc 83 args).run Tryz.prog w = .ok (.enter 83 args) w := enters_of Tryz.func83 (by kernel_rfl) rfl
  have hH := own_holds own
  have hgl : g < w'.heap.size := (own.lt g rfl).2
  have hone : ∀ i, ∀ v ∈ encL L i, v.oneCell' = true := by
    intro i v hv
    unfold encL ofI at hv
    cases e : L[i]? with
    | none =>
      rw [e] at hv
      exact oneCell_said sd0 ⟨_, _, _, _, _, _, _, _, _, rfl, rfl, rfl⟩ v hv
    | some x =>
      rw [e] at hv
      obtain ⟨a1, q1, a3, q3, a8, q8, e1, e2, e3⟩ := (hx x (List.mem_of_getElem? e)).2.form
      exact oneCell_said x ⟨_, _, _, _, _, _, _, _, _, e1, e2, e3⟩ v hv
  have hsz : (List.range L.length).toArray.size = L.length := by simp
  have hlB : L.length = B.length := by have := hp.length_eq; simpa using this
  have hcon := AnyQ.slices_SortFunc sortSd 17 Tryz.isAgg69 Tryz.sizeOf69 (encL L) (fun _ => rfl) hone (cfL L) (swo_cfL L) 83 #[] g 0 B.length (List.range L.length).toArray w' eg (fun _ _ _ _ x y => cmpS_any (ofI L x) (ofI L y) _) hH hgl (by rw [hsz]; omega)
  rw [hsz] at hcon
  refine Calls.mono hcon ?_
  rintro e w'' ⟨rfl, d', n, os, hpp, hs, rfl⟩
  obtain ⟨hp1, -, hp3⟩ := hpp
  have e2 : d'.size = L.length := by rw [hp1]; simp
  have p : d'.toList.Perm (List.range L.length) := by
    have h5 : d'.extract 0 L.length = d' := by rw [← e2]; simp
    rw [h5] at hp3
    have h4 : d'.toList.Perm (List.take L.length (List.range L.length)) := by simpa using hp3
    rwa [List.take_of_length_le (by simp)] at h4
  have hmap : (List.range L.length).map (ofI L) = L := by
    apply List.ext_getElem?
    intro i
    rw [List.getElem?_map]
    rcases Nat.lt_or_ge i L.length with h | h
    · simp [h, ofI]
    · rw [List.getElem?_eq_none (by simpa using h), List.getElem?_eq_none h]; rfl
  have q : (d'.toList.map (ofI L)).Perm L := by
    have := p.map (ofI L)
    rwa [hmap] at this
  have T2 : Touch (fun k => k = g) w' (sortWorldK (encL L) 17 w' g 0 n d' os) := (put_touch L w' n g 0 d').trans ((grow_touch0 _ os).mono (fun _ _ h => h.elim))
  refine ⟨rfl, (d'.toList.map (ofI L)).map SD.sv, ⟨(q.map SD.sv).trans hp, ?_⟩, ⟨d'.toList.map (ofI L), ⟨?_, ?_⟩, rfl⟩, ?_⟩
  · have ndL : (L.map (fun x => x.sv.pl)).Nodup := by
      have h1 := hp.map SV.pl
      rw [List.map_map, List.map_map] at h1
      exact h1.symm.nodup nd
    have ndQ : ((d'.toList.map (ofI L)).map (fun x => x.sv.pl)).Nodup := (q.map (fun x => x.sv.pl)).symm.nodup ndL
    rw [List.pairwise_map]
    rw [List.Nodup, List.pairwise_map] at ndQ
    have so : (d'.toList.map (ofI L)).Pairwise (fun x y => ¬ y.ahead x) := by
      rw [List.pairwise_map, List.pairwise_iff_getElem]
      intro i j hi hj hij
      have hj' : j < d'.size := by simpa using hj
      have hi' : i < d'.size := by simpa using hi
      have := (nlt_cfL L _ _).1 (hs i j (Nat.zero_le _) hij (by omega))
      rw [getElem!_pos d' j hj', getElem!_pos d' i hi'] at this
      simpa using this
    exact (so.and ndQ).imp_of_mem (fun {a b} ha hb hab => ahead_lt hab.1 hab.2 (hx a (q.mem_iff.1 ha)).1.fine (hx b (q.mem_iff.1 hb)).1.fine)
  · have h1 := holdsK_putRowK (encL L) 17 (Sort.ahead w' n) g 0 (List.range L.length).toArray d' hH (by rw [e2]; simp)
    have h2 := holdsK_grow (encL L) 17 _ os g 0 d' (by unfold putRowK putRow mapBlock; simpa [Sort.ahead] using hgl) h1
    have h3 := holds_vals (cap := B.length) h2 (by omega) (by unfold maxLen; omega)
    rw [e2] at h3
    have hl3 : (d'.toList.map (ofI L)).length = L.length := by simp [e2]
    show ValsAt _ 17 _ (d'.toList.map (ofI L)).length _
    rw [hl3]
    exact h3
  · intro x hx'
    obtain ⟨k1, k2⟩ := hx x (q.mem_iff.1 hx')
    exact ⟨k1, (k2.touch T2 (fun k hk e => by omega)).arg⟩
  · exact t.trans' T2 (fun i hi e => by omega)
/-- All that count, in order. -/
theorem counting_any (v : Value) (l : List SE) (w : World) (hv : StatesAt w v l) (hl : l.length ≤ 1000000) (hb : ∀ x ∈ l, x.rs.length ≤ 1000000) :
    Calls Tryz.prog 25 #[v] w fun e w' => ∃ u, e = .returned u ∧ ∃ P, IsN l P ∧ SaidP w P u w' := by
  have hA := bests_all l
  have hlen : (bests l).length ≤ 1000000 := Nat.le_trans (bests_len l) hl
  refine counting_by v l w hv hl hb (fun u w' => ∃ P, IsN l P ∧ SaidP w P u w') (fun w1 m t1 hm => ?_)
  refine inOrder_by w1 m (bests l) hm (fun y hy => ⟨(hv.ok y (hA.all y hy).1).keep t1, (hA.all y hy).2⟩) hlen (fun u w' => ∃ P, IsN l P ∧ SaidP w P u w') (fun w2 g L hg t2 own hx hp => ?_)
  refine Calls.mono (sortS_any w1 w2 g (bests l) L hA.nd hlen hg t2 own hx hp) ?_
  rintro e w3 ⟨rfl, P, ⟨h1, h2⟩, h3⟩
  exact ⟨rfl, P, ⟨h1, h2⟩, h3.out, t1.trans h3.t⟩
end Go.Proofs.YtjffcflhbnmjmaaGreat
