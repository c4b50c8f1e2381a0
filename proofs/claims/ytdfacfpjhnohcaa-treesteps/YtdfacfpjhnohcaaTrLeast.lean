
/- The walk of TreeLeast. -/
import Derived.Test.YtdfacfpjhnohcaaTrGiv
namespace Go.Proofs.Ytdfacfpjhnohcaa
open Go.RowKit
set_option linter.unusedVariables false
set_option maxRecDepth 100000

/-- An edge that leads to a node, at a cost below 2^16. -/
def EdF (N : Nat) (e : TE) : Prop := 0 ≤ e.dst ∧ e.dst < (N : Int) ∧ e.cost < 65536
/-- A node whose edges do, and no router of the number 0. -/
def NdF (N : Nat) (t : TN) : Prop := (t.net = false → t.id ≠ 0) ∧ ∀ e ∈ t.edges, EdF N e
/-- The first nodes do. -/
def FsN (ns : List NM) (i : Nat) : Prop := ∀ j y, j < i → ns[j]? = some y → NdF ns.length y.t
/-- The first edges do. -/
def FsE (N : Nat) (es : List TE) (k : Nat) : Prop := ∀ j e, j < k → es[j]? = some e → EdF N e
theorem FsN.all {ns : List NM} (h : FsN ns ns.length) : ∀ x ∈ ns, NdF ns.length x.t := by
  intro x hx
  obtain ⟨j, hj, e⟩ := List.mem_iff_getElem.1 hx
  exact h j x hj (by rw [List.getElem?_eq_getElem hj, e])
theorem FsE.all {N : Nat} {es : List TE} {k : Nat} (h : FsE N es k) (hk : es.length ≤ k) : ∀ e ∈ es, EdF N e := by
  intro x hx
  obtain ⟨j, hj, e⟩ := List.mem_iff_getElem.1 hx
  exact h j x (by omega) (by rw [List.getElem?_eq_getElem hj, e])
theorem FsE.step {N : Nat} {es : List TE} {k : Nat} (h : FsE N es k) {e : TE} (he : es[k]? = some e) (hf : EdF N e) : FsE N es (k + 1) := by
  intro j e' hj hje
  rcases Nat.lt_or_ge j k with h1 | h1
  · exact h j e' h1 hje
  · have : j = k := by omega
    subst this
    rw [he] at hje
    injection hje with hje
    rw [← hje]; exact hf
theorem FsN.step {ns : List NM} {i : Nat} (h : FsN ns i) {x : NM} (hx : ns[i]? = some x) (hf : NdF ns.length x.t) : FsN ns (i + 1) := by
  intro j y hj hjy
  rcases Nat.lt_or_ge j i with h1 | h1
  · exact h j y h1 hjy
  · have : j = i := by omega
    subst this
    rw [hx] at hjy
    injection hjy with hjy
    rw [← hjy]; exact hf

/-- What the law asks of what was found. -/
structure LsP (ns : List NM) (r : Nat) (R : Nat → RV) : Prop where
  p1 : R r = ⟨true, 0, []⟩
  p2 : ∀ u y e (t : Nat), ns[u]? = some y → (R u).is = true → e ∈ y.t.edges → e.dst = (t : Int) → (R t).is = true ∧ (R t).cost ≤ (R u).cost + e.cost ∧ (R u).cost + e.cost ≤ 4294967295
  p3 : ∀ v, v < ns.length → v ≠ r → (R v).is = true → ∃ u y e, ns[u]? = some y ∧ (R u).is = true ∧ e ∈ y.t.edges ∧ e.dst = (v : Int) ∧ (R v).cost = (R u).cost + e.cost
  p4 : ∀ v, v < ns.length → v ≠ r → (R v).is = true → (R v).hops ≠ []
  p5 : ∀ v, 0 ≤ (R v).cost ∧ (R v).cost ≤ 4294967295
theorem gn_of {ns : List NM} {i : Nat} {x : NM} (hx : ns[i]? = some x) : gn (ns.map (·.t)) i = x.t := by unfold gn; rw [List.getD_eq_getElem?_getD, List.getElem?_map, hx]; rfl
theorem ok_of {ns : List NM} (ok : ∀ y ∈ ns, NOk y) (hf : ∀ y ∈ ns, NdF ns.length y.t) (hs : esum ns ≤ 200) : GOk (ns.map (·.t)) 65535 200 := by
  refine ⟨fun t ht => ?_, fun t ht => ?_, fun t ht e he => ?_, fun t ht => ?_, by omega⟩
  all_goals obtain ⟨y, hy, rfl⟩ := List.mem_map.1 ht
  · exact (ok y hy).id
  · exact (hf y hy).1
  · have h1 := (ok y hy).ed e he
    have h2 := (hf y hy).2 e he
    exact ⟨h1.2.1.1, by have := h2.2.2; omega, h1.2.1.2, h1.2.2.1, h1.2.2.2⟩
  · exact Nat.le_trans (esum_mem hy) hs
theorem LsP.of {ns : List NM} {r x i : Nat} {s : Sp} {R : Nat → RV} {Z : Nat → Sp} (G : GOk (ns.map (·.t)) 65535 200) (hf : ∀ y ∈ ns, NdF ns.length y.t) (hn : ns.length ≤ 40) (hr : r < ns.length) (I : Inv (ns.map (·.t)) 65535 r x i s [] R Z) (hd : (gn (ns.map (·.t)) x).edges.length ≤ i) : LsP ns r R := by
  have hlen : (ns.map (·.t)).length = ns.length := by simp
  have hM : (65535 : Int) * ((ns.map (·.t)).length : Int) ≤ 4294967295 := by rw [hlen]; omega
  have hcn : (65535 : Int) * (cnt (ns.map (·.t)) r R : Int) ≤ 65535 * 40 := by
    have := cnt_le (ns.map (·.t)) r R
    rw [hlen] at this
    omega
  refine ⟨I.rr, fun u y e t hu hi he hdt => ?_, fun v hv hr' hi => ?_, fun v hv hr' hi => I.hopsN (by rw [hlen]; exact hv) hi hr', I.rc⟩
  · have hul := (List.getElem?_eq_some_iff.1 hu).1
    have hg := gn_of hu
    have hum : u < (ns.map (·.t)).length := by rw [hlen]; exact hul
    have W := I.wk u hum hi
    obtain ⟨-, -, hst⟩ := I.opt G hd hM W
    have hb := I.bs u hum hst
    have hE := G.ed _ (List.mem_map.2 ⟨y, List.mem_of_getElem? hu, rfl⟩) e he
    have hF := (hf y (List.mem_of_getElem? hu)).2 e he
    have htl : t < ns.length := by have := hF.2.1; omega
    have W2 := W.snoc (e := e) (by rw [hg]; exact he) hdt (by rw [hlen]; exact htl)
    obtain ⟨b1, b2, -⟩ := I.opt G hd hM W2
    exact ⟨b1, b2, by omega⟩
  · obtain ⟨u, h1, h2, e, h3, h4, h5⟩ := I.tg v (by rw [hlen]; exact hv) hr' hi
    rw [hlen] at h1
    obtain ⟨y, hy⟩ : ∃ y, ns[u]? = some y := ⟨_, List.getElem?_eq_getElem h1⟩
    rw [gn_of hy] at h3
    refine ⟨u, y, e, hy, ?_, h3, h4, h5⟩
    rcases h2 with h2 | h2
    · subst h2; rw [I.rr]
    · exact (I.hs u h2).2.2
/-- What was found, in memory. -/
structure LsR (N : Nat) (w : World) (rb : Nat) (R : Nat → RV) : Prop where
  c : ∀ i, i < N → w.cell? ⟨rb, i * 3, none⟩ = some (.bool (R i).is) ∧ w.cell? ⟨rb, i * 3 + 1, none⟩ = some (.int .u32 (R i).cost) ∧ ∃ a c, w.cell? ⟨rb, i * 3 + 2, none⟩ = some (.slice a (R i).hops.length c)
theorem LsR.keep {N : Nat} {w w' : World} {rb : Nat} {R : Nat → RV} {F : Nat → Prop} (h : LsR N w rb R) (t : Touch F w w') (hn : ¬ F rb) : LsR N w' rb R := by
  refine ⟨fun i hi => ?_⟩
  obtain ⟨h1, h2, a, c, h3⟩ := h.c i hi
  have hl := lt_of_cell h1
  exact ⟨(t.cell (p := ⟨rb, i * 3, none⟩) hl hn).trans h1, (t.cell (p := ⟨rb, i * 3 + 1, none⟩) hl hn).trans h2, a, c, (t.cell (p := ⟨rb, i * 3 + 2, none⟩) hl hn).trans h3⟩
theorem LsR.of {B N : Nat} {w : World} {rb : Nat} {R : Nat → RV} {H : Nat → Value} (rr : RR B w (.slice (some ⟨rb, 0, none⟩) N N) (tab N (fun j => (R j, H j)))) (hh : ∀ j, j < N → RH B w (H j) (R j).hops) : LsR N w rb R := by
  refine ⟨fun i hi => ⟨RG.cell (d := 0) rcs_len rr (tab_get _ hi) rfl, RG.cell (d := 1) rcs_len rr (tab_get _ hi) rfl, ?_⟩⟩
  obtain ⟨a, c, e⟩ := RG.shape (hh i hi)
  exact ⟨a, c, by rw [← e]; exact RG.cell (d := 2) rcs_len rr (tab_get _ hi) rfl⟩
theorem GvR.gr {w0 w : World} {ns : List NM} {gv : Value} (h : GvR w0 ns ns.length gv w) : ∃ ms, GrAt w gv ms ∧ ms.map (·.t) = ns.map (·.t) := by
  obtain ⟨ms, h1, h2, h3⟩ := h.out
  rw [List.take_length] at h2
  refine ⟨ms, ⟨?_, fun m hm => ?_⟩, h2⟩
  · rcases Nat.eq_zero_or_pos ms.length with h0 | h0
    · obtain ⟨a, c, e⟩ := RG.shape h1
      exact ⟨a, c, e, Or.inl (List.length_eq_zero_iff.1 h0)⟩
    · obtain ⟨g, c, e, -, -, -⟩ := RG.form h1 h0
      rw [e] at h1
      exact ⟨_, c, e, Or.inr ⟨g, rfl, fun i x hx d u hd => RG.cell NM.len h1 hx hd⟩⟩
  · have he := h3 m hm
    unfold EdO at he
    rcases Nat.eq_zero_or_pos m.t.edges.length with h0 | h0
    · exact Or.inl (List.length_eq_zero_iff.1 h0)
    · obtain ⟨g, c, e, -, -, -⟩ := RG.form he h0
      injection e with e1 _ _
      refine Or.inr ⟨g, e1, fun j ed hj d u hd => ?_⟩
      rw [e1] at he
      exact RG.cell TE.len he hj hd
def bcs (b : Bool) : List Value := [.bool b]
theorem bcs_len (b : Bool) : (bcs b).length = 1 := rfl
/-- The marks, in memory. -/
structure ByR (wB : World) (N bb : Nat) (B : Nat → Bool) (w : World) : Prop where
  row : RG bcs 1 4 bb w (.slice (some ⟨bb, 0, none⟩) N N) (tab N B)
  t : Touch (fun k => k = bb) wB w
theorem ByR.cell {wB w : World} {N bb t : Nat} {B : Nat → Bool} (h : ByR wB N bb B w) (ht : t < N) : w.cell? ⟨bb, t, none⟩ = some (.bool (B t)) := by
  have := RG.cell (i := t) (d := 0) bcs_len h.row (tab_get _ ht) rfl
  rwa [Nat.mul_one, Nat.add_zero] at this
theorem ByR.fz {wB w : World} {N bb : Nat} {B : Nat → Bool} (h : ByR wB N bb B w) (t : Nat) : w.frozen? ⟨bb, t, none⟩ = false := RG.fz h.row t
theorem ByR.keep {wB w w' : World} {N bb : Nat} {B : Nat → Bool} (h : ByR wB N bb B w) (t : Touch (fun _ => False) w w') : ByR wB N bb B w' := ⟨h.row.keepN t, h.t.trans (t.mono (fun _ _ h => h.elim))⟩
theorem ByR.set {wB w : World} {N bb t : Nat} {B : Nat → Bool} (h : ByR wB N bb B w) (ht : t < N) (b : Bool) : ByR wB N bb (upf B t b) (w.setCell ⟨bb, t, none⟩ (.bool b)) := by
  have r := RG.set1 bcs_len h.row (i := t) (d := 0) (x := B t) (y := b) (by omega) (tab_get _ ht) (u := .bool b) rfl
  rw [tab_set, Nat.mul_one, Nat.add_zero] at r
  exact ⟨r, h.t.trans ((Touch.refl (fun k => k = bb) w).setCell (p := ⟨bb, t, none⟩) (Or.inl rfl) _)⟩
/-- The edges of the first nodes have left their marks. -/
def DnN (ns : List NM) (R : Nat → RV) (u : Nat) (B : Nat → Bool) : Prop := ∀ u' y e (t : Nat), u' < u → ns[u']? = some y → (R u').is = true → e ∈ y.t.edges → e.dst = (t : Int) → (R t).cost = (R u').cost + e.cost → B t = true
/-- The first edges of a node have. -/
def DnE (es : List TE) (R : Nat → RV) (c : Int) (k : Nat) (B : Nat → Bool) : Prop := ∀ j e (t : Nat), j < k → es[j]? = some e → e.dst = (t : Int) → (R t).cost = c + e.cost → B t = true
theorem DnN.up {ns : List NM} {R : Nat → RV} {u t : Nat} {B : Nat → Bool} (h : DnN ns R u B) {b : Bool} (hb : B t = true → b = true) : DnN ns R u (upf B t b) := by
  intro u' y e t' h1 h2 h3 h4 h5 h6
  have := h u' y e t' h1 h2 h3 h4 h5 h6
  by_cases e' : t' = t
  · subst e'; rw [upf_same]; exact hb this
  · rw [upf_other _ _ e']; exact this
theorem DnE.up {es : List TE} {R : Nat → RV} {c : Int} {k t : Nat} {B : Nat → Bool} (h : DnE es R c k B) {b : Bool} (hb : B t = true → b = true) {e : TE} (he : es[k]? = some e) (ht : e.dst = (t : Int)) (hc : (R t).cost = c + e.cost → b = true) : DnE es R c (k + 1) (upf B t b) := by
  intro j e' t' h1 h2 h3 h4
  by_cases e1 : t' = t
  · subst e1
    rw [upf_same]
    rcases Nat.lt_or_ge j k with hj | hj
    · exact hb (h j e' t' hj h2 h3 h4)
    · have : j = k := by omega
      subst this
      rw [he] at h2
      injection h2 with h2
      subst h2
      exact hc h4
  · rw [upf_other _ _ e1]
    rcases Nat.lt_or_ge j k with hj | hj
    · exact h j e' t' hj h2 h3 h4
    · have : j = k := by omega
      subst this
      rw [he] at h2
      injection h2 with h2
      subst h2
      rw [ht] at h3
      exact (e1 (by omega)).elim
theorem DnN.step {ns : List NM} {R : Nat → RV} {u : Nat} {B : Nat → Bool} (h : DnN ns R u B) {y : NM} (hy : ns[u]? = some y) (hE : (R u).is = true → DnE y.t.edges R (R u).cost y.t.edges.length B) : DnN ns R (u + 1) B := by
  intro u' y' e t h1 h2 h3 h4 h5 h6
  rcases Nat.lt_or_ge u' u with hu | hu
  · exact h u' y' e t hu h2 h3 h4 h5 h6
  · have : u' = u := by omega
    subst this
    rw [hy] at h2
    injection h2 with h2
    subst h2
    obtain ⟨j, hj, hje⟩ := List.mem_iff_getElem.1 h4
    exact hE h3 j e t hj (by rw [List.getElem?_eq_getElem hj, hje]) h5 h6
theorem infoBool : (Try.prog.info? 4).map (fun i => (i.zero, i.size, i.bytes)) = some (some (.bool false), 1, 1) := by kernel_rfl

set_option maxHeartbeats 8000000 in
theorem least17 (v : Value) (ns : List NM) (x : Int) (w : World) (A : ArAt w v ns) (ok : ∀ y ∈ ns, NOk y) :
    Calls Try.prog 3 #[v, .int .i64 x] w fun e w' => e = .returned (.bool true) ∧ Touch (fun _ => False) w w' := by
  have HH : Hid _ := fun b hb => heavy17 w v ns A ok b hb
  have HA : Hid _ := A
  have HOK : Hid _ := ok
  obtain ⟨⟨a, c, rfl, hl, hsh⟩, hed⟩ := A
  have HSH : Hid _ := hsh
  have HED : Hid _ := hed
  clear hsh hed ok
  by_cases hb : 40 < ns.length ∨ 200 < esum ns
  · have HB : Hid _ := HH.out true (decide_eq_true hb)
    clear hb HH
    go_enter Try.func3, Try.ntmps3
    go_wp2_with (first | (go_at_call 6; refine Calls.mono HB.out ?_; rintro e wx ⟨rfl, rfl⟩) | (go_at_call 7; refine Calls.mono (works17 _) ?_; rintro e wx ⟨rfl, tw⟩))
    go_ret
    exact ⟨rfl, tw⟩
  · have HB : Hid _ := HH.out false (decide_eq_false hb)
    have HLN : Hid (ns.length ≤ 40 ∧ esum ns ≤ 200) := by show _ ∧ _; omega
    have hl40 : (ns.length : Int) ≤ 40 := by omega
    clear hb HH hl
    by_cases hx0 : x < 0
    · have hd : decide (x < 0) = true := decide_eq_true hx0
      go_enter Try.func3, Try.ntmps3
      go_wp2_with (first | (go_at_call 6; refine Calls.mono HB.out ?_; rintro e wx ⟨rfl, rfl⟩) | (go_at_call 7; refine Calls.mono (works17 _) ?_; rintro e wx ⟨rfl, tw⟩))
      go_ret
      exact ⟨rfl, tw⟩
    · have hd : decide (x < 0) = false := decide_eq_false hx0
      by_cases hxn : (ns.length : Int) ≤ x
      · have hd2 : decide ((ns.length : Int) ≤ x) = true := decide_eq_true hxn
        go_enter Try.func3, Try.ntmps3
        go_wp2_with (first | (go_at_call 6; refine Calls.mono HB.out ?_; rintro e wx ⟨rfl, rfl⟩) | (go_at_call 7; refine Calls.mono (works17 _) ?_; rintro e wx ⟨rfl, tw⟩))
        go_ret
        exact ⟨rfl, tw⟩
      · have hd2 : decide ((ns.length : Int) ≤ x) = false := decide_eq_false hxn
        obtain ⟨r, HXR⟩ : ∃ r : Nat, Hid (x = (r : Int)) := ⟨x.toNat, by show _ = _; omega⟩
        have HR : Hid (r < ns.length) := by show _ < _; have := HXR.out; omega
        generalize hN : ns.length = N at *
        have HN : Hid _ := hN
        clear hN
        go_enter Try.func3, Try.ntmps3
        go_wp2_with ((go_at_call 6; refine Calls.mono HB.out ?_; rintro e wx ⟨rfl, rfl⟩))
        go_loopg [5, 6] N (fun gg s5 s6 wx => ∃ i : Nat, s5 = .int .i64 i ∧ i ≤ N ∧ gg = N - i ∧ w = wx ∧ Hid (FsN ns i))
        case atStart => exact ⟨0, rfl, Nat.zero_le _, rfl, rfl, fun j y hj => by omega⟩
        case round =>
          obtain ⟨i, rfl, hi, hg, rfl, HF⟩ := hrel
          by_cases hiN : i < N
          · obtain ⟨y, hy⟩ : ∃ y, ns[i]? = some y := ⟨_, List.getElem?_eq_getElem (by have := HN.out; omega)⟩
            rcases HSH.out with e | ⟨g, o, rfl, hc⟩
            · rw [e] at hy; cases hy
            have q0 : w.cell? ⟨g, o + i * 7, none⟩ = some (.bool y.t.net) := hc i y hy 0 _ rfl
            have q1 : w.cell? ⟨g, o + i * 7 + 1, none⟩ = some (.int .u32 y.t.id) := hc i y hy 1 _ rfl
            have q5 : w.cell? ⟨g, o + i * 7 + 5, none⟩ = some (.slice y.ea y.t.edges.length y.ec) := hc i y hy 5 _ rfl
            have hi0 : (0 : Int) ≤ (i : Int) := by omega
            have hi1 : (i : Int) < (N : Int) := by omega
            have HY : Hid _ := hy
            have HDE : Hid _ := HED.out y (List.mem_of_getElem? hy)
            have HDG : Hid (y.t.edges.length ≤ 200) := Nat.le_trans (esum_mem (List.mem_of_getElem? hy)) HLN.out.2
            have hdg : (y.t.edges.length : Int) ≤ 200 := by have := HDG.out; omega
            have HG : Hid _ := hg
            clear hc hy hg
            generalize hea0 : y.ea = ea0 at *
            generalize hdd : y.t.edges.length = dg at *
            have HDD : Hid _ := hdd
            clear hea0 hdd
            by_cases hbad : y.t.net = false ∧ y.t.id = 0
            · obtain ⟨h1, h2⟩ := hbad
              rw [h1] at q0
              rw [h2] at q1
              go_wp2_with ((go_at_call 7; refine Calls.mono (works17 _) ?_; rintro e wx ⟨rfl, tw⟩))
              go_ret
              exact ⟨rfl, tw⟩
            · have HBD : Hid (y.t.net = false → y.t.id ≠ 0) := fun h h' => hbad ⟨h, h'⟩
              go_upto_region 6 with fail
              go_cut [45] (fun s45 wx => s45 = .bool false ∧ w = wx)
              case first =>
                cases hnet : y.t.net
                · have hid := HBD.out hnet
                  have hid2 : (y.t.id == 0) = false := by simpa using hid
                  rw [hnet] at q0
                  go_wp2_with fail
                  go_meet
                  exact ⟨rfl, rfl⟩
                · rw [hnet] at q0
                  go_wp2_with fail
                  go_meet
                  exact ⟨rfl, rfl⟩
              case rest =>
                obtain ⟨rfl, rfl⟩ := hcut
                clear hbad q0 q1
                go_wp2_with fail
                go_loopw [6] (fun s6 wx => ∃ k : Nat, s6 = .int .i64 k ∧ k ≤ dg ∧ w = wx ∧ Hid (FsE N y.t.edges k)) (fun s6 _ => dg - (intOf s6).toNat)
                case atStart => exact ⟨0, rfl, Nat.zero_le _, rfl, fun j e hj => by omega⟩
                case round =>
                  obtain ⟨k, rfl, hk, rfl, HE⟩ := hrel
                  by_cases hkd : k < dg
                  · obtain ⟨e, he⟩ : ∃ e, y.t.edges[k]? = some e := ⟨_, List.getElem?_eq_getElem (by have := HDD.out; omega)⟩
                    rcases HDE.out with e1 | ⟨eg, eo, rfl, hce⟩
                    · rw [e1] at he; cases he
                    have p0 : w.cell? ⟨eg, eo + k * 4, none⟩ = some (.int .i64 e.dst) := hce k e he 0 _ rfl
                    have p1 : w.cell? ⟨eg, eo + k * 4 + 1, none⟩ = some (.int .u32 e.cost) := hce k e he 1 _ rfl
                    have hk0 : (0 : Int) ≤ (k : Int) := by omega
                    have hk1 : (k : Int) < (dg : Int) := by omega
                    have HEK : Hid _ := he
                    clear he hce
                    by_cases hf : 0 ≤ e.dst ∧ e.dst < (N : Int) ∧ e.cost < 65536
                    · have HFE : Hid (EdF N e) := hf
                      have h1 : decide (e.dst < 0) = false := decide_eq_false (by omega)
                      have h2 : decide ((N : Int) ≤ e.dst) = false := decide_eq_false (by omega)
                      have h3 : decide (65536 ≤ e.cost) = false := decide_eq_false (by omega)
                      clear hf
                      go_wp2_with fail
                      go_roundw
                      case rel => exact ⟨k + 1, by go_num, by omega, trivial, HE.out.step HEK.out HFE.out⟩
                      case measure => simp [intOf]; omega
                    · by_cases h1 : e.dst < 0
                      · have h1' : decide (e.dst < 0) = true := decide_eq_true h1
                        clear hf
                        go_wp2_with ((go_at_call 7; refine Calls.mono (works17 _) ?_; rintro e wx ⟨rfl, tw⟩))
                        go_ret
                        exact ⟨rfl, tw⟩
                      · have h1' : decide (e.dst < 0) = false := decide_eq_false h1
                        by_cases h2 : (N : Int) ≤ e.dst
                        · have h2' : decide ((N : Int) ≤ e.dst) = true := decide_eq_true h2
                          clear hf
                          go_wp2_with ((go_at_call 7; refine Calls.mono (works17 _) ?_; rintro e wx ⟨rfl, tw⟩))
                          go_ret
                          exact ⟨rfl, tw⟩
                        · have h2' : decide ((N : Int) ≤ e.dst) = false := decide_eq_false h2
                          have h3 : decide (65536 ≤ e.cost) = true := decide_eq_true (by omega)
                          clear hf
                          go_wp2_with ((go_at_call 7; refine Calls.mono (works17 _) ?_; rintro e wx ⟨rfl, tw⟩))
                          go_ret
                          exact ⟨rfl, tw⟩
                  · have hkk : k = dg := by omega
                    subst hkk
                    have HFN : Hid (FsN ns (i + 1)) := HF.out.step HY.out ⟨HBD.out, by rw [HN.out]; exact HE.out.all (Nat.le_of_eq HDD.out)⟩
                    go_wp2_with fail
                    go_roundg (N - (i + 1))
                    case measure => have := HG.out; omega
                    case rel => exact ⟨i + 1, by go_num, by omega, rfl, rfl, HFN.out⟩
          · have hii : i = N := by omega
            subst hii
            clear hg
            have hxr := HXR.out
            subst hxr
            have hall : ∀ y ∈ ns, NdF ns.length y.t := FsN.all (by have := HF.out; rw [← HN.out] at this; exact this)
            have HALL : Hid _ := hall
            have hn40 : ns.length ≤ 40 := by rw [HN.out]; exact HLN.out.1
            have hgok := ok_of HOK.out hall HLN.out.2
            have HGK : Hid _ := hgok
            have HGV : Hid _ := given17 w (.slice a i c) ns HA.out hn40 HLN.out.2
            have HWD : Hid _ := HR.out
            clear hall hgok HF
            go_wp2_with ((go_at_call 9; refine Calls.mono HGV.out ?_; rintro e w1 ⟨gv, rfl, GV⟩; have HGR : Hid _ := GV; clear GV))
            obtain ⟨ms, hga, hmt⟩ := HGR.out.gr
            have hml : ms.length = i := by have := congrArg List.length hmt; simpa [HN.out] using this
            have HMT : Hid _ := hmt
            have HML : Hid _ := hml
            have HT1 : Hid (Touch (fun _ => False) w w1) := HGR.out.t
            have HFM := from_any w1 gv ms hga r (by rw [hml]; exact HR.out) 65535 200 (by rw [hmt]; exact HGK.out) (by rw [hml]; have := HLN.out.1; have := HN.out; omega) (by
              have h1 : ms.length ≤ 40 := by rw [hml]; have := HLN.out.1; have := HN.out; omega
              have h2 : (ms.length + 1) * 2 ≤ 82 := by omega
              have h3 : 200 * ((ms.length + 1) * 2) ≤ 16400 := by omega
              have h4 : ms.length * (200 * ((ms.length + 1) * 2)) ≤ 40 * 16400 := Nat.mul_le_mul h1 h3
              omega)
            have HFF : Hid _ := HFM
            clear hga hmt hml HFM HGR HGV
            refine Calls.mono HFF.out ?_
            rintro e w2 ⟨⟨rb, R, H, Z, xx, ii, s, rfl, rr, hh, I, hf⟩, T2⟩
            rw [HML.out] at rr hh
            rw [HMT.out] at I hf
            have hls := LsP.of HGK.out HALL.out hn40 (by rw [HN.out]; exact HR.out) I hf
            have hlr := LsR.of rr hh
            have HLS : Hid _ := hls
            have HLR : Hid _ := hlr
            have HT2 : Hid (Touch (fun _ => False) w w2) := HT1.out.trans T2
            have hrb := RG.ge rr rfl
            obtain ⟨a0, a1, ha, hc2, a2⟩ := hlr.c r HR.out
            rw [hls.p1] at a0 a1 a2
            simp only [List.length_nil, HML.out] at a2 ⊢
            have hrl : (r : Int) < (i : Int) := by have := HR.out; omega
            have hr0 : (0 : Int) ≤ (r : Int) := by omega
            obtain ⟨i1, hi1, hz1, hs1, hb1⟩ := infoParts infoBool
            have hmk : ∀ w, (Instr.makeSlice 41 (.int .i64 (i : Int)) (.int .i64 (i : Int))).run Try.prog w = .ok (.slice (some ⟨w.heap.size, 0, none⟩) i i) (w.alloc (.cells (cellsG bcs (tab i (fun _ => false))).toArray 4)) := by
              intro w
              have h := run_make (P := Try.prog) w 41 4 i1 _ Try.underlying41 hi1 hz1 .i64 .i64 (i : Int) (i : Int) (by omega) (Int.le_refl _) (by rw [hb1]; omega) (by omega)
              rw [hs1] at h
              simp only [Int.toNat_natCast] at h
              rw [h, ← made_tab bcs_len (by omega) false i]
              rfl
            clear rr hh I hf T2 hls hlr HFF hi1 hz1 hs1 hb1
            go_wp2_with fail
            have RA : Row (w2.alloc (.cells (cellsG bcs (tab i (fun _ => false))).toArray 4)) w2.heap.size 4 (cellsG bcs (tab i (fun _ => false))) := row_of (by
              show (w2.heap.push _)[w2.heap.size]? = _
              simp)
            have TB : Touch (fun _ => False) w2 (w2.alloc (.cells (cellsG bcs (tab i (fun _ => false))).toArray 4)) := (Touch.refl _ _).alloc _
            have hbr : ¬ rb = w2.heap.size := fun e => by
              have := lt_of_cell a0
              omega
            have hbw : w.heap.size ≤ w2.heap.size := HT2.out.size
            generalize w2.alloc (.cells (cellsG bcs (tab i (fun _ => false))).toArray 4) = wB at *
            have HB0 : Hid (ByR wB i w2.heap.size (fun _ => false) wB) := by
              refine ⟨⟨length_cellsG bcs_len _, Or.inr ⟨w2.heap.size, i, (cellsG bcs (tab i (fun _ => false))).toArray, by rw [tab_length], Nat.le_refl _, RA, by rw [tab_length]; exact Nat.le_refl _, ?_, by simp [length_cellsG bcs_len, tab_length], ?_⟩⟩, Touch.refl _ _⟩
              · unfold maxLen; omega
              · rw [List.take_of_length_le]
                simp [length_cellsG bcs_len]
            generalize w2.heap.size = bb at *
            have HBW : Hid (w.heap.size ≤ bb) := hbw
            have HBR : Hid (¬ rb = bb) := hbr
            have HTB : Hid (Touch (fun _ => False) w wB) := HT2.out.trans TB
            have HLB : Hid (LsR i wB rb R) := HLR.out.keep TB (fun h => h)
            have HD0 : Hid (DnN ns R 0 (fun _ => false)) := fun u' _ _ _ h => by omega
            clear RA TB hbw hbr HLR HT2 HT1 a0 a1 a2 hmk
            go_loopg [9, 10, 11] i (fun gg s9 _ _ wx => ∃ u : Nat, s9 = .int .i64 u ∧ u ≤ i ∧ gg = i - u ∧ ∃ B, ByR wB i bb B wx ∧ DnN ns R u B)
            case atStart => exact ⟨0, rfl, Nat.zero_le _, rfl, _, HB0.out, HD0.out⟩
            case round =>
              clear HB0 HD0
              obtain ⟨u, rfl, hu, hg, B, XB, XD⟩ := hrel
              have HXB : Hid _ := XB
              have HXD : Hid _ := XD
              have HG : Hid _ := hg
              have HTR : Hid (Touch (fun _ => False) w wr) := HTB.out.trans' XB.t (fun k hk e => by have := HBW.out; omega)
              clear XB XD hg
              by_cases hui : u < i
              · obtain ⟨y, hy⟩ : ∃ y, ns[u]? = some y := ⟨_, List.getElem?_eq_getElem (by have := HN.out; omega)⟩
                rcases HSH.out with e | ⟨g, o, rfl, hc⟩
                · rw [e] at hy; cases hy
                have HQ5 : Hid (w.cell? ⟨g, o + u * 7 + 5, none⟩ = some (.slice y.ea y.t.edges.length y.ec)) := hc u y hy 5 _ rfl
                have hu0 : (0 : Int) ≤ (u : Int) := by omega
                have hu1 : (u : Int) < (i : Int) := by omega
                have HY : Hid _ := hy
                have HDE : Hid _ := HED.out y (List.mem_of_getElem? hy)
                have HFY : Hid _ := HALL.out y (List.mem_of_getElem? hy)
                have HOY : Hid _ := HOK.out y (List.mem_of_getElem? hy)
                have HDG : Hid (y.t.edges.length ≤ 200) := Nat.le_trans (esum_mem (List.mem_of_getElem? hy)) HLN.out.2
                have hdg : (y.t.edges.length : Int) ≤ 200 := by have := HDG.out; omega
                clear hc hy
                generalize hea0 : y.ea = ea0 at *
                generalize hdd : y.t.edges.length = dg at *
                have HDD : Hid _ := hdd
                clear hea0 hdd
                cases his : (R u).is
                · have HST : Hid (DnN ns R (u + 1) B) := DnN.step HXD.out HY.out (fun h => by rw [his] at h; cases h)
                  go_wp2_with fail
                  go_loopw [10] (fun s10 wx => s10 = .int .i64 0 ∧ ByR wB i bb B wx) (fun _ _ => 0)
                  case atStart => exact ⟨rfl, HXB.out⟩
                  case round =>
                    clear HXB HXD HTR
                    obtain ⟨rfl, XB⟩ := hrel
                    have HXB : Hid _ := XB
                    have TR : Touch (fun _ => False) w wr := HTB.out.trans' XB.t (fun k hk e => by have := HBW.out; omega)
                    have q5 : wr.cell? ⟨g, o + u * 7 + 5, none⟩ = some (.slice ea0 dg y.ec) := TR.cellN HQ5.out
                    obtain ⟨ru0, -, -⟩ := (HLB.out.keep XB.t HBR.out).c u hui
                    rw [his] at ru0
                    clear XB TR
                    by_cases hd0 : dg = 0
                    · have hdz : decide ((0 : Int) < (dg : Int)) = false := decide_eq_false (by omega)
                      go_wp2_with fail
                      go_roundg (i - (u + 1))
                      case measure => have := HG.out; omega
                      case rel => exact ⟨u + 1, by go_num, by omega, rfl, _, HXB.out, HST.out⟩
                    · have hdz : decide ((0 : Int) < (dg : Int)) = true := decide_eq_true (by omega)
                      go_wp2_with fail
                      go_roundg (i - (u + 1))
                      case measure => have := HG.out; omega
                      case rel => exact ⟨u + 1, by go_num, by omega, rfl, _, HXB.out, HST.out⟩
                · have HCB : Hid (∀ t, t < i → wr.cell? ⟨bb, t, none⟩ = some (.bool (B t))) := fun t ht => HXB.out.cell ht
                  have HE0 : Hid (DnE y.t.edges R (R u).cost 0 B) := fun j _ _ h => by omega
                  have HIS : Hid ((R u).is = true) := his
                  clear his
                  go_wp2_with fail
                  go_loopg [10, 11] dg (fun gg s10 _ wx => ∃ k : Nat, s10 = .int .i64 k ∧ k ≤ dg ∧ gg = dg - k ∧ ∃ B, ByR wB i bb B wx ∧ DnN ns R u B ∧ DnE y.t.edges R (R u).cost k B)
                  case atStart => exact ⟨0, rfl, Nat.zero_le _, rfl, _, HXB.out, HXD.out, HE0.out⟩
                  case round =>
                    clear HE0 HXB HXD HCB HTR
                    obtain ⟨k, rfl, hk, hgk, B, XB, XD, XE⟩ := hrel
                    have HXB : Hid _ := XB
                    have HXD : Hid _ := XD
                    have HXE : Hid _ := XE
                    have HGK : Hid _ := hgk
                    have TR : Touch (fun _ => False) w wr := HTB.out.trans' XB.t (fun k hk e => by have := HBW.out; omega)
                    have q5 : wr.cell? ⟨g, o + u * 7 + 5, none⟩ = some (.slice ea0 dg y.ec) := TR.cellN HQ5.out
                    have hls := HLB.out.keep XB.t HBR.out
                    obtain ⟨ru0, ru1, -⟩ := hls.c u hui
                    rw [HIS.out] at ru0
                    have HLSW : Hid _ := hls
                    have HTRW : Hid _ := TR
                    by_cases hkd : k < dg
                    · obtain ⟨e, he⟩ : ∃ e, y.t.edges[k]? = some e := ⟨_, List.getElem?_eq_getElem (by have := HDD.out; omega)⟩
                      rcases HDE.out with e1 | ⟨eg, eo, rfl, hce⟩
                      · rw [e1] at he; cases he
                      have p0 : wr.cell? ⟨eg, eo + k * 4, none⟩ = some (.int .i64 e.dst) := TR.cellN (hce k e he 0 _ rfl)
                      have p1 : wr.cell? ⟨eg, eo + k * 4 + 1, none⟩ = some (.int .u32 e.cost) := TR.cellN (hce k e he 1 _ rfl)
                      have p2 : wr.cell? ⟨eg, eo + k * 4 + 2, none⟩ = some (.int .u32 e.data) := TR.cellN (hce k e he 2 _ rfl)
                      have p3 : wr.cell? ⟨eg, eo + k * 4 + 3, none⟩ = some (.bool e.vr) := TR.cellN (hce k e he 3 _ rfl)
                      have hem := List.mem_of_getElem? he
                      have hFE := HFY.out.2 e hem
                      have hOE := HOY.out.ed e hem
                      obtain ⟨t, HTD⟩ : ∃ t : Nat, Hid (e.dst = (t : Int)) := ⟨e.dst.toNat, by show _ = _; have := hFE.1; omega⟩
                      have hti : t < i := by have h1 := hFE.2.1; rw [HN.out] at h1; have := HTD.out; omega
                      obtain ⟨g1, g2, g3⟩ := HLS.out.p2 u y e t HY.out HIS.out hem HTD.out
                      obtain ⟨rt0, rt1, -⟩ := hls.c t hti
                      rw [g1] at rt0
                      have bt := XB.cell hti
                      have bf := XB.fz t
                      have c0 := HLS.out.p5 u
                      rw [HTD.out] at p0
                      have hws : IntKind.u32.wrap ((R u).cost + e.cost) = (R u).cost + e.cost := IntWalk.u32_in _ (by have := hOE.2.1; omega)
                      have hgt : decide ((R u).cost + e.cost < (R t).cost) = false := decide_eq_false (by omega)
                      have hk0 : (0 : Int) ≤ (k : Int) := by omega
                      have hk1 : (k : Int) < (dg : Int) := by omega
                      have ht0 : (0 : Int) ≤ (t : Int) := by omega
                      have ht1 : (t : Int) < (i : Int) := by omega
                      have HEK : Hid _ := he
                      have HTI : Hid _ := hti
                      have HNB : Hid (∀ (b : Bool) wx, (B t = true → b = true) → ((R t).cost = (R u).cost + e.cost → b = true) → Touch (fun _ => False) wr wx → ∀ wy, wy = (wx.setCell ⟨bb, t, none⟩ (.bool b)).drew → ∃ B, ByR wB i bb B wy ∧ DnN ns R u B ∧ DnE y.t.edges R (R u).cost (k + 1) B) := by
                        intro b wx h1 h2 tx wy hwy
                        refine ⟨upf B t b, ?_, XD.up h1, XE.up h1 he HTD.out h2⟩
                        rw [hwy]
                        exact ((HXB.out.keep tx).set HTI.out b).keep ((Touch.refl _ _).drew)
                      clear he hce hem hFE hOE g1 g2 g3 c0 XB XD XE hgk hls TR hti
                      generalize hsum : (R u).cost + e.cost = sm at *
                      generalize hct : (R t).cost = ct at *
                      generalize (R u).cost = cu at *
                      generalize hBt : B t = bt0 at *
                      have HSM : Hid _ := hsum
                      have HCT : Hid _ := hct
                      have HBT : Hid _ := hBt
                      have hrbl := lt_of_cell rt0
                      have hbbl := lt_of_cell bt
                      clear hct hBt
                      go_wp2_with fail
                      go_quiet (fail)
                      go_upto_region 26 with fail
                      generalize hwE : World.drewN _ _ = wE
                      have TE : Touch (fun _ => False) wr wE := by rw [← hwE]; exact ((Touch.refl _ _).alloc _).drewN _
                      have HTE : Hid _ := TE
                      have rt0' := TE.cellN rt0
                      have rt1' := TE.cellN rt1
                      have ru1' := TE.cellN ru1
                      have bt' := TE.cellN bt
                      have bf' := (TE.frozen (p := ⟨bb, t, none⟩) hbbl (fun h => h)).trans bf
                      have REr : Row wE wr.heap.size 33 [.int .i64 (t : Int), .int .u32 e.cost, .int .u32 e.data, .bool e.vr] := by rw [← hwE]; exact Row.keep (row_new wr _ _) ((Touch.refl _ _).drewN _)
                      have e0 : wE.cell? ⟨wr.heap.size, 0, none⟩ = some (.int .i64 (t : Int)) := REr.cell 0
                      have e1 : wE.cell? ⟨wr.heap.size, 1, none⟩ = some (.int .u32 e.cost) := REr.cell 1
                      clear TE REr hwE rt0 rt1 ru1 bt bf p0 p1 p2 p3 q5 ru0 hrbl hbbl
                      cases bt0
                      · by_cases hq : ct = sm
                        · have hq2 : (ct == sm) = true := by simpa using hq
                          have HQ : Hid _ := hq
                          clear hq
                          have HN2 : Hid _ := HNB.out true wE (fun _ => rfl) (fun _ => rfl) HTE.out _ rfl
                          go_region
                          all_goals go_wp2_with fail
                          all_goals go_roundg (dg - (k + 1))
                          case measure => have := HGK.out; omega
                          case rel => exact ⟨k + 1, by go_num, by omega, rfl, HN2.out⟩
                        · have hq2 : (ct == sm) = false := by simpa using hq
                          have HQ : Hid (¬ ct = sm) := hq
                          clear hq
                          have HN2 : Hid _ := HNB.out false wE (fun h => h) (fun h => (HQ.out h).elim) HTE.out _ rfl
                          go_region
                          all_goals go_wp2_with fail
                          all_goals go_roundg (dg - (k + 1))
                          case measure => have := HGK.out; omega
                          case rel => exact ⟨k + 1, by go_num, by omega, rfl, HN2.out⟩
                      · have HN2 : Hid _ := HNB.out true wE (fun _ => rfl) (fun _ => rfl) HTE.out _ rfl
                        go_region
                        all_goals go_wp2_with fail
                        all_goals go_roundg (dg - (k + 1))
                        case measure => have := HGK.out; omega
                        case rel => exact ⟨k + 1, by go_num, by omega, rfl, HN2.out⟩
                    · have hkk : k = dg := by omega
                      subst hkk
                      have HST : Hid (DnN ns R (u + 1) B) := DnN.step HXD.out HY.out (fun _ => by rw [HDD.out]; exact HXE.out)
                      clear XB XD XE hgk hls TR
                      go_wp2_with fail
                      go_roundg (i - (u + 1))
                      case measure => have := HG.out; omega
                      case rel => exact ⟨u + 1, by go_num, by omega, rfl, _, HXB.out, HST.out⟩
              · have huu : i = u := by omega
                subst huu
                have HBV : Hid (∀ v, v < i → v ≠ r → (R v).is = true → B v = true ∧ (R v).hops.length ≠ 0) := by
                  intro v hv hvr hvi
                  have hv' : v < ns.length := by rw [HN.out]; exact hv
                  obtain ⟨u, y, e, h1, h2, h3, h4, h5⟩ := HLS.out.p3 v hv' hvr hvi
                  refine ⟨HXD.out u y e v (by have := (List.getElem?_eq_some_iff.1 h1).1; rw [HN.out] at this; exact this) h1 h2 h3 h4 h5, fun h => ?_⟩
                  exact HLS.out.p4 v hv' hvr hvi (List.length_eq_zero_iff.1 h)
                clear HXD HTR
                go_wp2_with fail
                go_loopw [12] (fun s12 wx => ∃ v : Nat, s12 = .int .i64 v ∧ v ≤ i ∧ ByR wB i bb B wx) (fun s12 _ => i - (intOf s12).toNat)
                case atStart => exact ⟨0, rfl, Nat.zero_le _, HXB.out⟩
                case round =>
                  clear HXB
                  obtain ⟨v, rfl, hv, XB⟩ := hrel
                  have HXB : Hid _ := XB
                  have TR : Touch (fun _ => False) w wr := HTB.out.trans' XB.t (fun k hk e => by have := HBW.out; omega)
                  have HTR : Hid _ := TR
                  by_cases hvi : v < i
                  · obtain ⟨rv0, -, va, vc, rv2⟩ := (HLB.out.keep XB.t HBR.out).c v hvi
                    have bv := XB.cell hvi
                    have hv0 : (0 : Int) ≤ (v : Int) := by omega
                    have hv1 : (v : Int) < (i : Int) := by omega
                    clear XB TR
                    cases his : (R v).is
                    · rw [his] at rv0
                      go_wp2_with fail
                      go_roundw
                      case rel => exact ⟨v + 1, by go_num, by omega, HXB.out⟩
                      case measure => simp [intOf]; omega
                    · rw [his] at rv0
                      by_cases hvr : v = r
                      · subst hvr
                        go_wp2_with fail
                        go_roundw
                        case rel => exact ⟨v + 1, by go_num, by omega, HXB.out⟩
                        case measure => simp [intOf]; omega
                      · have hvr2 : ((v : Int) == (r : Int)) = false := by simp; omega
                        obtain ⟨z1, z2⟩ := HBV.out v hvi hvr his
                        rw [z1] at bv
                        have z3 : (((R v).hops.length : Int) == 0) = false := by simp; exact fun h => z2 (by rw [h]; rfl)
                        have hvr3 : (v == r) = false := by simpa using hvr
                        have hvr4 : ¬ (v : Int) = (r : Int) := by omega
                        clear z1
                        generalize (R v).hops.length = hn at *
                        have hz4 : ¬ (hn : Int) = 0 := by omega
                        go_wp2_with fail
                        go_roundw
                        case rel => exact ⟨v + 1, by go_num, by omega, HXB.out⟩
                        case measure => simp [intOf]; omega
                  · have hvv : i = v := by omega
                    subst hvv
                    clear XB TR
                    go_wp2_with ((go_at_call 7; refine Calls.mono (works17 _) ?_; rintro e wx ⟨rfl, tw⟩))
                    go_ret
                    exact ⟨rfl, HTR.out.trans tw⟩
end Go.Proofs.Ytdfacfpjhnohcaa
