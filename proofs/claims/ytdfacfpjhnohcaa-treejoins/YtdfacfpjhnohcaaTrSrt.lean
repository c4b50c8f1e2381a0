
/- Hops are sorted. -/
import Derived.Test.YtdfacfpjhnohcaaTrShelf
import Derived.Test.YtdfacfpjhnohcaaTrCat
import Derived.Test.YtdfacfpjhnohcaaTrJnP
import Derived.Sort.Grow
namespace Go.Proofs.Ytdfacfpjhnohcaa
open Go.RowKit Go.Shelf Go.Lib Go.Sort
set_option linter.unusedVariables false
set_option maxRecDepth 100000

/-- Worlds that have but grown. -/
structure Grs (x w : World) : Prop where
  out : ∃ q os, w = grow (x.drewN q) os
theorem grow_touch (w : World) (q : Nat) (os : Array Obj) : Touch (fun _ => False) w (grow (w.drewN q) os) :=
  ⟨rfl, rfl, rfl, by simp [grow, World.drewN], fun k hk _ => by simp only [grow, World.drewN]; rw [Array.getElem?_append_left hk]⟩
theorem Grs.t {x w : World} (h : Grs x w) : Touch (fun _ => False) x w := by
  obtain ⟨q, os, rfl⟩ := h.out
  exact grow_touch x q os
theorem Grs.trans {x w w' : World} (h : Grs x w) (k : Grs w w') : Grs x w' := by
  obtain ⟨q, os, rfl⟩ := h.out
  obtain ⟨q', os', rfl⟩ := k.out
  exact ⟨q + q', os ++ os', by show grow (grow ((x.drewN q).drewN q') os) os' = _; rw [grow_grow, World.drewN_drewN]⟩
theorem Grs.refl (w : World) : Grs w w := ⟨0, #[], by rw [grow_empty]; rfl⟩
theorem Grs.alloc {x w : World} (h : Grs x w) (o : Obj) : Grs x (w.alloc o) := h.trans ⟨0, #[o], by rw [alloc_eq_grow]; rfl⟩
theorem Grs.drew {x w : World} (h : Grs x w) : Grs x w.drew := h.trans ⟨1, #[], by rw [grow_empty]; rfl⟩
set_option maxHeartbeats 1000000 in
theorem hcmp_grs (x y : HK) (w : World) : Calls Try.prog 23 #[.agg #[.int .u32 x.out, .int .u32 x.via, .bool x.vr], .agg #[.int .u32 y.out, .int .u32 y.via, .bool y.vr]] w fun e w' => e = .returned (.int .i64 (cH x y)) ∧ ∃ q os', w' = grow (w.drewN q) os' := by
  have HE : Hid (cH x y = fstI (cmpI x.out y.out) (fstI (cmpI x.via y.via) (bz x.vr - bz y.vr))) := rfl
  generalize cH x y = z at HE ⊢
  obtain ⟨x0, x1, x2⟩ := x
  obtain ⟨y0, y1, y2⟩ := y
  have b1 := bz_range x2
  have b2 := bz_range y2
  simp only at HE b1 b2
  have H1 : Hid _ := later_any x2
  have H2 : Hid _ := later_any y2
  generalize hbx : bz x2 = p at *
  generalize hby : bz y2 = q at *
  have HX : Hid _ := hbx
  have HY : Hid _ := hby
  clear hbx hby
  obtain ⟨b10, b11⟩ := b1
  obtain ⟨b20, b21⟩ := b2
  have hw : IntKind.i64.wrap (p - q) = p - q := by
    rcases (by omega : p = 0 ∨ p = 1) with rfl | rfl <;> rcases (by omega : q = 0 ∨ q = 1) with rfl | rfl <;> rfl
  go_enter Try.func23, Try.ntmps23
  go_wp2_with fail
  go_region_held3 (fun w' => w'.cell? ⟨w.heap.size, 0, none⟩ = some (.int .u32 x0) ∧ w'.cell? ⟨w.heap.size, 1, none⟩ = some (.int .u32 x1) ∧ w'.cell? ⟨w.heap.size, 2, none⟩ = some (.bool x2) ∧ w'.cell? ⟨w.heap.size + 1, 0, none⟩ = some (.int .u32 y0) ∧ w'.cell? ⟨w.heap.size + 1, 1, none⟩ = some (.int .u32 y1) ∧ w'.cell? ⟨w.heap.size + 1, 2, none⟩ = some (.bool y2)) (go_keep) (first
    | (go_at_call 34; refine (cmpu32_any _ _ _).mono ?_; rintro e w1 ⟨rfl, rfl⟩)
    | (go_at_call 35; refine (H1.out _).mono ?_; rintro e w1 ⟨rfl, rfl⟩)
    | (go_at_call 35; refine (H2.out _).mono ?_; rintro e w1 ⟨rfl, rfl⟩)
    | (go_at_call 33; refine (or_three _ _ _ _ _ z HE.out _ (by simp [go_sem]) (by simp [go_sem]) (by simp [go_sem])).mono ?_; rintro e w5 ⟨rfl, rfl⟩))
  go_wp2_with fail
  go_ret
  exact ⟨rfl, (((((Grs.refl w).alloc _).alloc _).alloc _).drew).out⟩


def ofI (L : List HK) (i : Nat) : HK := (L[i]?).getD HK0
def encL (L : List HK) (i : Nat) : List Value := (ofI L i).cs
def cfL (L : List HK) (i j : Nat) : Int := cH (ofI L i) (ofI L j)
theorem lt_cfL (L : List HK) (i j : Nat) : ltOf (cfL L) i j = true ↔ (ofI L i).lt (ofI L j) := by
  unfold ltOf
  rw [decide_eq_true_iff]
  exact cH_neg _ _
theorem nlt_cfL (L : List HK) (i j : Nat) : ltOf (cfL L) i j = false ↔ ¬ (ofI L i).lt (ofI L j) := by
  rw [← lt_cfL]
  simp
theorem swo_cfL (L : List HK) : SWO (ltOf (cfL L)) where
  irrefl x := (nlt_cfL L x x).2 (HK.lt_irrefl _)
  trans x y z h1 h2 := by rw [lt_cfL] at *; exact HK.lt_trans h1 h2
  ntrans x y z h1 h2 := by rw [nlt_cfL] at *; unfold HK.lt at *; omega
theorem own_holds {w : World} {g cap base : Nat} {L : List HK} (h : w.ownsRow base 45 3 (.slice (some ⟨g, 0, none⟩) L.length cap) L.length (cellsG HK.cs L)) : HoldsK (encL L) 3 w g 0 (List.range L.length).toArray := by
  intro j hj
  rw [size_flatK] at hj
  have hj' : j < L.length * 3 := by simpa using hj
  have hi : j / 3 < L.length := by omega
  have hm : j % 3 < 3 := by omega
  rcases h.2 with ⟨h1, -⟩ | ⟨g', cap', cur, hv, -, hb, -, -, hs, ht⟩
  · cases h1
  · injection hv with hv1 hv2 hv3
    injection hv1 with hv1
    injection hv1 with hv1
    subst hv1
    subst hv3
    rw [get_flatK _ _ _ _ hj, Nat.zero_add]
    have e1 : ((List.range L.length).toArray)[j / 3]! = j / 3 := by
      rw [getElem!_pos _ _ (by simpa using hi)]
      simp
    have e2 : ofI L (j / 3) = L[j / 3] := by unfold ofI; simp [hi]
    refine ⟨?_, frozen_of_row w g j cur 45 hb⟩
    rw [cell_of_row w g j cur 45 _ hb, e1]
    have e3 : cur[j]? = (cellsG HK.cs L)[j]? := by
      rw [← ht, List.getElem?_take, if_pos hj']
      simp
    have e4 : (cellsG HK.cs L)[j]? = (L[j / 3]).cs[j % 3]? := by
      have := cellsG_get HK.len L (j / 3) (j % 3) hm
      rwa [show j / 3 * 3 + j % 3 = j from by omega, List.getElem?_eq_getElem hi] at this
    have hcl : j % 3 < (L[j / 3]).cs.length := by simp [HK.cs]; omega
    rw [e3, e4]
    show _ = some ((encL L (j / 3))[j % 3]!)
    unfold encL
    rw [e2, List.getElem?_eq_getElem hcl, getElem!_pos (L[j / 3]).cs (j % 3) hcl]
theorem holds_vals {w : World} {g cap : Nat} {L : List HK} {d : Array Nat} (h : HoldsK (encL L) 3 w g 0 d) (h1 : d.size ≤ cap) (h2 : cap ≤ maxLen) : ValsAt w 3 (.slice (some ⟨g, 0, none⟩) d.size cap) d.size (cellsG HK.cs (d.toList.map (ofI L))) := by
  refine ⟨by rw [length_cellsG HK.len]; simp, Or.inr ⟨_, _, rfl, h1, h2, fun j u hj => ?_⟩⟩
  have hjl := (List.getElem?_eq_some_iff.1 hj).1
  rw [length_cellsG HK.len, List.length_map, Array.length_toList] at hjl
  have hi : j / 3 < d.size := by omega
  have hm : j % 3 < 3 := by omega
  rw [add_plain]
  have hh := (h j (by rw [size_flatK]; exact hjl)).1
  rw [get_flatK _ _ _ _ hjl] at hh
  rw [hh]
  have e4 := cellsG_get HK.len (d.toList.map (ofI L)) (j / 3) (j % 3) hm
  rw [show (d.toList.map (ofI L))[j / 3]? = some (ofI L d[j / 3]) from by simp [hi]] at e4
  rw [show j / 3 * 3 + j % 3 = j from by omega, hj] at e4
  change some u = (ofI L d[j / 3]).cs[j % 3]? at e4
  have hcl : j % 3 < (ofI L d[j / 3]).cs.length := by simp [HK.cs]; omega
  rw [getElem!_pos d _ hi]
  show some ((encL L d[j / 3])[j % 3]!) = _
  unfold encL
  rw [e4, List.getElem?_eq_getElem hcl, getElem!_pos (ofI L d[j / 3]).cs (j % 3) hcl]
theorem put_touch (L : List HK) (w : World) (m blk off : Nat) (d : Array Nat) : Touch (fun k => k = blk) w (putRowK (encL L) 3 (Sort.ahead w m) blk off d) := by
  unfold putRowK putRow mapBlock
  exact ⟨rfl, rfl, rfl, by simp [Sort.ahead], fun k hk hn => by simp [Sort.ahead, Array.getElem?_modify, Ne.symm hn]⟩
theorem grow_touch0 (w : World) (os : Array Obj) : Touch (fun _ => False) w (grow w os) :=
  ⟨rfl, rfl, rfl, by simp [grow], fun k hk _ => by simp [grow, Array.getElem?_append_left hk]⟩

set_option maxHeartbeats 1000000 in
theorem sortH_any (w w' : World) (g c : Nat) (L : List HK) (X : HB w w' (.slice (some ⟨g, 0, none⟩) L.length c) L) (hc : c ≤ maxLen) (hlc : L.length ≤ c) (hn : L.length ≤ 1000000) :
    Calls Try.prog 22 #[.slice (some ⟨g, 0, none⟩) L.length c, .func (.func 23) #[] #[]] w' fun e w'' => e = .returned (.tuple #[]) ∧ ∃ S, S.Perm L ∧ S.Pairwise HK.le ∧ HV3 w'' (.slice (some ⟨g, 0, none⟩) L.length c) S ∧ Touch (fun _ => False) w w'' := by
  have eg : ∀ args w, (callFunc 23 args).run Try.prog w = .ok (.enter 23 args) w := enters_of Try.func23 (by kernel_rfl) rfl
  have hH := own_holds X.own
  have hgl : g < w'.heap.size := (X.own.lt g rfl).2
  have hgw : w.heap.size ≤ g := (X.own.lt g rfl).1
  have hone : ∀ i, ∀ v ∈ encL L i, v.oneCell' = true := by
    intro i v hv
    simp [encL, HK.cs] at hv
    rcases hv with rfl | rfl | rfl <;> rfl
  have hsz : (List.range L.length).toArray.size = L.length := by simp
  have hcon := AnyQ.slices_SortFunc sortHd 3 Try.isAgg45 Try.sizeOf45 (encL L) (fun _ => rfl) hone (cfL L) (swo_cfL L) 23 #[] g 0 c (List.range L.length).toArray w' eg (fun _ _ _ _ x y => hcmp_grs (ofI L x) (ofI L y) _) hH hgl (by rw [hsz]; omega)
  rw [hsz] at hcon
  refine Calls.mono hcon ?_
  rintro e w'' ⟨rfl, d', n, os, hpp, hs, rfl⟩
  obtain ⟨hp1, -, hp3⟩ := hpp
  have e2 : d'.size = L.length := by rw [hp1]; simp
  have p : d'.toList.Perm (List.range L.length) := by
    have h5 : d'.extract 0 L.length = d' := by rw [← e2]; simp
    rw [h5] at hp3
    have h4 : d'.toList.Perm (List.take L.length (List.range L.length)) := by simpa using hp3
    rwa [List.take_of_length_le (by simp)] at h4
  have hmap : (List.range L.length).map (ofI L) = L := by
    apply List.ext_getElem?
    intro i
    rw [List.getElem?_map]
    rcases Nat.lt_or_ge i L.length with h | h
    · simp [h, ofI]
    · rw [List.getElem?_eq_none (by simpa using h), List.getElem?_eq_none h]; rfl
  have q : (d'.toList.map (ofI L)).Perm L := by
    have := p.map (ofI L)
    rwa [hmap] at this
  have T2 : Touch (fun k => k = g) w' (sortWorldK (encL L) 3 w' g 0 n d' os) := (put_touch L w' n g 0 d').trans ((grow_touch0 _ os).mono (fun _ _ h => h.elim))
  refine ⟨rfl, d'.toList.map (ofI L), q, ?_, ?_, ?_⟩
  · rw [List.pairwise_map, List.pairwise_iff_getElem]
    intro i j hi hj hij
    have hj' : j < d'.size := by simpa using hj
    have hi' : i < d'.size := by simpa using hi
    have := (nlt_cfL L _ _).1 (hs i j (Nat.zero_le _) hij (by omega))
    rw [getElem!_pos d' j hj', getElem!_pos d' i hi'] at this
    show ¬ HK.lt _ _
    simpa using this
  · have h1 := holdsK_putRowK (encL L) 3 (Sort.ahead w' n) g 0 (List.range L.length).toArray d' hH (by rw [e2]; simp)
    have h2 := holdsK_grow (encL L) 3 _ os g 0 d' (by unfold putRowK putRow mapBlock; simpa [Sort.ahead] using hgl) h1
    have h3 := holds_vals (cap := c) h2 (by omega) hc
    rw [e2] at h3
    have hl3 : (d'.toList.map (ofI L)).length = L.length := by simp [e2]
    show ValsAt _ 3 _ (d'.toList.map (ofI L)).length _
    rw [hl3]
    exact h3
  · exact X.t.trans' T2 (fun i hi e => by omega)
end Go.Proofs.Ytdfacfpjhnohcaa
