/- Contract: the writer of networks. -/
import Derived.Test.YthdkihnmeoacaaaGreatDoorStWriteAny
import Derived.Deep.LoopGhost
namespace Go.Proofs.YthdkihnmeoacaaaGreatDoor
open Go.RowKit
set_option linter.unusedVariables false
set_option maxRecDepth 100000

structure NetW (X1 : Nat → Prop) (w : World) (b g g1 : Nat) (L : List Int) (most : Int) (ws : List Int) (B : BV) (vl vr vd : Value) (k : Nat) (i : Value) (wx : World) : Prop where
  out : ∃ j : Nat, j ≤ ws.length ∧ k = ws.length - j ∧ i = .int .i64 j ∧ Wr X1 wx b (L ++ routersB (ws.take j)) most ∧ OutB wx g B vl vr vd ∧ wx.cell? ⟨g1, 0, none⟩ = some (.pointer (some ⟨b, 0, none⟩)) ∧ Kept (but X1 g) w wx
set_option maxHeartbeats 4000000 in
theorem wnet_any (X : Nat → Prop) (b g : Nat) (L : List Int) (most : Int) (B : BV) (a1 a3 a8 : Option Addr) (q1 q3 q8 : Nat) (ok : B.Ok) (w : World) (hw : Wr X w b L most) (hm : most ≤ 1048576) (hg : X g) (hB : OutB w g B (.slice a1 B.links.length q1) (.slice a3 B.routers.length q3) (.slice a8 B.data.length q8)) (hA : ∀ w', Kept (but X g) w w' → WordsAt w' (.slice a3 B.routers.length q3) B.routers) :
    Calls Tryz.prog 120 #[.agg #[.pointer (some ⟨b, 0, none⟩)], .pointer (some ⟨g, 0, none⟩)] w (WrPost 2 X b g L most B w) := by
  have OK : Hid B.Ok := ok
  have hgl := hB.lt
  have HA : Hid (∀ w', Kept (but X g) w w' → WordsAt w' (.slice a3 B.routers.length q3) B.routers) := hA
  clear hA
  go_enter Tryz.func120, Tryz.ntmps120
  obtain ⟨X1, hX1⟩ : ∃ X1 : Nat → Prop, X1 = fun k => X k ∨ k = w.heap.size := ⟨_, rfl⟩
  have XG : Hid (X1 g) := by show X1 g; rw [hX1]; exact Or.inl hg
  have XM : Hid (X1 w.heap.size) := by show X1 _; rw [hX1]; exact Or.inr rfl
  have XX : Hid (∀ k, X k → X1 k) := by show ∀ k, _; rw [hX1]; exact fun k hk => Or.inl hk
  have ta : Touch (fun _ => False) w (w.alloc (.cells #[.pointer (some ⟨b, 0, none⟩)] 112)) := (Touch.refl _ w).alloc _
  have HW1 : Hid (Wr X1 (w.alloc (.cells #[.pointer (some ⟨b, 0, none⟩)] 112)) b L most) := hw.more ta (fun k hk => by rw [hX1] at hk; rcases hk with hk | hk; exact Or.inl hk; exact Or.inr ⟨by omega, by simp; omega⟩)
  have HO1 : Hid (OutB (w.alloc (.cells #[.pointer (some ⟨b, 0, none⟩)] 112)) g B (.slice a1 B.links.length q1) (.slice a3 B.routers.length q3) (.slice a8 B.data.length q8)) := hB.keep ta
  have y1 : (w.alloc (.cells #[.pointer (some ⟨b, 0, none⟩)] 112)).cell? ⟨w.heap.size, 0, none⟩ = some (.pointer (some ⟨b, 0, none⟩)) := by simp [go_sem]
  have hne : ¬ w.heap.size = g := by omega
  have hne' : ¬ g = w.heap.size := by omega
  have HK1 : Hid (Kept (but X1 g) w (w.alloc (.cells #[.pointer (some ⟨b, 0, none⟩)] 112))) := Kept.of ta
  clear hX1 hw hB ta hgl ok
  go_upto_region 1 with fail
  generalize (w.alloc (.cells #[.pointer (some ⟨b, 0, none⟩)] 112)) = w1 at *
  generalize w.heap.size = g1 at *
  have d1 : w1.drew.cell? ⟨g, 2, none⟩ = some (.int .u32 B.mask) := HO1.out.bd.c2
  have f1 : w1.drew.frozen? ⟨g, 2, none⟩ = false := HO1.out.fz 2 (by omega)
  have y1d : w1.drew.cell? ⟨g1, 0, none⟩ = some (.pointer (some ⟨b, 0, none⟩)) := y1
  have HWt1 : Hid (Wr X1 (w1.drew.setCell ⟨g, 2, none⟩ (.int .u32 0)) b L most) := (HW1.out.keep ((Touch.refl _ _).drew)).store XG.out _ _
  have HOt1 : Hid (OutB (w1.drew.setCell ⟨g, 2, none⟩ (.int .u32 0)) g { B with mask := 0 } (.slice a1 B.links.length q1) (.slice a3 B.routers.length q3) (.slice a8 B.data.length q8)) := (HO1.out.keep ((Touch.refl _ _).drew)).set2
  have HKt1 : Hid (Kept (but X1 g) w1 (w1.drew.setCell ⟨g, 2, none⟩ (.int .u32 0))) := (Kept.of ((Touch.refl _ _).drew)).trans (Kept.store _ _ _)
  have HCt1 : Hid ((w1.drew.setCell ⟨g, 2, none⟩ (.int .u32 0)).cell? ⟨g1, 0, none⟩ = some (.pointer (some ⟨b, 0, none⟩))) := HKt1.out.cell y1 ⟨XM.out, hne⟩
  go_region_held2 (fun w' => w'.cell? ⟨g1, 0, none⟩ = some (.pointer (some ⟨b, 0, none⟩))) (first | with_reducible exact y1d | with_reducible exact yx1 | with_reducible exact y2) (first
    | (go_at_call 131; refine Calls.mono (take_u32 g 2 B.mask _ d1 f1) ?_; rintro e wx1 ⟨rfl, hwx⟩; have yx1 : wx1.cell? ⟨g1, 0, none⟩ = some (.pointer (some ⟨b, 0, none⟩)) := hwx ▸ HCt1.out; have HWx : Hid (Wr X1 wx1 b L most) := hwx ▸ HWt1; have HOx : Hid (OutB wx1 g { B with mask := 0 } (.slice a1 B.links.length q1) (.slice a3 B.routers.length q3) (.slice a8 B.data.length q8)) := hwx ▸ HOt1; have HKx : Hid (Kept (but X1 g) w1 wx1) := hwx ▸ HKt1; clear hwx)
    | (go_at_call 130; refine Calls.mono (wmask_any X1 b L most B.mask _ HWx.out hm OK.out.m.1 OK.out.m.2) ?_; rintro e w2 (⟨rfl, hp, hw2, k2⟩ | ⟨rfl, hp, k2⟩); rotate_left; exact ⟨rfl, wr_flaw HK1.out (HKx.out.trans (k2.but g)) XX.out (may_mask_no hp)⟩; have HP1 : Hid (pbok B.mask = true) := hp; clear hp; have y2 : w2.cell? ⟨g1, 0, none⟩ = some (.pointer (some ⟨b, 0, none⟩)) := k2.cell yx1 XM.out; have HW2 : Hid (Wr X1 w2 b (L ++ numBytes 4 B.mask) most) := hw2; have HO2 : Hid (OutB w2 g { B with mask := 0 } (.slice a1 B.links.length q1) (.slice a3 B.routers.length q3) (.slice a8 B.data.length q8)) := HOx.out.kept k2 XG.out; have HK2 : Hid (Kept (but X1 g) w w2) := HK1.out.trans (HKx.out.trans (k2.but g)); clear hw2 k2))
  first | refine (‹∀ (a : Act) (w_1 : World), Code.wp Tryz.prog _ _ a w_1 → _›) _ _ ?_ | skip
  clear d1 f1 y1d HWt1 HOt1 HKt1 HCt1 yx1 HWx HOx HKx HW1 HO1 HK1 y1
  have d2 : w2.cell? ⟨g, 3, none⟩ = some (.slice a3 B.routers.length q3) := HO2.out.bd.c3
  have f2 : w2.frozen? ⟨g, 3, none⟩ = false := HO2.out.fz 3 (by omega)
  have HW3 : Hid (Wr X1 (w2.setCell ⟨g, 3, none⟩ (.slice none 0 0)) b (L ++ numBytes 4 B.mask) most) := HW2.out.store XG.out _ _
  have HO3 : Hid (OutB (w2.setCell ⟨g, 3, none⟩ (.slice none 0 0)) g { { B with mask := 0 } with routers := [] } (.slice a1 B.links.length q1) (.slice none 0 0) (.slice a8 B.data.length q8)) := HO2.out.set3
  have HK3 : Hid (Kept (but X1 g) w (w2.setCell ⟨g, 3, none⟩ (.slice none 0 0))) := HK2.out.trans (Kept.store _ _ _)
  have y3 : (w2.setCell ⟨g, 3, none⟩ (.slice none 0 0)).cell? ⟨g1, 0, none⟩ = some (.pointer (some ⟨b, 0, none⟩)) := (Kept.store (X := X1) g 3 (.slice none 0 0)).cell y2 ⟨XM.out, hne⟩
  go_wp2_with fail
  refine Calls.mono (take_words g 3 a3 B.routers.length q3 _ d2 f2) ?_
  rintro e w3 ⟨rfl, rfl⟩
  clear d2 f2 HW2 HO2 HK2 y2
  generalize w2.setCell ⟨g, 3, none⟩ (.slice none 0 0) = w3 at *
  by_cases h0 : 0 < B.routers.length
  rotate_left
  · have h0' : ¬ (0 : Int) < (B.routers.length : Int) := by omega
    go_wp2_with fail
    refine Calls.mono (need_f _ 28 _ (by first | rfl | exact decide_eq_false h0' | exact decide_eq_false h0)) ?_
    rintro e wn ⟨rfl, rfl⟩
    exact ⟨rfl, wr_flaw HK3.out (Kept.refl _ _) XX.out (may2_no h0)⟩
  have h0' : (0 : Int) < (B.routers.length : Int) := by omega
  have H0 : Hid (0 < B.routers.length) := h0
  go_wp2_with fail
  refine Calls.mono (need_t _ 28 _ (by first | rfl | exact decide_eq_true h0' | exact decide_eq_true h0)) ?_
  rintro e wn ⟨rfl, rfl⟩
  clear h0' h0
  have REL : Hid (NetW X1 w b g g1 (L ++ numBytes 4 B.mask) most B.routers { { B with mask := 0 } with routers := [] } (.slice a1 B.links.length q1) (.slice none 0 0) (.slice a8 B.data.length q8) B.routers.length (.int .i64 0) w3) := ⟨0, Nat.zero_le _, by omega, rfl, by simpa [routersB] using HW3.out, HO3.out, y3, HK3.out⟩
  clear HW3 HO3 HK3 y3
  go_wp2_with fail
  go_loopg [23] B.routers.length (fun k i wx => NetW X1 w b g g1 (L ++ numBytes 4 B.mask) most B.routers { { B with mask := 0 } with routers := [] } (.slice a1 B.links.length q1) (.slice none 0 0) (.slice a8 B.data.length q8) k i wx)
  case atStart => exact REL.out
  case round =>
    clear REL
    obtain ⟨k, hk, hgk, rfl, hw3, ho3, y3, hk3⟩ := hrel.out
    have HW3 : Hid (Wr X1 wr b ((L ++ numBytes 4 B.mask) ++ routersB (B.routers.take k)) most) := hw3
    have HO3 : Hid (OutB wr g { { B with mask := 0 } with routers := [] } (.slice a1 B.links.length q1) (.slice none 0 0) (.slice a8 B.data.length q8)) := ho3
    have HK3 : Hid (Kept (but X1 g) w wr) := hk3
    clear hw3 ho3 hk3
    by_cases hlt : k < B.routers.length
    · have hlt' : (k : Int) < (B.routers.length : Int) := by omega
      have hk0 : (0 : Int) ≤ (k : Int) := by omega
      obtain ⟨x, hx⟩ : ∃ x, B.routers[k]? = some x := ⟨B.routers[k], by simp [hlt]⟩
      obtain ⟨gR, off, cR, eR, hc1, hc2, hcell⟩ := ValsAt.cells (HA.out wr (HK3.out.less (fun k _ h => ⟨XX.out k h.1, h.2⟩))) (by omega) (by omega)
      cases eR
      have hc := hcell k (.int .u32 x) (by simp [wordsC, hx])
      have hxr := OK.out.r x (List.mem_of_getElem? hx)
      have HX : Hid (B.routers.take (k + 1) = B.routers.take k ++ [x]) := by show _ = _; rw [List.take_add_one, hx]; rfl
      have hkw : wrap64 ((k : Int) + 1) = (k : Int) + 1 := by unfold wrap64; unfold maxLen at hc2; omega
      clear hcell hx
      go_wp2_with fail
      refine Calls.mono (number_w4 X1 b _ most x _ HW3.out hm hxr) ?_
      rintro e w4 ⟨rfl, hw4, k4⟩
      have y4 := k4.cell (p := ⟨g1, 0, none⟩) (v := .pointer (some ⟨b, 0, none⟩)) y3 XM.out
      have HW4 : Hid (Wr X1 w4 b ((L ++ numBytes 4 B.mask) ++ routersB (B.routers.take k) ++ numBytes 4 x) most) := hw4
      have HO4 : Hid (OutB w4 g { { B with mask := 0 } with routers := [] } (.slice a1 B.links.length q1) (.slice none 0 0) (.slice a8 B.data.length q8)) := HO3.out.kept k4 XG.out
      have HK4 : Hid (Kept (but X1 g) w w4) := HK3.out.trans (k4.but g)
      clear hw4 k4 y3 HW3 HO3 HK3 hc
      go_wp2_with fail
      go_roundg (B.routers.length - (k + 1))
      case measure => omega
      case rel =>
        refine ⟨k + 1, by omega, by omega, by go_num, ?_, HO4.out, y4, HK4.out⟩
        rw [HX.out, routersB_snoc]
        simpa [List.append_assoc] using HW4.out
    · obtain rfl : k = B.routers.length := by omega
      have HW5 : Hid (Wr X1 wr b ((L ++ numBytes 4 B.mask) ++ routersB B.routers) most) := by have := HW3.out; rwa [List.take_length] at this
      clear HW3
      go_wp2_with fail
      go_end0
      exact wr_good (l := numBytes 4 B.mask ++ routersB B.routers) (by have := HW5.out.less XX.out; simpa [List.append_assoc] using this) HO3.out (HK3.out.less (Y := but X g) (fun k _ h => ⟨XX.out k h.1, h.2⟩)) (may2 HP1.out H0.out) (fun _ => (lay2 B).symm)
end Go.Proofs.YthdkihnmeoacaaaGreatDoor

namespace Go.Proofs.YthdkihnmeoacaaaGreatDoor
open Go.RowKit
set_option linter.unusedVariables false
set_option maxRecDepth 100000

/-- A writer while a link is laid: the link lies in block gl. -/
structure LnkA (X1 : Nat → Prop) (w0 : World) (b g1 gl : Nat) (x : LV) (most : Int) (wx : World) (L : List Int) : Prop where
  wr : Wr X1 wx b L most
  k : Kept X1 w0 wx
  c : wx.cell? ⟨g1, 0, none⟩ = some (.pointer (some ⟨b, 0, none⟩)) ∧ wx.cell? ⟨gl, 0, none⟩ = some (.int .u32 x.id) ∧ wx.cell? ⟨gl, 1, none⟩ = some (.int .u32 x.data) ∧ wx.cell? ⟨gl, 2, none⟩ = some (.int .u8 x.typ) ∧ wx.cell? ⟨gl, 3, none⟩ = some (.int .u16 x.cost)
  m1 : X1 g1
  ml : X1 gl
/-- .. and two bytes lie ready in block gs. -/
structure LnkB (X1 : Nat → Prop) (w0 : World) (b g1 gl : Nat) (x : LV) (most : Int) (gs : Nat) (wx : World) (L : List Int) : Prop where
  wr : ∃ X : Nat → Prop, (∀ k, X1 k → X k) ∧ X gs ∧ Wr X wx b L most
  k : Kept X1 w0 wx
  c : wx.cell? ⟨g1, 0, none⟩ = some (.pointer (some ⟨b, 0, none⟩)) ∧ wx.cell? ⟨gl, 0, none⟩ = some (.int .u32 x.id) ∧ wx.cell? ⟨gl, 1, none⟩ = some (.int .u32 x.data) ∧ wx.cell? ⟨gl, 2, none⟩ = some (.int .u8 x.typ) ∧ wx.cell? ⟨gl, 3, none⟩ = some (.int .u16 x.cost)
  s0 : wx.cell? ⟨gs, 0, none⟩ = some (.int .u8 x.typ)
  s1 : wx.cell? ⟨gs, 1, none⟩ = some (.int .u8 0)
  m1 : X1 g1
  ml : X1 gl
theorem lnk_cells {X1 : Nat → Prop} {wx w' : World} {b g1 gl : Nat} {x : LV} (c : wx.cell? ⟨g1, 0, none⟩ = some (.pointer (some ⟨b, 0, none⟩)) ∧ wx.cell? ⟨gl, 0, none⟩ = some (.int .u32 x.id) ∧ wx.cell? ⟨gl, 1, none⟩ = some (.int .u32 x.data) ∧ wx.cell? ⟨gl, 2, none⟩ = some (.int .u8 x.typ) ∧ wx.cell? ⟨gl, 3, none⟩ = some (.int .u16 x.cost)) (k : Kept X1 wx w') (m1 : X1 g1) (ml : X1 gl) : w'.cell? ⟨g1, 0, none⟩ = some (.pointer (some ⟨b, 0, none⟩)) ∧ w'.cell? ⟨gl, 0, none⟩ = some (.int .u32 x.id) ∧ w'.cell? ⟨gl, 1, none⟩ = some (.int .u32 x.data) ∧ w'.cell? ⟨gl, 2, none⟩ = some (.int .u8 x.typ) ∧ w'.cell? ⟨gl, 3, none⟩ = some (.int .u16 x.cost) := by
  obtain ⟨c0, c1, c2, c3, c4⟩ := c
  exact ⟨k.cell c0 m1, k.cell c1 ml, k.cell c2 ml, k.cell c3 ml, k.cell c4 ml⟩
theorem LnkA.two {X1 : Nat → Prop} {w0 : World} {b g1 gl : Nat} {x : LV} {most : Int} {wx : World} {L : List Int} (h : LnkA X1 w0 b g1 gl x most wx L) : LnkB X1 w0 b g1 gl x most wx.heap.size (wx.alloc (.cells #[.int .u8 x.typ, .int .u8 0] 5)) L := by
  have t : Touch (fun _ => False) wx (wx.alloc (.cells #[.int .u8 x.typ, .int .u8 0] 5)) := (Touch.refl _ _).alloc _
  exact ⟨⟨fun k => X1 k ∨ k = wx.heap.size, fun k hk => Or.inl hk, Or.inr rfl, h.wr.more t (fun k hk => by rcases hk with hk | hk; exact Or.inl hk; exact Or.inr ⟨by omega, by simp; omega⟩)⟩, h.k.trans (Kept.of t), lnk_cells h.c (X1 := X1) (Kept.of t) h.m1 h.ml, by simp [go_sem], by simp [go_sem], h.m1, h.ml⟩
theorem LnkA.drew {X1 : Nat → Prop} {w0 : World} {b g1 gl : Nat} {x : LV} {most : Int} {wx : World} {L : List Int} (h : LnkA X1 w0 b g1 gl x most wx L) : LnkA X1 w0 b g1 gl x most wx.drew L :=
  ⟨h.wr.keep ((Touch.refl _ _).drew), h.k.trans (Kept.of ((Touch.refl _ _).drew)), h.c, h.m1, h.ml⟩
theorem LnkB.drew {X1 : Nat → Prop} {w0 : World} {b g1 gl gs : Nat} {x : LV} {most : Int} {wx : World} {L : List Int} (h : LnkB X1 w0 b g1 gl x most gs wx L) : LnkB X1 w0 b g1 gl x most gs wx.drew L := by
  obtain ⟨X, h1, h2, h3⟩ := h.wr
  exact ⟨⟨X, h1, h2, h3.keep ((Touch.refl _ _).drew)⟩, h.k.trans (Kept.of ((Touch.refl _ _).drew)), h.c, h.s0, h.s1, h.m1, h.ml⟩
theorem lnkA_num (n : Int) (hn : n = 1 ∨ n = 2 ∨ n = 3 ∨ n = 4) {X1 : Nat → Prop} {w0 : World} {b g1 gl : Nat} {x : LV} {most : Int} {wx : World} {L : List Int} (v : Int) (hm : most ≤ 1048576) (hv : 0 ≤ v ∧ v < 256 ^ n.toNat) (h : LnkA X1 w0 b g1 gl x most wx L) :
    Calls Tryz.prog 105 #[.pointer (some ⟨b, 0, none⟩), .int .u32 v, .int .i64 n] wx fun e w' => e = .returned (.pointer (some ⟨b, 0, none⟩)) ∧ LnkA X1 w0 b g1 gl x most w' (L ++ numBytes n.toNat v) := by
  have C : Calls Tryz.prog 105 #[.pointer (some ⟨b, 0, none⟩), .int .u32 v, .int .i64 n] wx fun e w' => e = .returned (.pointer (some ⟨b, 0, none⟩)) ∧ Wr X1 w' b (L ++ numBytes n.toNat v) most ∧ Kept X1 wx w' := by
    rcases hn with rfl | rfl | rfl | rfl
    · exact number_w1 X1 b L most v wx h.wr hm hv
    · exact number_w2 X1 b L most v wx h.wr hm hv
    · exact number_w3 X1 b L most v wx h.wr hm hv
    · exact number_w4 X1 b L most v wx h.wr hm hv
  refine C.mono ?_
  rintro e w' ⟨rfl, h2, k2⟩
  exact ⟨rfl, h2, h.k.trans k2, lnk_cells h.c k2 h.m1 h.ml, h.m1, h.ml⟩
theorem lnkB_num (n : Int) (hn : n = 1 ∨ n = 2 ∨ n = 3 ∨ n = 4) {X1 : Nat → Prop} {w0 : World} {b g1 gl gs : Nat} {x : LV} {most : Int} {wx : World} {L : List Int} (v : Int) (hm : most ≤ 1048576) (hv : 0 ≤ v ∧ v < 256 ^ n.toNat) (h : LnkB X1 w0 b g1 gl x most gs wx L) :
    Calls Tryz.prog 105 #[.pointer (some ⟨b, 0, none⟩), .int .u32 v, .int .i64 n] wx fun e w' => e = .returned (.pointer (some ⟨b, 0, none⟩)) ∧ LnkB X1 w0 b g1 gl x most gs w' (L ++ numBytes n.toNat v) := by
  obtain ⟨X, h1, h2, h3⟩ := h.wr
  have C : Calls Tryz.prog 105 #[.pointer (some ⟨b, 0, none⟩), .int .u32 v, .int .i64 n] wx fun e w' => e = .returned (.pointer (some ⟨b, 0, none⟩)) ∧ Wr X w' b (L ++ numBytes n.toNat v) most ∧ Kept X wx w' := by
    rcases hn with rfl | rfl | rfl | rfl
    · exact number_w1 X b L most v wx h3 hm hv
    · exact number_w2 X b L most v wx h3 hm hv
    · exact number_w3 X b L most v wx h3 hm hv
    · exact number_w4 X b L most v wx h3 hm hv
  refine C.mono ?_
  rintro e w' ⟨rfl, hw, k2⟩
  have k1 : Kept X1 wx w' := k2.less (fun k _ hk => h1 k hk)
  exact ⟨rfl, ⟨X, h1, h2, hw⟩, h.k.trans k1, lnk_cells h.c k1 h.m1 h.ml, k2.cell h.s0 h2, k2.cell h.s1 h2, h.m1, h.ml⟩
theorem lnkB_put {X1 : Nat → Prop} {w0 : World} {b g1 gl gs : Nat} {x : LV} {most : Int} {wx : World} {L : List Int} (hm : most ≤ 1048576) (h : LnkB X1 w0 b g1 gl x most gs wx L) :
    Calls Tryz.prog 84 #[.pointer (some ⟨b, 0, none⟩), .slice (some ⟨gs, 0, none⟩) 2 2] wx fun e w' => e = .returned (.pointer (some ⟨b, 0, none⟩)) ∧ LnkA X1 w0 b g1 gl x most w' (L ++ [x.typ, 0]) := by
  obtain ⟨X, h1, h2, h3⟩ := h.wr
  refine (put_some X b L most ⟨gs, 0, none⟩ 2 [x.typ, 0] wx h3 hm (fun j u hj => ?_) (by simp)).mono ?_
  · rw [add_plain]
    match j, hj with
    | 0, hj => simp [bytesOf] at hj; subst hj; exact h.s0
    | 1, hj => simp [bytesOf] at hj; subst hj; exact h.s1
    | j + 2, hj => simp [bytesOf] at hj
  · rintro e w' ⟨rfl, hw, k2⟩
    have k1 : Kept X1 wx w' := k2.less (fun k _ hk => h1 k hk)
    exact ⟨rfl, hw.less h1, h.k.trans k1, lnk_cells h.c k1 h.m1 h.ml, h.m1, h.ml⟩
set_option maxHeartbeats 2000000 in
theorem wlink_any (X : Nat → Prop) (b : Nat) (L : List Int) (most : Int) (x : LV) (ok : x.Ok) (w : World) (hw : Wr X w b L most) (hm : most ≤ 1048576) :
    Calls Tryz.prog 141 #[.agg #[.pointer (some ⟨b, 0, none⟩)], .agg #[.int .u32 x.id, .int .u32 x.data, .int .u8 x.typ, .int .u16 x.cost]] w fun e w' => (e = .returned (.tuple #[]) ∧ (1 ≤ x.typ ∧ x.typ ≤ 4) ∧ Wr X w' b (L ++ linkB x) most ∧ Kept X w w') ∨ (e = .panicked (flawC 28) ∧ ¬ (1 ≤ x.typ ∧ x.typ ≤ 4) ∧ Kept X w w') := by
  have OK : Hid x.Ok := ok
  have HIL := isLink_any x
  have hwc : IntKind.u32.wrap x.cost = x.cost := by have := ok.c; simp [IntKind.wrap, IntKind.bits, IntKind.signed]; omega
  have t0 : Touch (fun _ => False) w ((w.alloc (.cells #[.pointer (some ⟨b, 0, none⟩)] 112)).alloc (.cells #[.int .u32 x.id, .int .u32 x.data, .int .u8 x.typ, .int .u16 x.cost] 120)) := ((Touch.refl _ w).alloc _).alloc _
  obtain ⟨X1, hX1⟩ : ∃ X1 : Nat → Prop, X1 = fun k => X k ∨ k = w.heap.size ∨ k = w.heap.size + 1 := ⟨_, rfl⟩
  have XX : Hid (∀ k, X k → X1 k) := by show ∀ k, _; rw [hX1]; exact fun k hk => Or.inl hk
  have hA : LnkA X1 ((w.alloc (.cells #[.pointer (some ⟨b, 0, none⟩)] 112)).alloc (.cells #[.int .u32 x.id, .int .u32 x.data, .int .u8 x.typ, .int .u16 x.cost] 120)) b w.heap.size (w.heap.size + 1) x most ((w.alloc (.cells #[.pointer (some ⟨b, 0, none⟩)] 112)).alloc (.cells #[.int .u32 x.id, .int .u32 x.data, .int .u8 x.typ, .int .u16 x.cost] 120)) L :=
    ⟨hw.more t0 (fun k hk => by rw [hX1] at hk; rcases hk with hk | hk | hk; exact Or.inl hk; exact Or.inr ⟨by omega, by simp; omega⟩; exact Or.inr ⟨by omega, by simp; omega⟩), Kept.refl _ _, by simp [go_sem], by rw [hX1]; exact Or.inr (Or.inl rfl), by rw [hX1]; exact Or.inr (Or.inr rfl)⟩
  have HT0 : Hid (Touch (fun _ => False) w ((w.alloc (.cells #[.pointer (some ⟨b, 0, none⟩)] 112)).alloc (.cells #[.int .u32 x.id, .int .u32 x.data, .int .u8 x.typ, .int .u16 x.cost] 120))) := t0
  clear hX1 hw t0 ok
  go_enter Tryz.func141, Tryz.ntmps141
  go_upto_region 1 with fail
  generalize ((w.alloc (.cells #[.pointer (some ⟨b, 0, none⟩)] 112)).alloc (.cells #[.int .u32 x.id, .int .u32 x.data, .int .u8 x.typ, .int .u16 x.cost] 120)) = w2 at *
  generalize w.heap.size + 1 = gl at *
  generalize w.heap.size = g1 at *
  obtain ⟨c0, c1, c2, c3, c4⟩ := hA.c
  go_wp2_with fail
  refine Calls.mono (HIL _) ?_
  rintro e w3 ⟨rfl, t3⟩
  have A3 : LnkA X1 w2 b g1 gl x most w3 L := ⟨hA.wr.keep t3, Kept.of t3, lnk_cells hA.c (X1 := X1) (Kept.of t3) hA.m1 hA.ml, hA.m1, hA.ml⟩
  clear HIL t3 c0 c1 c2 c3 c4 hA
  by_cases ht : 1 ≤ x.typ ∧ x.typ ≤ 4
  rotate_left
  · have hdt : (decide (1 ≤ x.typ) && decide (x.typ ≤ 4)) = false := by simpa using ht
    go_wp2_with fail
    refine Calls.mono (need_f _ 28 _ (by first | rfl | exact hdt)) ?_
    rintro e w4 ⟨rfl, rfl⟩
    exact ⟨rfl, Or.inr ⟨rfl, ht, ((Kept.of HT0.out).trans A3.k).less (fun k _ hk => XX.out k hk)⟩⟩
  have hdt : (decide (1 ≤ x.typ) && decide (x.typ ≤ 4)) = true := by simpa using ht
  have HTY : Hid (1 ≤ x.typ ∧ x.typ ≤ 4) := ht
  clear ht
  go_upto_region 2 with (go_at_call 70; refine Calls.mono (need_t _ 28 _ (by first | rfl | exact hdt)) ?_; rintro e w4 ⟨rfl, rfl⟩)
  clear hdt
  have hI := OK.out.i
  have hD := OK.out.d
  have hC : 0 ≤ x.cost ∧ x.cost < 256 ^ (2 : Int).toNat := OK.out.c
  have A4 := A3.drew
  have B4 := A3.two.drew
  obtain ⟨e0, e1, e2, e3, e4⟩ := A4.c
  clear A3
  go_region_held3 (fun w' => w'.cell? ⟨g1, 0, none⟩ = some (.pointer (some ⟨b, 0, none⟩)) ∧ w'.cell? ⟨gl, 0, none⟩ = some (.int .u32 x.id) ∧ w'.cell? ⟨gl, 1, none⟩ = some (.int .u32 x.data) ∧ w'.cell? ⟨gl, 2, none⟩ = some (.int .u8 x.typ) ∧ w'.cell? ⟨gl, 3, none⟩ = some (.int .u16 x.cost)) (first | with_reducible exact ⟨e0, e1, e2, e3, e4⟩ | exact LnkA.c (by assumption) | exact LnkB.c (by assumption)) (first
    | (go_at_call 84; refine Calls.mono (lnkB_put hm (by assumption)) ?_; rintro e wp ⟨rfl, Ap⟩)
    | (go_at_call 105; refine Calls.mono (lnkA_num _ (by omega) _ hm (by first | exact hI | exact hD | exact hC) (by assumption)) ?_; rintro e wn ⟨rfl, An⟩; have Bn := An.two)
    | (go_at_call 105; refine Calls.mono (lnkB_num _ (by omega) _ hm (by first | exact hI | exact hD | exact hC) (by assumption)) ?_; rintro e wn ⟨rfl, Bn⟩))
  all_goals
    go_end0
    have e9 : Wr X _ b (L ++ numBytes 4 x.id ++ numBytes 4 x.data ++ [x.typ, 0] ++ numBytes 2 x.cost) most := (LnkA.wr (by assumption)).less XX.out
    have e8 := (LnkA.k (wx := _) (by assumption : LnkA X1 w2 b g1 gl x most _ (L ++ numBytes 4 x.id ++ numBytes 4 x.data ++ [x.typ, 0] ++ numBytes 2 x.cost)))
    exact Or.inl ⟨rfl, HTY.out, by simpa [linkB, List.append_assoc] using e9, ((Kept.of HT0.out).trans e8).less (fun k _ hk => XX.out k hk)⟩
end Go.Proofs.YthdkihnmeoacaaaGreatDoor
