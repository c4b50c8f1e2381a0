/- Contract: the writer of outers. -/
import Derived.Test.YthdkihnmeoacaaaGreatDoorStWriteAny
namespace Go.Proofs.YthdkihnmeoacaaaGreatDoor
open Go.RowKit
set_option linter.unusedVariables false
set_option maxRecDepth 100000

set_option maxHeartbeats 4000000 in
theorem wouter_any (t : Int) (ht : t = 5 ∨ t = 7) (X : Nat → Prop) (b g : Nat) (L : List Int) (most : Int) (B : BV) (a1 a3 a8 : Option Addr) (q1 q3 q8 : Nat) (ok : B.Ok) (w : World) (hw : Wr X w b L most) (hm : most ≤ 1048576) (hg : X g) (hB : OutB w g B (.slice a1 B.links.length q1) (.slice a3 B.routers.length q3) (.slice a8 B.data.length q8)) :
    Calls Tryz.prog 114 #[.agg #[.pointer (some ⟨b, 0, none⟩)], .pointer (some ⟨g, 0, none⟩)] w (WrPost t X b g L most B w) := by
  have OK : Hid B.Ok := ok
  have hgl := hB.lt
  go_enter Tryz.func114, Tryz.ntmps114
  obtain ⟨X1, hX1⟩ : ∃ X1 : Nat → Prop, X1 = fun k => X k ∨ k = w.heap.size := ⟨_, rfl⟩
  have XG : Hid (X1 g) := by show X1 g; rw [hX1]; exact Or.inl hg
  have XM : Hid (X1 w.heap.size) := by show X1 _; rw [hX1]; exact Or.inr rfl
  have XX : Hid (∀ k, X k → X1 k) := by show ∀ k, _; rw [hX1]; exact fun k hk => Or.inl hk
  have ta : Touch (fun _ => False) w (w.alloc (.cells #[.pointer (some ⟨b, 0, none⟩)] 112)) := (Touch.refl _ w).alloc _
  have HW1 : Hid (Wr X1 (w.alloc (.cells #[.pointer (some ⟨b, 0, none⟩)] 112)) b L most) := hw.more ta (fun k hk => by rw [hX1] at hk; rcases hk with hk | hk; exact Or.inl hk; exact Or.inr ⟨by omega, by simp; omega⟩)
  have HO1 : Hid (OutB (w.alloc (.cells #[.pointer (some ⟨b, 0, none⟩)] 112)) g B (.slice a1 B.links.length q1) (.slice a3 B.routers.length q3) (.slice a8 B.data.length q8)) := hB.keep ta
  have y1 : (w.alloc (.cells #[.pointer (some ⟨b, 0, none⟩)] 112)).cell? ⟨w.heap.size, 0, none⟩ = some (.pointer (some ⟨b, 0, none⟩)) := by simp [go_sem]
  have hne : ¬ w.heap.size = g := by omega
  have hne' : ¬ g = w.heap.size := by omega
  have HK1 : Hid (Kept (but X1 g) w (w.alloc (.cells #[.pointer (some ⟨b, 0, none⟩)] 112))) := Kept.of ta
  clear hX1 hw hB ta hgl ok
  go_upto_region 1 with fail
  generalize (w.alloc (.cells #[.pointer (some ⟨b, 0, none⟩)] 112)) = w1 at *
  generalize w.heap.size = g1 at *
  have d1 : w1.drew.cell? ⟨g, 2, none⟩ = some (.int .u32 B.mask) := HO1.out.bd.c2
  have f1 : w1.drew.frozen? ⟨g, 2, none⟩ = false := HO1.out.fz 2 (by omega)
  have y1d : w1.drew.cell? ⟨g1, 0, none⟩ = some (.pointer (some ⟨b, 0, none⟩)) := y1
  have HWt1 : Hid (Wr X1 (w1.drew.setCell ⟨g, 2, none⟩ (.int .u32 0)) b L most) := (HW1.out.keep ((Touch.refl _ _).drew)).store XG.out _ _
  have HOt1 : Hid (OutB (w1.drew.setCell ⟨g, 2, none⟩ (.int .u32 0)) g { B with mask := 0 } (.slice a1 B.links.length q1) (.slice a3 B.routers.length q3) (.slice a8 B.data.length q8)) := (HO1.out.keep ((Touch.refl _ _).drew)).set2
  have HKt1 : Hid (Kept (but X1 g) w1 (w1.drew.setCell ⟨g, 2, none⟩ (.int .u32 0))) := (Kept.of ((Touch.refl _ _).drew)).trans (Kept.store _ _ _)
  have HCt1 : Hid ((w1.drew.setCell ⟨g, 2, none⟩ (.int .u32 0)).cell? ⟨g1, 0, none⟩ = some (.pointer (some ⟨b, 0, none⟩))) := HKt1.out.cell y1 ⟨XM.out, hne⟩
  go_region_held2 (fun w' => w'.cell? ⟨g1, 0, none⟩ = some (.pointer (some ⟨b, 0, none⟩))) (first | with_reducible exact y1d | with_reducible exact yx1 | with_reducible exact y2) (first
    | (go_at_call 131; refine Calls.mono (take_u32 g 2 B.mask _ d1 f1) ?_; rintro e wx1 ⟨rfl, hwx⟩; have yx1 : wx1.cell? ⟨g1, 0, none⟩ = some (.pointer (some ⟨b, 0, none⟩)) := hwx ▸ HCt1.out; have HWx : Hid (Wr X1 wx1 b L most) := hwx ▸ HWt1; have HOx : Hid (OutB wx1 g { B with mask := 0 } (.slice a1 B.links.length q1) (.slice a3 B.routers.length q3) (.slice a8 B.data.length q8)) := hwx ▸ HOt1; have HKx : Hid (Kept (but X1 g) w1 wx1) := hwx ▸ HKt1; clear hwx)
    | (go_at_call 130; refine Calls.mono (wmask_any X1 b L most B.mask _ HWx.out hm OK.out.m.1 OK.out.m.2) ?_; rintro e w2 (⟨rfl, hp, hw2, k2⟩ | ⟨rfl, hp, k2⟩); rotate_left; exact ⟨rfl, wr_flaw HK1.out (HKx.out.trans (k2.but g)) XX.out (may_mask_no hp)⟩; have HP1 : Hid (pbok B.mask = true) := hp; clear hp; have y2 : w2.cell? ⟨g1, 0, none⟩ = some (.pointer (some ⟨b, 0, none⟩)) := k2.cell yx1 XM.out; have HW2 : Hid (Wr X1 w2 b (L ++ numBytes 4 B.mask) most) := hw2; have HO2 : Hid (OutB w2 g { B with mask := 0 } (.slice a1 B.links.length q1) (.slice a3 B.routers.length q3) (.slice a8 B.data.length q8)) := HOx.out.kept k2 XG.out; have HK2 : Hid (Kept (but X1 g) w w2) := HK1.out.trans (HKx.out.trans (k2.but g)); clear hw2 k2))
  first | refine (‹∀ (a : Act) (w_1 : World), Code.wp Tryz.prog _ _ a w_1 → _›) _ _ ?_ | skip
  clear d1 f1 y1d HWt1 HOt1 HKt1 HCt1 yx1 HWx HOx HKx HW1 HO1 HK1 y1
  have HT : Hid (B.type2 = true ∨ B.type2 = false) := by show _ ∨ _; cases B.type2 <;> simp
  rcases HT.out with hT | hT
  · have HT2 : Hid (B.type2 = true) := hT
    clear hT HT
    have d2 : w2.cell? ⟨g, 5, none⟩ = some (.bool true) := HT2.out ▸ HO2.out.bd.c5
    have f2 : w2.frozen? ⟨g, 5, none⟩ = false := HO2.out.fz 5 (by omega)
    have HW3 : Hid (Wr X1 (w2.setCell ⟨g, 5, none⟩ (.bool false)) b (L ++ numBytes 4 B.mask) most) := HW2.out.store XG.out _ _
    have HO3 : Hid (OutB (w2.setCell ⟨g, 5, none⟩ (.bool false)) g { { B with mask := 0 } with type2 := false } (.slice a1 B.links.length q1) (.slice a3 B.routers.length q3) (.slice a8 B.data.length q8)) := HO2.out.set5
    have HK3 : Hid (Kept (but X1 g) w (w2.setCell ⟨g, 5, none⟩ (.bool false))) := HK2.out.trans (Kept.store _ _ _)
    have y3 : (w2.setCell ⟨g, 5, none⟩ (.bool false)).cell? ⟨g1, 0, none⟩ = some (.pointer (some ⟨b, 0, none⟩)) := (Kept.store (X := X1) g 5 (.bool false)).cell y2 ⟨XM.out, hne⟩
    go_wp2_with fail
    refine Calls.mono (take_bool g 5 true _ d2 f2) ?_
    rintro e w3 ⟨rfl, rfl⟩
    clear d2 f2 HW2 HO2 HK2 y2
    generalize w2.setCell ⟨g, 5, none⟩ (.bool false) = w3 at *
    go_wp2_with fail
    refine Calls.mono (put_some X1 b _ most ⟨w3.heap.size, 0, none⟩ 1 [128] _ (HW3.out.keep ((Touch.refl _ _).alloc _)) hm (src_new _ _ _ _ _ (by simp [bytesOf])) (by simp)) ?_
    rintro e w4 ⟨rfl, hw2, k2⟩
    have ta3 : Touch (fun _ => False) w3 (w3.alloc (.cells #[.int .u8 128] 5)) := (Touch.refl _ _).alloc _
    have y4 := k2.cell (p := ⟨g1, 0, none⟩) (v := .pointer (some ⟨b, 0, none⟩)) (ta3.cellN y3) XM.out
    have HO4 : Hid (OutB w4 g { { B with mask := 0 } with type2 := false } (.slice a1 B.links.length q1) (.slice a3 B.routers.length q3) (.slice a8 B.data.length q8)) := (HO3.out.keep ta3).kept k2 XG.out
    have HK4 : Hid (Kept (but X1 g) w w4) := HK3.out.trans ((Kept.of ta3).trans (k2.but g))
    have HW4 : Hid (Wr X1 w4 b ((L ++ numBytes 4 B.mask) ++ [128]) most) := hw2
    clear ta3 k2 hw2 HO3 HK3 HW3 y3
    go_upto_region 6 with fail
    have d4 : w4.drew.cell? ⟨g, 4, none⟩ = some (.int .u32 B.metric) := HO4.out.bd.c4
    have f4 : w4.drew.frozen? ⟨g, 4, none⟩ = false := HO4.out.fz 4 (by omega)
    have y4d : w4.drew.cell? ⟨g1, 0, none⟩ = some (.pointer (some ⟨b, 0, none⟩)) := y4
    have HWt4 : Hid (Wr X1 (w4.drew.setCell ⟨g, 4, none⟩ (.int .u32 0)) b ((L ++ numBytes 4 B.mask) ++ [128]) most) := (HW4.out.keep ((Touch.refl _ _).drew)).store XG.out _ _
    have HOt4 : Hid (OutB (w4.drew.setCell ⟨g, 4, none⟩ (.int .u32 0)) g { { { B with mask := 0 } with type2 := false } with metric := 0 } (.slice a1 B.links.length q1) (.slice a3 B.routers.length q3) (.slice a8 B.data.length q8)) := (HO4.out.keep ((Touch.refl _ _).drew)).set4
    have HKt4 : Hid (Kept (but X1 g) w4 (w4.drew.setCell ⟨g, 4, none⟩ (.int .u32 0))) := (Kept.of ((Touch.refl _ _).drew)).trans (Kept.store _ _ _)
    have HCt4 : Hid ((w4.drew.setCell ⟨g, 4, none⟩ (.int .u32 0)).cell? ⟨g1, 0, none⟩ = some (.pointer (some ⟨b, 0, none⟩))) := HKt4.out.cell y4 ⟨XM.out, hne⟩
    go_region_held2 (fun w' => w'.cell? ⟨g1, 0, none⟩ = some (.pointer (some ⟨b, 0, none⟩))) (first | with_reducible exact y4d | with_reducible exact yx4 | with_reducible exact y5) (first
      | (go_at_call 131; refine Calls.mono (take_u32 g 4 B.metric _ d4 f4) ?_; rintro e wx4 ⟨rfl, hwx⟩; have yx4 : wx4.cell? ⟨g1, 0, none⟩ = some (.pointer (some ⟨b, 0, none⟩)) := hwx ▸ HCt4.out; have HWx : Hid (Wr X1 wx4 b ((L ++ numBytes 4 B.mask) ++ [128]) most) := hwx ▸ HWt4; have HOx : Hid (OutB wx4 g { { { B with mask := 0 } with type2 := false } with metric := 0 } (.slice a1 B.links.length q1) (.slice a3 B.routers.length q3) (.slice a8 B.data.length q8)) := hwx ▸ HOt4; have HKx : Hid (Kept (but X1 g) w4 wx4) := hwx ▸ HKt4; clear hwx)
      | (go_at_call 133; refine Calls.mono (wmetric_any X1 b ((L ++ numBytes 4 B.mask) ++ [128]) most B.metric _ HWx.out hm OK.out.e.1 OK.out.e.2) ?_; rintro e w5 (⟨rfl, hp, hw2, k2⟩ | ⟨rfl, hp, k2⟩); rotate_left; exact ⟨rfl, wr_flaw HK4.out (HKx.out.trans (k2.but g)) XX.out (may_metric_no hp)⟩; have HP4 : Hid (B.metric ≤ 16777215) := hp; clear hp; have y5 : w5.cell? ⟨g1, 0, none⟩ = some (.pointer (some ⟨b, 0, none⟩)) := k2.cell yx4 XM.out; have HW5 : Hid (Wr X1 w5 b (((L ++ numBytes 4 B.mask) ++ [128]) ++ numBytes 3 B.metric) most) := hw2; have HO5 : Hid (OutB w5 g { { { B with mask := 0 } with type2 := false } with metric := 0 } (.slice a1 B.links.length q1) (.slice a3 B.routers.length q3) (.slice a8 B.data.length q8)) := HOx.out.kept k2 XG.out; have HK5 : Hid (Kept (but X1 g) w w5) := HK4.out.trans (HKx.out.trans (k2.but g)); clear hw2 k2))
    first | refine (‹∀ (a : Act) (w_1 : World), Code.wp Tryz.prog _ _ a w_1 → _›) _ _ ?_ | skip
    clear d4 f4 y4d HWt4 HOt4 HKt4 HCt4 yx4 HWx HOx HKx HW4 HO4 HK4 y4
    go_upto_region 7 with fail
    have dF : w5.drew.cell? ⟨g, 6, none⟩ = some (.int .u32 B.fwd) := HO5.out.bd.c6
    have fF : w5.drew.frozen? ⟨g, 6, none⟩ = false := HO5.out.fz 6 (by omega)
    have y5d : w5.drew.cell? ⟨g1, 0, none⟩ = some (.pointer (some ⟨b, 0, none⟩)) := y5
    have HWt : Hid (Wr X1 (w5.drew.setCell ⟨g, 6, none⟩ (.int .u32 0)) b (((L ++ numBytes 4 B.mask) ++ [128]) ++ numBytes 3 B.metric) most) := (HW5.out.keep ((Touch.refl _ _).drew)).store XG.out _ _
    have HOt : Hid (OutB (w5.drew.setCell ⟨g, 6, none⟩ (.int .u32 0)) g { { { { B with mask := 0 } with type2 := false } with metric := 0 } with fwd := 0 } (.slice a1 B.links.length q1) (.slice a3 B.routers.length q3) (.slice a8 B.data.length q8)) := (HO5.out.keep ((Touch.refl _ _).drew)).set6
    have HKt : Hid (Kept (but X1 g) w5 (w5.drew.setCell ⟨g, 6, none⟩ (.int .u32 0))) := (Kept.of ((Touch.refl _ _).drew)).trans (Kept.store _ _ _)
    have HCt : Hid ((w5.drew.setCell ⟨g, 6, none⟩ (.int .u32 0)).cell? ⟨g1, 0, none⟩ = some (.pointer (some ⟨b, 0, none⟩))) := HKt.out.cell y5 ⟨XM.out, hne⟩
    go_region_held2 (fun w' => w'.cell? ⟨g1, 0, none⟩ = some (.pointer (some ⟨b, 0, none⟩))) (first | with_reducible exact y5d | with_reducible exact yx | with_reducible exact yv | with_reducible exact yz | with_reducible exact y6) (first
      | (go_at_call 105; have hgd := HWz; clear hgd; refine Calls.mono (number_w4 X1 b ((((L ++ numBytes 4 B.mask) ++ [128]) ++ numBytes 3 B.metric) ++ numBytes 4 B.fwd) most B.tag _ HWz.out hm OK.out.t) ?_; rintro e w6 ⟨rfl, hw2, k2⟩; have y6 : w6.cell? ⟨g1, 0, none⟩ = some (.pointer (some ⟨b, 0, none⟩)) := k2.cell yz XM.out; have HW6 : Hid (Wr X1 w6 b ((((L ++ numBytes 4 B.mask) ++ [128]) ++ numBytes 3 B.metric) ++ numBytes 4 B.fwd ++ numBytes 4 B.tag) most) := hw2; have HO6 : Hid (OutB w6 g { { { { { B with mask := 0 } with type2 := false } with metric := 0 } with fwd := 0 } with tag := 0 } (.slice a1 B.links.length q1) (.slice a3 B.routers.length q3) (.slice a8 B.data.length q8)) := HOz.out.kept k2 XG.out; have HK6 : Hid (Kept (but X1 g) w w6) := HKz.out.trans (k2.but g); clear hw2 k2)
      | (go_at_call 131; have hgd := dv; clear hgd; refine Calls.mono (take_u32 g 7 B.tag _ dv fv) ?_; rintro e wz ⟨rfl, hwz⟩; have yz : wz.cell? ⟨g1, 0, none⟩ = some (.pointer (some ⟨b, 0, none⟩)) := hwz ▸ HCv.out; have HWz : Hid (Wr X1 wz b ((((L ++ numBytes 4 B.mask) ++ [128]) ++ numBytes 3 B.metric) ++ numBytes 4 B.fwd) most) := hwz ▸ HWvt; have HOz : Hid (OutB wz g { { { { { B with mask := 0 } with type2 := false } with metric := 0 } with fwd := 0 } with tag := 0 } (.slice a1 B.links.length q1) (.slice a3 B.routers.length q3) (.slice a8 B.data.length q8)) := hwz ▸ HOvt; have HKz : Hid (Kept (but X1 g) w wz) := hwz ▸ HKvt; clear hwz)
      | (go_at_call 105; refine Calls.mono (number_w4 X1 b (((L ++ numBytes 4 B.mask) ++ [128]) ++ numBytes 3 B.metric) most B.fwd _ HWx.out hm OK.out.w) ?_; rintro e wv ⟨rfl, hw2, k2⟩; have yv : wv.cell? ⟨g1, 0, none⟩ = some (.pointer (some ⟨b, 0, none⟩)) := k2.cell yx XM.out; have HWv : Hid (Wr X1 wv b ((((L ++ numBytes 4 B.mask) ++ [128]) ++ numBytes 3 B.metric) ++ numBytes 4 B.fwd) most) := hw2; have HOv : Hid (OutB wv g { { { { B with mask := 0 } with type2 := false } with metric := 0 } with fwd := 0 } (.slice a1 B.links.length q1) (.slice a3 B.routers.length q3) (.slice a8 B.data.length q8)) := HOx.out.kept k2 XG.out; have HKv : Hid (Kept (but X1 g) w wv) := HKx.out.trans (k2.but g); have dv : wv.cell? ⟨g, 7, none⟩ = some (.int .u32 B.tag) := HOv.out.bd.c7; have fv : wv.frozen? ⟨g, 7, none⟩ = false := HOv.out.fz 7 (by omega); have HWvt : Hid (Wr X1 (wv.setCell ⟨g, 7, none⟩ (.int .u32 0)) b ((((L ++ numBytes 4 B.mask) ++ [128]) ++ numBytes 3 B.metric) ++ numBytes 4 B.fwd) most) := HWv.out.store XG.out _ _; have HOvt : Hid (OutB (wv.setCell ⟨g, 7, none⟩ (.int .u32 0)) g { { { { { B with mask := 0 } with type2 := false } with metric := 0 } with fwd := 0 } with tag := 0 } (.slice a1 B.links.length q1) (.slice a3 B.routers.length q3) (.slice a8 B.data.length q8)) := HOv.out.set7; have HKvt : Hid (Kept (but X1 g) w (wv.setCell ⟨g, 7, none⟩ (.int .u32 0))) := HKv.out.trans (Kept.store _ _ _); have HCv : Hid ((wv.setCell ⟨g, 7, none⟩ (.int .u32 0)).cell? ⟨g1, 0, none⟩ = some (.pointer (some ⟨b, 0, none⟩))) := (Kept.store (X := X1) g 7 (.int .u32 0)).cell yv ⟨XM.out, hne⟩; clear hw2 k2)
      | (go_at_call 131; refine Calls.mono (take_u32 g 6 B.fwd _ dF fF) ?_; rintro e wx ⟨rfl, hwx⟩; have yx : wx.cell? ⟨g1, 0, none⟩ = some (.pointer (some ⟨b, 0, none⟩)) := hwx ▸ HCt.out; have HWx : Hid (Wr X1 wx b (((L ++ numBytes 4 B.mask) ++ [128]) ++ numBytes 3 B.metric) most) := hwx ▸ HWt; have HOx : Hid (OutB wx g { { { { B with mask := 0 } with type2 := false } with metric := 0 } with fwd := 0 } (.slice a1 B.links.length q1) (.slice a3 B.routers.length q3) (.slice a8 B.data.length q8)) := hwx ▸ HOt; have HKx : Hid (Kept (but X1 g) w wx) := HK5.out.trans (hwx ▸ HKt.out); clear hwx))
    go_end0
    have e1 : bareB { { { { { B with mask := 0 } with type2 := false } with metric := 0 } with fwd := 0 } with tag := 0 } = mayB t B := may5 ht HP1.out HP4.out
    have e2 : mayB t B = true → numBytes 4 B.mask ++ [128] ++ numBytes 3 B.metric ++ numBytes 4 B.fwd ++ numBytes 4 B.tag = layB t B := fun _ => by rw [lay5 ht OK.out.e.1 HP4.out, HT2.out]; rfl
    have e3 : Wr X w6 b (L ++ (numBytes 4 B.mask ++ [128] ++ numBytes 3 B.metric ++ numBytes 4 B.fwd ++ numBytes 4 B.tag)) most := by
      have := HW6.out.less XX.out
      simpa [List.append_assoc] using this
    have e4 := HK6.out.less (Y := but X g) (fun k _ h => ⟨XX.out k h.1, h.2⟩)
    have e5 := HO6.out
    exact wr_good e3 e5 e4 e1 e2
  · have HT2 : Hid (B.type2 = false) := hT
    clear hT HT
    have d2 : w2.cell? ⟨g, 5, none⟩ = some (.bool false) := HT2.out ▸ HO2.out.bd.c5
    have f2 : w2.frozen? ⟨g, 5, none⟩ = false := HO2.out.fz 5 (by omega)
    have HW3 : Hid (Wr X1 (w2.setCell ⟨g, 5, none⟩ (.bool false)) b (L ++ numBytes 4 B.mask) most) := HW2.out.store XG.out _ _
    have HO3 : Hid (OutB (w2.setCell ⟨g, 5, none⟩ (.bool false)) g { { B with mask := 0 } with type2 := false } (.slice a1 B.links.length q1) (.slice a3 B.routers.length q3) (.slice a8 B.data.length q8)) := HO2.out.set5
    have HK3 : Hid (Kept (but X1 g) w (w2.setCell ⟨g, 5, none⟩ (.bool false))) := HK2.out.trans (Kept.store _ _ _)
    have y3 : (w2.setCell ⟨g, 5, none⟩ (.bool false)).cell? ⟨g1, 0, none⟩ = some (.pointer (some ⟨b, 0, none⟩)) := (Kept.store (X := X1) g 5 (.bool false)).cell y2 ⟨XM.out, hne⟩
    go_wp2_with fail
    refine Calls.mono (take_bool g 5 false _ d2 f2) ?_
    rintro e w3 ⟨rfl, rfl⟩
    clear d2 f2 HW2 HO2 HK2 y2
    generalize w2.setCell ⟨g, 5, none⟩ (.bool false) = w3 at *
    go_wp2_with fail
    refine Calls.mono (put_some X1 b _ most ⟨w3.heap.size, 0, none⟩ 1 [0] _ (HW3.out.keep ((Touch.refl _ _).alloc _)) hm (src_new _ _ _ _ _ (by simp [bytesOf])) (by simp)) ?_
    rintro e w4 ⟨rfl, hw2, k2⟩
    have ta3 : Touch (fun _ => False) w3 (w3.alloc (.cells #[.int .u8 0] 5)) := (Touch.refl _ _).alloc _
    have y4 := k2.cell (p := ⟨g1, 0, none⟩) (v := .pointer (some ⟨b, 0, none⟩)) (ta3.cellN y3) XM.out
    have HO4 : Hid (OutB w4 g { { B with mask := 0 } with type2 := false } (.slice a1 B.links.length q1) (.slice a3 B.routers.length q3) (.slice a8 B.data.length q8)) := (HO3.out.keep ta3).kept k2 XG.out
    have HK4 : Hid (Kept (but X1 g) w w4) := HK3.out.trans ((Kept.of ta3).trans (k2.but g))
    have HW4 : Hid (Wr X1 w4 b ((L ++ numBytes 4 B.mask) ++ [0]) most) := hw2
    clear ta3 k2 hw2 HO3 HK3 HW3 y3
    go_upto_region 6 with fail
    have d4 : w4.drew.cell? ⟨g, 4, none⟩ = some (.int .u32 B.metric) := HO4.out.bd.c4
    have f4 : w4.drew.frozen? ⟨g, 4, none⟩ = false := HO4.out.fz 4 (by omega)
    have y4d : w4.drew.cell? ⟨g1, 0, none⟩ = some (.pointer (some ⟨b, 0, none⟩)) := y4
    have HWt4 : Hid (Wr X1 (w4.drew.setCell ⟨g, 4, none⟩ (.int .u32 0)) b ((L ++ numBytes 4 B.mask) ++ [0]) most) := (HW4.out.keep ((Touch.refl _ _).drew)).store XG.out _ _
    have HOt4 : Hid (OutB (w4.drew.setCell ⟨g, 4, none⟩ (.int .u32 0)) g { { { B with mask := 0 } with type2 := false } with metric := 0 } (.slice a1 B.links.length q1) (.slice a3 B.routers.length q3) (.slice a8 B.data.length q8)) := (HO4.out.keep ((Touch.refl _ _).drew)).set4
    have HKt4 : Hid (Kept (but X1 g) w4 (w4.drew.setCell ⟨g, 4, none⟩ (.int .u32 0))) := (Kept.of ((Touch.refl _ _).drew)).trans (Kept.store _ _ _)
    have HCt4 : Hid ((w4.drew.setCell ⟨g, 4, none⟩ (.int .u32 0)).cell? ⟨g1, 0, none⟩ = some (.pointer (some ⟨b, 0, none⟩))) := HKt4.out.cell y4 ⟨XM.out, hne⟩
    go_region_held2 (fun w' => w'.cell? ⟨g1, 0, none⟩ = some (.pointer (some ⟨b, 0, none⟩))) (first | with_reducible exact y4d | with_reducible exact yx4 | with_reducible exact y5) (first
      | (go_at_call 131; refine Calls.mono (take_u32 g 4 B.metric _ d4 f4) ?_; rintro e wx4 ⟨rfl, hwx⟩; have yx4 : wx4.cell? ⟨g1, 0, none⟩ = some (.pointer (some ⟨b, 0, none⟩)) := hwx ▸ HCt4.out; have HWx : Hid (Wr X1 wx4 b ((L ++ numBytes 4 B.mask) ++ [0]) most) := hwx ▸ HWt4; have HOx : Hid (OutB wx4 g { { { B with mask := 0 } with type2 := false } with metric := 0 } (.slice a1 B.links.length q1) (.slice a3 B.routers.length q3) (.slice a8 B.data.length q8)) := hwx ▸ HOt4; have HKx : Hid (Kept (but X1 g) w4 wx4) := hwx ▸ HKt4; clear hwx)
      | (go_at_call 133; refine Calls.mono (wmetric_any X1 b ((L ++ numBytes 4 B.mask) ++ [0]) most B.metric _ HWx.out hm OK.out.e.1 OK.out.e.2) ?_; rintro e w5 (⟨rfl, hp, hw2, k2⟩ | ⟨rfl, hp, k2⟩); rotate_left; exact ⟨rfl, wr_flaw HK4.out (HKx.out.trans (k2.but g)) XX.out (may_metric_no hp)⟩; have HP4 : Hid (B.metric ≤ 16777215) := hp; clear hp; have y5 : w5.cell? ⟨g1, 0, none⟩ = some (.pointer (some ⟨b, 0, none⟩)) := k2.cell yx4 XM.out; have HW5 : Hid (Wr X1 w5 b (((L ++ numBytes 4 B.mask) ++ [0]) ++ numBytes 3 B.metric) most) := hw2; have HO5 : Hid (OutB w5 g { { { B with mask := 0 } with type2 := false } with metric := 0 } (.slice a1 B.links.length q1) (.slice a3 B.routers.length q3) (.slice a8 B.data.length q8)) := HOx.out.kept k2 XG.out; have HK5 : Hid (Kept (but X1 g) w w5) := HK4.out.trans (HKx.out.trans (k2.but g)); clear hw2 k2))
    first | refine (‹∀ (a : Act) (w_1 : World), Code.wp Tryz.prog _ _ a w_1 → _›) _ _ ?_ | skip
    clear d4 f4 y4d HWt4 HOt4 HKt4 HCt4 yx4 HWx HOx HKx HW4 HO4 HK4 y4
    go_upto_region 7 with fail
    have dF : w5.drew.cell? ⟨g, 6, none⟩ = some (.int .u32 B.fwd) := HO5.out.bd.c6
    have fF : w5.drew.frozen? ⟨g, 6, none⟩ = false := HO5.out.fz 6 (by omega)
    have y5d : w5.drew.cell? ⟨g1, 0, none⟩ = some (.pointer (some ⟨b, 0, none⟩)) := y5
    have HWt : Hid (Wr X1 (w5.drew.setCell ⟨g, 6, none⟩ (.int .u32 0)) b (((L ++ numBytes 4 B.mask) ++ [0]) ++ numBytes 3 B.metric) most) := (HW5.out.keep ((Touch.refl _ _).drew)).store XG.out _ _
    have HOt : Hid (OutB (w5.drew.setCell ⟨g, 6, none⟩ (.int .u32 0)) g { { { { B with mask := 0 } with type2 := false } with metric := 0 } with fwd := 0 } (.slice a1 B.links.length q1) (.slice a3 B.routers.length q3) (.slice a8 B.data.length q8)) := (HO5.out.keep ((Touch.refl _ _).drew)).set6
    have HKt : Hid (Kept (but X1 g) w5 (w5.drew.setCell ⟨g, 6, none⟩ (.int .u32 0))) := (Kept.of ((Touch.refl _ _).drew)).trans (Kept.store _ _ _)
    have HCt : Hid ((w5.drew.setCell ⟨g, 6, none⟩ (.int .u32 0)).cell? ⟨g1, 0, none⟩ = some (.pointer (some ⟨b, 0, none⟩))) := HKt.out.cell y5 ⟨XM.out, hne⟩
    go_region_held2 (fun w' => w'.cell? ⟨g1, 0, none⟩ = some (.pointer (some ⟨b, 0, none⟩))) (first | with_reducible exact y5d | with_reducible exact yx | with_reducible exact yv | with_reducible exact yz | with_reducible exact y6) (first
      | (go_at_call 105; have hgd := HWz; clear hgd; refine Calls.mono (number_w4 X1 b ((((L ++ numBytes 4 B.mask) ++ [0]) ++ numBytes 3 B.metric) ++ numBytes 4 B.fwd) most B.tag _ HWz.out hm OK.out.t) ?_; rintro e w6 ⟨rfl, hw2, k2⟩; have y6 : w6.cell? ⟨g1, 0, none⟩ = some (.pointer (some ⟨b, 0, none⟩)) := k2.cell yz XM.out; have HW6 : Hid (Wr X1 w6 b ((((L ++ numBytes 4 B.mask) ++ [0]) ++ numBytes 3 B.metric) ++ numBytes 4 B.fwd ++ numBytes 4 B.tag) most) := hw2; have HO6 : Hid (OutB w6 g { { { { { B with mask := 0 } with type2 := false } with metric := 0 } with fwd := 0 } with tag := 0 } (.slice a1 B.links.length q1) (.slice a3 B.routers.length q3) (.slice a8 B.data.length q8)) := HOz.out.kept k2 XG.out; have HK6 : Hid (Kept (but X1 g) w w6) := HKz.out.trans (k2.but g); clear hw2 k2)
      | (go_at_call 131; have hgd := dv; clear hgd; refine Calls.mono (take_u32 g 7 B.tag _ dv fv) ?_; rintro e wz ⟨rfl, hwz⟩; have yz : wz.cell? ⟨g1, 0, none⟩ = some (.pointer (some ⟨b, 0, none⟩)) := hwz ▸ HCv.out; have HWz : Hid (Wr X1 wz b ((((L ++ numBytes 4 B.mask) ++ [0]) ++ numBytes 3 B.metric) ++ numBytes 4 B.fwd) most) := hwz ▸ HWvt; have HOz : Hid (OutB wz g { { { { { B with mask := 0 } with type2 := false } with metric := 0 } with fwd := 0 } with tag := 0 } (.slice a1 B.links.length q1) (.slice a3 B.routers.length q3) (.slice a8 B.data.length q8)) := hwz ▸ HOvt; have HKz : Hid (Kept (but X1 g) w wz) := hwz ▸ HKvt; clear hwz)
      | (go_at_call 105; refine Calls.mono (number_w4 X1 b (((L ++ numBytes 4 B.mask) ++ [0]) ++ numBytes 3 B.metric) most B.fwd _ HWx.out hm OK.out.w) ?_; rintro e wv ⟨rfl, hw2, k2⟩; have yv : wv.cell? ⟨g1, 0, none⟩ = some (.pointer (some ⟨b, 0, none⟩)) := k2.cell yx XM.out; have HWv : Hid (Wr X1 wv b ((((L ++ numBytes 4 B.mask) ++ [0]) ++ numBytes 3 B.metric) ++ numBytes 4 B.fwd) most) := hw2; have HOv : Hid (OutB wv g { { { { B with mask := 0 } with type2 := false } with metric := 0 } with fwd := 0 } (.slice a1 B.links.length q1) (.slice a3 B.routers.length q3) (.slice a8 B.data.length q8)) := HOx.out.kept k2 XG.out; have HKv : Hid (Kept (but X1 g) w wv) := HKx.out.trans (k2.but g); have dv : wv.cell? ⟨g, 7, none⟩ = some (.int .u32 B.tag) := HOv.out.bd.c7; have fv : wv.frozen? ⟨g, 7, none⟩ = false := HOv.out.fz 7 (by omega); have HWvt : Hid (Wr X1 (wv.setCell ⟨g, 7, none⟩ (.int .u32 0)) b ((((L ++ numBytes 4 B.mask) ++ [0]) ++ numBytes 3 B.metric) ++ numBytes 4 B.fwd) most) := HWv.out.store XG.out _ _; have HOvt : Hid (OutB (wv.setCell ⟨g, 7, none⟩ (.int .u32 0)) g { { { { { B with mask := 0 } with type2 := false } with metric := 0 } with fwd := 0 } with tag := 0 } (.slice a1 B.links.length q1) (.slice a3 B.routers.length q3) (.slice a8 B.data.length q8)) := HOv.out.set7; have HKvt : Hid (Kept (but X1 g) w (wv.setCell ⟨g, 7, none⟩ (.int .u32 0))) := HKv.out.trans (Kept.store _ _ _); have HCv : Hid ((wv.setCell ⟨g, 7, none⟩ (.int .u32 0)).cell? ⟨g1, 0, none⟩ = some (.pointer (some ⟨b, 0, none⟩))) := (Kept.store (X := X1) g 7 (.int .u32 0)).cell yv ⟨XM.out, hne⟩; clear hw2 k2)
      | (go_at_call 131; refine Calls.mono (take_u32 g 6 B.fwd _ dF fF) ?_; rintro e wx ⟨rfl, hwx⟩; have yx : wx.cell? ⟨g1, 0, none⟩ = some (.pointer (some ⟨b, 0, none⟩)) := hwx ▸ HCt.out; have HWx : Hid (Wr X1 wx b (((L ++ numBytes 4 B.mask) ++ [0]) ++ numBytes 3 B.metric) most) := hwx ▸ HWt; have HOx : Hid (OutB wx g { { { { B with mask := 0 } with type2 := false } with metric := 0 } with fwd := 0 } (.slice a1 B.links.length q1) (.slice a3 B.routers.length q3) (.slice a8 B.data.length q8)) := hwx ▸ HOt; have HKx : Hid (Kept (but X1 g) w wx) := HK5.out.trans (hwx ▸ HKt.out); clear hwx))
    go_end0
    have e1 : bareB { { { { { B with mask := 0 } with type2 := false } with metric := 0 } with fwd := 0 } with tag := 0 } = mayB t B := may5 ht HP1.out HP4.out
    have e2 : mayB t B = true → numBytes 4 B.mask ++ [0] ++ numBytes 3 B.metric ++ numBytes 4 B.fwd ++ numBytes 4 B.tag = layB t B := fun _ => by rw [lay5 ht OK.out.e.1 HP4.out, HT2.out]; rfl
    have e3 : Wr X w6 b (L ++ (numBytes 4 B.mask ++ [0] ++ numBytes 3 B.metric ++ numBytes 4 B.fwd ++ numBytes 4 B.tag)) most := by
      have := HW6.out.less XX.out
      simpa [List.append_assoc] using this
    have e4 := HK6.out.less (Y := but X g) (fun k _ h => ⟨XX.out k h.1, h.2⟩)
    have e5 := HO6.out
    exact wr_good e3 e5 e4 e1 e2
end Go.Proofs.YthdkihnmeoacaaaGreatDoor
