/- The look at a Bag's lists: apartHeads. -/
import Derived.Test.YtbfplepmgbkajaaGreatDoorBagKm
import Derived.Test.YtbfplepmgbkajaaGreatDoorPkIt4
import Derived.Test.YtbfplepmgbkajaaGreatDoorPkRu
import Derived.Test.YtbfplepmgbkajaaGreatDoorStWr
namespace Go.Proofs.YtbfplepmgbkajaaGreatDoor
open Go.RowKit
set_option linter.unusedVariables false
set_option maxRecDepth 100000

theorem SinceF.set8d (x : World) (g o0 o1 o2 o3 o4 o5 o6 o7 : Nat) (u0 u1 u2 u3 u4 u5 u6 u7 : Value) : SinceF x g ((((((((x.setCell ⟨g, o0, none⟩ u0).setCell ⟨g, o1, none⟩ u1).setCell ⟨g, o2, none⟩ u2).setCell ⟨g, o3, none⟩ u3).setCell ⟨g, o4, none⟩ u4).setCell ⟨g, o5, none⟩ u5).setCell ⟨g, o6, none⟩ u6).setCell ⟨g, o7, none⟩ u7).drew := by
 constructor
 refine Touch.drew ?_
 refine Touch.setCell (F := fun k => k = g) (p := ⟨g, o7, none⟩) ?_ (Or.inl rfl) _
 refine Touch.setCell (F := fun k => k = g) (p := ⟨g, o6, none⟩) ?_ (Or.inl rfl) _
 refine Touch.setCell (F := fun k => k = g) (p := ⟨g, o5, none⟩) ?_ (Or.inl rfl) _
 refine Touch.setCell (F := fun k => k = g) (p := ⟨g, o4, none⟩) ?_ (Or.inl rfl) _
 refine Touch.setCell (F := fun k => k = g) (p := ⟨g, o3, none⟩) ?_ (Or.inl rfl) _
 refine Touch.setCell (F := fun k => k = g) (p := ⟨g, o2, none⟩) ?_ (Or.inl rfl) _
 refine Touch.setCell (F := fun k => k = g) (p := ⟨g, o1, none⟩) ?_ (Or.inl rfl) _
 refine Touch.setCell (F := fun k => k = g) (p := ⟨g, o0, none⟩) ?_ (Or.inl rfl) _
 exact Touch.refl _ x
def KHeads : Kd := ⟨93, 27, 8, fun n i => [.int .u16 0, .int .u8 0, .int .u8 0, .int .u32 (nmk n i), .int .u32 0, .int .i32 0, .int .u16 0, .int .u16 0]⟩
theorem KHeads_ok : KHeads.Ok := ⟨by decide, fun _ _ => rfl⟩
theorem Tryz.infoHeadsL : (Tryz.prog.info? 27).map (fun i => (i.zero, i.size, i.bytes)) = some (some (.slice none 0 0), 1, 24) := by kernel_rfl
set_option maxHeartbeats 4000000 in
theorem apartHeads_any (b : Nat) (gv : Value) (vs : List Value) (w : World) (h : BagG KHeads 7 w b gv vs) :
  Calls Tryz.prog 59 #[.pointer (some ⟨b, 0, none⟩)] w fun e w' => e = .returned (.bool true) ∧ Touch (bagF vs) w w' := by
 obtain ⟨i0, hi, hz0, hz1, hz2⟩ := info_parts Tryz.infoH8
 obtain ⟨i1, hj, hy0, hy1, hy2⟩ := info_parts Tryz.infoHeadsL
 have hN := h.few
 obtain ⟨ga, gc, hgv⟩ := own_form h.own
 go_enter Tryz.func59, Tryz.ntmps59
 go_wp2
 go_loopw [3] (fun i wr => ∃ n : Nat, n ≤ vs.length ∧ i = .int .i64 n ∧ GIn1 KHeads w wr vs n 0) (fun i _ => vs.length - (intOf i).toNat)
 case atStart => exact ⟨0, Nat.zero_le _, rfl, GIn1.start h⟩
 case round =>
  obtain ⟨n, hn, rfl, hin⟩ := hrel
  have hbc := h.bagCell hin.touch
  rw [hgv] at hbc
  by_cases hlt : n < vs.length
  ·obtain ⟨wo, hwo⟩ : ∃ wo : World, wo = wr := ⟨_, rfl⟩
   rw [← hwo] at hin hbc ⊢
   clear hwo
   go_wp2
   go_loopw [4] (fun i wr => ∃ k : Nat, k ≤ lenOf (vs.getD n undef) ∧ i = .int .i64 k ∧ GIn1 KHeads w wr vs n k) (fun i _ => lenOf (vs.getD n undef) - (intOf i).toNat)
   case atStart => exact ⟨0, Nat.zero_le _, rfl, hin⟩
   case round =>
    obtain ⟨k, hk, rfl, hik⟩ := hrel
    obtain ⟨gb, gcc, v, hge, hv, hcv⟩ := own_elem (h.ownG hik.touch) n hlt
    have hbk := h.bagCell hik.touch
    have hvd : vs.getD n undef = v := by simp [List.getD, hv]
    rw [hvd] at hk ⊢
    have hsm := h.small n v hv
    obtain ⟨va, vc, hvf⟩ := hik.form hv
    have hgn := h.ng n v
    have hbn := h.nb n v hv
    rw [hge] at hbk hgn
    by_cases hkl : k < lenOf v
    ·obtain ⟨g, cp, hve, hcx, hnext⟩ := GIn1.at KHeads_ok h hik v hv hkl
     have hvb : v.ownBlock = some g := by rw [hve]; rfl
     have hbg : b ≠ g := fun e => hbn (by rw [hvb, e])
     have hgg : gb ≠ g := fun e => hgn g hv hvb (by rw [← e]; rfl)
     rw [hve] at hcv
     obtain ⟨x0, cx0, fx0⟩ := hcx 0 (by decide)
     replace cx0 : wr.cell? ⟨g, k * 8, none⟩ = some x0 := by simpa [KHeads] using cx0
     replace fx0 : wr.frozen? ⟨g, k * 8, none⟩ = false := by simpa [KHeads] using fx0
     obtain ⟨x1, cx1, fx1⟩ := hcx 1 (by decide)
     replace cx1 : wr.cell? ⟨g, k * 8 + 1, none⟩ = some x1 := by simpa [KHeads] using cx1
     replace fx1 : wr.frozen? ⟨g, k * 8 + 1, none⟩ = false := by simpa [KHeads] using fx1
     obtain ⟨x2, cx2, fx2⟩ := hcx 2 (by decide)
     replace cx2 : wr.cell? ⟨g, k * 8 + 2, none⟩ = some x2 := by simpa [KHeads] using cx2
     replace fx2 : wr.frozen? ⟨g, k * 8 + 2, none⟩ = false := by simpa [KHeads] using fx2
     obtain ⟨x3, cx3, fx3⟩ := hcx 3 (by decide)
     replace cx3 : wr.cell? ⟨g, k * 8 + 3, none⟩ = some x3 := by simpa [KHeads] using cx3
     replace fx3 : wr.frozen? ⟨g, k * 8 + 3, none⟩ = false := by simpa [KHeads] using fx3
     obtain ⟨x4, cx4, fx4⟩ := hcx 4 (by decide)
     replace cx4 : wr.cell? ⟨g, k * 8 + 4, none⟩ = some x4 := by simpa [KHeads] using cx4
     replace fx4 : wr.frozen? ⟨g, k * 8 + 4, none⟩ = false := by simpa [KHeads] using fx4
     obtain ⟨x5, cx5, fx5⟩ := hcx 5 (by decide)
     replace cx5 : wr.cell? ⟨g, k * 8 + 5, none⟩ = some x5 := by simpa [KHeads] using cx5
     replace fx5 : wr.frozen? ⟨g, k * 8 + 5, none⟩ = false := by simpa [KHeads] using fx5
     obtain ⟨x6, cx6, fx6⟩ := hcx 6 (by decide)
     replace cx6 : wr.cell? ⟨g, k * 8 + 6, none⟩ = some x6 := by simpa [KHeads] using cx6
     replace fx6 : wr.frozen? ⟨g, k * 8 + 6, none⟩ = false := by simpa [KHeads] using fx6
     obtain ⟨x7, cx7, fx7⟩ := hcx 7 (by decide)
     replace cx7 : wr.cell? ⟨g, k * 8 + 7, none⟩ = some x7 := by simpa [KHeads] using cx7
     replace fx7 : wr.frozen? ⟨g, k * 8 + 7, none⟩ = false := by simpa [KHeads] using fx7
     have e : putAll wr g (k * KHeads.k) (KHeads.mark n k) 0 = ((((((((wr.setCell ⟨g, k * 8, none⟩ (.int .u16 0)).setCell ⟨g, k * 8 + 1, none⟩ (.int .u8 0)).setCell ⟨g, k * 8 + 2, none⟩ (.int .u8 0)).setCell ⟨g, k * 8 + 3, none⟩ (.int .u32 (nmk n k))).setCell ⟨g, k * 8 + 4, none⟩ (.int .u32 0)).setCell ⟨g, k * 8 + 5, none⟩ (.int .i32 0)).setCell ⟨g, k * 8 + 6, none⟩ (.int .u16 0)).setCell ⟨g, k * 8 + 7, none⟩ (.int .u16 0)) := by simp [putAll, KHeads]
     rw [e] at hnext
     have HNM := fun w => nmk_any n k w (by omega) (by omega)
     have hw32 := nmk_u32 n k (by omega) (by omega)
     have HN : Hid (GIn1 KHeads w ((((((((wr.setCell ⟨g, k * 8, none⟩ (.int .u16 0)).setCell ⟨g, k * 8 + 1, none⟩ (.int .u8 0)).setCell ⟨g, k * 8 + 2, none⟩ (.int .u8 0)).setCell ⟨g, k * 8 + 3, none⟩ (.int .u32 (nmk n k))).setCell ⟨g, k * 8 + 4, none⟩ (.int .u32 0)).setCell ⟨g, k * 8 + 5, none⟩ (.int .i32 0)).setCell ⟨g, k * 8 + 6, none⟩ (.int .u16 0)).setCell ⟨g, k * 8 + 7, none⟩ (.int .u16 0)) vs n (k + 1)) := hnext
     clear hnext hik hvf hv hge hve hin hbc hvd hcx e hgn hbn hvb
     generalize lenOf v = L at hk hsm hkl hcv ⊢
     generalize nmk n k = NN at *
     have p1 := sinceF_cell hbg hbk
     have p2 := sinceF_cell hgg hcv
     have st : SinceF wr g wr.drew := SinceF.start wr g
     have hkL : (k : Int) < (L : Int) := by omega
     have hnL : (n : Int) < (vs.length : Int) := by omega
     go_upto_region 7 with fail
     clear hbk hcv
     go_region_held3 (fun w' => SinceF wr g w') (first | with_reducible assumption | with_reducible exact SinceF.set8d _ _ _ _ _ _ _ _ _ _ _ _ _ _ _ _ _ _) (first | (go_at_call 87; refine Calls.mono (HNM _) ?_; rintro e wx ⟨rfl, rfl⟩))
     go_wp2
     go_roundw
     case rel => exact ⟨k + 1, by omega, by go_num, HN.out.drew⟩
     case measure => simp [intOf]; omega
    ·have hke : k = lenOf v := by omega
     have HN : Hid (GIn1 KHeads w wr vs (n + 1) 0) := by rw [hke] at hik; exact GIn1.next v hv hik
     rw [hvf] at hcv
     clear hik hv hge hin hbc hvd hvf hke hgn hbn
     generalize lenOf v = L at hk hsm hkl hcv ⊢
     go_wp2
     go_roundw
     case rel => exact ⟨n + 1, by omega, by go_num, HN.out⟩
     case measure => simp [intOf]; omega
  ·obtain rfl : n = vs.length := by omega
   have hst := GSt.start h hin
   clear hin
   have h2 : GIn2 KHeads w wr vs (.slice none 0 0) (.slice none 0 0) 0 := ⟨_, [], [], rfl, rfl, hst⟩
   obtain ⟨wo, hwo⟩ : ∃ wo : World, wo = wr := ⟨_, rfl⟩
   rw [← hwo] at hbc h2 ⊢
   clear hwo hst
   go_wp2
   go_loopw [5, 6, 7] (fun one more i wr => ∃ n : Nat, n ≤ vs.length ∧ i = .int .i64 n ∧ GIn2 KHeads w wr vs one more n) (fun _ _ i _ => vs.length - (intOf i).toNat)
   case atStart => exact ⟨0, Nat.zero_le _, rfl, h2⟩
   case round =>
    obtain ⟨n, hn, rfl, hin⟩ := hrel
    clear hbc h2
    by_cases hlt : n < vs.length
    ·obtain ⟨G, ones, mores, hl1, hl2, st⟩ := hin.ex
     have hbk := h.bagCell st.touch
     obtain ⟨gb, gcc, v, hge, hv, hcv⟩ := own_elem (h.ownG st.touch) n hlt
     have hsm := h.small n v hv
     have hrow := st.rowsO n v hv (Nat.le_refl _)
     have h3 : GIn3 KHeads w wr vs u5 u6 n (lenOf v) (lenOf v) v := ⟨G, ones, mores, hl2, Or.inl ⟨hl1, rfl⟩, st.weaken (Nat.le_succ n), hrow, (st.rowsR n v hv).2⟩
     obtain ⟨va, vc, hvf⟩ := own_form hrow
     obtain ⟨L, hL⟩ : ∃ L, lenOf v = L := ⟨_, rfl⟩
     rw [hL] at hsm h3 hvf
     subst hvf
     rw [hge] at hbk
     obtain ⟨wo, hwo⟩ : ∃ wo : World, wo = wr := ⟨_, rfl⟩
     rw [← hwo] at hbk hcv h3 ⊢
     have HV : Hid (vs[n]? = some (.slice va L vc)) := hv
     clear hwo hin hrow st hge hv hL
     go_wp2
     go_loopw [5, 8, 9] (fun one l i wr => ∃ k : Nat, L ≤ k ∧ k ≤ L + 70 ∧ i = .int .i64 k ∧ GIn3 KHeads w wr vs one u6 n L k l) (fun _ _ i _ => L + 70 - (intOf i).toNat)
     case atStart => exact ⟨L, Nat.le_refl _, by omega, rfl, h3⟩
     case round =>
      obtain ⟨k, hk0, hk1, rfl, hi3⟩ := hrel
      clear h3 hbk hcv
      obtain ⟨G, ones, mores, hm, hones, st, hl, hlG⟩ := hi3.ex
      have hbk := h.bagCell st.touch
      obtain ⟨gb, gcc, v, hge, hv, hcv⟩ := own_elem (h.ownG st.touch) n hlt
      obtain rfl : Value.slice va L vc = v := by have e := HV.out; rw [hv] at e; exact (Option.some.inj e).symm
      rw [hge] at hbk
      have HNM := fun w => nmk_any n k w (by omega) (by omega)
      have hw32 := nmk_u32 n k (by omega) (by omega)
      by_cases hkl : k < L + 70
      ·obtain ⟨la, lc, rfl⟩ := own_form hl
       have HMK : Hid (KHeads.mark n k = [.int .u16 0, .int .u8 0, .int .u8 0, .int .u32 (nmk n k), .int .u32 0, .int .i32 0, .int .u16 0, .int .u16 0]) := rfl
       by_cases hkL : k = L
       ·have hol : ones.length = n := by rcases hones with ⟨a, _⟩ | ⟨_, a⟩ <;> omega
        subst hkL
        obtain ⟨oa, oc, rfl⟩ := own_form st.own1
        have HST : Hid (GSt KHeads w wr vs G (.slice oa ones.length oc) ones u6 mores (n + 1)) := st
        have HLG : Hid (∀ kb, (Value.slice la k lc).ownBlock = some kb → G kb n) := hlG
        have HL : Hid (wr.ownsRow 0 93 8 (.slice la k lc) k (mrow KHeads n k)) := hl
        have HOL : Hid (ones.length = n) := hol
        have HM : Hid (mores.length = n) := hm
        clear st hlG hl hi3 hge hv hones hol hm
        generalize nmk n k = NN at *
        go_wp2_with fail
        refine Calls.mono (HNM _) ?_
        rintro e wx ⟨rfl, rfl⟩
        clear HNM
        go_wp2_with (at_builtin; refine wpList_append_keep _ rfl (.tmp 80) (.tmp 86) 27 rfl 0 93 i0 (.agg #[.int .u16 0, .int .u8 0, .int .u8 0, .int .u32 0, .int .u32 0, .int .i32 0, .int .u16 0, .int .u16 0]) 8 20 Tryz.underlying27 hi hz0 hz1 hz2 rfl (by decide) (.slice la k lc) k (mrow KHeads n k) rfl (HL.out.alloc _) ⟨wr.heap.size, 0, none⟩ 1 1 [.int .u16 0, .int .u8 0, .int .u8 0, .int .u32 NN, .int .u32 0, .int .i32 0, .int .u16 0, .int .u16 0] rfl rfl ?c1 ?c2 ?c3 ?c4 ?c5 ?_)
        case c1 => exact (fun j u hj => by rw [add_plain]; match j, hj with | 0, hj => (simp at hj; subst hj; simp [go_sem]) | 1, hj => (simp at hj; subst hj; simp [go_sem]) | 2, hj => (simp at hj; subst hj; simp [go_sem]) | 3, hj => (simp at hj; subst hj; simp [go_sem]) | 4, hj => (simp at hj; subst hj; simp [go_sem]) | 5, hj => (simp at hj; subst hj; simp [go_sem]) | 6, hj => (simp at hj; subst hj; simp [go_sem]) | 7, hj => (simp at hj; subst hj; simp [go_sem]) | j + 8, hj => simp at hj)
        case c2 => simp [Value.oneCell']
        case c3 => unfold maxLen; omega
        case c4 => omega
        case c5 => exact Nat.zero_le _
        intro l' w1 hown' hkeep hgrow hat
        rw [← HMK.out] at hown'
        obtain ⟨G', st', hl', hlG'⟩ := HST.out.grow KHeads_ok _ HV.out HL.out HLG.out (Nat.le_refl k) (Or.inl HOL.out) HM.out hown' hkeep hgrow hat
        obtain ⟨la', lc', rfl⟩ := own_form hl'
        have HST' : Hid (GSt KHeads w w1 vs G' (.slice oa ones.length oc) ones u6 mores (n + 1)) := st'
        have HL' : Hid (w1.ownsRow 0 93 8 (.slice la' (k + 1) lc') (k + 1) (mrow KHeads n (k + 1))) := hl'
        have HLG' : Hid (∀ kb, (Value.slice la' (k + 1) lc').ownBlock = some kb → G' kb n) := hlG'
        have hbk1 := h.bagCell st'.touch
        obtain ⟨gb1, gcc1, v1, hge1, hv1, hcv1⟩ := own_elem (h.ownG st'.touch) n hlt
        obtain rfl : Value.slice va k vc = v1 := by have e := HV.out; rw [hv1] at e; exact (Option.some.inj e).symm
        rw [hge1] at hbk1
        clear st' hl' hlG' hown' hkeep hgrow hat HST HL HLG hbk hcv hge1 hv1
        go_wp2_with (at_builtin; (refine wpList_append_keep _ rfl (.tmp 98) (.tmp 100) 57 rfl w.heap.size 27 i1 (.slice none 0 0) 1 24 Tryz.underlying57 hj hy0 hy1 hy2 rfl (by decide) (.slice oa ones.length oc) ones.length ones rfl (HST'.out.own1.alloc _) ⟨w1.heap.size, 0, none⟩ 1 1 [.slice la' (k + 1) lc'] rfl rfl ?c1 ?c2 ?c3 ?c4 ?c5 ?_))
        case c1 => exact cell_one_new _ _ _
        case c2 => intro u hu; obtain rfl := List.mem_singleton.mp hu; rfl
        case c3 => have := HOL.out; unfold maxLen; omega
        case c4 => have := HOL.out; omega
        case c5 => have := HST'.out.touch.size; simp; omega
        intro one' w2 hown2 _ hgrow2 hat2
        obtain ⟨st2, hl2'⟩ := HST'.out.add1 _ HV.out HL'.out HLG'.out HOL.out hown2 hgrow2 hat2
        have h3 : GIn3 KHeads w w2 vs one' u6 n k (k + 1) (.slice la' (k + 1) lc') := ⟨G', ones ++ [.slice la' (k + 1) lc'], mores, HM.out, Or.inr ⟨by simp [HOL.out], by omega⟩, st2, hl2', HLG'.out⟩
        clear hown2 hgrow2 hat2 st2 hl2' hbk1 hcv1 HST' HL' HLG'
        go_wp2
        go_roundw
        case rel => exact ⟨k + 1, by omega, by omega, by go_num, h3⟩
        case measure => simp [intOf] <;> omega
       ·have hol : ones.length = n + 1 ∧ L + 1 ≤ k := by rcases hones with ⟨_, a⟩ | a <;> omega
        have HST : Hid (GSt KHeads w wr vs G u5 ones u6 mores (n + 1)) := st
        have HLG : Hid (∀ kb, (Value.slice la k lc).ownBlock = some kb → G kb n) := hlG
        have HL : Hid (wr.ownsRow 0 93 8 (.slice la k lc) k (mrow KHeads n k)) := hl
        have HOL : Hid (ones.length = n + 1 ∧ L + 1 ≤ k) := hol
        have HM : Hid (mores.length = n) := hm
        have hkL' : ((k : Int) == (L : Int)) = false := by simp; omega
        clear st hlG hl hi3 hge hv hones hol hm
        generalize nmk n k = NN at *
        go_wp2_with fail
        refine Calls.mono (HNM _) ?_
        rintro e wx ⟨rfl, rfl⟩
        clear HNM
        go_wp2_with (at_builtin; refine wpList_append_keep _ rfl (.tmp 80) (.tmp 86) 27 rfl 0 93 i0 (.agg #[.int .u16 0, .int .u8 0, .int .u8 0, .int .u32 0, .int .u32 0, .int .i32 0, .int .u16 0, .int .u16 0]) 8 20 Tryz.underlying27 hi hz0 hz1 hz2 rfl (by decide) (.slice la k lc) k (mrow KHeads n k) rfl (HL.out.alloc _) ⟨wr.heap.size, 0, none⟩ 1 1 [.int .u16 0, .int .u8 0, .int .u8 0, .int .u32 NN, .int .u32 0, .int .i32 0, .int .u16 0, .int .u16 0] rfl rfl ?c1 ?c2 ?c3 ?c4 ?c5 ?_)
        case c1 => exact (fun j u hj => by rw [add_plain]; match j, hj with | 0, hj => (simp at hj; subst hj; simp [go_sem]) | 1, hj => (simp at hj; subst hj; simp [go_sem]) | 2, hj => (simp at hj; subst hj; simp [go_sem]) | 3, hj => (simp at hj; subst hj; simp [go_sem]) | 4, hj => (simp at hj; subst hj; simp [go_sem]) | 5, hj => (simp at hj; subst hj; simp [go_sem]) | 6, hj => (simp at hj; subst hj; simp [go_sem]) | 7, hj => (simp at hj; subst hj; simp [go_sem]) | j + 8, hj => simp at hj)
        case c2 => simp [Value.oneCell']
        case c3 => unfold maxLen; omega
        case c4 => omega
        case c5 => exact Nat.zero_le _
        intro l' w1 hown' hkeep hgrow hat
        rw [← HMK.out] at hown'
        obtain ⟨G', st', hl', hlG'⟩ := HST.out.grow KHeads_ok _ HV.out HL.out HLG.out (show L ≤ k from hk0) (Or.inr HOL.out) HM.out hown' hkeep hgrow hat
        obtain ⟨la', lc', rfl⟩ := own_form hl'
        have h3 : GIn3 KHeads w w1 vs u5 u6 n L (k + 1) (.slice la' (k + 1) lc') := ⟨G', ones, mores, HM.out, Or.inr ⟨HOL.out.1, by omega⟩, st', hl', hlG'⟩
        have hbk1 := h.bagCell st'.touch
        obtain ⟨gb1, gcc1, v1, hge1, hv1, hcv1⟩ := own_elem (h.ownG st'.touch) n hlt
        obtain rfl : Value.slice va L vc = v1 := by have e := HV.out; rw [hv1] at e; exact (Option.some.inj e).symm
        rw [hge1] at hbk1
        clear st' hl' hlG' hown' hkeep hgrow hat HST HL HLG hbk hcv hge1 hv1
        go_wp2
        go_roundw
        case rel => exact ⟨k + 1, by omega, by omega, by go_num, h3⟩
        case measure => simp [intOf] <;> omega
      ·obtain rfl : k = L + 70 := by omega
       have hol : ones.length = n + 1 := by rcases hones with ⟨_, a⟩ | ⟨a, _⟩ <;> omega
       obtain ⟨la, lc, rfl⟩ := own_form hl
       have HST : Hid (GSt KHeads w wr vs G u5 ones u6 mores (n + 1)) := st
       have HLG : Hid (∀ kb, (Value.slice la (L + 70) lc).ownBlock = some kb → G kb n) := hlG
       have HL : Hid (wr.ownsRow 0 93 8 (.slice la (L + 70) lc) (L + 70) (mrow KHeads n (L + 70))) := hl
       have HOL : Hid (ones.length = n + 1) := hol
       have HM : Hid (mores.length = n) := hm
       clear st hlG hl hi3 hge hv hones hol hm HNM hw32
       go_wp2_with (at_builtin; refine wpList_append_keep _ rfl (.tmp 102) (.tmp 104) 57 rfl w.heap.size 27 i1 (.slice none 0 0) 1 24 Tryz.underlying57 hj hy0 hy1 hy2 rfl (by decide) u6 mores.length mores rfl (HST.out.own2.alloc _) ⟨wr.heap.size, 0, none⟩ 1 1 [.slice la (L + 70) lc] rfl rfl ?c1 ?c2 ?c3 ?c4 ?c5 ?_)
       case c1 => exact cell_one_new _ _ _
       case c2 => intro u hu; obtain rfl := List.mem_singleton.mp hu; rfl
       case c3 => have := HM.out; unfold maxLen; omega
       case c4 => have := HM.out; omega
       case c5 => have := HST.out.touch.size; simp; omega
       intro more' w2 hown2 _ hgrow2 hat2
       have st2 := HST.out.add2 _ HV.out HL.out HLG.out HM.out hown2 hgrow2 hat2
       have h2 : GIn2 KHeads w w2 vs u5 more' (n + 1) := ⟨G, ones, mores ++ [.slice la (L + 70) lc], HOL.out, by simp [HM.out], st2⟩
       clear hown2 hgrow2 hat2 st2 HST HL HLG hbk hcv
       go_wp2
       go_roundw
       case rel => exact ⟨n + 1, by omega, by go_num, h2⟩
       case measure => simp [intOf] <;> omega
    ·obtain rfl : n = vs.length := by omega
     obtain ⟨h4, ht⟩ := GIn4.of h hin
     have hbk := h4.cell
     rw [hgv] at hbk
     obtain ⟨ma, mc, rfl⟩ := h4.len
     have H4 : Hid (GIn4 KHeads 7 wr b gv vs u5 (.slice ma vs.length mc)) := h4
     have HTT : Hid (Touch (bagF vs) w wr) := ht
     obtain ⟨w4, hw4⟩ : ∃ w4 : World, w4 = wr := ⟨_, rfl⟩
     rw [← hw4] at H4 HTT hbk ⊢
     clear hin h4 ht hw4
     go_wp2
     go_loopw [10] (fun i wr => ∃ n : Nat, n ≤ vs.length ∧ i = .int .i64 n ∧ Touch (fun _ => False) w4 wr) (fun i _ => vs.length - (intOf i).toNat)
     case atStart => exact ⟨0, Nat.zero_le _, rfl, Touch.refl _ _⟩
     case round =>
      obtain ⟨n, hn, rfl, tn⟩ := hrel
      have HTN : Hid (Touch (fun _ => False) w4 wr) := tn
      clear tn
      by_cases hnl : n < vs.length
      ·obtain ⟨v, o1, o2, hv, ⟨gb, gcc, hge, hcv⟩, ⟨g1, c1, hoe, hc1⟩, ⟨g2, c2, hme, hc2⟩, r0, r1, r2⟩ := H4.out.at3 n hnl
       have hsm := h.small n v hv
       have hbk' := H4.out.cell
       rw [hge] at hbk'
       simp only [Value.slice.injEq, true_and] at hme
       obtain ⟨rfl, rfl⟩ := hme
       subst hoe
       obtain ⟨L, hL⟩ : ∃ L, lenOf v = L := ⟨_, rfl⟩
       rw [hL] at hsm r0 r1 r2
       obtain ⟨va, vc, rfl⟩ := grow_form r0
       obtain ⟨a2, b2, rfl⟩ := grow_form r2
       obtain ⟨a1, b1, rfl⟩ := grow_form r1
       have R0 : Hid (GRow KHeads w4 (.slice va L vc) n L) := r0
       have R1 : Hid (GRow KHeads w4 (.slice a1 (L + 1) b1) n (L + 1)) := r1
       have R2 : Hid (GRow KHeads w4 (.slice a2 (L + 70) b2) n (L + 70)) := r2
       have HBK : Hid (w4.cell? ⟨b, 7, none⟩ = some (.slice (some ⟨gb, 0, none⟩) vs.length gcc)) := hbk'
       have HCV : Hid (w4.cell? ⟨gb, n, none⟩ = some (.slice va L vc)) := hcv
       have HC1 : Hid (w4.cell? ⟨g1, n, none⟩ = some (.slice a1 (L + 1) b1)) := hc1
       have HC2 : Hid (w4.cell? ⟨g2, n, none⟩ = some (.slice a2 (L + 70) b2)) := hc2
       have q2 := HTN.out.cellN hc2
       clear hL hv hge hbk hbk' hcv hc1 hc2 r0 r1 r2
       obtain ⟨w5, hw5⟩ : ∃ w5 : World, w5 = wr := ⟨_, rfl⟩
       rw [← hw5] at HTN q2 ⊢
       clear hw5
       go_wp2
       clear q2
       go_loopw [11] (fun i wr => ∃ k : Nat, k ≤ L + 70 ∧ i = .int .i64 k ∧ Touch (fun _ => False) w4 wr) (fun i _ => L + 70 - (intOf i).toNat)
       case atStart => exact ⟨0, Nat.zero_le _, rfl, HTN.out⟩
       case round =>
        obtain ⟨k, hk, rfl, tk⟩ := hrel
        have HTK : Hid (Touch (fun _ => False) w4 wr) := tk
        have qb := tk.cellN HBK.out
        have qv := tk.cellN HCV.out
        have q1 := tk.cellN HC1.out
        have q2 := tk.cellN HC2.out
        clear tk
        have HNM := fun w => nmk_any n k w (by omega) (by omega)
        have hw32 := nmk_u32 n k (by omega) (by omega)
        by_cases hkl : k < L + 70
        ·obtain ⟨x2, y2, e2, hx2⟩ := grow_at KHeads_ok R2.out hkl
         simp only [Value.slice.injEq, true_and] at e2
         obtain ⟨rfl, rfl⟩ := e2
         have c20 : wr.cell? ⟨x2, k * 8, none⟩ = some (.int .u16 0) := by
          have e := HTK.out.cellN (hx2 0 (.int .u16 0) rfl)
          simpa [KHeads] using e
         have c21 : wr.cell? ⟨x2, k * 8 + 1, none⟩ = some (.int .u8 0) := by
          have e := HTK.out.cellN (hx2 1 (.int .u8 0) rfl)
          simpa [KHeads] using e
         have c22 : wr.cell? ⟨x2, k * 8 + 2, none⟩ = some (.int .u8 0) := by
          have e := HTK.out.cellN (hx2 2 (.int .u8 0) rfl)
          simpa [KHeads] using e
         have c23 : wr.cell? ⟨x2, k * 8 + 3, none⟩ = some (.int .u32 (nmk n k)) := by
          have e := HTK.out.cellN (hx2 3 (.int .u32 (nmk n k)) rfl)
          simpa [KHeads] using e
         have c24 : wr.cell? ⟨x2, k * 8 + 4, none⟩ = some (.int .u32 0) := by
          have e := HTK.out.cellN (hx2 4 (.int .u32 0) rfl)
          simpa [KHeads] using e
         have c25 : wr.cell? ⟨x2, k * 8 + 5, none⟩ = some (.int .i32 0) := by
          have e := HTK.out.cellN (hx2 5 (.int .i32 0) rfl)
          simpa [KHeads] using e
         have c26 : wr.cell? ⟨x2, k * 8 + 6, none⟩ = some (.int .u16 0) := by
          have e := HTK.out.cellN (hx2 6 (.int .u16 0) rfl)
          simpa [KHeads] using e
         have c27 : wr.cell? ⟨x2, k * 8 + 7, none⟩ = some (.int .u16 0) := by
          have e := HTK.out.cellN (hx2 7 (.int .u16 0) rfl)
          simpa [KHeads] using e
         clear hx2
         rcases Nat.lt_trichotomy k L with hc | hc | hc
         focus
          obtain ⟨x0, y0, e0, hx0⟩ := grow_at KHeads_ok R0.out hc
          simp only [Value.slice.injEq, true_and] at e0
          obtain ⟨rfl, rfl⟩ := e0
          have c00 : wr.cell? ⟨x0, k * 8, none⟩ = some (.int .u16 0) := by
           have e := HTK.out.cellN (hx0 0 (.int .u16 0) rfl)
           simpa [KHeads] using e
          have c01 : wr.cell? ⟨x0, k * 8 + 1, none⟩ = some (.int .u8 0) := by
           have e := HTK.out.cellN (hx0 1 (.int .u8 0) rfl)
           simpa [KHeads] using e
          have c02 : wr.cell? ⟨x0, k * 8 + 2, none⟩ = some (.int .u8 0) := by
           have e := HTK.out.cellN (hx0 2 (.int .u8 0) rfl)
           simpa [KHeads] using e
          have c03 : wr.cell? ⟨x0, k * 8 + 3, none⟩ = some (.int .u32 (nmk n k)) := by
           have e := HTK.out.cellN (hx0 3 (.int .u32 (nmk n k)) rfl)
           simpa [KHeads] using e
          have c04 : wr.cell? ⟨x0, k * 8 + 4, none⟩ = some (.int .u32 0) := by
           have e := HTK.out.cellN (hx0 4 (.int .u32 0) rfl)
           simpa [KHeads] using e
          have c05 : wr.cell? ⟨x0, k * 8 + 5, none⟩ = some (.int .i32 0) := by
           have e := HTK.out.cellN (hx0 5 (.int .i32 0) rfl)
           simpa [KHeads] using e
          have c06 : wr.cell? ⟨x0, k * 8 + 6, none⟩ = some (.int .u16 0) := by
           have e := HTK.out.cellN (hx0 6 (.int .u16 0) rfl)
           simpa [KHeads] using e
          have c07 : wr.cell? ⟨x0, k * 8 + 7, none⟩ = some (.int .u16 0) := by
           have e := HTK.out.cellN (hx0 7 (.int .u16 0) rfl)
           simpa [KHeads] using e
          have hkL' : ((k : Int) == (L : Int)) = false := by simp; omega
          have n4 := lt_of_cell c00
          have n4a := Nat.ne_of_lt n4
          have n4b := (Nat.ne_of_lt n4).symm
          clear hx0
         rotate_left
         focus
          subst hc
          obtain ⟨x1, y1, e1, hx1⟩ := grow_at KHeads_ok R1.out (Nat.lt_succ_self k)
          simp only [Value.slice.injEq, true_and] at e1
          obtain ⟨rfl, rfl⟩ := e1
          have c10 : wr.cell? ⟨x1, k * 8, none⟩ = some (.int .u16 0) := by
           have e := HTK.out.cellN (hx1 0 (.int .u16 0) rfl)
           simpa [KHeads] using e
          have c11 : wr.cell? ⟨x1, k * 8 + 1, none⟩ = some (.int .u8 0) := by
           have e := HTK.out.cellN (hx1 1 (.int .u8 0) rfl)
           simpa [KHeads] using e
          have c12 : wr.cell? ⟨x1, k * 8 + 2, none⟩ = some (.int .u8 0) := by
           have e := HTK.out.cellN (hx1 2 (.int .u8 0) rfl)
           simpa [KHeads] using e
          have c13 : wr.cell? ⟨x1, k * 8 + 3, none⟩ = some (.int .u32 (nmk n k)) := by
           have e := HTK.out.cellN (hx1 3 (.int .u32 (nmk n k)) rfl)
           simpa [KHeads] using e
          have c14 : wr.cell? ⟨x1, k * 8 + 4, none⟩ = some (.int .u32 0) := by
           have e := HTK.out.cellN (hx1 4 (.int .u32 0) rfl)
           simpa [KHeads] using e
          have c15 : wr.cell? ⟨x1, k * 8 + 5, none⟩ = some (.int .i32 0) := by
           have e := HTK.out.cellN (hx1 5 (.int .i32 0) rfl)
           simpa [KHeads] using e
          have c16 : wr.cell? ⟨x1, k * 8 + 6, none⟩ = some (.int .u16 0) := by
           have e := HTK.out.cellN (hx1 6 (.int .u16 0) rfl)
           simpa [KHeads] using e
          have c17 : wr.cell? ⟨x1, k * 8 + 7, none⟩ = some (.int .u16 0) := by
           have e := HTK.out.cellN (hx1 7 (.int .u16 0) rfl)
           simpa [KHeads] using e
          have n4 := lt_of_cell c10
          have n4a := Nat.ne_of_lt n4
          have n4b := (Nat.ne_of_lt n4).symm
          clear hx1
         rotate_left
         focus
          have hkL' : ((k : Int) == (L : Int)) = false := by simp; omega
         all_goals
          generalize nmk n k = NN at *
          have nb := lt_of_cell qb
          have nba := Nat.ne_of_lt nb
          have nbb := (Nat.ne_of_lt nb).symm
          have nv := lt_of_cell qv
          have nva := Nat.ne_of_lt nv
          have nvb := (Nat.ne_of_lt nv).symm
          have n1 := lt_of_cell q1
          have n1a := Nat.ne_of_lt n1
          have n1b := (Nat.ne_of_lt n1).symm
          have n2 := lt_of_cell q2
          have n2a := Nat.ne_of_lt n2
          have n2b := (Nat.ne_of_lt n2).symm
          have n3 := lt_of_cell c20
          have n3a := Nat.ne_of_lt n3
          have n3b := (Nat.ne_of_lt n3).symm
          go_upto_region 31 with fail
          clear nba nbb nva nvb n1a n1b n2a n2b n3a n3b
          have y0 : (wr.alloc (.cells #[.int .u16 0, .int .u8 0, .int .u8 0, .int .u32 NN, .int .u32 0, .int .i32 0, .int .u16 0, .int .u16 0] 93)).cell? ⟨wr.heap.size, 0, none⟩ = some (.int .u16 0) := by simp [go_sem]
          have z0 : (wr.alloc (.cells #[.int .u16 0, .int .u8 0, .int .u8 0, .int .u32 NN, .int .u32 0, .int .i32 0, .int .u16 0, .int .u16 0] 93)).frozen? ⟨wr.heap.size, 0, none⟩ = false := by simp [go_sem]
          have y1 : (wr.alloc (.cells #[.int .u16 0, .int .u8 0, .int .u8 0, .int .u32 NN, .int .u32 0, .int .i32 0, .int .u16 0, .int .u16 0] 93)).cell? ⟨wr.heap.size, 1, none⟩ = some (.int .u8 0) := by simp [go_sem]
          have z1 : (wr.alloc (.cells #[.int .u16 0, .int .u8 0, .int .u8 0, .int .u32 NN, .int .u32 0, .int .i32 0, .int .u16 0, .int .u16 0] 93)).frozen? ⟨wr.heap.size, 1, none⟩ = false := by simp [go_sem]
          have y2 : (wr.alloc (.cells #[.int .u16 0, .int .u8 0, .int .u8 0, .int .u32 NN, .int .u32 0, .int .i32 0, .int .u16 0, .int .u16 0] 93)).cell? ⟨wr.heap.size, 2, none⟩ = some (.int .u8 0) := by simp [go_sem]
          have z2 : (wr.alloc (.cells #[.int .u16 0, .int .u8 0, .int .u8 0, .int .u32 NN, .int .u32 0, .int .i32 0, .int .u16 0, .int .u16 0] 93)).frozen? ⟨wr.heap.size, 2, none⟩ = false := by simp [go_sem]
          have y3 : (wr.alloc (.cells #[.int .u16 0, .int .u8 0, .int .u8 0, .int .u32 NN, .int .u32 0, .int .i32 0, .int .u16 0, .int .u16 0] 93)).cell? ⟨wr.heap.size, 3, none⟩ = some (.int .u32 NN) := by simp [go_sem]
          have z3 : (wr.alloc (.cells #[.int .u16 0, .int .u8 0, .int .u8 0, .int .u32 NN, .int .u32 0, .int .i32 0, .int .u16 0, .int .u16 0] 93)).frozen? ⟨wr.heap.size, 3, none⟩ = false := by simp [go_sem]
          have y4 : (wr.alloc (.cells #[.int .u16 0, .int .u8 0, .int .u8 0, .int .u32 NN, .int .u32 0, .int .i32 0, .int .u16 0, .int .u16 0] 93)).cell? ⟨wr.heap.size, 4, none⟩ = some (.int .u32 0) := by simp [go_sem]
          have z4 : (wr.alloc (.cells #[.int .u16 0, .int .u8 0, .int .u8 0, .int .u32 NN, .int .u32 0, .int .i32 0, .int .u16 0, .int .u16 0] 93)).frozen? ⟨wr.heap.size, 4, none⟩ = false := by simp [go_sem]
          have y5 : (wr.alloc (.cells #[.int .u16 0, .int .u8 0, .int .u8 0, .int .u32 NN, .int .u32 0, .int .i32 0, .int .u16 0, .int .u16 0] 93)).cell? ⟨wr.heap.size, 5, none⟩ = some (.int .i32 0) := by simp [go_sem]
          have z5 : (wr.alloc (.cells #[.int .u16 0, .int .u8 0, .int .u8 0, .int .u32 NN, .int .u32 0, .int .i32 0, .int .u16 0, .int .u16 0] 93)).frozen? ⟨wr.heap.size, 5, none⟩ = false := by simp [go_sem]
          have y6 : (wr.alloc (.cells #[.int .u16 0, .int .u8 0, .int .u8 0, .int .u32 NN, .int .u32 0, .int .i32 0, .int .u16 0, .int .u16 0] 93)).cell? ⟨wr.heap.size, 6, none⟩ = some (.int .u16 0) := by simp [go_sem]
          have z6 : (wr.alloc (.cells #[.int .u16 0, .int .u8 0, .int .u8 0, .int .u32 NN, .int .u32 0, .int .i32 0, .int .u16 0, .int .u16 0] 93)).frozen? ⟨wr.heap.size, 6, none⟩ = false := by simp [go_sem]
          have y7 : (wr.alloc (.cells #[.int .u16 0, .int .u8 0, .int .u8 0, .int .u32 NN, .int .u32 0, .int .i32 0, .int .u16 0, .int .u16 0] 93)).cell? ⟨wr.heap.size, 7, none⟩ = some (.int .u16 0) := by simp [go_sem]
          have z7 : (wr.alloc (.cells #[.int .u16 0, .int .u8 0, .int .u8 0, .int .u32 NN, .int .u32 0, .int .i32 0, .int .u16 0, .int .u16 0] 93)).frozen? ⟨wr.heap.size, 7, none⟩ = false := by simp [go_sem]
          have tA : Touch (fun _ => False) wr (wr.alloc (.cells #[.int .u16 0, .int .u8 0, .int .u8 0, .int .u32 NN, .int .u32 0, .int .i32 0, .int .u16 0, .int .u16 0] 93)) := (Touch.refl _ _).alloc _
          have HTA : Hid (Touch (fun _ => False) w4 (wr.alloc (.cells #[.int .u16 0, .int .u8 0, .int .u8 0, .int .u32 NN, .int .u32 0, .int .i32 0, .int .u16 0, .int .u16 0] 93))) := HTK.out.trans tA
          have HGY : Hid (w4.heap.size ≤ wr.heap.size) := HTK.out.size
          have q2' := tA.cellN q2
          have d20 := tA.cellN c20
          have d21 := tA.cellN c21
          have d22 := tA.cellN c22
          have d23 := tA.cellN c23
          have d24 := tA.cellN c24
          have d25 := tA.cellN c25
          have d26 := tA.cellN c26
          have d27 := tA.cellN c27
          generalize wr.alloc (.cells #[.int .u16 0, .int .u8 0, .int .u8 0, .int .u32 NN, .int .u32 0, .int .i32 0, .int .u16 0, .int .u16 0] 93) = wy at *
          generalize wr.heap.size = gy at *
          clear tA qb qv q1 q2
          have st : Since wy wy.drew := Since.start wy
          have s0 := since_cell y0
          have s1 := since_cell y1
          have s2 := since_cell y2
          have s3 := since_cell y3
          have s4 := since_cell y4
          have s5 := since_cell y5
          have s6 := since_cell y6
          have s7 := since_cell y7
          go_region_held3 (fun w' => Since wy w') (with_reducible assumption) (first | (go_at_call 87; refine Calls.mono (HNM _) ?_; rintro e wx ⟨rfl, rfl⟩))
          clear st s0 s1 s2 s3 s4 s5 s6 s7
          go_upto_region 33 with fail
          have v0 : ((((((((((wy.setCell ⟨gy, 0, none⟩ (.int .u16 0)).setCell ⟨gy, 1, none⟩ (.int .u8 0)).setCell ⟨gy, 2, none⟩ (.int .u8 0)).setCell ⟨gy, 3, none⟩ (.int .u32 NN)).setCell ⟨gy, 4, none⟩ (.int .u32 0)).setCell ⟨gy, 5, none⟩ (.int .i32 0)).setCell ⟨gy, 6, none⟩ (.int .u16 0)).setCell ⟨gy, 7, none⟩ (.int .u16 0))).drew).cell? ⟨gy, 0, none⟩ = some (.int .u16 0) := by simp [y0, go_sem]
          have v1 : ((((((((((wy.setCell ⟨gy, 0, none⟩ (.int .u16 0)).setCell ⟨gy, 1, none⟩ (.int .u8 0)).setCell ⟨gy, 2, none⟩ (.int .u8 0)).setCell ⟨gy, 3, none⟩ (.int .u32 NN)).setCell ⟨gy, 4, none⟩ (.int .u32 0)).setCell ⟨gy, 5, none⟩ (.int .i32 0)).setCell ⟨gy, 6, none⟩ (.int .u16 0)).setCell ⟨gy, 7, none⟩ (.int .u16 0))).drew).cell? ⟨gy, 1, none⟩ = some (.int .u8 0) := by simp [y1, go_sem]
          have v2 : ((((((((((wy.setCell ⟨gy, 0, none⟩ (.int .u16 0)).setCell ⟨gy, 1, none⟩ (.int .u8 0)).setCell ⟨gy, 2, none⟩ (.int .u8 0)).setCell ⟨gy, 3, none⟩ (.int .u32 NN)).setCell ⟨gy, 4, none⟩ (.int .u32 0)).setCell ⟨gy, 5, none⟩ (.int .i32 0)).setCell ⟨gy, 6, none⟩ (.int .u16 0)).setCell ⟨gy, 7, none⟩ (.int .u16 0))).drew).cell? ⟨gy, 2, none⟩ = some (.int .u8 0) := by simp [y2, go_sem]
          have v3 : ((((((((((wy.setCell ⟨gy, 0, none⟩ (.int .u16 0)).setCell ⟨gy, 1, none⟩ (.int .u8 0)).setCell ⟨gy, 2, none⟩ (.int .u8 0)).setCell ⟨gy, 3, none⟩ (.int .u32 NN)).setCell ⟨gy, 4, none⟩ (.int .u32 0)).setCell ⟨gy, 5, none⟩ (.int .i32 0)).setCell ⟨gy, 6, none⟩ (.int .u16 0)).setCell ⟨gy, 7, none⟩ (.int .u16 0))).drew).cell? ⟨gy, 3, none⟩ = some (.int .u32 NN) := by simp [y3, go_sem]
          have v4 : ((((((((((wy.setCell ⟨gy, 0, none⟩ (.int .u16 0)).setCell ⟨gy, 1, none⟩ (.int .u8 0)).setCell ⟨gy, 2, none⟩ (.int .u8 0)).setCell ⟨gy, 3, none⟩ (.int .u32 NN)).setCell ⟨gy, 4, none⟩ (.int .u32 0)).setCell ⟨gy, 5, none⟩ (.int .i32 0)).setCell ⟨gy, 6, none⟩ (.int .u16 0)).setCell ⟨gy, 7, none⟩ (.int .u16 0))).drew).cell? ⟨gy, 4, none⟩ = some (.int .u32 0) := by simp [y4, go_sem]
          have v5 : ((((((((((wy.setCell ⟨gy, 0, none⟩ (.int .u16 0)).setCell ⟨gy, 1, none⟩ (.int .u8 0)).setCell ⟨gy, 2, none⟩ (.int .u8 0)).setCell ⟨gy, 3, none⟩ (.int .u32 NN)).setCell ⟨gy, 4, none⟩ (.int .u32 0)).setCell ⟨gy, 5, none⟩ (.int .i32 0)).setCell ⟨gy, 6, none⟩ (.int .u16 0)).setCell ⟨gy, 7, none⟩ (.int .u16 0))).drew).cell? ⟨gy, 5, none⟩ = some (.int .i32 0) := by simp [y5, go_sem]
          have v6 : ((((((((((wy.setCell ⟨gy, 0, none⟩ (.int .u16 0)).setCell ⟨gy, 1, none⟩ (.int .u8 0)).setCell ⟨gy, 2, none⟩ (.int .u8 0)).setCell ⟨gy, 3, none⟩ (.int .u32 NN)).setCell ⟨gy, 4, none⟩ (.int .u32 0)).setCell ⟨gy, 5, none⟩ (.int .i32 0)).setCell ⟨gy, 6, none⟩ (.int .u16 0)).setCell ⟨gy, 7, none⟩ (.int .u16 0))).drew).cell? ⟨gy, 6, none⟩ = some (.int .u16 0) := by simp [y6, go_sem]
          have v7 : ((((((((((wy.setCell ⟨gy, 0, none⟩ (.int .u16 0)).setCell ⟨gy, 1, none⟩ (.int .u8 0)).setCell ⟨gy, 2, none⟩ (.int .u8 0)).setCell ⟨gy, 3, none⟩ (.int .u32 NN)).setCell ⟨gy, 4, none⟩ (.int .u32 0)).setCell ⟨gy, 5, none⟩ (.int .i32 0)).setCell ⟨gy, 6, none⟩ (.int .u16 0)).setCell ⟨gy, 7, none⟩ (.int .u16 0))).drew).cell? ⟨gy, 7, none⟩ = some (.int .u16 0) := by simp [y7, go_sem]
          have HTB : Hid (Touch (fun _ => False) w4 ((((((((((wy.setCell ⟨gy, 0, none⟩ (.int .u16 0)).setCell ⟨gy, 1, none⟩ (.int .u8 0)).setCell ⟨gy, 2, none⟩ (.int .u8 0)).setCell ⟨gy, 3, none⟩ (.int .u32 NN)).setCell ⟨gy, 4, none⟩ (.int .u32 0)).setCell ⟨gy, 5, none⟩ (.int .i32 0)).setCell ⟨gy, 6, none⟩ (.int .u16 0)).setCell ⟨gy, 7, none⟩ (.int .u16 0))).drew)) := by
           refine Touch.drew ?_
           refine Touch.setCell (F := fun _ => False) (p := ⟨gy, 7, none⟩) ?_ (Or.inr HGY.out) _
           refine Touch.setCell (F := fun _ => False) (p := ⟨gy, 6, none⟩) ?_ (Or.inr HGY.out) _
           refine Touch.setCell (F := fun _ => False) (p := ⟨gy, 5, none⟩) ?_ (Or.inr HGY.out) _
           refine Touch.setCell (F := fun _ => False) (p := ⟨gy, 4, none⟩) ?_ (Or.inr HGY.out) _
           refine Touch.setCell (F := fun _ => False) (p := ⟨gy, 3, none⟩) ?_ (Or.inr HGY.out) _
           refine Touch.setCell (F := fun _ => False) (p := ⟨gy, 2, none⟩) ?_ (Or.inr HGY.out) _
           refine Touch.setCell (F := fun _ => False) (p := ⟨gy, 1, none⟩) ?_ (Or.inr HGY.out) _
           refine Touch.setCell (F := fun _ => False) (p := ⟨gy, 0, none⟩) ?_ (Or.inr HGY.out) _
           exact HTA.out
          generalize (((((((((wy.setCell ⟨gy, 0, none⟩ (.int .u16 0)).setCell ⟨gy, 1, none⟩ (.int .u8 0)).setCell ⟨gy, 2, none⟩ (.int .u8 0)).setCell ⟨gy, 3, none⟩ (.int .u32 NN)).setCell ⟨gy, 4, none⟩ (.int .u32 0)).setCell ⟨gy, 5, none⟩ (.int .i32 0)).setCell ⟨gy, 6, none⟩ (.int .u16 0)).setCell ⟨gy, 7, none⟩ (.int .u16 0))).drew = wz at *
          clear y0 z0 d20 y1 z1 d21 y2 z2 d22 y3 z3 d23 y4 z4 d24 y5 z5 d25 y6 z6 d26 y7 z7 d27 q2'
          have st : Since wz wz.drew := Since.start wz
          have s0 := since_cell v0
          have s1 := since_cell v1
          have s2 := since_cell v2
          have s3 := since_cell v3
          have s4 := since_cell v4
          have s5 := since_cell v5
          have s6 := since_cell v6
          have s7 := since_cell v7
          go_region_held3 (fun w' => Since wz w') (with_reducible assumption) (first | (go_at_call 87; refine Calls.mono (HNM _) ?_; rintro e wx ⟨rfl, rfl⟩))
          go_wp2
          go_roundw
          case rel => exact ⟨k + 1, by omega, by go_num, HTB.out.drew⟩
          case measure => simp [intOf] <;> omega
        ·clear HNM hw32
         go_wp2
         go_roundw
         case rel => exact ⟨n + 1, by omega, by go_num, HTK.out⟩
         case measure => simp [intOf] <;> omega
      ·go_wp2
       go_ret
       exact ⟨rfl, HTT.out.trans' HTN.out (fun _ _ h => h.elim)⟩
end Go.Proofs.YtbfplepmgbkajaaGreatDoor
