/- The look at a Bag's lists: apartWords. -/
import Derived.Test.YtbfplepmgbkajaaGreatDoorBagKm
namespace Go.Proofs.YtbfplepmgbkajaaGreatDoor
open Go.RowKit
set_option linter.unusedVariables false
set_option maxRecDepth 100000

def KWords : Kd := ⟨22, 24, 1, fun n i => [.int .u32 (nmk n i)]⟩
theorem KWords_ok : KWords.Ok := ⟨by decide, fun _ _ => rfl⟩
theorem Tryz.infoWordsL : (Tryz.prog.info? 24).map (fun i => (i.zero, i.size, i.bytes)) = some (some (.slice none 0 0), 1, 24) := by kernel_rfl
set_option maxHeartbeats 4000000 in
theorem apartWords_any (b : Nat) (gv : Value) (vs : List Value) (w : World) (h : BagG KWords 5 w b gv vs) :
  Calls Tryz.prog 57 #[.pointer (some ⟨b, 0, none⟩)] w fun e w' => e = .returned (.bool true) ∧ Touch (bagF vs) w w' := by
 obtain ⟨i0, hi, hz0, hz1, hz2⟩ := info_parts Tryz.infoU
 obtain ⟨i1, hj, hy0, hy1, hy2⟩ := info_parts Tryz.infoWordsL
 have hN := h.few
 obtain ⟨ga, gc, hgv⟩ := own_form h.own
 go_enter Tryz.func57, Tryz.ntmps57
 go_wp2
 go_loopw [3] (fun i wr => ∃ n : Nat, n ≤ vs.length ∧ i = .int .i64 n ∧ GIn1 KWords w wr vs n 0) (fun i _ => vs.length - (intOf i).toNat)
 case atStart => exact ⟨0, Nat.zero_le _, rfl, GIn1.start h⟩
 case round =>
  obtain ⟨n, hn, rfl, hin⟩ := hrel
  have hbc := h.bagCell hin.touch
  rw [hgv] at hbc
  by_cases hlt : n < vs.length
  ·obtain ⟨wo, hwo⟩ : ∃ wo : World, wo = wr := ⟨_, rfl⟩
   rw [← hwo] at hin hbc ⊢
   clear hwo
   go_wp2
   go_loopw [4] (fun i wr => ∃ k : Nat, k ≤ lenOf (vs.getD n undef) ∧ i = .int .i64 k ∧ GIn1 KWords w wr vs n k) (fun i _ => lenOf (vs.getD n undef) - (intOf i).toNat)
   case atStart => exact ⟨0, Nat.zero_le _, rfl, hin⟩
   case round =>
    obtain ⟨k, hk, rfl, hik⟩ := hrel
    obtain ⟨gb, gcc, v, hge, hv, hcv⟩ := own_elem (h.ownG hik.touch) n hlt
    have hbk := h.bagCell hik.touch
    have hvd : vs.getD n undef = v := by simp [List.getD, hv]
    rw [hvd] at hk ⊢
    have hsm := h.small n v hv
    obtain ⟨va, vc, hvf⟩ := hik.form hv
    have hgn := h.ng n v
    have hbn := h.nb n v hv
    rw [hge] at hbk hgn
    by_cases hkl : k < lenOf v
    ·obtain ⟨g, cp, hve, hcx, hnext⟩ := GIn1.at KWords_ok h hik v hv hkl
     have hvb : v.ownBlock = some g := by rw [hve]; rfl
     have hbg : b ≠ g := fun e => hbn (by rw [hvb, e])
     have hgg : gb ≠ g := fun e => hgn g hv hvb (by rw [← e]; rfl)
     rw [hve] at hcv
     obtain ⟨x0, cx0, fx0⟩ := hcx 0 (by decide)
     replace cx0 : wr.cell? ⟨g, k, none⟩ = some x0 := by simpa [KWords] using cx0
     replace fx0 : wr.frozen? ⟨g, k, none⟩ = false := by simpa [KWords] using fx0
     have e : putAll wr g (k * KWords.k) (KWords.mark n k) 0 = (wr.setCell ⟨g, k, none⟩ (.int .u32 (nmk n k))) := by simp [putAll, KWords]
     rw [e] at hnext
     have HNM := fun w => nmk_any n k w (by omega) (by omega)
     have hw32 := nmk_u32 n k (by omega) (by omega)
     have HN : Hid (GIn1 KWords w (wr.setCell ⟨g, k, none⟩ (.int .u32 (nmk n k))) vs n (k + 1)) := hnext
     clear hnext hik hvf hv hge hve hin hbc hvd hcx e hgn hbn hvb
     generalize lenOf v = L at hk hsm hkl hcv ⊢
     generalize nmk n k = NN at *
     have p1 := sinceF_cell hbg hbk
     have p2 := sinceF_cell hgg hcv
     have st : SinceF wr g wr.drew := SinceF.start wr g
     have hkL : (k : Int) < (L : Int) := by omega
     have hnL : (n : Int) < (vs.length : Int) := by omega
     go_upto_region 7 with fail
     clear hbk hcv
     go_region_held3 (fun w' => SinceF wr g w') (first | with_reducible assumption | with_reducible exact SinceF.set1d _ _ _ _) (first | (go_at_call 87; refine Calls.mono (HNM _) ?_; rintro e wx ⟨rfl, rfl⟩))
     go_wp2
     go_roundw
     case rel => exact ⟨k + 1, by omega, by go_num, HN.out.drew⟩
     case measure => simp [intOf]; omega
    ·have hke : k = lenOf v := by omega
     have HN : Hid (GIn1 KWords w wr vs (n + 1) 0) := by rw [hke] at hik; exact GIn1.next v hv hik
     rw [hvf] at hcv
     clear hik hv hge hin hbc hvd hvf hke hgn hbn
     generalize lenOf v = L at hk hsm hkl hcv ⊢
     go_wp2
     go_roundw
     case rel => exact ⟨n + 1, by omega, by go_num, HN.out⟩
     case measure => simp [intOf]; omega
  ·obtain rfl : n = vs.length := by omega
   have hst := GSt.start h hin
   clear hin
   have h2 : GIn2 KWords w wr vs (.slice none 0 0) (.slice none 0 0) 0 := ⟨_, [], [], rfl, rfl, hst⟩
   obtain ⟨wo, hwo⟩ : ∃ wo : World, wo = wr := ⟨_, rfl⟩
   rw [← hwo] at hbc h2 ⊢
   clear hwo hst
   go_wp2
   go_loopw [5, 6, 7] (fun one more i wr => ∃ n : Nat, n ≤ vs.length ∧ i = .int .i64 n ∧ GIn2 KWords w wr vs one more n) (fun _ _ i _ => vs.length - (intOf i).toNat)
   case atStart => exact ⟨0, Nat.zero_le _, rfl, h2⟩
   case round =>
    obtain ⟨n, hn, rfl, hin⟩ := hrel
    clear hbc h2
    by_cases hlt : n < vs.length
    ·obtain ⟨G, ones, mores, hl1, hl2, st⟩ := hin.ex
     have hbk := h.bagCell st.touch
     obtain ⟨gb, gcc, v, hge, hv, hcv⟩ := own_elem (h.ownG st.touch) n hlt
     have hsm := h.small n v hv
     have hrow := st.rowsO n v hv (Nat.le_refl _)
     have h3 : GIn3 KWords w wr vs u5 u6 n (lenOf v) (lenOf v) v := ⟨G, ones, mores, hl2, Or.inl ⟨hl1, rfl⟩, st.weaken (Nat.le_succ n), hrow, (st.rowsR n v hv).2⟩
     obtain ⟨va, vc, hvf⟩ := own_form hrow
     obtain ⟨L, hL⟩ : ∃ L, lenOf v = L := ⟨_, rfl⟩
     rw [hL] at hsm h3 hvf
     subst hvf
     rw [hge] at hbk
     obtain ⟨wo, hwo⟩ : ∃ wo : World, wo = wr := ⟨_, rfl⟩
     rw [← hwo] at hbk hcv h3 ⊢
     have HV : Hid (vs[n]? = some (.slice va L vc)) := hv
     clear hwo hin hrow st hge hv hL
     go_wp2
     go_loopw [5, 8, 9] (fun one l i wr => ∃ k : Nat, L ≤ k ∧ k ≤ L + 70 ∧ i = .int .i64 k ∧ GIn3 KWords w wr vs one u6 n L k l) (fun _ _ i _ => L + 70 - (intOf i).toNat)
     case atStart => exact ⟨L, Nat.le_refl _, by omega, rfl, h3⟩
     case round =>
      obtain ⟨k, hk0, hk1, rfl, hi3⟩ := hrel
      clear h3 hbk hcv
      obtain ⟨G, ones, mores, hm, hones, st, hl, hlG⟩ := hi3.ex
      have hbk := h.bagCell st.touch
      obtain ⟨gb, gcc, v, hge, hv, hcv⟩ := own_elem (h.ownG st.touch) n hlt
      obtain rfl : Value.slice va L vc = v := by have e := HV.out; rw [hv] at e; exact (Option.some.inj e).symm
      rw [hge] at hbk
      have HNM := fun w => nmk_any n k w (by omega) (by omega)
      have hw32 := nmk_u32 n k (by omega) (by omega)
      by_cases hkl : k < L + 70
      ·obtain ⟨la, lc, rfl⟩ := own_form hl
       have HMK : Hid (KWords.mark n k = [.int .u32 (nmk n k)]) := rfl
       by_cases hkL : k = L
       ·have hol : ones.length = n := by rcases hones with ⟨a, _⟩ | ⟨_, a⟩ <;> omega
        subst hkL
        obtain ⟨oa, oc, rfl⟩ := own_form st.own1
        have HST : Hid (GSt KWords w wr vs G (.slice oa ones.length oc) ones u6 mores (n + 1)) := st
        have HLG : Hid (∀ kb, (Value.slice la k lc).ownBlock = some kb → G kb n) := hlG
        have HL : Hid (wr.ownsRow 0 22 1 (.slice la k lc) k (mrow KWords n k)) := hl
        have HOL : Hid (ones.length = n) := hol
        have HM : Hid (mores.length = n) := hm
        clear st hlG hl hi3 hge hv hones hol hm
        generalize nmk n k = NN at *
        go_wp2_with fail
        refine Calls.mono (HNM _) ?_
        rintro e wx ⟨rfl, rfl⟩
        clear HNM
        go_wp2_with (at_builtin; refine wpList_append_keep _ rfl (.tmp 79) (.tmp 84) 24 rfl 0 22 i0 (.int .u32 0) 1 4 Tryz.underlying24 hi hz0 hz1 hz2 rfl (by decide) (.slice la k lc) k (mrow KWords n k) rfl (HL.out.alloc _) ⟨wr.heap.size, 0, none⟩ 1 1 [.int .u32 NN] rfl rfl ?c1 ?c2 ?c3 ?c4 ?c5 ?_)
        case c1 => exact (fun j u hj => by rw [add_plain]; match j, hj with | 0, hj => (simp at hj; subst hj; simp [go_sem]) | j + 1, hj => simp at hj)
        case c2 => simp [Value.oneCell']
        case c3 => unfold maxLen; omega
        case c4 => omega
        case c5 => exact Nat.zero_le _
        intro l' w1 hown' hkeep hgrow hat
        rw [← HMK.out] at hown'
        obtain ⟨G', st', hl', hlG'⟩ := HST.out.grow KWords_ok _ HV.out HL.out HLG.out (Nat.le_refl k) (Or.inl HOL.out) HM.out hown' hkeep hgrow hat
        obtain ⟨la', lc', rfl⟩ := own_form hl'
        have HST' : Hid (GSt KWords w w1 vs G' (.slice oa ones.length oc) ones u6 mores (n + 1)) := st'
        have HL' : Hid (w1.ownsRow 0 22 1 (.slice la' (k + 1) lc') (k + 1) (mrow KWords n (k + 1))) := hl'
        have HLG' : Hid (∀ kb, (Value.slice la' (k + 1) lc').ownBlock = some kb → G' kb n) := hlG'
        have hbk1 := h.bagCell st'.touch
        obtain ⟨gb1, gcc1, v1, hge1, hv1, hcv1⟩ := own_elem (h.ownG st'.touch) n hlt
        obtain rfl : Value.slice va k vc = v1 := by have e := HV.out; rw [hv1] at e; exact (Option.some.inj e).symm
        rw [hge1] at hbk1
        clear st' hl' hlG' hown' hkeep hgrow hat HST HL HLG hbk hcv hge1 hv1
        go_wp2_with (at_builtin; (refine wpList_append_keep _ rfl (.tmp 96) (.tmp 98) 55 rfl w.heap.size 24 i1 (.slice none 0 0) 1 24 Tryz.underlying55 hj hy0 hy1 hy2 rfl (by decide) (.slice oa ones.length oc) ones.length ones rfl (HST'.out.own1.alloc _) ⟨w1.heap.size, 0, none⟩ 1 1 [.slice la' (k + 1) lc'] rfl rfl ?c1 ?c2 ?c3 ?c4 ?c5 ?_))
        case c1 => exact cell_one_new _ _ _
        case c2 => intro u hu; obtain rfl := List.mem_singleton.mp hu; rfl
        case c3 => have := HOL.out; unfold maxLen; omega
        case c4 => have := HOL.out; omega
        case c5 => have := HST'.out.touch.size; simp; omega
        intro one' w2 hown2 _ hgrow2 hat2
        obtain ⟨st2, hl2'⟩ := HST'.out.add1 _ HV.out HL'.out HLG'.out HOL.out hown2 hgrow2 hat2
        have h3 : GIn3 KWords w w2 vs one' u6 n k (k + 1) (.slice la' (k + 1) lc') := ⟨G', ones ++ [.slice la' (k + 1) lc'], mores, HM.out, Or.inr ⟨by simp [HOL.out], by omega⟩, st2, hl2', HLG'.out⟩
        clear hown2 hgrow2 hat2 st2 hl2' hbk1 hcv1 HST' HL' HLG'
        go_wp2
        go_roundw
        case rel => exact ⟨k + 1, by omega, by omega, by go_num, h3⟩
        case measure => simp [intOf] <;> omega
       ·have hol : ones.length = n + 1 ∧ L + 1 ≤ k := by rcases hones with ⟨_, a⟩ | a <;> omega
        have HST : Hid (GSt KWords w wr vs G u5 ones u6 mores (n + 1)) := st
        have HLG : Hid (∀ kb, (Value.slice la k lc).ownBlock = some kb → G kb n) := hlG
        have HL : Hid (wr.ownsRow 0 22 1 (.slice la k lc) k (mrow KWords n k)) := hl
        have HOL : Hid (ones.length = n + 1 ∧ L + 1 ≤ k) := hol
        have HM : Hid (mores.length = n) := hm
        have hkL' : ((k : Int) == (L : Int)) = false := by simp; omega
        clear st hlG hl hi3 hge hv hones hol hm
        generalize nmk n k = NN at *
        go_wp2_with fail
        refine Calls.mono (HNM _) ?_
        rintro e wx ⟨rfl, rfl⟩
        clear HNM
        go_wp2_with (at_builtin; refine wpList_append_keep _ rfl (.tmp 79) (.tmp 84) 24 rfl 0 22 i0 (.int .u32 0) 1 4 Tryz.underlying24 hi hz0 hz1 hz2 rfl (by decide) (.slice la k lc) k (mrow KWords n k) rfl (HL.out.alloc _) ⟨wr.heap.size, 0, none⟩ 1 1 [.int .u32 NN] rfl rfl ?c1 ?c2 ?c3 ?c4 ?c5 ?_)
        case c1 => exact (fun j u hj => by rw [add_plain]; match j, hj with | 0, hj => (simp at hj; subst hj; simp [go_sem]) | j + 1, hj => simp at hj)
        case c2 => simp [Value.oneCell']
        case c3 => unfold maxLen; omega
        case c4 => omega
        case c5 => exact Nat.zero_le _
        intro l' w1 hown' hkeep hgrow hat
        rw [← HMK.out] at hown'
        obtain ⟨G', st', hl', hlG'⟩ := HST.out.grow KWords_ok _ HV.out HL.out HLG.out (show L ≤ k from hk0) (Or.inr HOL.out) HM.out hown' hkeep hgrow hat
        obtain ⟨la', lc', rfl⟩ := own_form hl'
        have h3 : GIn3 KWords w w1 vs u5 u6 n L (k + 1) (.slice la' (k + 1) lc') := ⟨G', ones, mores, HM.out, Or.inr ⟨HOL.out.1, by omega⟩, st', hl', hlG'⟩
        have hbk1 := h.bagCell st'.touch
        obtain ⟨gb1, gcc1, v1, hge1, hv1, hcv1⟩ := own_elem (h.ownG st'.touch) n hlt
        obtain rfl : Value.slice va L vc = v1 := by have e := HV.out; rw [hv1] at e; exact (Option.some.inj e).symm
        rw [hge1] at hbk1
        clear st' hl' hlG' hown' hkeep hgrow hat HST HL HLG hbk hcv hge1 hv1
        go_wp2
        go_roundw
        case rel => exact ⟨k + 1, by omega, by omega, by go_num, h3⟩
        case measure => simp [intOf] <;> omega
      ·obtain rfl : k = L + 70 := by omega
       have hol : ones.length = n + 1 := by rcases hones with ⟨_, a⟩ | ⟨a, _⟩ <;> omega
       obtain ⟨la, lc, rfl⟩ := own_form hl
       have HST : Hid (GSt KWords w wr vs G u5 ones u6 mores (n + 1)) := st
       have HLG : Hid (∀ kb, (Value.slice la (L + 70) lc).ownBlock = some kb → G kb n) := hlG
       have HL : Hid (wr.ownsRow 0 22 1 (.slice la (L + 70) lc) (L + 70) (mrow KWords n (L + 70))) := hl
       have HOL : Hid (ones.length = n + 1) := hol
       have HM : Hid (mores.length = n) := hm
       clear st hlG hl hi3 hge hv hones hol hm HNM hw32
       go_wp2_with (at_builtin; refine wpList_append_keep _ rfl (.tmp 100) (.tmp 102) 55 rfl w.heap.size 24 i1 (.slice none 0 0) 1 24 Tryz.underlying55 hj hy0 hy1 hy2 rfl (by decide) u6 mores.length mores rfl (HST.out.own2.alloc _) ⟨wr.heap.size, 0, none⟩ 1 1 [.slice la (L + 70) lc] rfl rfl ?c1 ?c2 ?c3 ?c4 ?c5 ?_)
       case c1 => exact cell_one_new _ _ _
       case c2 => intro u hu; obtain rfl := List.mem_singleton.mp hu; rfl
       case c3 => have := HM.out; unfold maxLen; omega
       case c4 => have := HM.out; omega
       case c5 => have := HST.out.touch.size; simp; omega
       intro more' w2 hown2 _ hgrow2 hat2
       have st2 := HST.out.add2 _ HV.out HL.out HLG.out HM.out hown2 hgrow2 hat2
       have h2 : GIn2 KWords w w2 vs u5 more' (n + 1) := ⟨G, ones, mores ++ [.slice la (L + 70) lc], HOL.out, by simp [HM.out], st2⟩
       clear hown2 hgrow2 hat2 st2 HST HL HLG hbk hcv
       go_wp2
       go_roundw
       case rel => exact ⟨n + 1, by omega, by go_num, h2⟩
       case measure => simp [intOf] <;> omega
    ·obtain rfl : n = vs.length := by omega
     obtain ⟨h4, ht⟩ := GIn4.of h hin
     have hbk := h4.cell
     rw [hgv] at hbk
     obtain ⟨ma, mc, rfl⟩ := h4.len
     have H4 : Hid (GIn4 KWords 5 wr b gv vs u5 (.slice ma vs.length mc)) := h4
     have HTT : Hid (Touch (bagF vs) w wr) := ht
     obtain ⟨w4, hw4⟩ : ∃ w4 : World, w4 = wr := ⟨_, rfl⟩
     rw [← hw4] at H4 HTT hbk ⊢
     clear hin h4 ht hw4
     go_wp2
     go_loopw [10] (fun i wr => ∃ n : Nat, n ≤ vs.length ∧ i = .int .i64 n ∧ Touch (fun _ => False) w4 wr) (fun i _ => vs.length - (intOf i).toNat)
     case atStart => exact ⟨0, Nat.zero_le _, rfl, Touch.refl _ _⟩
     case round =>
      obtain ⟨n, hn, rfl, tn⟩ := hrel
      have HTN : Hid (Touch (fun _ => False) w4 wr) := tn
      clear tn
      by_cases hnl : n < vs.length
      ·obtain ⟨v, o1, o2, hv, ⟨gb, gcc, hge, hcv⟩, ⟨g1, c1, hoe, hc1⟩, ⟨g2, c2, hme, hc2⟩, r0, r1, r2⟩ := H4.out.at3 n hnl
       have hsm := h.small n v hv
       have hbk' := H4.out.cell
       rw [hge] at hbk'
       simp only [Value.slice.injEq, true_and] at hme
       obtain ⟨rfl, rfl⟩ := hme
       subst hoe
       obtain ⟨L, hL⟩ : ∃ L, lenOf v = L := ⟨_, rfl⟩
       rw [hL] at hsm r0 r1 r2
       obtain ⟨va, vc, rfl⟩ := grow_form r0
       obtain ⟨a2, b2, rfl⟩ := grow_form r2
       obtain ⟨a1, b1, rfl⟩ := grow_form r1
       have R0 : Hid (GRow KWords w4 (.slice va L vc) n L) := r0
       have R1 : Hid (GRow KWords w4 (.slice a1 (L + 1) b1) n (L + 1)) := r1
       have R2 : Hid (GRow KWords w4 (.slice a2 (L + 70) b2) n (L + 70)) := r2
       have HBK : Hid (w4.cell? ⟨b, 5, none⟩ = some (.slice (some ⟨gb, 0, none⟩) vs.length gcc)) := hbk'
       have HCV : Hid (w4.cell? ⟨gb, n, none⟩ = some (.slice va L vc)) := hcv
       have HC1 : Hid (w4.cell? ⟨g1, n, none⟩ = some (.slice a1 (L + 1) b1)) := hc1
       have HC2 : Hid (w4.cell? ⟨g2, n, none⟩ = some (.slice a2 (L + 70) b2)) := hc2
       have q2 := HTN.out.cellN hc2
       clear hL hv hge hbk hbk' hcv hc1 hc2 r0 r1 r2
       obtain ⟨w5, hw5⟩ : ∃ w5 : World, w5 = wr := ⟨_, rfl⟩
       rw [← hw5] at HTN q2 ⊢
       clear hw5
       go_wp2
       clear q2
       go_loopw [11] (fun i wr => ∃ k : Nat, k ≤ L + 70 ∧ i = .int .i64 k ∧ Touch (fun _ => False) w4 wr) (fun i _ => L + 70 - (intOf i).toNat)
       case atStart => exact ⟨0, Nat.zero_le _, rfl, HTN.out⟩
       case round =>
        obtain ⟨k, hk, rfl, tk⟩ := hrel
        have HTK : Hid (Touch (fun _ => False) w4 wr) := tk
        have qb := tk.cellN HBK.out
        have qv := tk.cellN HCV.out
        have q1 := tk.cellN HC1.out
        have q2 := tk.cellN HC2.out
        clear tk
        have HNM := fun w => nmk_any n k w (by omega) (by omega)
        have hw32 := nmk_u32 n k (by omega) (by omega)
        by_cases hkl : k < L + 70
        ·obtain ⟨x2, y2, e2, hx2⟩ := grow_at KWords_ok R2.out hkl
         simp only [Value.slice.injEq, true_and] at e2
         obtain ⟨rfl, rfl⟩ := e2
         have c20 : wr.cell? ⟨x2, k, none⟩ = some (.int .u32 (nmk n k)) := by
          have e := HTK.out.cellN (hx2 0 (.int .u32 (nmk n k)) rfl)
          simpa [KWords] using e
         clear hx2
         rcases Nat.lt_trichotomy k L with hc | hc | hc
         ·obtain ⟨x0, y0, e0, hx0⟩ := grow_at KWords_ok R0.out hc
          simp only [Value.slice.injEq, true_and] at e0
          obtain ⟨rfl, rfl⟩ := e0
          have c00 : wr.cell? ⟨x0, k, none⟩ = some (.int .u32 (nmk n k)) := by
           have e := HTK.out.cellN (hx0 0 (.int .u32 (nmk n k)) rfl)
           simpa [KWords] using e
          have hkL' : ((k : Int) == (L : Int)) = false := by simp; omega
          clear hx0
          generalize nmk n k = NN at *
          go_wp2_with fail
          refine Calls.mono (HNM _) ?_
          rintro e wx ⟨rfl, rfl⟩
          go_wp2_with fail
          refine Calls.mono (HNM _) ?_
          rintro e wx ⟨rfl, rfl⟩
          go_wp2
          go_roundw
          case rel => exact ⟨k + 1, by omega, by go_num, HTK.out⟩
          case measure => simp [intOf] <;> omega
         ·subst hc
          obtain ⟨x1, y1, e1, hx1⟩ := grow_at KWords_ok R1.out (Nat.lt_succ_self k)
          simp only [Value.slice.injEq, true_and] at e1
          obtain ⟨rfl, rfl⟩ := e1
          have c10 : wr.cell? ⟨x1, k, none⟩ = some (.int .u32 (nmk n k)) := by
           have e := HTK.out.cellN (hx1 0 (.int .u32 (nmk n k)) rfl)
           simpa [KWords] using e
          clear hx1
          generalize nmk n k = NN at *
          go_wp2_with fail
          refine Calls.mono (HNM _) ?_
          rintro e wx ⟨rfl, rfl⟩
          go_wp2_with fail
          refine Calls.mono (HNM _) ?_
          rintro e wx ⟨rfl, rfl⟩
          go_wp2
          go_roundw
          case rel => exact ⟨k + 1, by omega, by go_num, HTK.out⟩
          case measure => simp [intOf] <;> omega
         ·have hkL' : ((k : Int) == (L : Int)) = false := by simp; omega
          generalize nmk n k = NN at *
          go_wp2_with fail
          refine Calls.mono (HNM _) ?_
          rintro e wx ⟨rfl, rfl⟩
          go_wp2_with fail
          refine Calls.mono (HNM _) ?_
          rintro e wx ⟨rfl, rfl⟩
          go_wp2
          go_roundw
          case rel => exact ⟨k + 1, by omega, by go_num, HTK.out⟩
          case measure => simp [intOf] <;> omega
        ·clear HNM hw32
         go_wp2
         go_roundw
         case rel => exact ⟨n + 1, by omega, by go_num, HTK.out⟩
         case measure => simp [intOf] <;> omega
      ·go_wp2
       go_ret
       exact ⟨rfl, HTT.out.trans' HTN.out (fun _ _ h => h.elim)⟩
end Go.Proofs.YtbfplepmgbkajaaGreatDoor
