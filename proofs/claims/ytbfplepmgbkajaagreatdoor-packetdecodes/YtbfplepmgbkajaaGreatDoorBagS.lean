/- The contract of apartBytes. -/
import Derived.Test.YtbfplepmgbkajaaGreatDoorBagOne
import Derived.Test.YtbfplepmgbkajaaGreatDoorWideV
import Derived.Test.YtbfplepmgbkajaaGreatDoorNumber
namespace Go.Proofs.YtbfplepmgbkajaaGreatDoor
open Go.RowKit
set_option linter.unusedVariables false
set_option maxRecDepth 100000

theorem Tryz.info5b : (Tryz.prog.info? 5).map (fun i => (i.zero, i.size, i.bytes)) = some (some (.int .u8 0), 1, 1) := by kernel_rfl
theorem Tryz.infoB : (Tryz.prog.info? 40).map (fun i => (i.zero, i.size, i.bytes)) = some (some (.slice none 0 0), 1, 24) := by kernel_rfl

theorem row0_at {w : World} {v : Value} {n L i : Nat} (h : Row0 w v (marks n L)) (hi : i < L) : ∃ g c, v = .slice (some ⟨g, 0, none⟩) L c ∧ w.cell? ⟨g, i, none⟩ = some (.int .u8 ((31 * (n : Int) + 7 * (i : Int) + 3) % 256)) := by
 rcases h with ⟨_, e⟩ | ⟨g, c, rfl, h1, h2, h3⟩
 ·have := length_marks n L; rw [e] at this; simp at this; omega
 ·refine ⟨g, c, by rw [length_marks], h3 i _ ?_⟩
  simp only [bytesOf, List.getElem?_map]
  rw [marks_at _ _ _ hi]
  rfl

theorem row0_form {w : World} {v : Value} {n L : Nat} (h : Row0 w v (marks n L)) : ∃ a c, v = .slice a L c := by
 rcases h with ⟨rfl, e⟩ | ⟨g, c, rfl, h1, h2, h3⟩
 ·have := length_marks n L; rw [e] at this; simp at this; subst this; exact ⟨_, _, rfl⟩
 ·exact ⟨_, _, by rw [length_marks]⟩

/-- The second loop, between two lists. -/
structure In2 (w wr : World) (vs : List Value) (one more : Value) (n : Nat) : Prop where
 ex : ∃ (G : Nat → Nat → Prop) (ones mores : List Value), ones.length = n ∧ mores.length = n ∧ St w wr vs G one ones more mores n

/-- The second loop, within list n. -/
structure In3 (w wr : World) (vs : List Value) (one more : Value) (n L k : Nat) (l : Value) : Prop where
 ex : ∃ (G : Nat → Nat → Prop) (ones mores : List Value), mores.length = n ∧ (ones.length = n ∧ k = L ∨ ones.length = n + 1 ∧ L + 1 ≤ k) ∧ St w wr vs G one ones more mores (n + 1) ∧
  wr.ownsRow 0 5 1 l k (bytesOf (marks n k)) ∧ ∀ kb, l.ownBlock = some kb → G kb n

/-- The third loop: what it reads. -/
structure In4 (wr : World) (b : Nat) (gv : Value) (vs : List Value) (one more : Value) : Prop where
 cell : wr.cell? ⟨b, 0, none⟩ = some gv
 len : ∃ ma mc, more = .slice ma vs.length mc
 at3 : ∀ (n : Nat), n < vs.length → ∃ (v o1 o2 : Value), vs[n]? = some v ∧ (∃ gb gc, gv = .slice (some ⟨gb, 0, none⟩) vs.length gc ∧ wr.cell? ⟨gb, n, none⟩ = some v) ∧
  (∃ g1 c1, one = .slice (some ⟨g1, 0, none⟩) vs.length c1 ∧ wr.cell? ⟨g1, n, none⟩ = some o1) ∧ (∃ g2 c2, more = .slice (some ⟨g2, 0, none⟩) vs.length c2 ∧ wr.cell? ⟨g2, n, none⟩ = some o2) ∧
  Row0 wr v (marks n (lenOf v)) ∧ Row0 wr o1 (marks n (lenOf v + 1)) ∧ Row0 wr o2 (marks n (lenOf v + 70))

theorem In4.of {w wr : World} {b : Nat} {gv : Value} {vs : List Value} {one more : Value} (h : BagB w b gv vs) (h2 : In2 w wr vs one more vs.length) : In4 wr b gv vs one more ∧ Touch (bagF vs) w wr := by
 obtain ⟨G, ones, mores, hl1, hl2, st⟩ := h2.ex
 refine ⟨⟨h.bagCell st.touch, ?_, fun n hn => ?_⟩, st.touch⟩
 ·obtain ⟨a, c, e⟩ := own_form st.own2
  exact ⟨a, c, by rw [e, hl2]⟩
 ·obtain ⟨gb, gc, v, hge, hv, hcv⟩ := own_elem (h.ownG st.touch) n hn
  obtain ⟨g1, c1, o1, he1, ho1, hc1⟩ := own_elem st.own1 n (by omega)
  obtain ⟨g2, c2, o2, he2, ho2, hc2⟩ := own_elem st.own2 n (by omega)
  exact ⟨v, o1, o2, hv, ⟨gb, gc, hge, hcv⟩, ⟨g1, c1, by rw [he1, hl1], hc1⟩, ⟨g2, c2, by rw [he2, hl2], hc2⟩, (st.rowsR n v hv).1, (st.els1 n o1 v ho1 hv).1, (st.els2 n o2 v ho2 hv).1⟩

set_option maxHeartbeats 4000000 in
theorem apart_any (b : Nat) (gv : Value) (vs : List Value) (w : World) (h : BagB w b gv vs) :
  Calls Tryz.prog 52 #[.pointer (some ⟨b, 0, none⟩)] w fun e w' => e = .returned (.bool true) ∧ Touch (bagF vs) w w' := by
 obtain ⟨i0, hi, hz0, hz1, hz2⟩ := info_parts Tryz.info5b
 obtain ⟨i1, hj, hy0, hy1, hy2⟩ := info_parts Tryz.infoB
 have hN := h.few
 obtain ⟨ga, gc, hgv⟩ := own_form h.own
 go_enter Tryz.func52, Tryz.ntmps52
 go_wp2
 go_loopw [3] (fun i wr => ∃ n : Nat, n ≤ vs.length ∧ i = .int .i64 n ∧ In1 w wr vs n 0) (fun i _ => vs.length - (intOf i).toNat)
 case atStart => exact ⟨0, Nat.zero_le _, rfl, In1.start h⟩
 case round =>
  obtain ⟨n, hn, rfl, hin⟩ := hrel
  have hbc := h.bagCell hin.touch
  rw [hgv] at hbc
  by_cases hlt : n < vs.length
  ·obtain ⟨wo, hwo⟩ : ∃ wo : World, wo = wr := ⟨_, rfl⟩
   rw [← hwo] at hin hbc ⊢
   clear hwo
   go_wp2
   go_loopw [4] (fun i wr => ∃ k : Nat, k ≤ lenOf (vs.getD n undef) ∧ i = .int .i64 k ∧ In1 w wr vs n k) (fun i _ => lenOf (vs.getD n undef) - (intOf i).toNat)
   case atStart => exact ⟨0, Nat.zero_le _, rfl, hin⟩
   case round =>
    obtain ⟨k, hk, rfl, hik⟩ := hrel
    obtain ⟨gb, gcc, v, hge, hv, hcv⟩ := own_elem (h.ownG hik.touch) n hlt
    have hbk := h.bagCell hik.touch
    have hvd : vs.getD n undef = v := by simp [List.getD, hv]
    rw [hvd] at hk ⊢
    have hsm := h.small n v hv
    obtain ⟨va, vc, hvf⟩ := hik.form hv
    rw [hge] at hbk
    by_cases hkl : k < lenOf v
    ·obtain ⟨g, c, x, hve, hcx, hfx, hnext⟩ := In1.at h hik v hv hkl
     rw [hve] at hcv
     have HN : Hid (In1 w (wr.setCell ⟨g, k, none⟩ (.int .u8 (mark n k))) vs n (k + 1)) := hnext
     clear hnext hik hvf hv hge hve hin hbc hvd
     generalize lenOf v = L at hk hsm hkl hcv ⊢
     go_wp2
     go_roundw
     case rel => exact ⟨k + 1, by omega, by go_num, HN.out⟩
     case measure => simp [intOf]; omega
    ·have hke : k = lenOf v := by omega
     have HN : Hid (In1 w wr vs (n + 1) 0) := by rw [hke] at hik; exact In1.next v hv hik
     rw [hvf] at hcv
     clear hik hv hge hin hbc hvd hvf hke
     generalize lenOf v = L at hk hsm hkl hcv ⊢
     go_wp2
     go_roundw
     case rel => exact ⟨n + 1, by omega, by go_num, HN.out⟩
     case measure => simp [intOf]; omega
  ·obtain rfl : n = vs.length := by omega
   have hst := St.start h hin
   clear hin
   have h2 : In2 w wr vs (.slice none 0 0) (.slice none 0 0) 0 := ⟨_, [], [], rfl, rfl, hst⟩
   obtain ⟨wo, hwo⟩ : ∃ wo : World, wo = wr := ⟨_, rfl⟩
   rw [← hwo] at hbc h2 ⊢
   clear hwo hst
   go_wp2
   go_loopw [5, 6, 7] (fun one more i wr => ∃ n : Nat, n ≤ vs.length ∧ i = .int .i64 n ∧ In2 w wr vs one more n) (fun _ _ i _ => vs.length - (intOf i).toNat)
   case atStart => exact ⟨0, Nat.zero_le _, rfl, h2⟩
   case round =>
    obtain ⟨n, hn, rfl, hin⟩ := hrel
    clear hbc h2
    by_cases hlt : n < vs.length
    ·obtain ⟨G, ones, mores, hl1, hl2, st⟩ := hin.ex
     have hbk := h.bagCell st.touch
     obtain ⟨gb, gcc, v, hge, hv, hcv⟩ := own_elem (h.ownG st.touch) n hlt
     have hsm := h.small n v hv
     have hrow := st.rowsO n v hv (Nat.le_refl _)
     have h3 : In3 w wr vs u5 u6 n (lenOf v) (lenOf v) v := ⟨G, ones, mores, hl2, Or.inl ⟨hl1, rfl⟩, st.weaken (Nat.le_succ n), hrow, (st.rowsR n v hv).2⟩
     obtain ⟨va, vc, hvf⟩ := own_form hrow
     obtain ⟨L, hL⟩ : ∃ L, lenOf v = L := ⟨_, rfl⟩
     rw [hL] at hsm h3 hvf
     subst hvf
     rw [hge] at hbk
     obtain ⟨wo, hwo⟩ : ∃ wo : World, wo = wr := ⟨_, rfl⟩
     rw [← hwo] at hbk hcv h3 ⊢
     have HV : Hid (vs[n]? = some (.slice va L vc)) := hv
     clear hwo hin hrow st hge hv hL
     go_wp2
     go_loopw [5, 8, 9] (fun one l i wr => ∃ k : Nat, L ≤ k ∧ k ≤ L + 70 ∧ i = .int .i64 k ∧ In3 w wr vs one u6 n L k l) (fun _ _ i _ => L + 70 - (intOf i).toNat)
     case atStart => exact ⟨L, Nat.le_refl _, by omega, rfl, h3⟩
     case round =>
      obtain ⟨k, hk0, hk1, rfl, hi3⟩ := hrel
      clear h3 hbk hcv
      obtain ⟨G, ones, mores, hm, hones, st, hl, hlG⟩ := hi3.ex
      have hbk := h.bagCell st.touch
      obtain ⟨gb, gcc, v, hge, hv, hcv⟩ := own_elem (h.ownG st.touch) n hlt
      obtain rfl : Value.slice va L vc = v := by have e := HV.out; rw [hv] at e; exact (Option.some.inj e).symm
      rw [hge] at hbk
      by_cases hkl : k < L + 70
      ·obtain ⟨la, lc, rfl⟩ := own_form hl
       by_cases hkL : k = L
       ·have hol : ones.length = n := by rcases hones with ⟨a, _⟩ | ⟨_, a⟩ <;> omega
        subst hkL
        obtain ⟨oa, oc, rfl⟩ := own_form st.own1
        have HST : Hid (St w wr vs G (.slice oa ones.length oc) ones u6 mores (n + 1)) := st
        have HLG : Hid (∀ kb, (Value.slice la k lc).ownBlock = some kb → G kb n) := hlG
        have HL : Hid (wr.ownsRow 0 5 1 (.slice la k lc) k (bytesOf (marks n k))) := hl
        have HOL : Hid (ones.length = n) := hol
        have HM : Hid (mores.length = n) := hm
        clear st hlG hl hi3 hge hv hones hol hm
        go_wp2_with (at_builtin; refine wpList_append_keep _ rfl (.tmp 82) (.tmp 90) 40 rfl 0 5 i0 (.int .u8 0) 1 1 Tryz.underlying40 hi hz0 hz1 hz2 rfl (by decide) (.slice la k lc) k (bytesOf (marks n k)) rfl (HL.out.alloc _) ⟨wr.heap.size, 0, none⟩ 1 1 [.int .u8 (mark n k)] rfl rfl ?c1 ?c2 ?c3 ?c4 ?c5 ?_)
        case c1 => exact cell_one_new _ _ _
        case c2 => intro u hu; obtain rfl := List.mem_singleton.mp hu; rfl
        case c3 => unfold maxLen; omega
        case c4 => omega
        case c5 => exact Nat.zero_le _
        intro l' w1 hown' hkeep hgrow hat
        obtain ⟨G', st', hl', hlG'⟩ := HST.out.grow _ HV.out HL.out HLG.out (Nat.le_refl k) (Or.inl HOL.out) HM.out hown' hkeep hgrow hat
        obtain ⟨la', lc', rfl⟩ := own_form hl'
        have HST' : Hid (St w w1 vs G' (.slice oa ones.length oc) ones u6 mores (n + 1)) := st'
        have HL' : Hid (w1.ownsRow 0 5 1 (.slice la' (k + 1) lc') (k + 1) (bytesOf (marks n (k + 1)))) := hl'
        have HLG' : Hid (∀ kb, (Value.slice la' (k + 1) lc').ownBlock = some kb → G' kb n) := hlG'
        have hbk1 := h.bagCell st'.touch
        obtain ⟨gb1, gcc1, v1, hge1, hv1, hcv1⟩ := own_elem (h.ownG st'.touch) n hlt
        obtain rfl : Value.slice va k vc = v1 := by have e := HV.out; rw [hv1] at e; exact (Option.some.inj e).symm
        rw [hge1] at hbk1
        clear st' hl' hlG' hown' hkeep hgrow hat HST HL HLG hbk hcv hge1 hv1
        go_wp2_with (at_builtin; (refine wpList_append_keep _ rfl (.tmp 102) (.tmp 104) 50 rfl w.heap.size 40 i1 (.slice none 0 0) 1 24 Tryz.underlying50 hj hy0 hy1 hy2 rfl (by decide) (.slice oa ones.length oc) ones.length ones rfl (HST'.out.own1.alloc _) ⟨w1.heap.size, 0, none⟩ 1 1 [.slice la' (k + 1) lc'] rfl rfl ?c1 ?c2 ?c3 ?c4 ?c5 ?_))
        case c1 => exact cell_one_new _ _ _
        case c2 => intro u hu; obtain rfl := List.mem_singleton.mp hu; rfl
        case c3 => have := HOL.out; unfold maxLen; omega
        case c4 => have := HOL.out; omega
        case c5 => have := HST'.out.touch.size; simp; omega
        intro one' w2 hown2 _ hgrow2 hat2
        obtain ⟨st2, hl2'⟩ := HST'.out.add1 _ HV.out HL'.out HLG'.out HOL.out hown2 hgrow2 hat2
        have h3 : In3 w w2 vs one' u6 n k (k + 1) (.slice la' (k + 1) lc') := ⟨G', ones ++ [.slice la' (k + 1) lc'], mores, HM.out, Or.inr ⟨by simp [HOL.out], by omega⟩, st2, hl2', HLG'.out⟩
        clear hown2 hgrow2 hat2 st2 hl2' hbk1 hcv1 HST' HL' HLG'
        go_wp2
        go_roundw
        case rel => exact ⟨k + 1, by omega, by omega, by go_num, h3⟩
        case measure => simp [intOf] <;> omega
       ·have hol : ones.length = n + 1 ∧ L + 1 ≤ k := by rcases hones with ⟨_, a⟩ | a <;> omega
        have HST : Hid (St w wr vs G u5 ones u6 mores (n + 1)) := st
        have HLG : Hid (∀ kb, (Value.slice la k lc).ownBlock = some kb → G kb n) := hlG
        have HL : Hid (wr.ownsRow 0 5 1 (.slice la k lc) k (bytesOf (marks n k))) := hl
        have HOL : Hid (ones.length = n + 1 ∧ L + 1 ≤ k) := hol
        have HM : Hid (mores.length = n) := hm
        have hkL' : ((k : Int) == (L : Int)) = false := by simp; omega
        clear st hlG hl hi3 hge hv hones hol hm
        go_wp2_with (at_builtin; refine wpList_append_keep _ rfl (.tmp 82) (.tmp 90) 40 rfl 0 5 i0 (.int .u8 0) 1 1 Tryz.underlying40 hi hz0 hz1 hz2 rfl (by decide) (.slice la k lc) k (bytesOf (marks n k)) rfl (HL.out.alloc _) ⟨wr.heap.size, 0, none⟩ 1 1 [.int .u8 (mark n k)] rfl rfl ?c1 ?c2 ?c3 ?c4 ?c5 ?_)
        case c1 => exact cell_one_new _ _ _
        case c2 => intro u hu; obtain rfl := List.mem_singleton.mp hu; rfl
        case c3 => unfold maxLen; omega
        case c4 => omega
        case c5 => exact Nat.zero_le _
        intro l' w1 hown' hkeep hgrow hat
        obtain ⟨G', st', hl', hlG'⟩ := HST.out.grow _ HV.out HL.out HLG.out (show L ≤ k from hk0) (Or.inr HOL.out) HM.out hown' hkeep hgrow hat
        obtain ⟨la', lc', rfl⟩ := own_form hl'
        have h3 : In3 w w1 vs u5 u6 n L (k + 1) (.slice la' (k + 1) lc') := ⟨G', ones, mores, HM.out, Or.inr ⟨HOL.out.1, by omega⟩, st', hl', hlG'⟩
        have hbk1 := h.bagCell st'.touch
        obtain ⟨gb1, gcc1, v1, hge1, hv1, hcv1⟩ := own_elem (h.ownG st'.touch) n hlt
        obtain rfl : Value.slice va L vc = v1 := by have e := HV.out; rw [hv1] at e; exact (Option.some.inj e).symm
        rw [hge1] at hbk1
        clear st' hl' hlG' hown' hkeep hgrow hat HST HL HLG hbk hcv hge1 hv1
        go_wp2
        go_roundw
        case rel => exact ⟨k + 1, by omega, by omega, by go_num, h3⟩
        case measure => simp [intOf] <;> omega
      ·obtain rfl : k = L + 70 := by omega
       have hol : ones.length = n + 1 := by rcases hones with ⟨_, a⟩ | ⟨a, _⟩ <;> omega
       obtain ⟨la, lc, rfl⟩ := own_form hl
       have HST : Hid (St w wr vs G u5 ones u6 mores (n + 1)) := st
       have HLG : Hid (∀ kb, (Value.slice la (L + 70) lc).ownBlock = some kb → G kb n) := hlG
       have HL : Hid (wr.ownsRow 0 5 1 (.slice la (L + 70) lc) (L + 70) (bytesOf (marks n (L + 70)))) := hl
       have HOL : Hid (ones.length = n + 1) := hol
       have HM : Hid (mores.length = n) := hm
       clear st hlG hl hi3 hge hv hones hol hm
       go_wp2_with (at_builtin; refine wpList_append_keep _ rfl (.tmp 106) (.tmp 108) 50 rfl w.heap.size 40 i1 (.slice none 0 0) 1 24 Tryz.underlying50 hj hy0 hy1 hy2 rfl (by decide) u6 mores.length mores rfl (HST.out.own2.alloc _) ⟨wr.heap.size, 0, none⟩ 1 1 [.slice la (L + 70) lc] rfl rfl ?c1 ?c2 ?c3 ?c4 ?c5 ?_)
       case c1 => exact cell_one_new _ _ _
       case c2 => intro u hu; obtain rfl := List.mem_singleton.mp hu; rfl
       case c3 => have := HM.out; unfold maxLen; omega
       case c4 => have := HM.out; omega
       case c5 => have := HST.out.touch.size; simp; omega
       intro more' w2 hown2 _ hgrow2 hat2
       have st2 := HST.out.add2 _ HV.out HL.out HLG.out HM.out hown2 hgrow2 hat2
       have h2 : In2 w w2 vs u5 more' (n + 1) := ⟨G, ones, mores ++ [.slice la (L + 70) lc], HOL.out, by simp [HM.out], st2⟩
       clear hown2 hgrow2 hat2 st2 HST HL HLG hbk hcv
       go_wp2
       go_roundw
       case rel => exact ⟨n + 1, by omega, by go_num, h2⟩
       case measure => simp [intOf] <;> omega
    ·obtain rfl : n = vs.length := by omega
     obtain ⟨h4, ht⟩ := In4.of h hin
     have hbk := h4.cell
     rw [hgv] at hbk
     obtain ⟨ma, mc, rfl⟩ := h4.len
     clear hin
     go_wp2
     go_loop [10] (fun i => ∃ n : Nat, n ≤ vs.length ∧ i = .int .i64 n) (fun i => vs.length - (intOf i).toNat)
     case atStart => exact ⟨0, Nat.zero_le _, rfl⟩
     case round =>
      obtain ⟨n, hn, rfl⟩ := hrel
      by_cases hnl : n < vs.length
      ·obtain ⟨v, o1, o2, hv, ⟨gb, gcc, hge, hcv⟩, ⟨g1, c1, rfl, hc1⟩, ⟨g2, c2, hme, hc2⟩, r0, r1, r2⟩ := h4.at3 n hnl
       have hsm := h.small n v hv
       have hbk' := h4.cell
       rw [hge] at hbk'
       simp only [Value.slice.injEq, true_and] at hme
       obtain ⟨rfl, rfl⟩ := hme
       obtain ⟨L, hL⟩ : ∃ L, lenOf v = L := ⟨_, rfl⟩
       rw [hL] at hsm r0 r1 r2
       obtain ⟨va, vc, rfl⟩ := row0_form r0
       obtain ⟨a2, b2, rfl⟩ := row0_form r2
       obtain ⟨a1, b1, rfl⟩ := row0_form r1
       clear hL hv hge h4 hbk
       go_wp2
       go_loop [11] (fun i => ∃ k : Nat, k ≤ L + 70 ∧ i = .int .i64 k) (fun i => L + 70 - (intOf i).toNat)
       case atStart => exact ⟨0, Nat.zero_le _, rfl⟩
       case round =>
        obtain ⟨k, hk, rfl⟩ := hrel
        by_cases hkl : k < L + 70
        ·obtain ⟨x2, y2, e2, hx2⟩ := row0_at r2 hkl
         simp only [Value.slice.injEq, true_and] at e2
         obtain ⟨rfl, rfl⟩ := e2
         rcases Nat.lt_trichotomy k L with hc | hc | hc
         ·obtain ⟨x0, y0, e0, hx0⟩ := row0_at r0 hc
          simp only [Value.slice.injEq, true_and] at e0
          obtain ⟨rfl, rfl⟩ := e0
          have hkL' : ((k : Int) == (L : Int)) = false := by simp; omega
          clear r0 r1 r2
          go_wp2
          go_round
          case rel => exact ⟨k + 1, by omega, by go_num⟩
          case measure => simp [intOf] <;> omega
         ·subst hc
          obtain ⟨x1, y1, e1, hx1⟩ := row0_at r1 (Nat.lt_succ_self k)
          simp only [Value.slice.injEq, true_and] at e1
          obtain ⟨rfl, rfl⟩ := e1
          clear r0 r1 r2
          go_wp2
          go_round
          case rel => exact ⟨k + 1, by omega, by go_num⟩
          case measure => simp [intOf] <;> omega
         ·have hkL' : ((k : Int) == (L : Int)) = false := by simp; omega
          clear r0 r1 r2
          go_wp2
          go_round
          case rel => exact ⟨k + 1, by omega, by go_num⟩
          case measure => simp [intOf] <;> omega
        ·clear r0 r1 r2
         go_wp2
         go_round
         case rel => exact ⟨n + 1, by omega, by go_num⟩
         case measure => simp [intOf] <;> omega
      ·go_wp2
       go_ret
       exact ⟨rfl, ht⟩
end Go.Proofs.YtbfplepmgbkajaaGreatDoor

namespace Go.Proofs.YtbfplepmgbkajaaGreatDoor
open Go.RowKit
set_option linter.unusedVariables false
set_option maxRecDepth 100000

theorem apartInts_none (b : Nat) (w : World) (h : w.cell? ⟨b, 1, none⟩ = some (.slice none 0 0)) :
  Calls Tryz.prog 53 #[.pointer (some ⟨b, 0, none⟩)] w fun e w' => e = .returned (.bool true) ∧ w = w' := by
 go_enter Tryz.func53, Tryz.ntmps53
 go_wp2
 go_rounds 1
 go_rounds 1
 go_rounds 1
 go_ret
 exact ⟨rfl, rfl⟩

theorem apartBools_none (b : Nat) (w : World) (h : w.cell? ⟨b, 2, none⟩ = some (.slice none 0 0)) :
  Calls Tryz.prog 54 #[.pointer (some ⟨b, 0, none⟩)] w fun e w' => e = .returned (.bool true) ∧ w = w' := by
 go_enter Tryz.func54, Tryz.ntmps54
 go_wp2
 go_rounds 1
 go_rounds 1
 go_rounds 1
 go_ret
 exact ⟨rfl, rfl⟩

theorem apartTexts_none (b : Nat) (w : World) (h : w.cell? ⟨b, 3, none⟩ = some (.slice none 0 0)) :
  Calls Tryz.prog 55 #[.pointer (some ⟨b, 0, none⟩)] w fun e w' => e = .returned (.bool true) ∧ w = w' := by
 go_enter Tryz.func55, Tryz.ntmps55
 go_wp2
 go_rounds 1
 go_rounds 1
 go_rounds 1
 go_ret
 exact ⟨rfl, rfl⟩

theorem apartLongs_none (b : Nat) (w : World) (h : w.cell? ⟨b, 4, none⟩ = some (.slice none 0 0)) :
  Calls Tryz.prog 56 #[.pointer (some ⟨b, 0, none⟩)] w fun e w' => e = .returned (.bool true) ∧ w = w' := by
 go_enter Tryz.func56, Tryz.ntmps56
 go_wp2
 go_rounds 1
 go_rounds 1
 go_rounds 1
 go_ret
 exact ⟨rfl, rfl⟩

theorem apartPrefixes_none (b : Nat) (w : World) (h : w.cell? ⟨b, 6, none⟩ = some (.slice none 0 0)) :
  Calls Tryz.prog 58 #[.pointer (some ⟨b, 0, none⟩)] w fun e w' => e = .returned (.bool true) ∧ w = w' := by
 go_enter Tryz.func58, Tryz.ntmps58
 go_wp2
 go_rounds 1
 go_rounds 1
 go_rounds 1
 go_ret
 exact ⟨rfl, rfl⟩

theorem apartLinks_none (b : Nat) (w : World) (h : w.cell? ⟨b, 9, none⟩ = some (.slice none 0 0)) :
  Calls Tryz.prog 61 #[.pointer (some ⟨b, 0, none⟩)] w fun e w' => e = .returned (.bool true) ∧ w = w' := by
 go_enter Tryz.func61, Tryz.ntmps61
 go_wp2
 go_rounds 1
 go_rounds 1
 go_rounds 1
 go_ret
 exact ⟨rfl, rfl⟩

theorem apartAreas_none (b : Nat) (w : World) (h : w.cell? ⟨b, 10, none⟩ = some (.slice none 0 0)) :
  Calls Tryz.prog 62 #[.pointer (some ⟨b, 0, none⟩)] w fun e w' => e = .returned (.bool true) ∧ w = w' := by
 go_enter Tryz.func62, Tryz.ntmps62
 go_wp2
 go_rounds 1
 go_rounds 1
 go_rounds 1
 go_ret
 exact ⟨rfl, rfl⟩

theorem apartRanges_none (b : Nat) (w : World) (h : w.cell? ⟨b, 11, none⟩ = some (.slice none 0 0)) :
  Calls Tryz.prog 63 #[.pointer (some ⟨b, 0, none⟩)] w fun e w' => e = .returned (.bool true) ∧ w = w' := by
 go_enter Tryz.func63, Tryz.ntmps63
 go_wp2
 go_rounds 1
 go_rounds 1
 go_rounds 1
 go_ret
 exact ⟨rfl, rfl⟩

theorem apartPeers_none (b : Nat) (w : World) (h : w.cell? ⟨b, 12, none⟩ = some (.slice none 0 0)) :
  Calls Tryz.prog 64 #[.pointer (some ⟨b, 0, none⟩)] w fun e w' => e = .returned (.bool true) ∧ w = w' := by
 go_enter Tryz.func64, Tryz.ntmps64
 go_wp2
 go_rounds 1
 go_rounds 1
 go_rounds 1
 go_ret
 exact ⟨rfl, rfl⟩

theorem apartOuters_none (b : Nat) (w : World) (h : w.cell? ⟨b, 13, none⟩ = some (.slice none 0 0)) :
  Calls Tryz.prog 65 #[.pointer (some ⟨b, 0, none⟩)] w fun e w' => e = .returned (.bool true) ∧ w = w' := by
 go_enter Tryz.func65, Tryz.ntmps65
 go_wp2
 go_rounds 1
 go_rounds 1
 go_rounds 1
 go_ret
 exact ⟨rfl, rfl⟩

theorem apartAuthKeys_none (b : Nat) (w : World) (h : w.cell? ⟨b, 15, none⟩ = some (.slice none 0 0)) :
  Calls Tryz.prog 67 #[.pointer (some ⟨b, 0, none⟩)] w fun e w' => e = .returned (.bool true) ∧ w = w' := by
 go_enter Tryz.func67, Tryz.ntmps67
 go_wp2
 go_rounds 1
 go_rounds 1
 go_rounds 1
 go_ret
 exact ⟨rfl, rfl⟩

theorem apartIfaces_none (b : Nat) (w : World) (h : w.cell? ⟨b, 16, none⟩ = some (.slice none 0 0)) :
  Calls Tryz.prog 68 #[.pointer (some ⟨b, 0, none⟩)] w fun e w' => e = .returned (.bool true) ∧ w = w' := by
 go_enter Tryz.func68, Tryz.ntmps68
 go_wp2
 go_rounds 1
 go_rounds 1
 go_rounds 1
 go_ret
 exact ⟨rfl, rfl⟩

theorem apartVirtuals_none (b : Nat) (w : World) (h : w.cell? ⟨b, 17, none⟩ = some (.slice none 0 0)) :
  Calls Tryz.prog 69 #[.pointer (some ⟨b, 0, none⟩)] w fun e w' => e = .returned (.bool true) ∧ w = w' := by
 go_enter Tryz.func69, Tryz.ntmps69
 go_wp2
 go_rounds 1
 go_rounds 1
 go_rounds 1
 go_ret
 exact ⟨rfl, rfl⟩

theorem apartOpaques_none (b : Nat) (w : World) (h : w.cell? ⟨b, 18, none⟩ = some (.slice none 0 0)) :
  Calls Tryz.prog 70 #[.pointer (some ⟨b, 0, none⟩)] w fun e w' => e = .returned (.bool true) ∧ w = w' := by
 go_enter Tryz.func70, Tryz.ntmps70
 go_wp2
 go_rounds 1
 go_rounds 1
 go_rounds 1
 go_ret
 exact ⟨rfl, rfl⟩

/-- The other lists of a Bag are empty. -/
def BagN (w : World) (b : Nat) : Prop := ∀ j, 1 ≤ j → j ≤ 18 → w.cell? ⟨b, j, none⟩ = some (.slice none 0 0)
end Go.Proofs.YtbfplepmgbkajaaGreatDoor

namespace Go.Proofs.YtbfplepmgbkajaaGreatDoor
open Go.RowKit
set_option linter.unusedVariables false
set_option maxRecDepth 100000

/-- The marks behind a list. -/
def spareMarks (n : Nat) : List Int := (List.range 64).map (fun i => (279 + 7 * ((n + i : Nat) : Int) + 3) % 256)
theorem length_spareMarks (n : Nat) : (spareMarks n).length = 64 := by simp [spareMarks]
theorem spareMarks_at (n i : Nat) (h : i < 64) : (spareMarks n)[i]? = some ((279 + 7 * ((n + i : Nat) : Int) + 3) % 256) := by simp [spareMarks, h]


/-- The list as far as it is laid. -/
def laying (T : List Int) (k : Nat) : List Int := T.take k ++ List.replicate (T.length - k) 0
theorem length_laying (T : List Int) (k : Nat) : (laying T k).length = T.length := by simp [laying]; omega
theorem laying_zero (T : List Int) : laying T 0 = List.replicate T.length 0 := by simp [laying]
theorem laying_all (T : List Int) : laying T T.length = T := by simp [laying]
theorem laying_get (T : List Int) (k i : Nat) (hk : k ≤ T.length) : (laying T k)[i]? = if i < T.length then some (if i < k then T.getD i 0 else 0) else none := by
 unfold laying
 by_cases h : i < k
 ·rw [List.getElem?_append_left (by simp; omega), List.getElem?_take, if_pos h, if_pos (by omega), if_pos h, List.getElem?_eq_getElem (by omega)]
  simp [List.getD, show i < T.length by omega]
 ·rw [List.getElem?_append_right (by simp; omega), List.getElem?_replicate]
  simp only [List.length_take, Nat.min_eq_left hk, if_neg h]
  by_cases h2 : i < T.length
  ·rw [if_pos (by omega), if_pos h2]
  ·rw [if_neg (by omega), if_neg h2]
theorem laying_step (T : List Int) (k : Nat) (h : k < T.length) : (laying T k).set k (T.getD k 0) = laying T (k + 1) := by
 apply List.ext_getElem?
 intro i
 rw [List.getElem?_set, laying_get T k i (by omega), laying_get T (k + 1) i (by omega), length_laying]
 by_cases h1 : k = i
 ·subst h1
  simp [h]
 ·rw [if_neg h1]
  by_cases h2 : i < T.length
  ·rw [if_pos h2, if_pos h2]
   by_cases h3 : i < k
   ·rw [if_pos h3, if_pos (by omega)]
   ·rw [if_neg h3, if_neg (by omega)]
  ·rw [if_neg h2, if_neg h2]

theorem own_whole {w : World} {base g n : Nat} {xs : List Value} (h : w.ownsRow base 5 1 (.slice (some ⟨g, 0, none⟩) n n) n xs) : w.heap[g]? = some (.cells xs.toArray 5 (0, 0)) := by
 rcases h.2 with ⟨h, _⟩ | ⟨g', cap, cur, hv, hb, hg, hnc, hcm, hcs, htake⟩
 ·simp at h
 ·simp at hv
  obtain ⟨rfl, rfl⟩ := hv
  rw [hg, ← htake, List.take_of_length_le (by simp; omega)]

theorem made_bytes (n : Nat) : (madeCells #[Value.int IntKind.u8 0] n).toList = bytesOf (List.replicate n 0) := by
 rw [toList_madeCells_one]
 simp [bytesOf]

theorem wide_any (v : Value) (rs : List Int) (w : World) (h : ArgAt w v rs) (hby : ∀ x ∈ rs, 0 ≤ x ∧ x < 256) (hcap : rs.length ≤ 1099511627776) :
  Calls Tryz.prog 16 #[v] w fun e w' => e = .returned (.slice (some ⟨w.heap.size, 0, none⟩) rs.length (rs.length + 64)) ∧
   w'.heap[w.heap.size]? = some (.cells (bytesOf (rs ++ spareMarks rs.length)).toArray 5 (0, 0)) ∧ Touch (fun _ => False) w w' := by
 obtain ⟨i0, hi, hz0, hz1, hz2⟩ := info_parts Tryz.info5w
 obtain ⟨aa, ca, rfl, hm⟩ := h.form
 unfold maxLen at hm
 obtain ⟨T, hT⟩ : ∃ T, T = rs ++ spareMarks rs.length := ⟨_, rfl⟩
 have hTl : T.length = rs.length + 64 := by rw [hT]; simp [length_spareMarks]
 have HT : Hid (T = rs ++ spareMarks rs.length) := hT
 rw [← hT]
 clear hT
 have hn0 : (0 : Int) ≤ (rs.length : Int) + 64 := by omega
 go_enter Tryz.func16, Tryz.ntmps16
 go_wp2_with (at_make; refine wpList_make_full _ rfl (.tmp 7) (.tmp 7) 40 rfl w.heap.size 5 i0 (.int .u8 0) 1 Tryz.underlying40 hi hz0 hz1 .i64 .i64 _ _ (rs.length + 64) rfl rfl ?c1 ?c2 ?c3 ?c4 ?c5 ?_)
 case c1 => omega
 case c2 => omega
 case c3 => rw [hz2]; omega
 case c4 => unfold maxLen; omega
 case c5 => exact Nat.le_refl _
 intro w1 hown hgrow
 have t1 : Touch (fun _ => False) w w1 := (Touch.refl _ w).grown hgrow (by simp)
 rw [made_bytes, ← hTl, ← laying_zero, hTl] at hown
 clear hgrow
 go_wp2
 go_loopw [4] (fun i wr => ∃ k : Nat, k ≤ rs.length + 64 ∧ i = .int .i64 k ∧ wr.ownsRow w.heap.size 5 1 (.slice (some ⟨w.heap.size, 0, none⟩) (rs.length + 64) (rs.length + 64)) (rs.length + 64) (bytesOf (laying T k)) ∧ Touch (fun _ => False) w wr) (fun i _ => rs.length + 64 - (intOf i).toNat)
 case atStart => exact ⟨0, Nat.zero_le _, rfl, hown, t1⟩
 case round =>
  obtain ⟨k, hk, rfl, hownk, tk⟩ := hrel
  by_cases hlt : k < rs.length + 64
  ·have hfz := hownk.frozenAt k
   have hcell : wr.cell? ⟨w.heap.size, k, none⟩ = some (.int .u8 0) := by
    rw [hownk.cellAt k (by omega)]
    simp only [bytesOf, List.getElem?_map]
    rw [laying_get T k k (by omega), if_pos (by omega), if_neg (by omega)]
    rfl
   have HO : Hid (∀ u, (wr.setCell ⟨w.heap.size, k, none⟩ u).ownsRow w.heap.size 5 1 (.slice (some ⟨w.heap.size, 0, none⟩) (rs.length + 64) (rs.length + 64)) (rs.length + 64) ((bytesOf (laying T k)).set k u)) := fun u => (hownk.stored k u).1
   by_cases hl : k < rs.length
   ·have h := h.row (by omega)
    obtain ⟨ga, oa, rfl⟩ := rowAt_some h (by omega)
    have hcx := tk.cellN (rowAt_cell h k hl)
    have HX : Hid (T.getD k 0 = rs.getD k 0) := by show _ = _; rw [HT.out]; simp [List.getD, List.getElem?_append_left hl]
    obtain ⟨z, hz⟩ : ∃ z, z = rs.getD k 0 := ⟨_, rfl⟩
    rw [← hz] at hcx HX
    clear hz h hown t1 hownk
    go_wp2
    go_roundw
    case rel => exact ⟨k + 1, by omega, by go_num, by rw [← laying_step T k (by omega), bytesOf_set, HX.out]; exact HO.out _, Touch.setCell (p := ⟨w.heap.size, k, none⟩) tk (Or.inr (Nat.le_refl _)) _⟩
    case measure => simp [intOf]; omega
   ·have HX : Hid (T.getD k 0 = (279 + 7 * (k : Int) + 3) % 256) := by
     show _ = _
     rw [HT.out]
     simp only [List.getD]
     rw [List.getElem?_append_right (by omega), spareMarks_at _ _ (by omega)]
     simp only [Option.getD_some]
     rw [show rs.length + (k - rs.length) = k from by omega]
    clear h hown t1 hownk
    go_wp2
    go_roundw
    case rel => exact ⟨k + 1, by omega, by go_num, by rw [← laying_step T k (by omega), bytesOf_set, HX.out]; exact HO.out _, Touch.setCell (p := ⟨w.heap.size, k, none⟩) tk (Or.inr (Nat.le_refl _)) _⟩
    case measure => simp [intOf]; omega
  ·obtain rfl : k = rs.length + 64 := by omega
   go_wp2
   go_ret
   refine ⟨rfl, ?_, tk⟩
   have := own_whole hownk
   rwa [← hTl, laying_all] at this

theorem spare_any (g : Nat) (rs : List Int) (w : World) (h : w.heap[g]? = some (.cells (bytesOf (rs ++ spareMarks rs.length)).toArray 5 (0, 0))) (hcap : rs.length ≤ 1099511627776) :
  Calls Tryz.prog 25 #[.slice (some ⟨g, 0, none⟩) rs.length (rs.length + 64)] w fun e w' => e = .returned (.bool true) ∧ w = w' := by
 have hc : ∀ i, rs.length ≤ i → i < rs.length + 64 → w.cell? ⟨g, i, none⟩ = some (.int .u8 ((279 + 7 * (i : Int) + 3) % 256)) := by
  intro i h1 h2
  simp only [World.cell?, h]
  simp only [List.getElem?_toArray, bytesOf, List.getElem?_map]
  rw [List.getElem?_append_right h1, spareMarks_at _ _ (by omega), show rs.length + (i - rs.length) = i from by omega]
  rfl
 clear h
 go_enter Tryz.func25, Tryz.ntmps25
 go_wp2
 go_loop [4] (fun i => ∃ k : Nat, rs.length ≤ k ∧ k ≤ rs.length + 64 ∧ i = .int .i64 k) (fun i => rs.length + 64 - (intOf i).toNat)
 case atStart => exact ⟨rs.length, Nat.le_refl _, by omega, rfl⟩
 case round =>
  obtain ⟨k, hk0, hk, rfl⟩ := hrel
  by_cases hlt : k < rs.length + 64
  ·have hcx := hc k hk0 hlt
   clear hc
   go_wp2
   go_round
   case rel => exact ⟨k + 1, by omega, by omega, by go_num⟩
   case measure => simp [intOf]; omega
  ·go_wp2
   go_ret
   exact ⟨rfl, rfl⟩
end Go.Proofs.YtbfplepmgbkajaaGreatDoor

namespace Go.Proofs.YtbfplepmgbkajaaGreatDoor
open Go.RowKit
set_option linter.unusedVariables false
set_option maxRecDepth 100000

theorem rowAt_block {w : World} {g n : Nat} {rs ms : List Int} (h : w.heap[g]? = some (.cells (bytesOf (rs ++ ms)).toArray 5 (0, 0))) (hn : rs.length + ms.length = n) (hm : n ≤ maxLen) : RowAt w (.slice (some ⟨g, 0, none⟩) rs.length n) rs := by
 refine Or.inr ⟨g, 0, n, rfl, by omega, hm, fun j u hj => ?_⟩
 have hjl : j < rs.length := by
  have := (List.getElem?_eq_some_iff.mp hj).1
  simpa [length_bytesOf] using this
 simp only [World.cell?, h, Nat.zero_add]
 simp only [List.getElem?_toArray, bytesOf, List.getElem?_map] at hj ⊢
 rw [List.getElem?_append_left hjl]
 exact hj

theorem Tryz.infoA : (Tryz.prog.info? 40).map (fun i => (i.zero, i.size, i.bytes)) = some (some (.slice none 0 0), 1, 24) := by kernel_rfl

theorem cell_other (w : World) (b j : Nat) (v : Value) (h : 0 < j) : (w.setCell ⟨b, 0, none⟩ v).cell? ⟨b, j, none⟩ = w.cell? ⟨b, j, none⟩ :=
 World.cell?_setCell_other w ⟨b, 0, none⟩ ⟨b, j, none⟩ v (by intro e; injection e with _ e2; omega)

theorem bag_new {w : World} {T : TypeId} (C : Array Value) (hC : C = #[.slice none 0 0, .slice none 0 0, .slice none 0 0, .slice none 0 0, .slice none 0 0, .slice none 0 0, .slice none 0 0, .slice none 0 0, .slice none 0 0, .slice none 0 0, .slice none 0 0, .slice none 0 0, .slice none 0 0, .slice none 0 0, .slice none 0 0, .slice none 0 0, .slice none 0 0, .slice none 0 0, .slice none 0 0]) :
  BagB (w.alloc (.cells C T)) w.heap.size (.slice none 0 0) [] ∧ (w.alloc (.cells C T)).frozen? ⟨w.heap.size, 0, none⟩ = false ∧ BagN (w.alloc (.cells C T)) w.heap.size := by
 subst hC
 refine ⟨⟨by simp, World.ownsRow_nil _ _ _ _, by simp, by simp, by simp, by simp, by simp [Value.ownBlock], by simp, by simp⟩, by simp, fun j h1 h2 => ?_⟩
 rcases (by omega : j = 1 ∨ j = 2 ∨ j = 3 ∨ j = 4 ∨ j = 5 ∨ j = 6 ∨ j = 7 ∨ j = 8 ∨ j = 9 ∨ j = 10 ∨ j = 11 ∨ j = 12 ∨ j = 13 ∨ j = 14 ∨ j = 15 ∨ j = 16 ∨ j = 17 ∨ j = 18) with rfl | rfl | rfl | rfl | rfl | rfl | rfl | rfl | rfl | rfl | rfl | rfl | rfl | rfl | rfl | rfl | rfl | rfl <;> simp

end Go.Proofs.YtbfplepmgbkajaaGreatDoor

namespace Go.Proofs.YtbfplepmgbkajaaGreatDoor
open Go.RowKit
set_option linter.unusedVariables false
set_option maxRecDepth 100000

theorem BagB.keep {w w' : World} {b : Nat} {gv : Value} {vs : List Value} (h : BagB w b gv vs) (t : Touch (fun _ => False) w w') : BagB w' b gv vs where
 cell := t.cellN h.cell
 own := own_touch h.own t (fun _ _ h => h)
 rows := fun m v hm => by
  obtain ⟨xs, h1, h2⟩ := h.rows m v hm
  exact ⟨xs, h1, own_touch h2 t (fun _ _ h => h)⟩
 apart := h.apart
 nb := h.nb
 ng := h.ng
 nbg := h.nbg
 few := h.few
 small := h.small

end Go.Proofs.YtbfplepmgbkajaaGreatDoor
