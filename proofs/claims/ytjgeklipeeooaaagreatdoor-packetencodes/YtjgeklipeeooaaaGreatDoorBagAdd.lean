/- The contract of apartBytes. -/
import Derived.Test.YtjgeklipeeooaaaGreatDoorBagOne
import Derived.Test.YtjgeklipeeooaaaGreatDoorStWideS
namespace Go.Proofs.YtjgeklipeeooaaaGreatDoor
open Go.RowKit
set_option linter.unusedVariables false
set_option maxRecDepth 100000

theorem Tryz.info5b : (Tryz.prog.info? 5).map (fun i => (i.zero, i.size, i.bytes)) = some (some (.int .u8 0), 1, 1) := by kernel_rfl
theorem Tryz.infoB : (Tryz.prog.info? 40).map (fun i => (i.zero, i.size, i.bytes)) = some (some (.slice none 0 0), 1, 24) := by kernel_rfl

theorem row0_at {w : World} {v : Value} {n L i : Nat} (h : Row0 w v (marks n L)) (hi : i < L) : ∃ g c, v = .slice (some ⟨g, 0, none⟩) L c ∧ w.cell? ⟨g, i, none⟩ = some (.int .u8 ((31 * (n : Int) + 7 * (i : Int) + 3) % 256)) := by
  rcases h with ⟨_, e⟩ | ⟨g, c, rfl, h1, h2, h3⟩
  · have := length_marks n L; rw [e] at this; simp at this; omega
  · refine ⟨g, c, by rw [length_marks], h3 i _ ?_⟩
    simp only [bytesOf, List.getElem?_map]
    rw [marks_at _ _ _ hi]
    rfl

theorem row0_form {w : World} {v : Value} {n L : Nat} (h : Row0 w v (marks n L)) : ∃ a c, v = .slice a L c := by
  rcases h with ⟨rfl, e⟩ | ⟨g, c, rfl, h1, h2, h3⟩
  · have := length_marks n L; rw [e] at this; simp at this; subst this; exact ⟨_, _, rfl⟩
  · exact ⟨_, _, by rw [length_marks]⟩

/-- The second loop, between two lists. -/
structure In2 (w wr : World) (vs : List Value) (one more : Value) (n : Nat) : Prop where
  ex : ∃ (G : Nat → Nat → Prop) (ones mores : List Value), ones.length = n ∧ mores.length = n ∧ St w wr vs G one ones more mores n

/-- The second loop, within list n. -/
structure In3 (w wr : World) (vs : List Value) (one more : Value) (n L k : Nat) (l : Value) : Prop where
  ex : ∃ (G : Nat → Nat → Prop) (ones mores : List Value), mores.length = n ∧ (ones.length = n ∧ k = L ∨ ones.length = n + 1 ∧ L + 1 ≤ k) ∧ St w wr vs G one ones more mores (n + 1) ∧
    wr.ownsRow 0 5 1 l k (bytesOf (marks n k)) ∧ ∀ kb, l.ownBlock = some kb → G kb n

/-- The third loop: what it reads. -/
structure In4 (wr : World) (b : Nat) (gv : Value) (vs : List Value) (one more : Value) : Prop where
  cell : wr.cell? ⟨b, 0, none⟩ = some gv
  len : ∃ ma mc, more = .slice ma vs.length mc
  at3 : ∀ (n : Nat), n < vs.length → ∃ (v o1 o2 : Value), vs[n]? = some v ∧ (∃ gb gc, gv = .slice (some ⟨gb, 0, none⟩) vs.length gc ∧ wr.cell? ⟨gb, n, none⟩ = some v) ∧
    (∃ g1 c1, one = .slice (some ⟨g1, 0, none⟩) vs.length c1 ∧ wr.cell? ⟨g1, n, none⟩ = some o1) ∧ (∃ g2 c2, more = .slice (some ⟨g2, 0, none⟩) vs.length c2 ∧ wr.cell? ⟨g2, n, none⟩ = some o2) ∧
    Row0 wr v (marks n (lenOf v)) ∧ Row0 wr o1 (marks n (lenOf v + 1)) ∧ Row0 wr o2 (marks n (lenOf v + 70))

theorem In4.of {w wr : World} {b : Nat} {gv : Value} {vs : List Value} {one more : Value} (h : BagB w b gv vs) (h2 : In2 w wr vs one more vs.length) : In4 wr b gv vs one more ∧ Touch (bagF vs) w wr := by
  obtain ⟨G, ones, mores, hl1, hl2, st⟩ := h2.ex
  refine ⟨⟨h.bagCell st.touch, ?_, fun n hn => ?_⟩, st.touch⟩
  · obtain ⟨a, c, e⟩ := own_form st.own2
    exact ⟨a, c, by rw [e, hl2]⟩
  · obtain ⟨gb, gc, v, hge, hv, hcv⟩ := own_elem (h.ownG st.touch) n hn
    obtain ⟨g1, c1, o1, he1, ho1, hc1⟩ := own_elem st.own1 n (by omega)
    obtain ⟨g2, c2, o2, he2, ho2, hc2⟩ := own_elem st.own2 n (by omega)
    exact ⟨v, o1, o2, hv, ⟨gb, gc, hge, hcv⟩, ⟨g1, c1, by rw [he1, hl1], hc1⟩, ⟨g2, c2, by rw [he2, hl2], hc2⟩, (st.rowsR n v hv).1, (st.els1 n o1 v ho1 hv).1, (st.els2 n o2 v ho2 hv).1⟩

set_option maxHeartbeats 4000000 in
theorem apart_any (b : Nat) (gv : Value) (vs : List Value) (w : World) (h : BagB w b gv vs) :
    Calls Tryz.prog 52 #[.pointer (some ⟨b, 0, none⟩)] w fun e w' => e = .returned (.bool true) ∧ Touch (bagF vs) w w' := by
  obtain ⟨i0, hi, hz0, hz1, hz2⟩ := info_parts Tryz.info5b
  obtain ⟨i1, hj, hy0, hy1, hy2⟩ := info_parts Tryz.infoB
  have hN := h.few
  obtain ⟨ga, gc, hgv⟩ := own_form h.own
  go_enter Tryz.func52, Tryz.ntmps52
  go_wp2
  go_loopw [3] (fun i wr => ∃ n : Nat, n ≤ vs.length ∧ i = .int .i64 n ∧ In1 w wr vs n 0) (fun i _ => vs.length - (intOf i).toNat)
  case atStart => exact ⟨0, Nat.zero_le _, rfl, In1.start h⟩
  case round =>
    obtain ⟨n, hn, rfl, hin⟩ := hrel
    have hbc := h.bagCell hin.touch
    rw [hgv] at hbc
    by_cases hlt : n < vs.length
    · obtain ⟨wo, hwo⟩ : ∃ wo : World, wo = wr := ⟨_, rfl⟩
      rw [← hwo] at hin hbc ⊢
      clear hwo
      go_wp2
      go_loopw [4] (fun i wr => ∃ k : Nat, k ≤ lenOf (vs.getD n undef) ∧ i = .int .i64 k ∧ In1 w wr vs n k) (fun i _ => lenOf (vs.getD n undef) - (intOf i).toNat)
      case atStart => exact ⟨0, Nat.zero_le _, rfl, hin⟩
      case round =>
        obtain ⟨k, hk, rfl, hik⟩ := hrel
        obtain ⟨gb, gcc, v, hge, hv, hcv⟩ := own_elem (h.ownG hik.touch) n hlt
        have hbk := h.bagCell hik.touch
        have hvd : vs.getD n undef = v := by simp [List.getD, hv]
        rw [hvd] at hk ⊢
        have hsm := h.small n v hv
        obtain ⟨va, vc, hvf⟩ := hik.form hv
        rw [hge] at hbk
        by_cases hkl : k < lenOf v
        · obtain ⟨g, c, x, hve, hcx, hfx, hnext⟩ := In1.at h hik v hv hkl
          rw [hve] at hcv
          have HN : Hid (In1 w (wr.setCell ⟨g, k, none⟩ (.int .u8 (mark n k))) vs n (k + 1)) := hnext
          clear hnext hik hvf hv hge hve hin hbc hvd
          generalize lenOf v = L at hk hsm hkl hcv ⊢
          go_wp2
          go_roundw
          case rel => exact ⟨k + 1, by omega, by go_num, HN.out⟩
          case measure => simp [intOf]; omega
        · have hke : k = lenOf v := by omega
          have HN : Hid (In1 w wr vs (n + 1) 0) := by rw [hke] at hik; exact In1.next v hv hik
          rw [hvf] at hcv
          clear hik hv hge hin hbc hvd hvf hke
          generalize lenOf v = L at hk hsm hkl hcv ⊢
          go_wp2
          go_roundw
          case rel => exact ⟨n + 1, by omega, by go_num, HN.out⟩
          case measure => simp [intOf]; omega
    · obtain rfl : n = vs.length := by omega
      have hst := St.start h hin
      clear hin
      have h2 : In2 w wr vs (.slice none 0 0) (.slice none 0 0) 0 := ⟨_, [], [], rfl, rfl, hst⟩
      obtain ⟨wo, hwo⟩ : ∃ wo : World, wo = wr := ⟨_, rfl⟩
      rw [← hwo] at hbc h2 ⊢
      clear hwo hst
      go_wp2
      go_loopw [5, 6, 7] (fun one more i wr => ∃ n : Nat, n ≤ vs.length ∧ i = .int .i64 n ∧ In2 w wr vs one more n) (fun _ _ i _ => vs.length - (intOf i).toNat)
      case atStart => exact ⟨0, Nat.zero_le _, rfl, h2⟩
      case round =>
        obtain ⟨n, hn, rfl, hin⟩ := hrel
        clear hbc h2
        by_cases hlt : n < vs.length
        · obtain ⟨G, ones, mores, hl1, hl2, st⟩ := hin.ex
          have hbk := h.bagCell st.touch
          obtain ⟨gb, gcc, v, hge, hv, hcv⟩ := own_elem (h.ownG st.touch) n hlt
          have hsm := h.small n v hv
          have hrow := st.rowsO n v hv (Nat.le_refl _)
          have h3 : In3 w wr vs u5 u6 n (lenOf v) (lenOf v) v := ⟨G, ones, mores, hl2, Or.inl ⟨hl1, rfl⟩, st.weaken (Nat.le_succ n), hrow, (st.rowsR n v hv).2⟩
          obtain ⟨va, vc, hvf⟩ := own_form hrow
          obtain ⟨L, hL⟩ : ∃ L, lenOf v = L := ⟨_, rfl⟩
          rw [hL] at hsm h3 hvf
          subst hvf
          rw [hge] at hbk
          obtain ⟨wo, hwo⟩ : ∃ wo : World, wo = wr := ⟨_, rfl⟩
          rw [← hwo] at hbk hcv h3 ⊢
          have HV : Hid (vs[n]? = some (.slice va L vc)) := hv
          clear hwo hin hrow st hge hv hL
          go_wp2
          go_loopw [5, 8, 9] (fun one l i wr => ∃ k : Nat, L ≤ k ∧ k ≤ L + 70 ∧ i = .int .i64 k ∧ In3 w wr vs one u6 n L k l) (fun _ _ i _ => L + 70 - (intOf i).toNat)
          case atStart => exact ⟨L, Nat.le_refl _, by omega, rfl, h3⟩
          case round =>
            obtain ⟨k, hk0, hk1, rfl, hi3⟩ := hrel
            clear h3 hbk hcv
            obtain ⟨G, ones, mores, hm, hones, st, hl, hlG⟩ := hi3.ex
            have hbk := h.bagCell st.touch
            obtain ⟨gb, gcc, v, hge, hv, hcv⟩ := own_elem (h.ownG st.touch) n hlt
            obtain rfl : Value.slice va L vc = v := by have e := HV.out; rw [hv] at e; exact (Option.some.inj e).symm
            rw [hge] at hbk
            by_cases hkl : k < L + 70
            · obtain ⟨la, lc, rfl⟩ := own_form hl
              by_cases hkL : k = L
              · have hol : ones.length = n := by rcases hones with ⟨a, _⟩ | ⟨_, a⟩ <;> omega
                subst hkL
                obtain ⟨oa, oc, rfl⟩ := own_form st.own1
                have HST : Hid (St w wr vs G (.slice oa ones.length oc) ones u6 mores (n + 1)) := st
                have HLG : Hid (∀ kb, (Value.slice la k lc).ownBlock = some kb → G kb n) := hlG
                have HL : Hid (wr.ownsRow 0 5 1 (.slice la k lc) k (bytesOf (marks n k))) := hl
                have HOL : Hid (ones.length = n) := hol
                have HM : Hid (mores.length = n) := hm
                clear st hlG hl hi3 hge hv hones hol hm
                go_wp2_with (at_builtin; refine wpList_append_keep _ rfl (.tmp 82) (.tmp 90) 40 rfl 0 5 i0 (.int .u8 0) 1 1 Tryz.underlying40 hi hz0 hz1 hz2 rfl (by decide) (.slice la k lc) k (bytesOf (marks n k)) rfl (HL.out.alloc _) ⟨wr.heap.size, 0, none⟩ 1 1 [.int .u8 (mark n k)] rfl rfl ?c1 ?c2 ?c3 ?c4 ?c5 ?_)
                case c1 => exact cell_one_new _ _ _
                case c2 => intro u hu; obtain rfl := List.mem_singleton.mp hu; rfl
                case c3 => unfold maxLen; omega
                case c4 => omega
                case c5 => exact Nat.zero_le _
                intro l' w1 hown' hkeep hgrow hat
                obtain ⟨G', st', hl', hlG'⟩ := HST.out.grow _ HV.out HL.out HLG.out (Nat.le_refl k) (Or.inl HOL.out) HM.out hown' hkeep hgrow hat
                obtain ⟨la', lc', rfl⟩ := own_form hl'
                have HST' : Hid (St w w1 vs G' (.slice oa ones.length oc) ones u6 mores (n + 1)) := st'
                have HL' : Hid (w1.ownsRow 0 5 1 (.slice la' (k + 1) lc') (k + 1) (bytesOf (marks n (k + 1)))) := hl'
                have HLG' : Hid (∀ kb, (Value.slice la' (k + 1) lc').ownBlock = some kb → G' kb n) := hlG'
                have hbk1 := h.bagCell st'.touch
                obtain ⟨gb1, gcc1, v1, hge1, hv1, hcv1⟩ := own_elem (h.ownG st'.touch) n hlt
                obtain rfl : Value.slice va k vc = v1 := by have e := HV.out; rw [hv1] at e; exact (Option.some.inj e).symm
                rw [hge1] at hbk1
                clear st' hl' hlG' hown' hkeep hgrow hat HST HL HLG hbk hcv hge1 hv1
                go_wp2_with (at_builtin; (refine wpList_append_keep _ rfl (.tmp 102) (.tmp 104) 50 rfl w.heap.size 40 i1 (.slice none 0 0) 1 24 Tryz.underlying50 hj hy0 hy1 hy2 rfl (by decide) (.slice oa ones.length oc) ones.length ones rfl (HST'.out.own1.alloc _) ⟨w1.heap.size, 0, none⟩ 1 1 [.slice la' (k + 1) lc'] rfl rfl ?c1 ?c2 ?c3 ?c4 ?c5 ?_))
                case c1 => exact cell_one_new _ _ _
                case c2 => intro u hu; obtain rfl := List.mem_singleton.mp hu; rfl
                case c3 => have := HOL.out; unfold maxLen; omega
                case c4 => have := HOL.out; omega
                case c5 => have := HST'.out.touch.size; simp; omega
                intro one' w2 hown2 _ hgrow2 hat2
                obtain ⟨st2, hl2'⟩ := HST'.out.add1 _ HV.out HL'.out HLG'.out HOL.out hown2 hgrow2 hat2
                have h3 : In3 w w2 vs one' u6 n k (k + 1) (.slice la' (k + 1) lc') := ⟨G', ones ++ [.slice la' (k + 1) lc'], mores, HM.out, Or.inr ⟨by simp [HOL.out], by omega⟩, st2, hl2', HLG'.out⟩
                clear hown2 hgrow2 hat2 st2 hl2' hbk1 hcv1 HST' HL' HLG'
                go_wp2
                go_roundw
                case rel => exact ⟨k + 1, by omega, by omega, by go_num, h3⟩
                case measure => simp [intOf] <;> omega
              · have hol : ones.length = n + 1 ∧ L + 1 ≤ k := by rcases hones with ⟨_, a⟩ | a <;> omega
                have HST : Hid (St w wr vs G u5 ones u6 mores (n + 1)) := st
                have HLG : Hid (∀ kb, (Value.slice la k lc).ownBlock = some kb → G kb n) := hlG
                have HL : Hid (wr.ownsRow 0 5 1 (.slice la k lc) k (bytesOf (marks n k))) := hl
                have HOL : Hid (ones.length = n + 1 ∧ L + 1 ≤ k) := hol
                have HM : Hid (mores.length = n) := hm
                have hkL' : ((k : Int) == (L : Int)) = false := by simp; omega
                clear st hlG hl hi3 hge hv hones hol hm
                go_wp2_with (at_builtin; refine wpList_append_keep _ rfl (.tmp 82) (.tmp 90) 40 rfl 0 5 i0 (.int .u8 0) 1 1 Tryz.underlying40 hi hz0 hz1 hz2 rfl (by decide) (.slice la k lc) k (bytesOf (marks n k)) rfl (HL.out.alloc _) ⟨wr.heap.size, 0, none⟩ 1 1 [.int .u8 (mark n k)] rfl rfl ?c1 ?c2 ?c3 ?c4 ?c5 ?_)
                case c1 => exact cell_one_new _ _ _
                case c2 => intro u hu; obtain rfl := List.mem_singleton.mp hu; rfl
                case c3 => unfold maxLen; omega
                case c4 => omega
                case c5 => exact Nat.zero_le _
                intro l' w1 hown' hkeep hgrow hat
                obtain ⟨G', st', hl', hlG'⟩ := HST.out.grow _ HV.out HL.out HLG.out (show L ≤ k from hk0) (Or.inr HOL.out) HM.out hown' hkeep hgrow hat
                obtain ⟨la', lc', rfl⟩ := own_form hl'
                have h3 : In3 w w1 vs u5 u6 n L (k + 1) (.slice la' (k + 1) lc') := ⟨G', ones, mores, HM.out, Or.inr ⟨HOL.out.1, by omega⟩, st', hl', hlG'⟩
                have hbk1 := h.bagCell st'.touch
                obtain ⟨gb1, gcc1, v1, hge1, hv1, hcv1⟩ := own_elem (h.ownG st'.touch) n hlt
                obtain rfl : Value.slice va L vc = v1 := by have e := HV.out; rw [hv1] at e; exact (Option.some.inj e).symm
                rw [hge1] at hbk1
                clear st' hl' hlG' hown' hkeep hgrow hat HST HL HLG hbk hcv hge1 hv1
                go_wp2
                go_roundw
                case rel => exact ⟨k + 1, by omega, by omega, by go_num, h3⟩
                case measure => simp [intOf] <;> omega
            · obtain rfl : k = L + 70 := by omega
              have hol : ones.length = n + 1 := by rcases hones with ⟨_, a⟩ | ⟨a, _⟩ <;> omega
              obtain ⟨la, lc, rfl⟩ := own_form hl
              have HST : Hid (St w wr vs G u5 ones u6 mores (n + 1)) := st
              have HLG : Hid (∀ kb, (Value.slice la (L + 70) lc).ownBlock = some kb → G kb n) := hlG
              have HL : Hid (wr.ownsRow 0 5 1 (.slice la (L + 70) lc) (L + 70) (bytesOf (marks n (L + 70)))) := hl
              have HOL : Hid (ones.length = n + 1) := hol
              have HM : Hid (mores.length = n) := hm
              clear st hlG hl hi3 hge hv hones hol hm
              go_wp2_with (at_builtin; refine wpList_append_keep _ rfl (.tmp 106) (.tmp 108) 50 rfl w.heap.size 40 i1 (.slice none 0 0) 1 24 Tryz.underlying50 hj hy0 hy1 hy2 rfl (by decide) u6 mores.length mores rfl (HST.out.own2.alloc _) ⟨wr.heap.size, 0, none⟩ 1 1 [.slice la (L + 70) lc] rfl rfl ?c1 ?c2 ?c3 ?c4 ?c5 ?_)
              case c1 => exact cell_one_new _ _ _
              case c2 => intro u hu; obtain rfl := List.mem_singleton.mp hu; rfl
              case c3 => have := HM.out; unfold maxLen; omega
              case c4 => have := HM.out; omega
              case c5 => have := HST.out.touch.size; simp; omega
              intro more' w2 hown2 _ hgrow2 hat2
              have st2 := HST.out.add2 _ HV.out HL.out HLG.out HM.out hown2 hgrow2 hat2
              have h2 : In2 w w2 vs u5 more' (n + 1) := ⟨G, ones, mores ++ [.slice la (L + 70) lc], HOL.out, by simp [HM.out], st2⟩
              clear hown2 hgrow2 hat2 st2 HST HL HLG hbk hcv
              go_wp2
              go_roundw
              case rel => exact ⟨n + 1, by omega, by go_num, h2⟩
              case measure => simp [intOf] <;> omega
        · obtain rfl : n = vs.length := by omega
          obtain ⟨h4, ht⟩ := In4.of h hin
          have hbk := h4.cell
          rw [hgv] at hbk
          obtain ⟨ma, mc, rfl⟩ := h4.len
          clear hin
          go_wp2
          go_loop [10] (fun i => ∃ n : Nat, n ≤ vs.length ∧ i = .int .i64 n) (fun i => vs.length - (intOf i).toNat)
          case atStart => exact ⟨0, Nat.zero_le _, rfl⟩
          case round =>
            obtain ⟨n, hn, rfl⟩ := hrel
            by_cases hnl : n < vs.length
            · obtain ⟨v, o1, o2, hv, ⟨gb, gcc, hge, hcv⟩, ⟨g1, c1, rfl, hc1⟩, ⟨g2, c2, hme, hc2⟩, r0, r1, r2⟩ := h4.at3 n hnl
              have hsm := h.small n v hv
              have hbk' := h4.cell
              rw [hge] at hbk'
              simp only [Value.slice.injEq, true_and] at hme
              obtain ⟨rfl, rfl⟩ := hme
              obtain ⟨L, hL⟩ : ∃ L, lenOf v = L := ⟨_, rfl⟩
              rw [hL] at hsm r0 r1 r2
              obtain ⟨va, vc, rfl⟩ := row0_form r0
              obtain ⟨a2, b2, rfl⟩ := row0_form r2
              obtain ⟨a1, b1, rfl⟩ := row0_form r1
              clear hL hv hge h4 hbk
              go_wp2
              go_loop [11] (fun i => ∃ k : Nat, k ≤ L + 70 ∧ i = .int .i64 k) (fun i => L + 70 - (intOf i).toNat)
              case atStart => exact ⟨0, Nat.zero_le _, rfl⟩
              case round =>
                obtain ⟨k, hk, rfl⟩ := hrel
                by_cases hkl : k < L + 70
                · obtain ⟨x2, y2, e2, hx2⟩ := row0_at r2 hkl
                  simp only [Value.slice.injEq, true_and] at e2
                  obtain ⟨rfl, rfl⟩ := e2
                  rcases Nat.lt_trichotomy k L with hc | hc | hc
                  · obtain ⟨x0, y0, e0, hx0⟩ := row0_at r0 hc
                    simp only [Value.slice.injEq, true_and] at e0
                    obtain ⟨rfl, rfl⟩ := e0
                    have hkL' : ((k : Int) == (L : Int)) = false := by simp; omega
                    clear r0 r1 r2
                    go_wp2
                    go_round
                    case rel => exact ⟨k + 1, by omega, by go_num⟩
                    case measure => simp [intOf] <;> omega
                  · subst hc
                    obtain ⟨x1, y1, e1, hx1⟩ := row0_at r1 (Nat.lt_succ_self k)
                    simp only [Value.slice.injEq, true_and] at e1
                    obtain ⟨rfl, rfl⟩ := e1
                    clear r0 r1 r2
                    go_wp2
                    go_round
                    case rel => exact ⟨k + 1, by omega, by go_num⟩
                    case measure => simp [intOf] <;> omega
                  · have hkL' : ((k : Int) == (L : Int)) = false := by simp; omega
                    clear r0 r1 r2
                    go_wp2
                    go_round
                    case rel => exact ⟨k + 1, by omega, by go_num⟩
                    case measure => simp [intOf] <;> omega
                · clear r0 r1 r2
                  go_wp2
                  go_round
                  case rel => exact ⟨n + 1, by omega, by go_num⟩
                  case measure => simp [intOf] <;> omega
            · go_wp2
              go_ret
              exact ⟨rfl, ht⟩
end Go.Proofs.YtjgeklipeeooaaaGreatDoor

namespace Go.Proofs.YtjgeklipeeooaaaGreatDoor
open Go.RowKit
set_option linter.unusedVariables false
set_option maxRecDepth 100000

theorem apartInts_none (b : Nat) (w : World) (h : w.cell? ⟨b, 1, none⟩ = some (.slice none 0 0)) :
    Calls Tryz.prog 53 #[.pointer (some ⟨b, 0, none⟩)] w fun e w' => e = .returned (.bool true) ∧ w = w' := by
  go_enter Tryz.func53, Tryz.ntmps53
  go_wp2
  go_rounds 1
  go_rounds 1
  go_rounds 1
  go_ret
  exact ⟨rfl, rfl⟩

theorem apartBools_none (b : Nat) (w : World) (h : w.cell? ⟨b, 2, none⟩ = some (.slice none 0 0)) :
    Calls Tryz.prog 54 #[.pointer (some ⟨b, 0, none⟩)] w fun e w' => e = .returned (.bool true) ∧ w = w' := by
  go_enter Tryz.func54, Tryz.ntmps54
  go_wp2
  go_rounds 1
  go_rounds 1
  go_rounds 1
  go_ret
  exact ⟨rfl, rfl⟩

theorem apartTexts_none (b : Nat) (w : World) (h : w.cell? ⟨b, 3, none⟩ = some (.slice none 0 0)) :
    Calls Tryz.prog 55 #[.pointer (some ⟨b, 0, none⟩)] w fun e w' => e = .returned (.bool true) ∧ w = w' := by
  go_enter Tryz.func55, Tryz.ntmps55
  go_wp2
  go_rounds 1
  go_rounds 1
  go_rounds 1
  go_ret
  exact ⟨rfl, rfl⟩

theorem apartLongs_none (b : Nat) (w : World) (h : w.cell? ⟨b, 4, none⟩ = some (.slice none 0 0)) :
    Calls Tryz.prog 56 #[.pointer (some ⟨b, 0, none⟩)] w fun e w' => e = .returned (.bool true) ∧ w = w' := by
  go_enter Tryz.func56, Tryz.ntmps56
  go_wp2
  go_rounds 1
  go_rounds 1
  go_rounds 1
  go_ret
  exact ⟨rfl, rfl⟩

theorem apartWords_none (b : Nat) (w : World) (h : w.cell? ⟨b, 5, none⟩ = some (.slice none 0 0)) :
    Calls Tryz.prog 57 #[.pointer (some ⟨b, 0, none⟩)] w fun e w' => e = .returned (.bool true) ∧ w = w' := by
  go_enter Tryz.func57, Tryz.ntmps57
  go_wp2
  go_rounds 1
  go_rounds 1
  go_rounds 1
  go_ret
  exact ⟨rfl, rfl⟩

theorem apartPrefixes_none (b : Nat) (w : World) (h : w.cell? ⟨b, 6, none⟩ = some (.slice none 0 0)) :
    Calls Tryz.prog 58 #[.pointer (some ⟨b, 0, none⟩)] w fun e w' => e = .returned (.bool true) ∧ w = w' := by
  go_enter Tryz.func58, Tryz.ntmps58
  go_wp2
  go_rounds 1
  go_rounds 1
  go_rounds 1
  go_ret
  exact ⟨rfl, rfl⟩

theorem apartHeads_none (b : Nat) (w : World) (h : w.cell? ⟨b, 7, none⟩ = some (.slice none 0 0)) :
    Calls Tryz.prog 59 #[.pointer (some ⟨b, 0, none⟩)] w fun e w' => e = .returned (.bool true) ∧ w = w' := by
  go_enter Tryz.func59, Tryz.ntmps59
  go_wp2
  go_rounds 1
  go_rounds 1
  go_rounds 1
  go_ret
  exact ⟨rfl, rfl⟩

theorem apartKeys_none (b : Nat) (w : World) (h : w.cell? ⟨b, 8, none⟩ = some (.slice none 0 0)) :
    Calls Tryz.prog 60 #[.pointer (some ⟨b, 0, none⟩)] w fun e w' => e = .returned (.bool true) ∧ w = w' := by
  go_enter Tryz.func60, Tryz.ntmps60
  go_wp2
  go_rounds 1
  go_rounds 1
  go_rounds 1
  go_ret
  exact ⟨rfl, rfl⟩

theorem apartLinks_none (b : Nat) (w : World) (h : w.cell? ⟨b, 9, none⟩ = some (.slice none 0 0)) :
    Calls Tryz.prog 61 #[.pointer (some ⟨b, 0, none⟩)] w fun e w' => e = .returned (.bool true) ∧ w = w' := by
  go_enter Tryz.func61, Tryz.ntmps61
  go_wp2
  go_rounds 1
  go_rounds 1
  go_rounds 1
  go_ret
  exact ⟨rfl, rfl⟩

theorem apartAreas_none (b : Nat) (w : World) (h : w.cell? ⟨b, 10, none⟩ = some (.slice none 0 0)) :
    Calls Tryz.prog 62 #[.pointer (some ⟨b, 0, none⟩)] w fun e w' => e = .returned (.bool true) ∧ w = w' := by
  go_enter Tryz.func62, Tryz.ntmps62
  go_wp2
  go_rounds 1
  go_rounds 1
  go_rounds 1
  go_ret
  exact ⟨rfl, rfl⟩

theorem apartRanges_none (b : Nat) (w : World) (h : w.cell? ⟨b, 11, none⟩ = some (.slice none 0 0)) :
    Calls Tryz.prog 63 #[.pointer (some ⟨b, 0, none⟩)] w fun e w' => e = .returned (.bool true) ∧ w = w' := by
  go_enter Tryz.func63, Tryz.ntmps63
  go_wp2
  go_rounds 1
  go_rounds 1
  go_rounds 1
  go_ret
  exact ⟨rfl, rfl⟩

theorem apartPeers_none (b : Nat) (w : World) (h : w.cell? ⟨b, 12, none⟩ = some (.slice none 0 0)) :
    Calls Tryz.prog 64 #[.pointer (some ⟨b, 0, none⟩)] w fun e w' => e = .returned (.bool true) ∧ w = w' := by
  go_enter Tryz.func64, Tryz.ntmps64
  go_wp2
  go_rounds 1
  go_rounds 1
  go_rounds 1
  go_ret
  exact ⟨rfl, rfl⟩

theorem apartOuters_none (b : Nat) (w : World) (h : w.cell? ⟨b, 13, none⟩ = some (.slice none 0 0)) :
    Calls Tryz.prog 65 #[.pointer (some ⟨b, 0, none⟩)] w fun e w' => e = .returned (.bool true) ∧ w = w' := by
  go_enter Tryz.func65, Tryz.ntmps65
  go_wp2
  go_rounds 1
  go_rounds 1
  go_rounds 1
  go_ret
  exact ⟨rfl, rfl⟩

theorem apartStates_none (b : Nat) (w : World) (h : w.cell? ⟨b, 14, none⟩ = some (.slice none 0 0)) :
    Calls Tryz.prog 66 #[.pointer (some ⟨b, 0, none⟩)] w fun e w' => e = .returned (.bool true) ∧ w = w' := by
  go_enter Tryz.func66, Tryz.ntmps66
  go_wp2
  go_rounds 1
  go_rounds 1
  go_rounds 1
  go_ret
  exact ⟨rfl, rfl⟩

theorem apartAuthKeys_none (b : Nat) (w : World) (h : w.cell? ⟨b, 15, none⟩ = some (.slice none 0 0)) :
    Calls Tryz.prog 67 #[.pointer (some ⟨b, 0, none⟩)] w fun e w' => e = .returned (.bool true) ∧ w = w' := by
  go_enter Tryz.func67, Tryz.ntmps67
  go_wp2
  go_rounds 1
  go_rounds 1
  go_rounds 1
  go_ret
  exact ⟨rfl, rfl⟩

theorem apartIfaces_none (b : Nat) (w : World) (h : w.cell? ⟨b, 16, none⟩ = some (.slice none 0 0)) :
    Calls Tryz.prog 68 #[.pointer (some ⟨b, 0, none⟩)] w fun e w' => e = .returned (.bool true) ∧ w = w' := by
  go_enter Tryz.func68, Tryz.ntmps68
  go_wp2
  go_rounds 1
  go_rounds 1
  go_rounds 1
  go_ret
  exact ⟨rfl, rfl⟩

theorem apartVirtuals_none (b : Nat) (w : World) (h : w.cell? ⟨b, 17, none⟩ = some (.slice none 0 0)) :
    Calls Tryz.prog 69 #[.pointer (some ⟨b, 0, none⟩)] w fun e w' => e = .returned (.bool true) ∧ w = w' := by
  go_enter Tryz.func69, Tryz.ntmps69
  go_wp2
  go_rounds 1
  go_rounds 1
  go_rounds 1
  go_ret
  exact ⟨rfl, rfl⟩

theorem apartOpaques_none (b : Nat) (w : World) (h : w.cell? ⟨b, 18, none⟩ = some (.slice none 0 0)) :
    Calls Tryz.prog 70 #[.pointer (some ⟨b, 0, none⟩)] w fun e w' => e = .returned (.bool true) ∧ w = w' := by
  go_enter Tryz.func70, Tryz.ntmps70
  go_wp2
  go_rounds 1
  go_rounds 1
  go_rounds 1
  go_ret
  exact ⟨rfl, rfl⟩

/-- The other lists of a Bag are empty. -/
def BagN (w : World) (b : Nat) : Prop := ∀ j, 1 ≤ j → j ≤ 18 → w.cell? ⟨b, j, none⟩ = some (.slice none 0 0)
theorem BagN.touch {F : Nat → Prop} {w w' : World} {b : Nat} (h : BagN w b) (t : Touch F w w') (hb : ¬ F b) : BagN w' b :=
  fun j h1 h2 => (t.cell (p := ⟨b, j, none⟩) (lt_of_cell (h j h1 h2)) hb).trans (h j h1 h2)

theorem Apart_any (b : Nat) (gv : Value) (vs : List Value) (w : World) (h : BagB w b gv vs) (hn : BagN w b) :
    Calls Tryz.prog 15 #[.pointer (some ⟨b, 0, none⟩)] w fun e w' => e = .returned (.bool true) ∧ Touch (bagF vs) w w' := by
  go_enter Tryz.func15, Tryz.ntmps15
  go_wp2_with fail
  refine (apart_any _ _ _ _ h).mono ?_
  rintro e w1 ⟨rfl, t⟩
  have hn1 := hn.touch t (by rintro ⟨m, v, hv, hk⟩; exact h.nb m v hv hk)
  go_wp2_with fail
  refine (apartInts_none _ _ (hn1 1 (by omega) (by omega))).mono ?_
  rintro e w' ⟨rfl, rfl⟩
  go_wp2_with fail
  refine (apartBools_none _ _ (hn1 2 (by omega) (by omega))).mono ?_
  rintro e w' ⟨rfl, rfl⟩
  go_wp2_with fail
  refine (apartTexts_none _ _ (hn1 3 (by omega) (by omega))).mono ?_
  rintro e w' ⟨rfl, rfl⟩
  go_wp2_with fail
  refine (apartLongs_none _ _ (hn1 4 (by omega) (by omega))).mono ?_
  rintro e w' ⟨rfl, rfl⟩
  go_wp2_with fail
  refine (apartWords_none _ _ (hn1 5 (by omega) (by omega))).mono ?_
  rintro e w' ⟨rfl, rfl⟩
  go_wp2_with fail
  refine (apartPrefixes_none _ _ (hn1 6 (by omega) (by omega))).mono ?_
  rintro e w' ⟨rfl, rfl⟩
  go_wp2_with fail
  refine (apartHeads_none _ _ (hn1 7 (by omega) (by omega))).mono ?_
  rintro e w' ⟨rfl, rfl⟩
  go_wp2_with fail
  refine (apartKeys_none _ _ (hn1 8 (by omega) (by omega))).mono ?_
  rintro e w' ⟨rfl, rfl⟩
  go_wp2_with fail
  refine (apartLinks_none _ _ (hn1 9 (by omega) (by omega))).mono ?_
  rintro e w' ⟨rfl, rfl⟩
  go_wp2_with fail
  refine (apartAreas_none _ _ (hn1 10 (by omega) (by omega))).mono ?_
  rintro e w' ⟨rfl, rfl⟩
  go_wp2_with fail
  refine (apartRanges_none _ _ (hn1 11 (by omega) (by omega))).mono ?_
  rintro e w' ⟨rfl, rfl⟩
  go_wp2_with fail
  refine (apartPeers_none _ _ (hn1 12 (by omega) (by omega))).mono ?_
  rintro e w' ⟨rfl, rfl⟩
  go_wp2_with fail
  refine (apartOuters_none _ _ (hn1 13 (by omega) (by omega))).mono ?_
  rintro e w' ⟨rfl, rfl⟩
  go_wp2_with fail
  refine (apartStates_none _ _ (hn1 14 (by omega) (by omega))).mono ?_
  rintro e w' ⟨rfl, rfl⟩
  go_wp2_with fail
  refine (apartAuthKeys_none _ _ (hn1 15 (by omega) (by omega))).mono ?_
  rintro e w' ⟨rfl, rfl⟩
  go_wp2_with fail
  refine (apartIfaces_none _ _ (hn1 16 (by omega) (by omega))).mono ?_
  rintro e w' ⟨rfl, rfl⟩
  go_wp2_with fail
  refine (apartVirtuals_none _ _ (hn1 17 (by omega) (by omega))).mono ?_
  rintro e w' ⟨rfl, rfl⟩
  go_wp2_with fail
  refine (apartOpaques_none _ _ (hn1 18 (by omega) (by omega))).mono ?_
  rintro e w' ⟨rfl, rfl⟩
  go_wp2
  go_ret
  exact ⟨rfl, t⟩
end Go.Proofs.YtjgeklipeeooaaaGreatDoor

namespace Go.Proofs.YtjgeklipeeooaaaGreatDoor
open Go.RowKit
set_option linter.unusedVariables false
set_option maxRecDepth 100000

theorem Tryz.infoA : (Tryz.prog.info? 40).map (fun i => (i.zero, i.size, i.bytes)) = some (some (.slice none 0 0), 1, 24) := by kernel_rfl

theorem cell_other (w : World) (b j : Nat) (v : Value) (h : 0 < j) : (w.setCell ⟨b, 0, none⟩ v).cell? ⟨b, j, none⟩ = w.cell? ⟨b, j, none⟩ :=
  World.cell?_setCell_other w ⟨b, 0, none⟩ ⟨b, j, none⟩ v (by intro e; injection e with _ e2; omega)

theorem bag_added {w w1 : World} {b : Nat} {gv gv' v : Value} {vs : List Value} {xs : List Int} (h : BagB w b gv vs) (hv : w.ownsRow 0 5 1 v xs.length (bytesOf xs)) (hvl : lenOf v = xs.length) (hlen : xs.length ≤ 1048576)
    (hnew : ∀ k, v.ownBlock = some k → k ≠ b ∧ gv.ownBlock ≠ some k ∧ ∀ (m : Nat) (u : Value), vs[m]? = some u → u.ownBlock ≠ some k) (hroom : vs.length < 300) (hbase : ∀ k, gv.ownBlock = some k → b < k)
    (hf : w.frozen? ⟨b, 0, none⟩ = false) (t : Touch (fun k => gv.ownBlock = some k) w w1) (hown : w1.ownsRow 0 40 1 gv' (vs.length + 1) (vs ++ [v])) (hat : gv'.ownBlock = gv.ownBlock ∨ gv'.ownBlock = some (w.heap.size + 1)) :
    BagB (w1.setCell ⟨b, 0, none⟩ gv') b gv' (vs ++ [v]) ∧ (w1.setCell ⟨b, 0, none⟩ gv').frozen? ⟨b, 0, none⟩ = false ∧ (∀ k, gv'.ownBlock = some k → b < k) ∧ (gv'.ownBlock = gv.ownBlock ∨ ∃ k, gv'.ownBlock = some k ∧ w.heap.size ≤ k) ∧ Touch (fun k => k = b ∨ gv.ownBlock = some k) w (w1.setCell ⟨b, 0, none⟩ gv') ∧ ∀ j v, 1 ≤ j → w.cell? ⟨b, j, none⟩ = some v → (w1.setCell ⟨b, 0, none⟩ gv').cell? ⟨b, j, none⟩ = some v := by
  have hbl := lt_of_cell h.cell
  have hgb : ∀ k, gv'.ownBlock = some k → b < k := by
    intro k hk
    rcases hat with e | e
    · exact hbase k (by rw [← e]; exact hk)
    · rw [e] at hk; simp at hk; omega
  have hc1 : w1.cell? ⟨b, 0, none⟩ = some gv := (t.cell (p := ⟨b, 0, none⟩) hbl h.nbg).trans h.cell
  have hf1 : w1.frozen? ⟨b, 0, none⟩ = false := (t.frozen (p := ⟨b, 0, none⟩) hbl h.nbg).trans hf
  have tc : Touch (fun k => k = b) w1 (w1.setCell ⟨b, 0, none⟩ gv') := Touch.setCell (F := fun k => k = b) (p := ⟨b, 0, none⟩) (Touch.refl _ w1) (Or.inl rfl) _
  have tt : Touch (fun k => k = b ∨ gv.ownBlock = some k) w (w1.setCell ⟨b, 0, none⟩ gv') := (t.mono (fun i _ e => Or.inr e)).trans' tc (fun i _ e => Or.inl e)
  have hat' : ∀ k, gv'.ownBlock = some k → k < w.heap.size → gv.ownBlock = some k := by
    intro k hk hl
    rcases hat with e | e
    · rw [← e]; exact hk
    · rw [e] at hk; simp at hk; omega
  have ap : ∀ (m : Nat) (u : Value), (vs ++ [v])[m]? = some u → (m < vs.length ∧ vs[m]? = some u) ∨ (m = vs.length ∧ u = v) := by
    intro m u hu
    rcases Nat.lt_or_ge m vs.length with hm | hm
    · left; rw [List.getElem?_append_left hm] at hu; exact ⟨hm, hu⟩
    · right
      rw [List.getElem?_append_right hm] at hu
      have : m - vs.length < [v].length := (List.getElem?_eq_some_iff.mp hu).1
      simp at this
      have e : m - vs.length = 0 := by omega
      rw [e] at hu
      simp at hu
      exact ⟨by omega, hu.symm⟩
  refine ⟨⟨by simp [hc1, go_sem], ?_, ?_, ?_, ?_, ?_, ?_, by simp; omega, ?_⟩, by simp [hf1, go_sem], hgb, ?_, tt, fun j v hj hc => (cell_other w1 b j gv' (by omega)).trans ((t.cell (p := ⟨b, j, none⟩) hbl h.nbg).trans hc)⟩
  · have := own_touch hown tc (fun k hk e => by have := hgb k hk; omega)
    simpa using this
  · intro m u hu
    rcases ap m u hu with ⟨hm, hu'⟩ | ⟨rfl, rfl⟩
    · obtain ⟨ys, k1, k2⟩ := h.rows m u hu'
      exact ⟨ys, k1, own_touch k2 tt (fun k hk e => by rcases e with e | e; exact h.nb m u hu' (by rw [hk, e]); exact h.ng m u k hu' hk e)⟩
    · exact ⟨xs, hvl.symm, by rw [hvl]; exact own_touch hv tt (fun k hk e => by have := hnew k hk; rcases e with e | e; exact this.1 e; exact this.2.1 e)⟩
  · intro m m' u u' k hu hu' hk hk'
    rcases ap m u hu with ⟨hm, h1⟩ | ⟨rfl, rfl⟩ <;> rcases ap m' u' hu' with ⟨hm', h2⟩ | ⟨rfl, rfl⟩
    · exact h.apart m m' u u' k h1 h2 hk hk'
    · exact absurd hk ((hnew k hk').2.2 m u h1)
    · exact absurd hk' ((hnew k hk).2.2 m' u' h2)
    · rfl
  · intro m u hu
    rcases ap m u hu with ⟨hm, hu'⟩ | ⟨rfl, rfl⟩
    · exact h.nb m u hu'
    · intro e; exact (hnew b e).1 rfl
  · intro m u k hu hk e
    rcases ap m u hu with ⟨hm, hu'⟩ | ⟨rfl, rfl⟩
    · obtain ⟨ys, k1, k2⟩ := h.rows m u hu'
      exact h.ng m u k hu' hk (hat' k e (own_lt k2 hk))
    · exact (hnew k hk).2.1 (hat' k e (own_lt hv hk))
  · intro e; have := hgb b e; omega
  · intro m u hu
    rcases ap m u hu with ⟨hm, hu'⟩ | ⟨rfl, rfl⟩
    · exact h.small m u hu'
    · rw [hvl]; exact hlen
  · rcases hat with e | e
    · exact Or.inl e
    · exact Or.inr ⟨_, e, by omega⟩

/-- AddBytes: one list more, that lies apart from the others. -/
theorem add_any (b : Nat) (gv : Value) (vs : List Value) (v : Value) (xs : List Int) (w : World) (h : BagB w b gv vs) (hf : w.frozen? ⟨b, 0, none⟩ = false) (hv : w.ownsRow 0 5 1 v xs.length (bytesOf xs)) (hlen : xs.length ≤ 1048576)
    (hnew : ∀ k, v.ownBlock = some k → k ≠ b ∧ gv.ownBlock ≠ some k ∧ ∀ (m : Nat) (u : Value), vs[m]? = some u → u.ownBlock ≠ some k) (hroom : vs.length < 300) (hbase : ∀ k, gv.ownBlock = some k → b < k) :
    Calls Tryz.prog 14 #[.pointer (some ⟨b, 0, none⟩), v] w fun e w' => e = .returned (.tuple #[]) ∧ ∃ gv', BagB w' b gv' (vs ++ [v]) ∧ w'.frozen? ⟨b, 0, none⟩ = false ∧
      (∀ k, gv'.ownBlock = some k → b < k) ∧ (gv'.ownBlock = gv.ownBlock ∨ ∃ k, gv'.ownBlock = some k ∧ w.heap.size ≤ k) ∧ Touch (fun k => k = b ∨ gv.ownBlock = some k) w w' ∧ ∀ j v, 1 ≤ j → w.cell? ⟨b, j, none⟩ = some v → w'.cell? ⟨b, j, none⟩ = some v := by
  obtain ⟨i1, hj, hy0, hy1, hy2⟩ := info_parts Tryz.infoA
  obtain ⟨va, vc, rfl⟩ := own_form hv
  obtain ⟨ga, gc, rfl⟩ := own_form h.own
  have hc := h.cell
  have hbl := lt_of_cell hc
  have HB : Hid (BagB w b (.slice ga vs.length gc) vs) := h
  have HV : Hid (w.ownsRow 0 5 1 (.slice va xs.length vc) xs.length (bytesOf xs)) := hv
  have HW : Hid (∀ k, (Value.slice va xs.length vc).ownBlock = some k → k ≠ b ∧ (Value.slice ga vs.length gc).ownBlock ≠ some k ∧ ∀ (m : Nat) (u : Value), vs[m]? = some u → u.ownBlock ≠ some k) := hnew
  have HBB : Hid (∀ k, (Value.slice ga vs.length gc).ownBlock = some k → b < k) := hbase
  clear h hv hnew hbase
  go_enter Tryz.func14, Tryz.ntmps14
  go_wp2_with (at_builtin; refine wpList_append_own_at _ rfl (.tmp 14) (.tmp 16) 50 rfl 0 40 i1 (.slice none 0 0) 1 24 Tryz.underlying50 hj hy0 hy1 hy2 rfl (by decide) (.slice ga vs.length gc) vs.length vs rfl (HB.out.own.alloc _) ⟨w.heap.size, 0, none⟩ 1 1 [.slice va xs.length vc] rfl rfl ?c1 ?c2 ?c3 ?c4 ?c5 ?_)
  case c1 => exact cell_one_new _ _ _
  case c2 => intro u hu; obtain rfl := List.mem_singleton.mp hu; rfl
  case c3 => unfold maxLen; omega
  case c4 => omega
  case c5 => exact Nat.zero_le _
  intro gv' w1 hown hgrow _ hat
  obtain ⟨ga', gc', rfl⟩ := own_form hown
  have t1 : Touch (fun k => (Value.slice ga vs.length gc).ownBlock = some k) w w1 := ((Touch.refl _ w).alloc _).grown hgrow (fun k hk => Or.inl hk)
  have hnb := HB.out.nbg
  have hc1 : w1.cell? ⟨b, 0, none⟩ = some (.slice ga vs.length gc) := (t1.cell (p := ⟨b, 0, none⟩) hbl hnb).trans hc
  have hf1 : w1.frozen? ⟨b, 0, none⟩ = false := (t1.frozen (p := ⟨b, 0, none⟩) hbl hnb).trans hf
  have HR : Hid _ := bag_added HB.out HV.out rfl hlen HW.out hroom HBB.out hf t1 hown hat
  clear t1 hown hgrow hat hc hf hnb
  go_wp2
  go_end0
  exact ⟨rfl, .slice ga' (vs.length + 1) gc', HR.out⟩

theorem bag_new {w : World} {T : TypeId} (C : Array Value) (hC : C = #[.slice none 0 0, .slice none 0 0, .slice none 0 0, .slice none 0 0, .slice none 0 0, .slice none 0 0, .slice none 0 0, .slice none 0 0, .slice none 0 0, .slice none 0 0, .slice none 0 0, .slice none 0 0, .slice none 0 0, .slice none 0 0, .slice none 0 0, .slice none 0 0, .slice none 0 0, .slice none 0 0, .slice none 0 0]) :
    BagB (w.alloc (.cells C T)) w.heap.size (.slice none 0 0) [] ∧ (w.alloc (.cells C T)).frozen? ⟨w.heap.size, 0, none⟩ = false ∧ BagN (w.alloc (.cells C T)) w.heap.size := by
  subst hC
  refine ⟨⟨by simp, World.ownsRow_nil _ _ _ _, by simp, by simp, by simp, by simp, by simp [Value.ownBlock], by simp, by simp⟩, by simp, fun j h1 h2 => ?_⟩
  rcases (by omega : j = 1 ∨ j = 2 ∨ j = 3 ∨ j = 4 ∨ j = 5 ∨ j = 6 ∨ j = 7 ∨ j = 8 ∨ j = 9 ∨ j = 10 ∨ j = 11 ∨ j = 12 ∨ j = 13 ∨ j = 14 ∨ j = 15 ∨ j = 16 ∨ j = 17 ∨ j = 18) with rfl | rfl | rfl | rfl | rfl | rfl | rfl | rfl | rfl | rfl | rfl | rfl | rfl | rfl | rfl | rfl | rfl | rfl <;> simp

end Go.Proofs.YtjgeklipeeooaaaGreatDoor
