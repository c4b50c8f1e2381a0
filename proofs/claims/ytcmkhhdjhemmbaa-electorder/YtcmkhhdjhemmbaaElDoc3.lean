
/- The document: whom a router elects. -/
import Derived.Test.YtcmkhhdjhemmbaaElDoc2
import Derived.Test.YtcmkhhdjhemmbaaElElect
namespace Go.Proofs.Ytcmkhhdjhemmbaa
open Go.RowKit
set_option linter.unusedVariables false
set_option maxRecDepth 100000

theorem VR.set3 {T : TypeId} {w0 w : World} {g n c : Nat} {x : VC} {l : List VC} (h : VR T w0 w (.slice (some ⟨g, 0, none⟩) n c) (x :: l)) (hn : n = (x :: l).length) (d : Int) : VR T w0 (w.setCell ⟨g, 3, none⟩ (.int .u32 d)) (.slice (some ⟨g, 0, none⟩) n c) (⟨x.r, x.ad, x.p, d, x.bd⟩ :: l) := by
  subst hn
  exact ⟨(h.own.stored 3 (.int .u32 d)).1, h.t.setCell (p := ⟨g, 3, none⟩) (Or.inr (h.own.lt g rfl).1) _⟩
theorem VR.set4 {T : TypeId} {w0 w : World} {g n c : Nat} {x : VC} {l : List VC} (h : VR T w0 w (.slice (some ⟨g, 0, none⟩) n c) (x :: l)) (hn : n = (x :: l).length) (d : Int) : VR T w0 (w.setCell ⟨g, 4, none⟩ (.int .u32 d)) (.slice (some ⟨g, 0, none⟩) n c) (⟨x.r, x.ad, x.p, x.dr, d⟩ :: l) := by
  subst hn
  exact ⟨(h.own.stored 4 (.int .u32 d)).1, h.t.setCell (p := ⟨g, 4, none⟩) (Or.inr (h.own.lt g rfl).1) _⟩
theorem VR.two {T : TypeId} {w0 w : World} {g n c : Nat} {x : VC} {l : List VC} (h : VR T w0 w (.slice (some ⟨g, 0, none⟩) n c) (x :: l)) (hn : n = (x :: l).length) : w.cell? ⟨g, 3, none⟩ = some (.int .u32 x.dr) ∧ w.cell? ⟨g, 4, none⟩ = some (.int .u32 x.bd) ∧ w.frozen? ⟨g, 3, none⟩ = false ∧ w.frozen? ⟨g, 4, none⟩ = false := by
  subst hn
  exact ⟨h.own.cellAt 3 (by simp only [List.length_cons]; omega), h.own.cellAt 4 (by simp only [List.length_cons]; omega), h.own.frozenAt 3, h.own.frozenAt 4⟩
theorem vr_cast {T : TypeId} {w0 w : World} {v : Value} {l : List VC} {y z : VC} (e : y = z) (h : VR T w0 w v (z :: l)) : VR T w0 w v (y :: l) := e ▸ h
theorem dbox (w : World) (x : VC) : VcD (w.alloc (.cells #[.int .u32 x.r, .int .u32 x.ad, .int .u8 x.p, .int .u32 x.dr, .int .u32 x.bd] 33)) w.heap.size 0 x := ⟨by simp, by simp, by simp, by simp, by simp⟩
set_option maxHeartbeats 1000000 in
theorem delect_zero (r p dr bd : Int) (s : VC) (hsz : s = ⟨r, 0, p, dr, bd⟩) (l : List VC) (v : Value) (w : World) (hv : VcsAt w v l) (hs : s.Ok) (hn : l.length ≤ 900) : CT 14 #[.agg #[.int .u32 r, .int .u32 0, .int .u8 p, .int .u32 dr, .int .u32 bd], v] (elD s l) (elB s l) w := by
  unfold CT
  have HV : Hid (∀ w', Touch (fun _ => False) w w' → VcsAt w' v l) := fun w' t => hv.keep t
  have HO : Hid (∀ x ∈ l, x.Ok) := hv.ok
  obtain ⟨va, vc, rfl, -⟩ := hv.form
  have HSO : Hid s.Ok := hs
  have HW1 : Hid (∀ (w' : World) (v' : Value) (x : VC), VcsAt w' v' (x :: l) → CT 11 #[v'] (onD (x :: l)) (onB (x :: l)) w') := fun w' v' x h => donce_any (x :: l) v' w' h (by simp; omega)
  have HL : Hid (VR 33 (w.alloc (.cells #[.int .u32 s.r, .int .u32 s.ad, .int .u8 s.p, .int .u32 s.dr, .int .u32 s.bd] 33)) ((w.alloc (.cells #[.int .u32 s.r, .int .u32 s.ad, .int .u8 s.p, .int .u32 s.dr, .int .u32 s.bd] 33)).alloc (.cells #[.int .u32 s.r, .int .u32 s.ad, .int .u8 s.p, .int .u32 s.dr, .int .u32 s.bd] 33)) (.slice (some ⟨w.heap.size + 1, 0, none⟩) 1 1) [s]) := by
    have := VR.lit 33 (Touch.refl _ (w.alloc (.cells #[.int .u32 s.r, .int .u32 s.ad, .int .u8 s.p, .int .u32 s.dr, .int .u32 s.bd] 33))) [s] #[.int .u32 s.r, .int .u32 s.ad, .int .u8 s.p, .int .u32 s.dr, .int .u32 s.bd] (by simp [vcC, VC.cells]) (by simp)
    have e : (w.alloc (.cells #[.int .u32 s.r, .int .u32 s.ad, .int .u8 s.p, .int .u32 s.dr, .int .u32 s.bd] 33)).heap.size = w.heap.size + 1 := by simp
    rw [e] at this
    exact this
  have HBX : Hid (∀ w', Touch (fun _ => False) (w.alloc (.cells #[.int .u32 s.r, .int .u32 s.ad, .int .u8 s.p, .int .u32 s.dr, .int .u32 s.bd] 33)) w' → VcD w' w.heap.size 0 s) := fun w' t => (dbox w s).keep t
  have hlen : l.length ≤ 900 := hn
  clear hv hn hs
  have HST : Hid (stayB s (onD (s :: l)) (onB (s :: l)) = true → elD s l = onD (s :: l) ∧ elB s l = onB (s :: l)) := fun h => by simp [elD, elB, elL, h]
  have HSF : Hid (stayB s (onD (s :: l)) (onB (s :: l)) = false → elD s l = onD (s.aft (onD (s :: l)) (onB (s :: l)) :: l) ∧ elB s l = onB (s.aft (onD (s :: l)) (onB (s :: l)) :: l)) := fun h => by simp [elD, elB, elL, h]
  generalize hED : elD s l = ED at *
  generalize hEB : elB s l = EB at *
  clear hED hEB
  have HC := dch_any s
  have HK := dbk_any s
  have HS : Hid (stayB s (onD (s :: l)) (onB (s :: l)) = ((s.ch == s.is (onD (s :: l))) && (s.bk == s.is (onB (s :: l))))) := (rfl : _ = _)
  have h0 : s.ad = 0 := by rw [hsz]
  have hC : s.ch = false := by simp [VC.ch, VC.is, h0]
  have hK : s.bk = false := by simp [VC.bk, VC.is, h0]
  have hI : ∀ a, s.is a = false := fun a => by simp [VC.is, h0]
  obtain ⟨hE1, hE2⟩ := HST.out (by rw [HS.out, hC, hK, hI, hI]; rfl)
  have HE : Hid (ED = onD (s :: l) ∧ EB = onB (s :: l)) := ⟨hE1, hE2⟩
  clear hE1 hE2
  rw [hC] at HC
  rw [hK] at HK
  clear hC hK hI h0 HS HST HSF
  subst hsz
  go_enter Try.func14, Try.ntmps14
  go_wp2_with (first | (refine vcappD rfl (.tmp 13) (.tmp 14) rfl (w.alloc (.cells #[.int .u32 r, .int .u32 0, .int .u8 p, .int .u32 dr, .int .u32 bd] 33)) _ [⟨r, 0, p, dr, bd⟩] rfl HL.out _ l rfl (HV.out _ (((Touch.refl _ w).alloc _).alloc _)) (by simp; omega) ?_; intro u1 w1 b1; have HU : Hid (VR 33 (w.alloc (.cells #[.int .u32 r, .int .u32 0, .int .u8 p, .int .u32 dr, .int .u32 bd] 33)) w1 u1 (⟨r, 0, p, dr, bd⟩ :: l)) := b1; clear b1))
  obtain ⟨g, c, rfl, hg, hc⟩ := VR.slot HU.out (by simp)
  refine (HW1.out w1 _ _ (VR.at HU.out (by simpa using ⟨HSO.out, HO.out⟩))).mono ?_
  rintro e w2 ⟨rfl, t2⟩
  have HU2 : Hid _ := VBuf.keep HU.out t2
  obtain ⟨a0, a1, a2, a3, a4⟩ := (HBX.out w2 HU2.out.t).open0
  generalize onD (⟨r, 0, p, dr, bd⟩ :: l) = D at *
  generalize onB (⟨r, 0, p, dr, bd⟩ :: l) = B at *
  clear t2 HL HV
  obtain ⟨hE1, hE2⟩ := HE.out
  subst hE1 hE2
  clear HE
  go_wp2_with fail
  refine (HC _).mono ?_
  rintro e w3 ⟨rfl, t3⟩
  have HU3 : Hid _ := VBuf.keep HU2.out t3
  obtain ⟨a0, a1, a2, a3, a4⟩ := (HBX.out w3 HU3.out.t).open0
  clear t3
  go_wp2_with fail
  refine (HK _).mono ?_
  rintro e w4 ⟨rfl, t4⟩
  have HU4 : Hid _ := VBuf.keep HU3.out t4
  obtain ⟨a0, a1, a2, a3, a4⟩ := (HBX.out w4 HU4.out.t).open0
  clear t4
  have TZ : Hid (Touch (fun _ => False) w w4) := ((Touch.refl _ w).alloc _).trans HU4.out.t
  go_wp2_with fail
  go_ret2
  exact ⟨rfl, TZ.out⟩
set_option maxHeartbeats 4000000 in
theorem delect_any (s : VC) (l : List VC) (v : Value) (w : World) (hv : VcsAt w v l) (hs : s.Ok) (hn : l.length ≤ 900) : CT 14 #[s.agg, v] (elD s l) (elB s l) w := by
  by_cases h0 : s.ad = 0
  · have := delect_zero s.r s.p s.dr s.bd s (by cases s; simp at h0; simp [h0]) l v w hv hs hn
    show CT 14 #[.agg #[.int .u32 s.r, .int .u32 s.ad, .int .u8 s.p, .int .u32 s.dr, .int .u32 s.bd], v] (elD s l) (elB s l) w
    rw [h0]
    exact this
  unfold CT
  have HV : Hid (∀ w', Touch (fun _ => False) w w' → VcsAt w' v l) := fun w' t => hv.keep t
  have HO : Hid (∀ x ∈ l, x.Ok) := hv.ok
  obtain ⟨va, vc, rfl, -⟩ := hv.form
  have HSO : Hid s.Ok := hs
  have HW1 : Hid (∀ (w' : World) (v' : Value) (x : VC), VcsAt w' v' (x :: l) → CT 11 #[v'] (onD (x :: l)) (onB (x :: l)) w') := fun w' v' x h => donce_any (x :: l) v' w' h (by simp; omega)
  have HL : Hid (VR 33 (w.alloc (.cells #[.int .u32 s.r, .int .u32 s.ad, .int .u8 s.p, .int .u32 s.dr, .int .u32 s.bd] 33)) ((w.alloc (.cells #[.int .u32 s.r, .int .u32 s.ad, .int .u8 s.p, .int .u32 s.dr, .int .u32 s.bd] 33)).alloc (.cells #[.int .u32 s.r, .int .u32 s.ad, .int .u8 s.p, .int .u32 s.dr, .int .u32 s.bd] 33)) (.slice (some ⟨w.heap.size + 1, 0, none⟩) 1 1) [s]) := by
    have := VR.lit 33 (Touch.refl _ (w.alloc (.cells #[.int .u32 s.r, .int .u32 s.ad, .int .u8 s.p, .int .u32 s.dr, .int .u32 s.bd] 33))) [s] #[.int .u32 s.r, .int .u32 s.ad, .int .u8 s.p, .int .u32 s.dr, .int .u32 s.bd] (by simp [vcC, VC.cells]) (by simp)
    have e : (w.alloc (.cells #[.int .u32 s.r, .int .u32 s.ad, .int .u8 s.p, .int .u32 s.dr, .int .u32 s.bd] 33)).heap.size = w.heap.size + 1 := by simp
    rw [e] at this
    exact this
  have HBX : Hid (∀ w', Touch (fun _ => False) (w.alloc (.cells #[.int .u32 s.r, .int .u32 s.ad, .int .u8 s.p, .int .u32 s.dr, .int .u32 s.bd] 33)) w' → VcD w' w.heap.size 0 s) := fun w' t => (dbox w s).keep t
  have hlen : l.length ≤ 900 := hn
  clear hv hn hs
  have HST : Hid (stayB s (onD (s :: l)) (onB (s :: l)) = true → elD s l = onD (s :: l) ∧ elB s l = onB (s :: l)) := fun h => by simp [elD, elB, elL, h]
  have HSF : Hid (stayB s (onD (s :: l)) (onB (s :: l)) = false → elD s l = onD (s.aft (onD (s :: l)) (onB (s :: l)) :: l) ∧ elB s l = onB (s.aft (onD (s :: l)) (onB (s :: l)) :: l)) := fun h => by simp [elD, elB, elL, h]
  generalize hED : elD s l = ED at *
  generalize hEB : elB s l = EB at *
  clear hED hEB
  have HC := dch_any s
  have HK := dbk_any s
  have HS : Hid (stayB s (onD (s :: l)) (onB (s :: l)) = ((s.ch == s.is (onD (s :: l))) && (s.bk == s.is (onB (s :: l))))) := (rfl : _ = _)
  have h0' : (s.ad == 0) = false := by simpa using h0
  · have HI : Hid (∀ a, s.is a = (a == s.ad)) := fun a => by show _ = _; rw [beq_turn]; simp [VC.is, h0']
    generalize s.ch = C at HC HS
    generalize s.bk = K at HK HS
    go_enter Try.func14, Try.ntmps14
    go_wp2_with (first | (refine vcappD rfl (.tmp 13) (.tmp 14) rfl (w.alloc (.cells #[.int .u32 s.r, .int .u32 s.ad, .int .u8 s.p, .int .u32 s.dr, .int .u32 s.bd] 33)) _ [s] rfl HL.out _ l rfl (HV.out _ (((Touch.refl _ w).alloc _).alloc _)) (by simp; omega) ?_; intro u1 w1 b1; have HU : Hid (VR 33 (w.alloc (.cells #[.int .u32 s.r, .int .u32 s.ad, .int .u8 s.p, .int .u32 s.dr, .int .u32 s.bd] 33)) w1 u1 (s :: l)) := b1; clear b1))
    obtain ⟨g, c, rfl, hg, hc⟩ := VR.slot HU.out (by simp)
    refine (HW1.out w1 _ s (VR.at HU.out (by simpa using ⟨HSO.out, HO.out⟩))).mono ?_
    rintro e w2 ⟨rfl, t2⟩
    have HU2 : Hid _ := VBuf.keep HU.out t2
    obtain ⟨a0, a1, a2, a3, a4⟩ := (HBX.out w2 HU2.out.t).open0
    generalize onD (s :: l) = D at *
    generalize onB (s :: l) = B at *
    clear t2 HL HV
    go_upto_region 6 with fail
    have HDI : Hid (s.is D = (D == s.ad)) := HI.out D
    have HBI : Hid (s.is B = (B == s.ad)) := HI.out B
    generalize (D == s.ad) = Di at *
    generalize (B == s.ad) = Bi at *
    have hne : (s.ad != 0) = true := by simp [h0]
    simp only [hne, Bool.true_and]
    clear hne
    replace HS : Hid (stayB s D B = ((C == Di) && (K == Bi))) := by show _ = _; rw [HS.out, HDI.out, HBI.out]
    by_cases hq : Di = C
    · subst hq
      have hqq : (Di == Di) = true := by cases Di <;> rfl
      by_cases hk : Bi = K
      · subst hk
        have hkk : (Bi == Bi) = true := by cases Bi <;> rfl
        obtain ⟨hE1, hE2⟩ := HST.out (by rw [HS.out, hqq, hkk]; rfl)
        subst hE1 hE2
        clear HST HSF HS
        go_wp2_with fail
        refine (HC _).mono ?_
        rintro e w3 ⟨rfl, t3⟩
        have HU3 : Hid _ := VBuf.keep HU2.out t3
        obtain ⟨a0, a1, a2, a3, a4⟩ := (HBX.out w3 HU3.out.t).open0
        clear t3
        go_wp2_with fail
        refine (HK _).mono ?_
        rintro e w4 ⟨rfl, t4⟩
        have HU4 : Hid _ := VBuf.keep HU3.out t4
        obtain ⟨a0, a1, a2, a3, a4⟩ := (HBX.out w4 HU4.out.t).open0
        clear t4
        have TZ : Hid (Touch (fun _ => False) w w4) := ((Touch.refl _ w).alloc _).trans HU4.out.t
        go_wp2_with fail
        go_ret2
        exact ⟨rfl, TZ.out⟩
      · obtain rfl : K = !Bi := by cases K <;> cases Bi <;> simp_all
        have hkk : (Bi == !Bi) = false := by cases Bi <;> rfl
        obtain ⟨hE1, hE2⟩ := HSF.out (by rw [HS.out, hqq]; cases Bi <;> rfl)
        clear HST HSF HS
        go_wp2_with fail
        refine (HC _).mono ?_
        rintro e w3 ⟨rfl, t3⟩
        have HU3 : Hid _ := VBuf.keep HU2.out t3
        obtain ⟨a0, a1, a2, a3, a4⟩ := (HBX.out w3 HU3.out.t).open0
        clear t3
        go_wp2_with fail
        refine (HK _).mono ?_
        rintro e w4 ⟨rfl, t4⟩
        have HU4 : Hid _ := VBuf.keep HU3.out t4
        obtain ⟨a0, a1, a2, a3, a4⟩ := (HBX.out w4 HU4.out.t).open0
        clear t4
        have HX : Hid _ := VR.set4 (VR.set3 HU4.out rfl 0) rfl 0
        obtain ⟨k3, k4, f3, f4⟩ := VR.two HU4.out rfl
        have hln : (0 : Int) < ((l.length + 1 : Nat) : Int) := by omega
        go_upto_region 10 with fail
        generalize hW5 : (w4.setCell ⟨g, 3, none⟩ (.int .u32 0)).setCell ⟨g, 4, none⟩ (.int .u32 0) = w5 at HX ⊢
        obtain ⟨a0, a1, a2, a3, a4⟩ := (HBX.out w5 HX.out.t).open0
        clear hW5 k3 k4 f3 f4
        obtain ⟨k3, k4, f3, f4⟩ := VR.two HX.out rfl
        have HAE : Hid (s.aft D B = ⟨s.r, s.ad, s.p, if Di = true then s.ad else 0, if Di = true then 0 else if Bi = true then s.ad else 0⟩) := by show _ = _; unfold VC.aft; rw [HDI.out, HBI.out]
        have HSA : Hid (s.aft D B).Ok := aft_ok HSO.out D B
        generalize s.aft D B = y at *
        subst hE1 hE2
        cases Di
        · cases Bi
          · have HY : Hid _ := vr_cast HAE.out HX.out
            go_wp2_with fail
            refine (HW1.out _ _ y (VR.at HY.out (by simpa using ⟨HSA.out, HO.out⟩))).mono ?_
            rintro e w6 ⟨rfl, t6⟩
            have TZ : Hid (Touch (fun _ => False) w w6) := (((Touch.refl _ w).alloc _).trans HY.out.t).trans t6
            clear t6
            go_wp2_with fail
            go_ret2
            exact ⟨rfl, TZ.out⟩
          · have HX2 : Hid _ := VR.set4 HX.out rfl s.ad
            have HY : Hid _ := vr_cast HAE.out HX2.out
            go_wp2_with fail
            refine (HW1.out _ _ y (VR.at HY.out (by simpa using ⟨HSA.out, HO.out⟩))).mono ?_
            rintro e w6 ⟨rfl, t6⟩
            have TZ : Hid (Touch (fun _ => False) w w6) := (((Touch.refl _ w).alloc _).trans HY.out.t).trans t6
            clear t6
            go_wp2_with fail
            go_ret2
            exact ⟨rfl, TZ.out⟩
        · have HX2 : Hid _ := VR.set3 HX.out rfl s.ad
          have HY : Hid _ := vr_cast HAE.out HX2.out
          go_wp2_with fail
          refine (HW1.out _ _ y (VR.at HY.out (by simpa using ⟨HSA.out, HO.out⟩))).mono ?_
          rintro e w6 ⟨rfl, t6⟩
          have TZ : Hid (Touch (fun _ => False) w w6) := (((Touch.refl _ w).alloc _).trans HY.out.t).trans t6
          clear t6
          go_wp2_with fail
          go_ret2
          exact ⟨rfl, TZ.out⟩
    · obtain rfl : C = !Di := by cases C <;> cases Di <;> simp_all
      have hqq : (Di == !Di) = false := by cases Di <;> rfl
      obtain ⟨hE1, hE2⟩ := HSF.out (by rw [HS.out]; cases Di <;> rfl)
      clear HST HSF HS
      go_wp2_with fail
      refine (HC _).mono ?_
      rintro e w3 ⟨rfl, t3⟩
      have HU3 : Hid _ := VBuf.keep HU2.out t3
      obtain ⟨a0, a1, a2, a3, a4⟩ := (HBX.out w3 HU3.out.t).open0
      clear t3
      have HX : Hid _ := VR.set4 (VR.set3 HU3.out rfl 0) rfl 0
      obtain ⟨k3, k4, f3, f4⟩ := VR.two HU3.out rfl
      have hln : (0 : Int) < ((l.length + 1 : Nat) : Int) := by omega
      go_upto_region 10 with fail
      generalize hW5 : (w3.setCell ⟨g, 3, none⟩ (.int .u32 0)).setCell ⟨g, 4, none⟩ (.int .u32 0) = w5 at HX ⊢
      obtain ⟨a0, a1, a2, a3, a4⟩ := (HBX.out w5 HX.out.t).open0
      clear hW5 k3 k4 f3 f4
      obtain ⟨k3, k4, f3, f4⟩ := VR.two HX.out rfl
      have HAE : Hid (s.aft D B = ⟨s.r, s.ad, s.p, if Di = true then s.ad else 0, if Di = true then 0 else if Bi = true then s.ad else 0⟩) := by show _ = _; unfold VC.aft; rw [HDI.out, HBI.out]
      have HSA : Hid (s.aft D B).Ok := aft_ok HSO.out D B
      generalize s.aft D B = y at *
      subst hE1 hE2
      cases Di
      · cases Bi
        · have HY : Hid _ := vr_cast HAE.out HX.out
          go_wp2_with fail
          refine (HW1.out _ _ y (VR.at HY.out (by simpa using ⟨HSA.out, HO.out⟩))).mono ?_
          rintro e w6 ⟨rfl, t6⟩
          have TZ : Hid (Touch (fun _ => False) w w6) := (((Touch.refl _ w).alloc _).trans HY.out.t).trans t6
          clear t6
          go_wp2_with fail
          go_ret2
          exact ⟨rfl, TZ.out⟩
        · have HX2 : Hid _ := VR.set4 HX.out rfl s.ad
          have HY : Hid _ := vr_cast HAE.out HX2.out
          go_wp2_with fail
          refine (HW1.out _ _ y (VR.at HY.out (by simpa using ⟨HSA.out, HO.out⟩))).mono ?_
          rintro e w6 ⟨rfl, t6⟩
          have TZ : Hid (Touch (fun _ => False) w w6) := (((Touch.refl _ w).alloc _).trans HY.out.t).trans t6
          clear t6
          go_wp2_with fail
          go_ret2
          exact ⟨rfl, TZ.out⟩
      · have HX2 : Hid _ := VR.set3 HX.out rfl s.ad
        have HY : Hid _ := vr_cast HAE.out HX2.out
        go_wp2_with fail
        refine (HW1.out _ _ y (VR.at HY.out (by simpa using ⟨HSA.out, HO.out⟩))).mono ?_
        rintro e w6 ⟨rfl, t6⟩
        have TZ : Hid (Touch (fun _ => False) w w6) := (((Touch.refl _ w).alloc _).trans HY.out.t).trans t6
        clear t6
        go_wp2_with fail
        go_ret2
        exact ⟨rfl, TZ.out⟩
end Go.Proofs.Ytcmkhhdjhemmbaa
