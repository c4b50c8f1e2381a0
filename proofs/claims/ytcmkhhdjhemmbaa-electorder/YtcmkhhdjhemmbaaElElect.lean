
/- Elect of the program. -/
import Derived.Test.YtcmkhhdjhemmbaaElOnce
import Derived.Test.YtcmkhhdjhemmbaaElBuf
namespace Go.Proofs.Ytcmkhhdjhemmbaa
open Go.RowKit
set_option linter.unusedVariables false
set_option maxRecDepth 100000

theorem aft_ok {s : VC} (h : s.Ok) (d b : Int) : (s.aft d b).Ok := by
  obtain ⟨h1, h2, h3, h4, h5, h6, h7, h8, h9, h10⟩ := h
  refine ⟨h1, h2, h3, h4, h5, h6, ?_, ?_, ?_, ?_⟩
  · show (0 : Int) ≤ if s.is d = true then s.ad else 0
    split <;> omega
  · show (if s.is d = true then s.ad else 0) < (4294967296 : Int)
    split <;> omega
  · show (0 : Int) ≤ if s.is d = true then 0 else if s.is b = true then s.ad else 0
    split
    · omega
    · split <;> omega
  · show (if s.is d = true then 0 else if s.is b = true then s.ad else 0) < (4294967296 : Int)
    split
    · omega
    · split <;> omega
set_option maxHeartbeats 2000000 in
theorem elect_any (s : VC) (l : List VC) (v : Value) (w : World) (hv : VcsAt w v l) (hs : s.Ok) (hn : l.length ≤ 900) : CT 13 #[s.agg, v] (elD s l) (elB s l) w := by
  unfold CT
  have HV : Hid (∀ w', Touch (fun _ => False) w w' → VcsAt w' v l) := fun w' t => hv.keep t
  have HO : Hid (∀ x ∈ l, x.Ok) := hv.ok
  obtain ⟨va, vc, rfl, -⟩ := hv.form
  have HN : Hid (l.length ≤ 900) := hn
  have HSO : Hid s.Ok := hs
  have HW1 : Hid (∀ (w' : World) (v' : Value) (x : VC), VcsAt w' v' (x :: l) → CT 10 #[v'] (onD (x :: l)) (onB (x :: l)) w') := fun w' v' x h => once_any (x :: l) v' w' h (by simp; omega)
  have HL : Hid (VR 35 (w.alloc (.cells #[.int .u32 s.r, .int .u32 s.ad, .int .u8 s.p, .int .u32 s.dr, .int .u32 s.bd] 35)) ((w.alloc (.cells #[.int .u32 s.r, .int .u32 s.ad, .int .u8 s.p, .int .u32 s.dr, .int .u32 s.bd] 35)).alloc (.cells #[.int .u32 s.r, .int .u32 s.ad, .int .u8 s.p, .int .u32 s.dr, .int .u32 s.bd] 35)) (.slice (some ⟨w.heap.size + 1, 0, none⟩) 1 1) [s]) := by
    have := VR.lit 35 (Touch.refl _ (w.alloc (.cells #[.int .u32 s.r, .int .u32 s.ad, .int .u8 s.p, .int .u32 s.dr, .int .u32 s.bd] 35))) [s] #[.int .u32 s.r, .int .u32 s.ad, .int .u8 s.p, .int .u32 s.dr, .int .u32 s.bd] (by simp [vcC, VC.cells]) (by simp)
    have e : (w.alloc (.cells #[.int .u32 s.r, .int .u32 s.ad, .int .u8 s.p, .int .u32 s.dr, .int .u32 s.bd] 35)).heap.size = w.heap.size + 1 := by simp
    rw [e] at this
    exact this
  have HBX : Hid (∀ w', Touch (fun _ => False) (w.alloc (.cells #[.int .u32 s.r, .int .u32 s.ad, .int .u8 s.p, .int .u32 s.dr, .int .u32 s.bd] 35)) w' → VcD w' w.heap.size 0 s) := fun w' t => (best_box w s).keep t
  have hlen : l.length ≤ 900 := hn
  clear hv hn hs
  have HST : Hid (stayB s (onD (s :: l)) (onB (s :: l)) = true → elD s l = onD (s :: l) ∧ elB s l = onB (s :: l)) := fun h => by simp [elD, elB, elL, h]
  have HSF : Hid (stayB s (onD (s :: l)) (onB (s :: l)) = false → elD s l = onD (s.aft (onD (s :: l)) (onB (s :: l)) :: l) ∧ elB s l = onB (s.aft (onD (s :: l)) (onB (s :: l)) :: l)) := fun h => by simp [elD, elB, elL, h]
  generalize hED : elD s l = ED at *
  generalize hEB : elB s l = EB at *
  clear hED hEB
  go_enter Try.func13, Try.ntmps13
  go_wp2_with (first | (refine vcappE rfl (.tmp 8) (.tmp 9) rfl (w.alloc (.cells #[.int .u32 s.r, .int .u32 s.ad, .int .u8 s.p, .int .u32 s.dr, .int .u32 s.bd] 35)) _ [s] rfl HL.out _ l rfl (HV.out _ (((Touch.refl _ w).alloc _).alloc _)) (by simp; omega) ?_; intro u1 w1 b1; have HU : Hid (VR 35 (w.alloc (.cells #[.int .u32 s.r, .int .u32 s.ad, .int .u8 s.p, .int .u32 s.dr, .int .u32 s.bd] 35)) w1 u1 (s :: l)) := b1; clear b1))
  obtain ⟨g, c, rfl, hg, hc⟩ := HU.out.slot (by simp)
  refine (HW1.out w1 _ s (HU.out.at (by simpa using ⟨HSO.out, HO.out⟩))).mono ?_
  rintro e w2 ⟨rfl, t2⟩
  have HU2 : Hid _ := VBuf.keep HU.out t2
  obtain ⟨a0, a1, a2, a3, a4⟩ := (HBX.out w2 HU2.out.t).open0
  have HC := ndr_any s
  have HK := nbd_any s
  have HD := vis_any s (onD (s :: l))
  have HB := vis_any s (onB (s :: l))
  have HAF := aft_any s (onD (s :: l)) (onB (s :: l))
  have HS : Hid (stayB s (onD (s :: l)) (onB (s :: l)) = ((s.ch == s.is (onD (s :: l))) && (s.bk == s.is (onB (s :: l))))) := (rfl : _ = _)
  generalize onD (s :: l) = D at *
  generalize onB (s :: l) = B at *
  generalize s.ch = C at HC HS
  generalize s.bk = K at HK HS
  generalize s.is D = Di at HD HS
  generalize s.is B = Bi at HB HS
  have d0 := aft_cell a0
  have d1 := aft_cell a1
  have d2 := aft_cell a2
  have d3 := aft_cell a3
  have d4 := aft_cell a4
  clear t2 HL HV
  by_cases hq : C = Di
  · subst hq
    have hqq : (C == C) = true := by cases C <;> rfl
    by_cases hk : K = Bi
    · subst hk
      have hkk : (K == K) = true := by cases K <;> rfl
      obtain ⟨hE1, hE2⟩ := HST.out (by rw [HS.out, hqq, hkk]; rfl)
      subst hE1 hE2
      clear HSF HS HST
      go_upto_region 3 with fail
      refine wp_region_aft (by kernel_rfl) (by kernel_rfl) ?_
      repeat (first | go_big_quiet_skip | (go_big_quiet_want; go_big_quiet_op; first | go_big_quiet_on | (refine Exists.intro _ ⟨fun _ => rfl, ?_⟩; go_big_quiet_on)))
      go_big_quiet_want; go_big_quiet_op; refine Exists.intro _ ⟨fun u => Aft.call (HC _), ?_⟩; go_big_quiet_on
      repeat (first | go_big_quiet_skip | (go_big_quiet_want; go_big_quiet_op; first | go_big_quiet_on | (refine Exists.intro _ ⟨fun _ => rfl, ?_⟩; go_big_quiet_on)))
      go_big_quiet_want; go_big_quiet_op; refine Exists.intro _ ⟨fun u => Aft.call (HD _), ?_⟩; go_big_quiet_on
      repeat (first | go_big_quiet_skip | (go_big_quiet_want; go_big_quiet_op; first | go_big_quiet_on | (refine Exists.intro _ ⟨fun _ => rfl, ?_⟩; go_big_quiet_on)))
      go_big_quiet_want; go_big_quiet_op; refine Exists.intro _ ⟨fun u => Aft.call (HK _), ?_⟩; go_big_quiet_on
      repeat (first | go_big_quiet_skip | (go_big_quiet_want; go_big_quiet_op; first | go_big_quiet_on | (refine Exists.intro _ ⟨fun _ => rfl, ?_⟩; go_big_quiet_on)))
      go_big_quiet_want; go_big_quiet_op; refine Exists.intro _ ⟨fun u => Aft.call (HB _), ?_⟩; go_big_quiet_on
      repeat (first | go_big_quiet_skip | (go_big_quiet_want; go_big_quiet_op; first | go_big_quiet_on | (refine Exists.intro _ ⟨fun _ => rfl, ?_⟩; go_big_quiet_on)))
      refine wpQuiet_nil ?_
      rintro wq ⟨⟨_, hgq⟩, rfl⟩
      have T : Hid (Touch (fun _ => False) w wq) := (((Touch.refl _ w).alloc _).trans HU2.out.t).trans hgq
      clear hgq d0 d1 d2 d3 d4 a0 a1 a2 a3 a4
      go_wp2_with fail
      go_ret2
      exact ⟨rfl, T.out⟩
    · obtain rfl : Bi = !K := by cases K <;> cases Bi <;> simp_all
      have hkk : (K == !K) = false := by cases K <;> rfl
      obtain ⟨hE1, hE2⟩ := HSF.out (by rw [HS.out, hqq, hkk]; rfl)
      clear HSF HS HST
      go_upto_region 3 with fail
      refine wp_region_aft (by kernel_rfl) (by kernel_rfl) ?_
      repeat (first | go_big_quiet_skip | (go_big_quiet_want; go_big_quiet_op; first | go_big_quiet_on | (refine Exists.intro _ ⟨fun _ => rfl, ?_⟩; go_big_quiet_on)))
      go_big_quiet_want; go_big_quiet_op; refine Exists.intro _ ⟨fun u => Aft.call (HC _), ?_⟩; go_big_quiet_on
      repeat (first | go_big_quiet_skip | (go_big_quiet_want; go_big_quiet_op; first | go_big_quiet_on | (refine Exists.intro _ ⟨fun _ => rfl, ?_⟩; go_big_quiet_on)))
      go_big_quiet_want; go_big_quiet_op; refine Exists.intro _ ⟨fun u => Aft.call (HD _), ?_⟩; go_big_quiet_on
      repeat (first | go_big_quiet_skip | (go_big_quiet_want; go_big_quiet_op; first | go_big_quiet_on | (refine Exists.intro _ ⟨fun _ => rfl, ?_⟩; go_big_quiet_on)))
      go_big_quiet_want; go_big_quiet_op; refine Exists.intro _ ⟨fun u => Aft.call (HK _), ?_⟩; go_big_quiet_on
      repeat (first | go_big_quiet_skip | (go_big_quiet_want; go_big_quiet_op; first | go_big_quiet_on | (refine Exists.intro _ ⟨fun _ => rfl, ?_⟩; go_big_quiet_on)))
      go_big_quiet_want; go_big_quiet_op; refine Exists.intro _ ⟨fun u => Aft.call (HB _), ?_⟩; go_big_quiet_on
      repeat (first | go_big_quiet_skip | (go_big_quiet_want; go_big_quiet_op; first | go_big_quiet_on | (refine Exists.intro _ ⟨fun _ => rfl, ?_⟩; go_big_quiet_on)))
      refine wpQuiet_nil ?_
      rintro wq ⟨⟨_, hgq⟩, rfl⟩
      have HU3 : Hid _ := VBuf.keep HU2.out hgq
      obtain ⟨a0, a1, a2, a3, a4⟩ := (HBX.out wq HU3.out.t).open0
      clear hgq d0 d1 d2 d3 d4
      go_wp2_with fail
      refine (HAF _).mono ?_
      rintro e w4 ⟨rfl, t4⟩
      have HU4 : Hid _ := VBuf.keep HU3.out t4
      have HU5 : Hid _ := VR.put0 HU4.out rfl (s.aft D B)
      have hln : (0 : Int) < ((l.length + 1 : Nat) : Int) := by omega
      have k0 := HU4.out.own.cellAt 0 (by simp only [List.length_cons]; omega)
      have k1 := HU4.out.own.cellAt 1 (by simp only [List.length_cons]; omega)
      have k2 := HU4.out.own.cellAt 2 (by simp only [List.length_cons]; omega)
      have k3 := HU4.out.own.cellAt 3 (by simp only [List.length_cons]; omega)
      have k4 := HU4.out.own.cellAt 4 (by simp only [List.length_cons]; omega)
      replace k0 : w4.cell? ⟨g, 0, none⟩ = some (.int .u32 s.r) := k0
      replace k1 : w4.cell? ⟨g, 1, none⟩ = some (.int .u32 s.ad) := k1
      replace k2 : w4.cell? ⟨g, 2, none⟩ = some (.int .u8 s.p) := k2
      replace k3 : w4.cell? ⟨g, 3, none⟩ = some (.int .u32 s.dr) := k3
      replace k4 : w4.cell? ⟨g, 4, none⟩ = some (.int .u32 s.bd) := k4
      have f0 := HU4.out.own.frozenAt 0
      have f1 := HU4.out.own.frozenAt 1
      have f2 := HU4.out.own.frozenAt 2
      have f3 := HU4.out.own.frozenAt 3
      have f4 := HU4.out.own.frozenAt 4
      have HSA : Hid (s.aft D B).Ok := aft_ok HSO.out D B
      have HCC := HW1.out
      generalize s.aft D B = y at *
      subst hE1 hE2
      clear t4 a0 a1 a2 a3 a4
      go_wp2_with fail
      refine (HCC _ _ y (VR.at HU5.out (by simpa using ⟨HSA.out, HO.out⟩))).mono ?_
      rintro e w6 ⟨rfl, t6⟩
      have T : Hid (Touch (fun _ => False) w w6) := (((Touch.refl _ w).alloc _).trans HU5.out.t).trans t6
      clear t6
      go_wp2_with fail
      go_ret2
      exact ⟨rfl, T.out⟩
  · obtain rfl : Di = !C := by cases C <;> cases Di <;> simp_all
    have hqq : (C == !C) = false := by cases C <;> rfl
    obtain ⟨hE1, hE2⟩ := HSF.out (by rw [HS.out, hqq]; rfl)
    clear HSF HS HST
    go_upto_region 3 with fail
    refine wp_region_aft (by kernel_rfl) (by kernel_rfl) ?_
    repeat (first | go_big_quiet_skip | (go_big_quiet_want; go_big_quiet_op; first | go_big_quiet_on | (refine Exists.intro _ ⟨fun _ => rfl, ?_⟩; go_big_quiet_on)))
    go_big_quiet_want; go_big_quiet_op; refine Exists.intro _ ⟨fun u => Aft.call (HC _), ?_⟩; go_big_quiet_on
    repeat (first | go_big_quiet_skip | (go_big_quiet_want; go_big_quiet_op; first | go_big_quiet_on | (refine Exists.intro _ ⟨fun _ => rfl, ?_⟩; go_big_quiet_on)))
    go_big_quiet_want; go_big_quiet_op; refine Exists.intro _ ⟨fun u => Aft.call (HD _), ?_⟩; go_big_quiet_on
    repeat (first | go_big_quiet_skip | (go_big_quiet_want; go_big_quiet_op; first | go_big_quiet_on | (refine Exists.intro _ ⟨fun _ => rfl, ?_⟩; go_big_quiet_on)))
    refine wpQuiet_nil ?_
    rintro wq ⟨⟨_, hgq⟩, rfl⟩
    have HU3 : Hid _ := VBuf.keep HU2.out hgq
    obtain ⟨a0, a1, a2, a3, a4⟩ := (HBX.out wq HU3.out.t).open0
    clear hgq d0 d1 d2 d3 d4
    go_wp2_with fail
    refine (HAF _).mono ?_
    rintro e w4 ⟨rfl, t4⟩
    have HU4 : Hid _ := VBuf.keep HU3.out t4
    have HU5 : Hid _ := VR.put0 HU4.out rfl (s.aft D B)
    have hln : (0 : Int) < ((l.length + 1 : Nat) : Int) := by omega
    have k0 := HU4.out.own.cellAt 0 (by simp only [List.length_cons]; omega)
    have k1 := HU4.out.own.cellAt 1 (by simp only [List.length_cons]; omega)
    have k2 := HU4.out.own.cellAt 2 (by simp only [List.length_cons]; omega)
    have k3 := HU4.out.own.cellAt 3 (by simp only [List.length_cons]; omega)
    have k4 := HU4.out.own.cellAt 4 (by simp only [List.length_cons]; omega)
    replace k0 : w4.cell? ⟨g, 0, none⟩ = some (.int .u32 s.r) := k0
    replace k1 : w4.cell? ⟨g, 1, none⟩ = some (.int .u32 s.ad) := k1
    replace k2 : w4.cell? ⟨g, 2, none⟩ = some (.int .u8 s.p) := k2
    replace k3 : w4.cell? ⟨g, 3, none⟩ = some (.int .u32 s.dr) := k3
    replace k4 : w4.cell? ⟨g, 4, none⟩ = some (.int .u32 s.bd) := k4
    have f0 := HU4.out.own.frozenAt 0
    have f1 := HU4.out.own.frozenAt 1
    have f2 := HU4.out.own.frozenAt 2
    have f3 := HU4.out.own.frozenAt 3
    have f4 := HU4.out.own.frozenAt 4
    have HSA : Hid (s.aft D B).Ok := aft_ok HSO.out D B
    have HCC := HW1.out
    generalize s.aft D B = y at *
    subst hE1 hE2
    clear t4 a0 a1 a2 a3 a4
    go_wp2_with fail
    refine (HCC _ _ y (VR.at HU5.out (by simpa using ⟨HSA.out, HO.out⟩))).mono ?_
    rintro e w6 ⟨rfl, t6⟩
    have T : Hid (Touch (fun _ => False) w w6) := (((Touch.refl _ w).alloc _).trans HU5.out.t).trans t6
    clear t6
    go_wp2_with fail
    go_ret2
    exact ⟨rfl, T.out⟩
end Go.Proofs.Ytcmkhhdjhemmbaa
