
/- The walks of two statements: Once and Elect are the document's. -/
import Derived.Test.YtcmkhhdjhemmbaaElSame
import Derived.Test.YtcmkhhdjhemmbaaElDoc3
namespace Go.Proofs.Ytcmkhhdjhemmbaa
open Go.RowKit
set_option linter.unusedVariables false
set_option maxRecDepth 100000

set_option maxHeartbeats 2000000 in
theorem eonce_any (v : Value) (l : List VC) (w : World) (hv : VcsAt w v l) : CB 3 #[v] true w := by
  unfold CB
  by_cases hn : l.length ≤ 300
  · have HCP := copied_any l v w hv (by omega)
    have HON := fun w' u (h : VcsAt w' u l) => once_any l u w' h (by omega)
    have HDO := fun w' (t : Touch (fun _ => False) w w') => donce_any l v w' (hv.keep t) (by omega)
    have HSA := fun w' u (t : Touch (fun _ => False) w w') (h : VcsAt w' u l) => same_any l u v w' h (hv.keep t) (by omega)
    have HOK : Hid (∀ x ∈ l, x.Ok) := hv.ok
    obtain ⟨va, vc, rfl, -⟩ := hv.form
    have hn' : ¬ (300 : Int) < (l.length : Int) := by omega
    generalize onD l = D at *
    generalize onB l = B at *
    clear hv hn
    go_enter Try.func3, Try.ntmps3
    go_wp2_with fail
    refine Calls.mono HCP ?_
    rintro e w1 ⟨u, rfl, vr⟩
    have HU : Hid (∀ w', Touch (fun _ => False) w1 w' → VcsAt w' u l) := fun w' t => VR.at (VBuf.keep vr t) HOK.out
    have T1 : Hid (Touch (fun _ => False) w w1) := vr.t
    obtain ⟨ua, uc, rfl⟩ := vr.form
    clear vr HCP
    go_wp2_with fail
    refine (HON _ _ (HU.out w1 (Touch.refl _ _))).mono ?_
    rintro e w2 ⟨rfl, t2⟩
    have T2 : Hid (Touch (fun _ => False) w1 w2) := t2
    clear t2
    go_wp2_with fail
    refine (HDO _ (T1.out.trans T2.out)).mono ?_
    rintro e w3 ⟨rfl, t3⟩
    have T3 : Hid (Touch (fun _ => False) w1 w3) := T2.out.trans t3
    clear t3
    go_wp2_with fail
    refine (HSA _ _ (T1.out.trans T3.out) (HU.out _ T3.out)).mono ?_
    rintro e w4 ⟨rfl, t4⟩
    have T4 : Hid (Touch (fun _ => False) w w4) := (T1.out.trans T3.out).trans t4
    clear t4
    go_wp2_with fail
    refine (works_any _).mono ?_
    rintro e wz ⟨rfl, tz⟩
    have T5 : Hid (Touch (fun _ => False) w wz) := T4.out.trans tz
    clear tz
    go_wp2_with fail
    go_ret
    exact ⟨rfl, T5.out⟩
  · obtain ⟨va, vc, rfl, -⟩ := hv.form
    have hn' : (300 : Int) < (l.length : Int) := by omega
    clear hv hn
    go_enter Try.func3, Try.ntmps3
    go_wp2_with fail
    refine (works_any _).mono ?_
    rintro e wz ⟨rfl, tz⟩
    have T5 : Hid (Touch (fun _ => False) w wz) := tz
    clear tz
    go_wp2_with fail
    go_ret
    exact ⟨rfl, T5.out⟩
theorem one_cells {w : World} {g c : Nat} {s : VC} (h : VcsAt w (.slice (some ⟨g, 0, none⟩) [s].length c) [s]) : w.cell? ⟨g, 0, none⟩ = some (.int .u32 s.r) ∧ w.cell? ⟨g, 1, none⟩ = some (.int .u32 s.ad) ∧ w.cell? ⟨g, 2, none⟩ = some (.int .u8 s.p) ∧ w.cell? ⟨g, 3, none⟩ = some (.int .u32 s.dr) ∧ w.cell? ⟨g, 4, none⟩ = some (.int .u32 s.bd) := by
  obtain ⟨gR, off, cR, eR, -, -, hcell⟩ := h.at (by simp)
  cases eR
  exact (hcell 0 s rfl).open0
set_option maxHeartbeats 2000000 in
theorem eelect_any (s : VC) (v : Value) (l : List VC) (w : World) (hs : s.Ok) (hv : VcsAt w v l) : CB 4 #[s.agg, v] true w := by
  unfold CB
  by_cases hn : l.length ≤ 300
  · have HCP := fun w' (t : Touch (fun _ => False) w w') => copied_any l v w' (hv.keep t) (by omega)
    have HDE := fun w' (t : Touch (fun _ => False) w w') => delect_any s l v w' (hv.keep t) hs (by omega)
    have HSA := fun w' u (t : Touch (fun _ => False) w w') (h : VcsAt w' u l) => same_any l u v w' h (hv.keep t) (by omega)
    have HL : Hid (∀ w' : World, VcsAt (w'.alloc (.cells #[.int .u32 s.r, .int .u32 s.ad, .int .u8 s.p, .int .u32 s.dr, .int .u32 s.bd] 33)) (.slice (some ⟨w'.heap.size, 0, none⟩) 1 1) [s]) := fun w' => VR.at (VR.lit 33 (Touch.refl _ w') [s] #[.int .u32 s.r, .int .u32 s.ad, .int .u8 s.p, .int .u32 s.dr, .int .u32 s.bd] (by simp [vcC, VC.cells]) (by simp)) (by simpa using hs)
    have HC1 := fun w' g (h : VcsAt w' (.slice (some ⟨g, 0, none⟩) 1 1) [s]) => copied_any [s] (.slice (some ⟨g, 0, none⟩) 1 1) w' h (by simp)
    have HEL := fun w' u (h : VcsAt w' u l) => elect_any s l u w' h hs (by omega)
    have HBX : Hid (∀ w', Touch (fun _ => False) (w.alloc (.cells #[.int .u32 s.r, .int .u32 s.ad, .int .u8 s.p, .int .u32 s.dr, .int .u32 s.bd] 33)) w' → VcD w' w.heap.size 0 s) := fun w' t => (dbox w s).keep t
    have HB0 : Hid (Touch (fun _ => False) w (w.alloc (.cells #[.int .u32 s.r, .int .u32 s.ad, .int .u8 s.p, .int .u32 s.dr, .int .u32 s.bd] 33))) := (Touch.refl _ w).alloc _
    have HOK : Hid (∀ x ∈ l, x.Ok) := hv.ok
    have HSK : Hid s.Ok := hs
    obtain ⟨va, vc, rfl, -⟩ := hv.form
    have hn' : ¬ (300 : Int) < (l.length : Int) := by omega
    generalize elD s l = D at *
    generalize elB s l = B at *
    clear hv hn hs
    go_enter Try.func4, Try.ntmps4
    go_wp2_with fail
    refine Calls.mono (HCP _ HB0.out) ?_
    rintro e w1 ⟨u, rfl, vr⟩
    have HU : Hid (∀ w', Touch (fun _ => False) w1 w' → VcsAt w' u l) := fun w' t => VR.at (VBuf.keep vr t) HOK.out
    have T1 : Hid (Touch (fun _ => False) (w.alloc (.cells #[.int .u32 s.r, .int .u32 s.ad, .int .u8 s.p, .int .u32 s.dr, .int .u32 s.bd] 33)) w1) := vr.t
    obtain ⟨ua, uc, rfl⟩ := vr.form
    obtain ⟨a0, a1, a2, a3, a4⟩ := (HBX.out w1 T1.out).open0
    clear vr HCP
    go_wp2_with fail
    refine Calls.mono (HC1 _ _ (HL.out w1)) ?_
    rintro e w2 ⟨u2, rfl, vr⟩
    obtain ⟨g2, c2, rfl, -, -⟩ := VR.slot vr (by simp)
    obtain ⟨b0, b1, b2, b3, b4⟩ := one_cells (VR.at vr (by simpa using HSK.out))
    have T2 : Hid (Touch (fun _ => False) w1 w2) := ((Touch.refl _ w1).alloc _).trans vr.t
    clear vr a0 a1 a2 a3 a4
    go_wp2_with fail
    refine (HEL _ _ (HU.out w2 T2.out)).mono ?_
    rintro e w3 ⟨rfl, t3⟩
    have T3 : Hid (Touch (fun _ => False) w1 w3) := T2.out.trans t3
    obtain ⟨a0, a1, a2, a3, a4⟩ := (HBX.out w3 (T1.out.trans T3.out)).open0
    clear t3 b0 b1 b2 b3 b4
    go_wp2_with fail
    refine (HDE _ (HB0.out.trans (T1.out.trans T3.out))).mono ?_
    rintro e w4 ⟨rfl, t4⟩
    have T4 : Hid (Touch (fun _ => False) w1 w4) := T3.out.trans t4
    clear t4 a0 a1 a2 a3 a4
    go_wp2_with fail
    refine (HSA _ _ (HB0.out.trans (T1.out.trans T4.out)) (HU.out _ T4.out)).mono ?_
    rintro e w5 ⟨rfl, t5⟩
    have T5 : Hid (Touch (fun _ => False) w w5) := (HB0.out.trans (T1.out.trans T4.out)).trans t5
    clear t5
    go_wp2_with fail
    refine (works_any _).mono ?_
    rintro e wz ⟨rfl, tz⟩
    have T6 : Hid (Touch (fun _ => False) w wz) := T5.out.trans tz
    clear tz
    go_wp2_with fail
    go_ret
    exact ⟨rfl, T6.out⟩
  · obtain ⟨va, vc, rfl, -⟩ := hv.form
    have hn' : (300 : Int) < (l.length : Int) := by omega
    clear hv hn
    go_enter Try.func4, Try.ntmps4
    go_wp2_with fail
    refine (works_any _).mono ?_
    rintro e wz ⟨rfl, tz⟩
    have T5 : Hid (Touch (fun _ => False) w wz) := ((Touch.refl _ w).alloc _).trans tz
    clear tz
    go_wp2_with fail
    go_ret
    exact ⟨rfl, T5.out⟩
end Go.Proofs.Ytcmkhhdjhemmbaa
