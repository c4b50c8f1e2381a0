
/- Are the voices what they were? Two routers. -/
import Derived.Test.YtcmkhhdjhemmbaaElCopy
import Derived.Test.YtcmkhhdjhemmbaaElElect
namespace Go.Proofs.Ytcmkhhdjhemmbaa
open Go.RowKit
set_option linter.unusedVariables false
set_option maxRecDepth 100000

structure SaR (w : World) (l : List VC) (gg : Nat) (s6 : Value) (wr : World) : Prop where
  out : ∃ k : Nat, k ≤ l.length ∧ l.length - k ≤ gg ∧ s6 = .int .i64 k ∧ Touch (fun _ => False) w wr
set_option maxHeartbeats 2000000 in
theorem same_any (l : List VC) (u v : Value) (w : World) (hu : VcsAt w u l) (hv : VcsAt w v l) (hn : l.length ≤ 1000) : CB 12 #[u, v] true w := by
  unfold CB
  have HCP := copied_any l v w hv hn
  obtain ⟨va, vc, rfl, -⟩ := hv.form
  obtain ⟨ua, uc, rfl, -⟩ := hu.form
  have HU : Hid (∀ w', Touch (fun _ => False) w w' → VcsAt w' (.slice ua l.length uc) l) := fun w' t => hu.keep t
  have hn' : (l.length : Int) ≤ 1000 := by omega
  have HOK : Hid (∀ x ∈ l, x.Ok) := hv.ok
  clear hu hv
  go_enter Try.func12, Try.ntmps12
  go_wp2_with fail
  refine Calls.mono HCP ?_
  rintro e w1 ⟨z, rfl, vr⟩
  have HZ : Hid (∀ w', Touch (fun _ => False) w1 w' → VcsAt w' z l) := fun w' t => VR.at (VBuf.keep vr t) HOK.out
  have T1 : Hid (Touch (fun _ => False) w w1) := vr.t
  obtain ⟨za, zc, rfl⟩ := vr.form
  clear vr HCP
  go_wp2_with fail
  go_loopg [6] l.length (fun gg s6 wr => SaR w1 l gg s6 wr)
  case atStart => exact ⟨0, Nat.zero_le _, by omega, rfl, Touch.refl _ _⟩
  case round =>
    obtain ⟨k, hk, hg, rfl, tr⟩ := hrel.out
    have TR : Hid (Touch (fun _ => False) w1 wr) := tr
    clear tr hrel
    by_cases hlt : k < l.length
    · have hlt' : (k : Int) < (l.length : Int) := by omega
      have hk00 : (0 : Int) ≤ (k : Int) := by omega
      have hkw : wrap64 ((k : Int) + 1) = (k : Int) + 1 := by unfold wrap64; omega
      obtain ⟨x, hx⟩ : ∃ x, l[k]? = some x := ⟨l[k], by simp [hlt]⟩
      obtain ⟨gR, off, cR, eR, -, -, hcell⟩ := (HU.out wr (T1.out.trans TR.out)).at (by omega)
      cases eR
      obtain ⟨e0, e1, e2, e3, e4⟩ := hcell k x hx
      obtain ⟨gZ, oz, cZ, eZ, -, -, hcz⟩ := (HZ.out wr TR.out).at (by omega)
      cases eZ
      obtain ⟨z0, z1, z2, z3, z4⟩ := hcz k x hx
      have c0 := aft_cell e0
      have c1 := aft_cell e1
      have c2 := aft_cell e2
      have c3 := aft_cell e3
      have c4 := aft_cell e4
      have d0 := aft_cell z0
      have d1 := aft_cell z1
      have d2 := aft_cell z2
      have d3 := aft_cell z3
      have d4 := aft_cell z4
      clear hcell hcz hx e0 e1 e2 e3 e4 z0 z1 z2 z3 z4
      go_upto_region 5 with fail
      refine wp_region_aft (by kernel_rfl) (by kernel_rfl) ?_
      repeat (first | go_big_quiet_skip | (go_big_quiet_want; go_big_quiet_op; first | go_big_quiet_on | (refine Exists.intro _ ⟨fun _ => rfl, ?_⟩; go_big_quiet_on)))
      refine wpQuiet_nil ?_
      rintro wq ⟨⟨_, hgq⟩, rfl⟩
      have T3 : Hid (Touch (fun _ => False) w1 wq) := TR.out.trans hgq
      clear hgq c0 c1 c2 c3 c4 d0 d1 d2 d3 d4
      go_wp2_with fail
      go_roundg (l.length - (k + 1))
      case measure => omega
      case rel => exact ⟨k + 1, by omega, by omega, by go_num, T3.out⟩
    · have hlt' : ¬ (k : Int) < (l.length : Int) := by omega
      go_wp2_with fail
      go_ret
      exact ⟨ret_bool (by simp), T1.out.trans TR.out⟩
set_option maxHeartbeats 2000000 in
theorem works_any (w : World) : CB 8 #[] true w := by
  unfold CB
  have ok1 : (⟨1, 11, 1, 0, 0⟩ : VC).Ok := ⟨by decide, by decide, by decide, by decide, by decide, by decide, by decide, by decide, by decide, by decide⟩
  have ok2 : (⟨2, 12, 1, 0, 0⟩ : VC).Ok := ⟨by decide, by decide, by decide, by decide, by decide, by decide, by decide, by decide, by decide, by decide⟩
  have E1 : ∀ w' g, VcsAt w' (.slice (some ⟨g, 0, none⟩) 1 1) [⟨1, 11, 1, 0, 0⟩] → CT 13 #[.agg #[.int .u32 2, .int .u32 12, .int .u8 1, .int .u32 0, .int .u32 0], .slice (some ⟨g, 0, none⟩) 1 1] 12 11 w' := fun w' g h => by
    have := elect_any ⟨2, 12, 1, 0, 0⟩ [⟨1, 11, 1, 0, 0⟩] _ w' h ok2 (by simp)
    rw [show elD ⟨2, 12, 1, 0, 0⟩ [⟨1, 11, 1, 0, 0⟩] = 12 by decide, show elB ⟨2, 12, 1, 0, 0⟩ [⟨1, 11, 1, 0, 0⟩] = 11 by decide] at this
    exact this
  have E2 : ∀ w' g, VcsAt w' (.slice (some ⟨g, 0, none⟩) 2 2) [⟨1, 11, 1, 0, 0⟩, ⟨2, 12, 1, 0, 0⟩] → CT 10 #[.slice (some ⟨g, 0, none⟩) 2 2] 12 12 w' := fun w' g h => by
    have := once_any [⟨1, 11, 1, 0, 0⟩, ⟨2, 12, 1, 0, 0⟩] _ w' h (by simp)
    rw [show onD [⟨1, 11, 1, 0, 0⟩, ⟨2, 12, 1, 0, 0⟩] = 12 by decide, show onB [⟨1, 11, 1, 0, 0⟩, ⟨2, 12, 1, 0, 0⟩] = 12 by decide] at this
    exact this
  have L1 : Hid (∀ w' : World, VcsAt (w'.alloc (.cells #[.int .u32 1, .int .u32 11, .int .u8 1, .int .u32 0, .int .u32 0] 35)) (.slice (some ⟨w'.heap.size, 0, none⟩) 1 1) [⟨1, 11, 1, 0, 0⟩]) := fun w' => VR.at (VR.lit 35 (Touch.refl _ w') [⟨1, 11, 1, 0, 0⟩] _ (by simp [vcC, VC.cells]) (by simp)) (by simpa using ok1)
  have L2 : Hid (∀ w' : World, VcsAt (w'.alloc (.cells #[.int .u32 1, .int .u32 11, .int .u8 1, .int .u32 0, .int .u32 0, .int .u32 2, .int .u32 12, .int .u8 1, .int .u32 0, .int .u32 0] 35)) (.slice (some ⟨w'.heap.size, 0, none⟩) 2 2) [⟨1, 11, 1, 0, 0⟩, ⟨2, 12, 1, 0, 0⟩]) := fun w' => VR.at (VR.lit 35 (Touch.refl _ w') [⟨1, 11, 1, 0, 0⟩, ⟨2, 12, 1, 0, 0⟩] _ (by simp [vcC, VC.cells]) (by simp)) (by simpa using ⟨ok1, ok2⟩)
  clear ok1 ok2
  go_enter Try.func8, Try.ntmps8
  go_upto_region 2 with fail
  generalize hW : (w.alloc (.cells #[.int .u32 1, .int .u32 11, .int .u8 1, .int .u32 0, .int .u32 0] 35)).alloc (.cells #[.int .u32 2, .int .u32 12, .int .u8 1, .int .u32 0, .int .u32 0] 35) = W
  have T0 : Touch (fun _ => False) w W := by rw [← hW]; exact ((Touch.refl _ w).alloc _).alloc _
  have a0 : W.cell? ⟨w.heap.size, 0, none⟩ = some (.int .u32 1) := by rw [← hW]; simp
  have b0 : W.cell? ⟨w.heap.size + 1, 0, none⟩ = some (.int .u32 2) := by rw [← hW]; simp
  have a1 : W.cell? ⟨w.heap.size, 1, none⟩ = some (.int .u32 11) := by rw [← hW]; simp
  have b1 : W.cell? ⟨w.heap.size + 1, 1, none⟩ = some (.int .u32 12) := by rw [← hW]; simp
  have a2 : W.cell? ⟨w.heap.size, 2, none⟩ = some (.int .u8 1) := by rw [← hW]; simp
  have b2 : W.cell? ⟨w.heap.size + 1, 2, none⟩ = some (.int .u8 1) := by rw [← hW]; simp
  have a3 : W.cell? ⟨w.heap.size, 3, none⟩ = some (.int .u32 0) := by rw [← hW]; simp
  have b3 : W.cell? ⟨w.heap.size + 1, 3, none⟩ = some (.int .u32 0) := by rw [← hW]; simp
  have a4 : W.cell? ⟨w.heap.size, 4, none⟩ = some (.int .u32 0) := by rw [← hW]; simp
  have b4 : W.cell? ⟨w.heap.size + 1, 4, none⟩ = some (.int .u32 0) := by rw [← hW]; simp
  have T0' : Hid _ := T0
  clear hW T0
  go_wp2_with fail
  refine (E1 _ _ (L1.out W)).mono ?_
  rintro e w1 ⟨rfl, t1⟩
  have t1' := ((Touch.refl (fun _ => False) W).alloc _).trans t1
  replace a0 := t1'.cellN a0
  replace b0 := t1'.cellN b0
  replace a1 := t1'.cellN a1
  replace b1 := t1'.cellN b1
  replace a2 := t1'.cellN a2
  replace b2 := t1'.cellN b2
  replace a3 := t1'.cellN a3
  replace b3 := t1'.cellN b3
  replace a4 := t1'.cellN a4
  replace b4 := t1'.cellN b4
  have T1 : Hid (Touch (fun _ => False) w w1) := T0'.out.trans t1'
  clear t1 t1'
  go_wp2_with fail
  refine (E2 _ _ (L2.out w1)).mono ?_
  rintro e w2 ⟨rfl, t2⟩
  have T2 : Hid (Touch (fun _ => False) w w2) := (T1.out.alloc _).trans t2
  clear t2
  go_wp2_with fail
  go_ret
  exact ⟨rfl, T2.out⟩
end Go.Proofs.Ytcmkhhdjhemmbaa
