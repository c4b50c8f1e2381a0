
/- The document's Newer and Keys. -/
import Derived.Test.YtedolfggbgmklaaOrdRef
namespace Go.Proofs.Ytedolfggbgmklaa
open Go.RowKit
set_option linter.unusedVariables false
set_option maxRecDepth 100000

theorem new_seq_ne {s s' : Int} (h : s ≠ s') (m a m' a' : Int) : newI s m a s' m' a' = cmpI s s' := fstI_ne _ (cmpI_ne h)
theorem new_sum_ne {m m' : Int} (h : m ≠ m') (s a a' : Int) : newI s m a s m' a' = cmpI m m' := by
  unfold newI; rw [cmpI_eq, fstI_zero]; exact fstI_ne _ (cmpI_ne h)
theorem new_age (s m a a' : Int) : newI s m a s m a' = fstI (aloneI (yrs a) (yrs a')) (youngI (yrs a) (yrs a')) := by
  unfold newI; rw [cmpI_eq, fstI_zero, cmpI_eq, fstI_zero]
theorem rcomp_at (x y z : Int) (hz : cmpI x y = z) (w : World) : Calls Try.prog 33 #[.int .i64 x, .int .i64 y] w fun e w' => e = .returned (.int .i64 z) ∧ w = w' := hz ▸ rcomp_any x y w
theorem rold_t (a : Int) (h0 : 0 ≤ a) (h : a < 65536) (b : Bool) (hb : decide (yrs a = 3600) = b) (w : World) : Calls Try.prog 35 #[.int .u16 a] w fun e w' => e = .returned (.bool b) ∧ Touch (fun _ => False) w w' :=
  (rold_any a h0 h b hb w).mono fun e w' ⟨he, hw⟩ => ⟨he, hw ▸ Touch.refl _ w⟩

theorem rnewer_seq (a0 a1 a2 a3 a4 a5 a6 a7 b0 b1 b2 b3 b4 b5 b6 b7 : Int) (h : ¬ a5 = b5) (hx0 : -2147483648 ≤ a5) (hx : a5 ≤ 2147483647) (hy0 : -2147483648 ≤ b5) (hy : b5 ≤ 2147483647) (w : World) :
    Calls Try.prog 18 #[.agg #[.int .u16 a0, .int .u8 a1, .int .u8 a2, .int .u32 a3, .int .u32 a4, .int .i32 a5, .int .u16 a6, .int .u16 a7], .agg #[.int .u16 b0, .int .u8 b1, .int .u8 b2, .int .u32 b3, .int .u32 b4, .int .i32 b5, .int .u16 b6, .int .u16 b7]] w fun e w' => e = .returned (.int .i64 (cmpI a5 b5)) ∧ Touch (fun _ => False) w w' := by
  have H := fun w => rseq_any a5 b5 _ rfl hx0 hx hy0 hy w
  generalize cmpI a5 b5 = z at H ⊢
  go_enter Try.func18, Try.ntmps18
  go_wp2_with fail
  refine Calls.mono (H _) ?_
  rintro e w1 ⟨rfl, rfl⟩
  go_wp2_with fail
  go_ret
  exact ⟨rfl, ((Touch.refl _ w).alloc _).alloc _⟩
theorem rnewer_sum (a0 a1 a2 a3 a4 a5 a6 a7 b0 b1 b2 b3 b4 b6 b7 : Int) (h : ¬ a6 = b6) (ha0 : 0 ≤ a6) (ha : a6 < 65536) (hb0 : 0 ≤ b6) (hb : b6 < 65536) (w : World) :
    Calls Try.prog 18 #[.agg #[.int .u16 a0, .int .u8 a1, .int .u8 a2, .int .u32 a3, .int .u32 a4, .int .i32 a5, .int .u16 a6, .int .u16 a7], .agg #[.int .u16 b0, .int .u8 b1, .int .u8 b2, .int .u32 b3, .int .u32 b4, .int .i32 a5, .int .u16 b6, .int .u16 b7]] w fun e w' => e = .returned (.int .i64 (cmpI a6 b6)) ∧ Touch (fun _ => False) w w' := by
  have H := fun w => rcomp_any a6 b6 w
  generalize cmpI a6 b6 = z at H ⊢
  go_enter Try.func18, Try.ntmps18
  go_wp2_with fail
  refine Calls.mono (H _) ?_
  rintro e w1 ⟨rfl, rfl⟩
  go_wp2_with fail
  go_ret
  exact ⟨rfl, ((Touch.refl _ w).alloc _).alloc _⟩
set_option maxHeartbeats 1000000 in
theorem rnewer_left (a0 a1 a2 a3 a4 a5 a6 a7 b0 b1 b2 b3 b4 b7 x y : Int) (ha0 : 0 ≤ a0) (ha : a0 < 65536) (hb0 : 0 ≤ b0) (hb : b0 < 65536) (ex : yrs a0 = x) (ey : yrs b0 = y) (eA : decide (yrs a0 = 3600) = true) (eB : decide (yrs b0 = 3600) = false)  (w : World) :
    Calls Try.prog 18 #[.agg #[.int .u16 a0, .int .u8 a1, .int .u8 a2, .int .u32 a3, .int .u32 a4, .int .i32 a5, .int .u16 a6, .int .u16 a7], .agg #[.int .u16 b0, .int .u8 b1, .int .u8 b2, .int .u32 b3, .int .u32 b4, .int .i32 a5, .int .u16 a6, .int .u16 b7]] w fun e w' => e = .returned (.int .i64 (cmpI x y)) ∧ Touch (fun _ => False) w w' := by
  have HX : Hid (∀ w, Calls Try.prog 34 #[.int .u16 a0] w fun e w' => e = .returned (.int .i64 x) ∧ w = w') := fun w => ex ▸ ryears_any a0 ha0 ha w
  have HY : Hid (∀ w, Calls Try.prog 34 #[.int .u16 b0] w fun e w' => e = .returned (.int .i64 y) ∧ w = w') := fun w => ey ▸ ryears_any b0 hb0 hb w
  have HA : Hid (∀ w, Calls Try.prog 35 #[.int .u16 a0] w fun e w' => e = .returned (.bool true) ∧ Touch (fun _ => False) w w') := fun w => rold_t a0 ha0 ha true eA w
  have HB : Hid (∀ w, Calls Try.prog 35 #[.int .u16 b0] w fun e w' => e = .returned (.bool false) ∧ Touch (fun _ => False) w w') := fun w => rold_t b0 hb0 hb false eB w
  have HC := fun w => rcomp_any x y w
  generalize cmpI x y = z at HC ⊢
  clear ex ey eA eB
  go_enter Try.func18, Try.ntmps18
  go_wp2_with fail
  refine Calls.mono (HX.out _) ?_
  rintro e w1 ⟨rfl, rfl⟩
  go_wp2_with fail
  refine Calls.mono (HY.out _) ?_
  rintro e w2 ⟨rfl, rfl⟩
  go_wp2_with fail
  have p0 : ∀ u : Aft ((w.alloc (.cells #[.int .u16 a0, .int .u8 a1, .int .u8 a2, .int .u32 a3, .int .u32 a4, .int .i32 a5, .int .u16 a6, .int .u16 a7] 25)).alloc (.cells #[.int .u16 b0, .int .u8 b1, .int .u8 b2, .int .u32 b3, .int .u32 b4, .int .i32 a5, .int .u16 a6, .int .u16 b7] 25)), u.w.cell? ⟨w.heap.size, 0, none⟩ = some (.int .u16 a0) := aft_cell (by simp [go_sem])
  have p1 : ∀ u : Aft ((w.alloc (.cells #[.int .u16 a0, .int .u8 a1, .int .u8 a2, .int .u32 a3, .int .u32 a4, .int .i32 a5, .int .u16 a6, .int .u16 a7] 25)).alloc (.cells #[.int .u16 b0, .int .u8 b1, .int .u8 b2, .int .u32 b3, .int .u32 b4, .int .i32 a5, .int .u16 a6, .int .u16 b7] 25)), u.w.cell? ⟨w.heap.size + 1, 0, none⟩ = some (.int .u16 b0) := aft_cell (by simp [go_sem])
  refine wp_region_aft (by kernel_rfl) (by kernel_rfl) ?_
  repeat (first | go_big_quiet_skip | (go_big_quiet_want; go_big_quiet_op; first | go_big_quiet_on | (refine Exists.intro _ ⟨fun _ => rfl, ?_⟩; go_big_quiet_on)))
  go_big_quiet_want; go_big_quiet_op; refine Exists.intro _ ⟨fun u => Aft.call (HA.out _), ?_⟩; go_big_quiet_on
  repeat (first | go_big_quiet_skip | (go_big_quiet_want; go_big_quiet_op; first | go_big_quiet_on | (refine Exists.intro _ ⟨fun _ => rfl, ?_⟩; go_big_quiet_on)))
  go_big_quiet_want; go_big_quiet_op; refine Exists.intro _ ⟨fun u => Aft.call (HB.out _), ?_⟩; go_big_quiet_on
  repeat (first | go_big_quiet_skip | (go_big_quiet_want; go_big_quiet_op; first | go_big_quiet_on | (refine Exists.intro _ ⟨fun _ => rfl, ?_⟩; go_big_quiet_on)))
  refine wpQuiet_nil ?_
  rintro wq ⟨⟨_, hgq⟩, rfl⟩
  clear p0 p1
  go_wp2_with fail
  refine Calls.mono (HC _) ?_
  rintro e w3 ⟨rfl, rfl⟩
  go_wp2_with fail
  go_ret
  exact ⟨rfl, (((Touch.refl _ w).alloc _).alloc _).trans hgq⟩
set_option maxHeartbeats 1000000 in
theorem rnewer_right (a0 a1 a2 a3 a4 a5 a6 a7 b0 b1 b2 b3 b4 b7 x y : Int) (ha0 : 0 ≤ a0) (ha : a0 < 65536) (hb0 : 0 ≤ b0) (hb : b0 < 65536) (ex : yrs a0 = x) (ey : yrs b0 = y) (eA : decide (yrs a0 = 3600) = false) (eB : decide (yrs b0 = 3600) = true)  (w : World) :
    Calls Try.prog 18 #[.agg #[.int .u16 a0, .int .u8 a1, .int .u8 a2, .int .u32 a3, .int .u32 a4, .int .i32 a5, .int .u16 a6, .int .u16 a7], .agg #[.int .u16 b0, .int .u8 b1, .int .u8 b2, .int .u32 b3, .int .u32 b4, .int .i32 a5, .int .u16 a6, .int .u16 b7]] w fun e w' => e = .returned (.int .i64 (cmpI x y)) ∧ Touch (fun _ => False) w w' := by
  have HX : Hid (∀ w, Calls Try.prog 34 #[.int .u16 a0] w fun e w' => e = .returned (.int .i64 x) ∧ w = w') := fun w => ex ▸ ryears_any a0 ha0 ha w
  have HY : Hid (∀ w, Calls Try.prog 34 #[.int .u16 b0] w fun e w' => e = .returned (.int .i64 y) ∧ w = w') := fun w => ey ▸ ryears_any b0 hb0 hb w
  have HA : Hid (∀ w, Calls Try.prog 35 #[.int .u16 a0] w fun e w' => e = .returned (.bool false) ∧ Touch (fun _ => False) w w') := fun w => rold_t a0 ha0 ha false eA w
  have HB : Hid (∀ w, Calls Try.prog 35 #[.int .u16 b0] w fun e w' => e = .returned (.bool true) ∧ Touch (fun _ => False) w w') := fun w => rold_t b0 hb0 hb true eB w
  have HC := fun w => rcomp_any x y w
  generalize cmpI x y = z at HC ⊢
  clear ex ey eA eB
  go_enter Try.func18, Try.ntmps18
  go_wp2_with fail
  refine Calls.mono (HX.out _) ?_
  rintro e w1 ⟨rfl, rfl⟩
  go_wp2_with fail
  refine Calls.mono (HY.out _) ?_
  rintro e w2 ⟨rfl, rfl⟩
  go_wp2_with fail
  have p0 : ∀ u : Aft ((w.alloc (.cells #[.int .u16 a0, .int .u8 a1, .int .u8 a2, .int .u32 a3, .int .u32 a4, .int .i32 a5, .int .u16 a6, .int .u16 a7] 25)).alloc (.cells #[.int .u16 b0, .int .u8 b1, .int .u8 b2, .int .u32 b3, .int .u32 b4, .int .i32 a5, .int .u16 a6, .int .u16 b7] 25)), u.w.cell? ⟨w.heap.size, 0, none⟩ = some (.int .u16 a0) := aft_cell (by simp [go_sem])
  have p1 : ∀ u : Aft ((w.alloc (.cells #[.int .u16 a0, .int .u8 a1, .int .u8 a2, .int .u32 a3, .int .u32 a4, .int .i32 a5, .int .u16 a6, .int .u16 a7] 25)).alloc (.cells #[.int .u16 b0, .int .u8 b1, .int .u8 b2, .int .u32 b3, .int .u32 b4, .int .i32 a5, .int .u16 a6, .int .u16 b7] 25)), u.w.cell? ⟨w.heap.size + 1, 0, none⟩ = some (.int .u16 b0) := aft_cell (by simp [go_sem])
  refine wp_region_aft (by kernel_rfl) (by kernel_rfl) ?_
  repeat (first | go_big_quiet_skip | (go_big_quiet_want; go_big_quiet_op; first | go_big_quiet_on | (refine Exists.intro _ ⟨fun _ => rfl, ?_⟩; go_big_quiet_on)))
  go_big_quiet_want; go_big_quiet_op; refine Exists.intro _ ⟨fun u => Aft.call (HA.out _), ?_⟩; go_big_quiet_on
  repeat (first | go_big_quiet_skip | (go_big_quiet_want; go_big_quiet_op; first | go_big_quiet_on | (refine Exists.intro _ ⟨fun _ => rfl, ?_⟩; go_big_quiet_on)))
  go_big_quiet_want; go_big_quiet_op; refine Exists.intro _ ⟨fun u => Aft.call (HB.out _), ?_⟩; go_big_quiet_on
  repeat (first | go_big_quiet_skip | (go_big_quiet_want; go_big_quiet_op; first | go_big_quiet_on | (refine Exists.intro _ ⟨fun _ => rfl, ?_⟩; go_big_quiet_on)))
  refine wpQuiet_nil ?_
  rintro wq ⟨⟨_, hgq⟩, rfl⟩
  clear p0 p1
  go_wp2_with fail
  refine Calls.mono (HC _) ?_
  rintro e w3 ⟨rfl, rfl⟩
  go_wp2_with fail
  go_ret
  exact ⟨rfl, (((Touch.refl _ w).alloc _).alloc _).trans hgq⟩
set_option maxHeartbeats 1000000 in
theorem rnewer_near_tt (a0 a1 a2 a3 a4 a5 a6 a7 b0 b1 b2 b3 b4 b7 x y : Int) (ha0 : 0 ≤ a0) (ha : a0 < 65536) (hb0 : 0 ≤ b0) (hb : b0 < 65536) (ex : yrs a0 = x) (ey : yrs b0 = y) (eA : decide (yrs a0 = 3600) = true) (eB : decide (yrs b0 = 3600) = true) (hx0 : 0 ≤ x) (hx : x ≤ 3600) (hy0 : 0 ≤ y) (hy : y ≤ 3600) (h1 : ¬ 900 < x - y) (h2 : ¬ 900 < y - x) (w : World) :
    Calls Try.prog 18 #[.agg #[.int .u16 a0, .int .u8 a1, .int .u8 a2, .int .u32 a3, .int .u32 a4, .int .i32 a5, .int .u16 a6, .int .u16 a7], .agg #[.int .u16 b0, .int .u8 b1, .int .u8 b2, .int .u32 b3, .int .u32 b4, .int .i32 a5, .int .u16 a6, .int .u16 b7]] w fun e w' => e = .returned (.int .i64 0) ∧ Touch (fun _ => False) w w' := by
  have HX : Hid (∀ w, Calls Try.prog 34 #[.int .u16 a0] w fun e w' => e = .returned (.int .i64 x) ∧ w = w') := fun w => ex ▸ ryears_any a0 ha0 ha w
  have HY : Hid (∀ w, Calls Try.prog 34 #[.int .u16 b0] w fun e w' => e = .returned (.int .i64 y) ∧ w = w') := fun w => ey ▸ ryears_any b0 hb0 hb w
  have HA : Hid (∀ w, Calls Try.prog 35 #[.int .u16 a0] w fun e w' => e = .returned (.bool true) ∧ Touch (fun _ => False) w w') := fun w => rold_t a0 ha0 ha true eA w
  have HB : Hid (∀ w, Calls Try.prog 35 #[.int .u16 b0] w fun e w' => e = .returned (.bool true) ∧ Touch (fun _ => False) w w') := fun w => rold_t b0 hb0 hb true eB w

  clear ex ey eA eB
  go_enter Try.func18, Try.ntmps18
  go_wp2_with fail
  refine Calls.mono (HX.out _) ?_
  rintro e w1 ⟨rfl, rfl⟩
  go_wp2_with fail
  refine Calls.mono (HY.out _) ?_
  rintro e w2 ⟨rfl, rfl⟩
  go_wp2_with fail
  have p0 : ∀ u : Aft ((w.alloc (.cells #[.int .u16 a0, .int .u8 a1, .int .u8 a2, .int .u32 a3, .int .u32 a4, .int .i32 a5, .int .u16 a6, .int .u16 a7] 25)).alloc (.cells #[.int .u16 b0, .int .u8 b1, .int .u8 b2, .int .u32 b3, .int .u32 b4, .int .i32 a5, .int .u16 a6, .int .u16 b7] 25)), u.w.cell? ⟨w.heap.size, 0, none⟩ = some (.int .u16 a0) := aft_cell (by simp [go_sem])
  have p1 : ∀ u : Aft ((w.alloc (.cells #[.int .u16 a0, .int .u8 a1, .int .u8 a2, .int .u32 a3, .int .u32 a4, .int .i32 a5, .int .u16 a6, .int .u16 a7] 25)).alloc (.cells #[.int .u16 b0, .int .u8 b1, .int .u8 b2, .int .u32 b3, .int .u32 b4, .int .i32 a5, .int .u16 a6, .int .u16 b7] 25)), u.w.cell? ⟨w.heap.size + 1, 0, none⟩ = some (.int .u16 b0) := aft_cell (by simp [go_sem])
  refine wp_region_aft (by kernel_rfl) (by kernel_rfl) ?_
  repeat (first | go_big_quiet_skip | (go_big_quiet_want; go_big_quiet_op; first | go_big_quiet_on | (refine Exists.intro _ ⟨fun _ => rfl, ?_⟩; go_big_quiet_on)))
  go_big_quiet_want; go_big_quiet_op; refine Exists.intro _ ⟨fun u => Aft.call (HA.out _), ?_⟩; go_big_quiet_on
  repeat (first | go_big_quiet_skip | (go_big_quiet_want; go_big_quiet_op; first | go_big_quiet_on | (refine Exists.intro _ ⟨fun _ => rfl, ?_⟩; go_big_quiet_on)))
  go_big_quiet_want; go_big_quiet_op; refine Exists.intro _ ⟨fun u => Aft.call (HB.out _), ?_⟩; go_big_quiet_on
  repeat (first | go_big_quiet_skip | (go_big_quiet_want; go_big_quiet_op; first | go_big_quiet_on | (refine Exists.intro _ ⟨fun _ => rfl, ?_⟩; go_big_quiet_on)))
  refine wpQuiet_nil ?_
  rintro wq ⟨⟨_, hgq⟩, rfl⟩
  clear p0 p1
  go_wp2_with fail
  go_ret
  exact ⟨rfl, (((Touch.refl _ w).alloc _).alloc _).trans hgq⟩
set_option maxHeartbeats 1000000 in
theorem rnewer_near_ff (a0 a1 a2 a3 a4 a5 a6 a7 b0 b1 b2 b3 b4 b7 x y : Int) (ha0 : 0 ≤ a0) (ha : a0 < 65536) (hb0 : 0 ≤ b0) (hb : b0 < 65536) (ex : yrs a0 = x) (ey : yrs b0 = y) (eA : decide (yrs a0 = 3600) = false) (eB : decide (yrs b0 = 3600) = false) (hx0 : 0 ≤ x) (hx : x ≤ 3600) (hy0 : 0 ≤ y) (hy : y ≤ 3600) (h1 : ¬ 900 < x - y) (h2 : ¬ 900 < y - x) (w : World) :
    Calls Try.prog 18 #[.agg #[.int .u16 a0, .int .u8 a1, .int .u8 a2, .int .u32 a3, .int .u32 a4, .int .i32 a5, .int .u16 a6, .int .u16 a7], .agg #[.int .u16 b0, .int .u8 b1, .int .u8 b2, .int .u32 b3, .int .u32 b4, .int .i32 a5, .int .u16 a6, .int .u16 b7]] w fun e w' => e = .returned (.int .i64 0) ∧ Touch (fun _ => False) w w' := by
  have HX : Hid (∀ w, Calls Try.prog 34 #[.int .u16 a0] w fun e w' => e = .returned (.int .i64 x) ∧ w = w') := fun w => ex ▸ ryears_any a0 ha0 ha w
  have HY : Hid (∀ w, Calls Try.prog 34 #[.int .u16 b0] w fun e w' => e = .returned (.int .i64 y) ∧ w = w') := fun w => ey ▸ ryears_any b0 hb0 hb w
  have HA : Hid (∀ w, Calls Try.prog 35 #[.int .u16 a0] w fun e w' => e = .returned (.bool false) ∧ Touch (fun _ => False) w w') := fun w => rold_t a0 ha0 ha false eA w
  have HB : Hid (∀ w, Calls Try.prog 35 #[.int .u16 b0] w fun e w' => e = .returned (.bool false) ∧ Touch (fun _ => False) w w') := fun w => rold_t b0 hb0 hb false eB w

  clear ex ey eA eB
  go_enter Try.func18, Try.ntmps18
  go_wp2_with fail
  refine Calls.mono (HX.out _) ?_
  rintro e w1 ⟨rfl, rfl⟩
  go_wp2_with fail
  refine Calls.mono (HY.out _) ?_
  rintro e w2 ⟨rfl, rfl⟩
  go_wp2_with fail
  have p0 : ∀ u : Aft ((w.alloc (.cells #[.int .u16 a0, .int .u8 a1, .int .u8 a2, .int .u32 a3, .int .u32 a4, .int .i32 a5, .int .u16 a6, .int .u16 a7] 25)).alloc (.cells #[.int .u16 b0, .int .u8 b1, .int .u8 b2, .int .u32 b3, .int .u32 b4, .int .i32 a5, .int .u16 a6, .int .u16 b7] 25)), u.w.cell? ⟨w.heap.size, 0, none⟩ = some (.int .u16 a0) := aft_cell (by simp [go_sem])
  have p1 : ∀ u : Aft ((w.alloc (.cells #[.int .u16 a0, .int .u8 a1, .int .u8 a2, .int .u32 a3, .int .u32 a4, .int .i32 a5, .int .u16 a6, .int .u16 a7] 25)).alloc (.cells #[.int .u16 b0, .int .u8 b1, .int .u8 b2, .int .u32 b3, .int .u32 b4, .int .i32 a5, .int .u16 a6, .int .u16 b7] 25)), u.w.cell? ⟨w.heap.size + 1, 0, none⟩ = some (.int .u16 b0) := aft_cell (by simp [go_sem])
  refine wp_region_aft (by kernel_rfl) (by kernel_rfl) ?_
  repeat (first | go_big_quiet_skip | (go_big_quiet_want; go_big_quiet_op; first | go_big_quiet_on | (refine Exists.intro _ ⟨fun _ => rfl, ?_⟩; go_big_quiet_on)))
  go_big_quiet_want; go_big_quiet_op; refine Exists.intro _ ⟨fun u => Aft.call (HA.out _), ?_⟩; go_big_quiet_on
  repeat (first | go_big_quiet_skip | (go_big_quiet_want; go_big_quiet_op; first | go_big_quiet_on | (refine Exists.intro _ ⟨fun _ => rfl, ?_⟩; go_big_quiet_on)))
  go_big_quiet_want; go_big_quiet_op; refine Exists.intro _ ⟨fun u => Aft.call (HB.out _), ?_⟩; go_big_quiet_on
  repeat (first | go_big_quiet_skip | (go_big_quiet_want; go_big_quiet_op; first | go_big_quiet_on | (refine Exists.intro _ ⟨fun _ => rfl, ?_⟩; go_big_quiet_on)))
  refine wpQuiet_nil ?_
  rintro wq ⟨⟨_, hgq⟩, rfl⟩
  clear p0 p1
  go_wp2_with fail
  go_ret
  exact ⟨rfl, (((Touch.refl _ w).alloc _).alloc _).trans hgq⟩
set_option maxHeartbeats 1000000 in
theorem rnewer_far1 (a0 a1 a2 a3 a4 a5 a6 a7 b0 b1 b2 b3 b4 b7 x y : Int) (ha0 : 0 ≤ a0) (ha : a0 < 65536) (hb0 : 0 ≤ b0) (hb : b0 < 65536) (ex : yrs a0 = x) (ey : yrs b0 = y) (eA : decide (yrs a0 = 3600) = false) (eB : decide (yrs b0 = 3600) = false) (hx0 : 0 ≤ x) (hx : x ≤ 3600) (hy0 : 0 ≤ y) (hy : y ≤ 3600) (h1 : 900 < x - y) (w : World) :
    Calls Try.prog 18 #[.agg #[.int .u16 a0, .int .u8 a1, .int .u8 a2, .int .u32 a3, .int .u32 a4, .int .i32 a5, .int .u16 a6, .int .u16 a7], .agg #[.int .u16 b0, .int .u8 b1, .int .u8 b2, .int .u32 b3, .int .u32 b4, .int .i32 a5, .int .u16 a6, .int .u16 b7]] w fun e w' => e = .returned (.int .i64 (cmpI y x)) ∧ Touch (fun _ => False) w w' := by
  have HX : Hid (∀ w, Calls Try.prog 34 #[.int .u16 a0] w fun e w' => e = .returned (.int .i64 x) ∧ w = w') := fun w => ex ▸ ryears_any a0 ha0 ha w
  have HY : Hid (∀ w, Calls Try.prog 34 #[.int .u16 b0] w fun e w' => e = .returned (.int .i64 y) ∧ w = w') := fun w => ey ▸ ryears_any b0 hb0 hb w
  have HA : Hid (∀ w, Calls Try.prog 35 #[.int .u16 a0] w fun e w' => e = .returned (.bool false) ∧ Touch (fun _ => False) w w') := fun w => rold_t a0 ha0 ha false eA w
  have HB : Hid (∀ w, Calls Try.prog 35 #[.int .u16 b0] w fun e w' => e = .returned (.bool false) ∧ Touch (fun _ => False) w w') := fun w => rold_t b0 hb0 hb false eB w
  have HC := fun w => rcomp_any y x w
  generalize cmpI y x = z at HC ⊢
  clear ex ey eA eB
  go_enter Try.func18, Try.ntmps18
  go_wp2_with fail
  refine Calls.mono (HX.out _) ?_
  rintro e w1 ⟨rfl, rfl⟩
  go_wp2_with fail
  refine Calls.mono (HY.out _) ?_
  rintro e w2 ⟨rfl, rfl⟩
  go_wp2_with fail
  have p0 : ∀ u : Aft ((w.alloc (.cells #[.int .u16 a0, .int .u8 a1, .int .u8 a2, .int .u32 a3, .int .u32 a4, .int .i32 a5, .int .u16 a6, .int .u16 a7] 25)).alloc (.cells #[.int .u16 b0, .int .u8 b1, .int .u8 b2, .int .u32 b3, .int .u32 b4, .int .i32 a5, .int .u16 a6, .int .u16 b7] 25)), u.w.cell? ⟨w.heap.size, 0, none⟩ = some (.int .u16 a0) := aft_cell (by simp [go_sem])
  have p1 : ∀ u : Aft ((w.alloc (.cells #[.int .u16 a0, .int .u8 a1, .int .u8 a2, .int .u32 a3, .int .u32 a4, .int .i32 a5, .int .u16 a6, .int .u16 a7] 25)).alloc (.cells #[.int .u16 b0, .int .u8 b1, .int .u8 b2, .int .u32 b3, .int .u32 b4, .int .i32 a5, .int .u16 a6, .int .u16 b7] 25)), u.w.cell? ⟨w.heap.size + 1, 0, none⟩ = some (.int .u16 b0) := aft_cell (by simp [go_sem])
  refine wp_region_aft (by kernel_rfl) (by kernel_rfl) ?_
  repeat (first | go_big_quiet_skip | (go_big_quiet_want; go_big_quiet_op; first | go_big_quiet_on | (refine Exists.intro _ ⟨fun _ => rfl, ?_⟩; go_big_quiet_on)))
  go_big_quiet_want; go_big_quiet_op; refine Exists.intro _ ⟨fun u => Aft.call (HA.out _), ?_⟩; go_big_quiet_on
  repeat (first | go_big_quiet_skip | (go_big_quiet_want; go_big_quiet_op; first | go_big_quiet_on | (refine Exists.intro _ ⟨fun _ => rfl, ?_⟩; go_big_quiet_on)))
  go_big_quiet_want; go_big_quiet_op; refine Exists.intro _ ⟨fun u => Aft.call (HB.out _), ?_⟩; go_big_quiet_on
  repeat (first | go_big_quiet_skip | (go_big_quiet_want; go_big_quiet_op; first | go_big_quiet_on | (refine Exists.intro _ ⟨fun _ => rfl, ?_⟩; go_big_quiet_on)))
  refine wpQuiet_nil ?_
  rintro wq ⟨⟨_, hgq⟩, rfl⟩
  clear p0 p1
  go_wp2_with fail
  refine Calls.mono (HC _) ?_
  rintro e w3 ⟨rfl, rfl⟩
  go_wp2_with fail
  go_ret
  exact ⟨rfl, (((Touch.refl _ w).alloc _).alloc _).trans hgq⟩
set_option maxHeartbeats 1000000 in
theorem rnewer_far2 (a0 a1 a2 a3 a4 a5 a6 a7 b0 b1 b2 b3 b4 b7 x y : Int) (ha0 : 0 ≤ a0) (ha : a0 < 65536) (hb0 : 0 ≤ b0) (hb : b0 < 65536) (ex : yrs a0 = x) (ey : yrs b0 = y) (eA : decide (yrs a0 = 3600) = false) (eB : decide (yrs b0 = 3600) = false) (hx0 : 0 ≤ x) (hx : x ≤ 3600) (hy0 : 0 ≤ y) (hy : y ≤ 3600) (h1 : ¬ 900 < x - y) (h2 : 900 < y - x) (w : World) :
    Calls Try.prog 18 #[.agg #[.int .u16 a0, .int .u8 a1, .int .u8 a2, .int .u32 a3, .int .u32 a4, .int .i32 a5, .int .u16 a6, .int .u16 a7], .agg #[.int .u16 b0, .int .u8 b1, .int .u8 b2, .int .u32 b3, .int .u32 b4, .int .i32 a5, .int .u16 a6, .int .u16 b7]] w fun e w' => e = .returned (.int .i64 (cmpI y x)) ∧ Touch (fun _ => False) w w' := by
  have HX : Hid (∀ w, Calls Try.prog 34 #[.int .u16 a0] w fun e w' => e = .returned (.int .i64 x) ∧ w = w') := fun w => ex ▸ ryears_any a0 ha0 ha w
  have HY : Hid (∀ w, Calls Try.prog 34 #[.int .u16 b0] w fun e w' => e = .returned (.int .i64 y) ∧ w = w') := fun w => ey ▸ ryears_any b0 hb0 hb w
  have HA : Hid (∀ w, Calls Try.prog 35 #[.int .u16 a0] w fun e w' => e = .returned (.bool false) ∧ Touch (fun _ => False) w w') := fun w => rold_t a0 ha0 ha false eA w
  have HB : Hid (∀ w, Calls Try.prog 35 #[.int .u16 b0] w fun e w' => e = .returned (.bool false) ∧ Touch (fun _ => False) w w') := fun w => rold_t b0 hb0 hb false eB w
  have HC := fun w => rcomp_any y x w
  generalize cmpI y x = z at HC ⊢
  clear ex ey eA eB
  go_enter Try.func18, Try.ntmps18
  go_wp2_with fail
  refine Calls.mono (HX.out _) ?_
  rintro e w1 ⟨rfl, rfl⟩
  go_wp2_with fail
  refine Calls.mono (HY.out _) ?_
  rintro e w2 ⟨rfl, rfl⟩
  go_wp2_with fail
  have p0 : ∀ u : Aft ((w.alloc (.cells #[.int .u16 a0, .int .u8 a1, .int .u8 a2, .int .u32 a3, .int .u32 a4, .int .i32 a5, .int .u16 a6, .int .u16 a7] 25)).alloc (.cells #[.int .u16 b0, .int .u8 b1, .int .u8 b2, .int .u32 b3, .int .u32 b4, .int .i32 a5, .int .u16 a6, .int .u16 b7] 25)), u.w.cell? ⟨w.heap.size, 0, none⟩ = some (.int .u16 a0) := aft_cell (by simp [go_sem])
  have p1 : ∀ u : Aft ((w.alloc (.cells #[.int .u16 a0, .int .u8 a1, .int .u8 a2, .int .u32 a3, .int .u32 a4, .int .i32 a5, .int .u16 a6, .int .u16 a7] 25)).alloc (.cells #[.int .u16 b0, .int .u8 b1, .int .u8 b2, .int .u32 b3, .int .u32 b4, .int .i32 a5, .int .u16 a6, .int .u16 b7] 25)), u.w.cell? ⟨w.heap.size + 1, 0, none⟩ = some (.int .u16 b0) := aft_cell (by simp [go_sem])
  refine wp_region_aft (by kernel_rfl) (by kernel_rfl) ?_
  repeat (first | go_big_quiet_skip | (go_big_quiet_want; go_big_quiet_op; first | go_big_quiet_on | (refine Exists.intro _ ⟨fun _ => rfl, ?_⟩; go_big_quiet_on)))
  go_big_quiet_want; go_big_quiet_op; refine Exists.intro _ ⟨fun u => Aft.call (HA.out _), ?_⟩; go_big_quiet_on
  repeat (first | go_big_quiet_skip | (go_big_quiet_want; go_big_quiet_op; first | go_big_quiet_on | (refine Exists.intro _ ⟨fun _ => rfl, ?_⟩; go_big_quiet_on)))
  go_big_quiet_want; go_big_quiet_op; refine Exists.intro _ ⟨fun u => Aft.call (HB.out _), ?_⟩; go_big_quiet_on
  repeat (first | go_big_quiet_skip | (go_big_quiet_want; go_big_quiet_op; first | go_big_quiet_on | (refine Exists.intro _ ⟨fun _ => rfl, ?_⟩; go_big_quiet_on)))
  refine wpQuiet_nil ?_
  rintro wq ⟨⟨_, hgq⟩, rfl⟩
  clear p0 p1
  go_wp2_with fail
  refine Calls.mono (HC _) ?_
  rintro e w3 ⟨rfl, rfl⟩
  go_wp2_with fail
  go_ret
  exact ⟨rfl, (((Touch.refl _ w).alloc _).alloc _).trans hgq⟩

theorem rnewer_any (a0 a1 a2 a3 a4 a5 a6 a7 b0 b1 b2 b3 b4 b5 b6 b7 : Int) (ha0 : 0 ≤ a0) (ha : a0 < 65536) (hb0 : 0 ≤ b0) (hb : b0 < 65536) (hs0 : -2147483648 ≤ a5) (hs : a5 ≤ 2147483647) (ht0 : -2147483648 ≤ b5) (ht : b5 ≤ 2147483647)
    (hm0 : 0 ≤ a6) (hm : a6 < 65536) (hn0 : 0 ≤ b6) (hn : b6 < 65536) (w : World) :
    Calls Try.prog 18 #[.agg #[.int .u16 a0, .int .u8 a1, .int .u8 a2, .int .u32 a3, .int .u32 a4, .int .i32 a5, .int .u16 a6, .int .u16 a7], .agg #[.int .u16 b0, .int .u8 b1, .int .u8 b2, .int .u32 b3, .int .u32 b4, .int .i32 b5, .int .u16 b6, .int .u16 b7]] w fun e w' => e = .returned (.int .i64 (newI a5 a6 a0 b5 b6 b0)) ∧ Touch (fun _ => False) w w' := by
  by_cases h5 : a5 = b5
  · subst h5
    by_cases h6 : a6 = b6
    · subst h6
      rw [new_age]
      have hx := yrs_bound a0
      have hy := yrs_bound b0
      by_cases hA : yrs a0 = 3600
      · by_cases hB : yrs b0 = 3600
        · have e : fstI (aloneI (yrs a0) (yrs b0)) (youngI (yrs a0) (yrs b0)) = 0 := by rw [hA, hB]; rfl
          rw [e]
          exact rnewer_near_tt a0 a1 a2 a3 a4 a5 a6 a7 b0 b1 b2 b3 b4 b7 _ _ ha0 ha hb0 hb rfl rfl (decide_eq_true hA) (decide_eq_true hB) hx.1 hx.2 hy.1 hy.2 (by omega) (by omega) w
        · have e : fstI (aloneI (yrs a0) (yrs b0)) (youngI (yrs a0) (yrs b0)) = cmpI (yrs a0) (yrs b0) := by
            have : aloneI (yrs a0) (yrs b0) = 1 := by unfold aloneI; rw [if_neg (by omega), if_pos hA]
            rw [this, cmpI_gt (by omega)]; rfl
          rw [e]
          exact rnewer_left a0 a1 a2 a3 a4 a5 a6 a7 b0 b1 b2 b3 b4 b7 _ _ ha0 ha hb0 hb rfl rfl (decide_eq_true hA) (decide_eq_false hB) w
      · by_cases hB : yrs b0 = 3600
        · have e : fstI (aloneI (yrs a0) (yrs b0)) (youngI (yrs a0) (yrs b0)) = cmpI (yrs a0) (yrs b0) := by
            have : aloneI (yrs a0) (yrs b0) = -1 := by unfold aloneI; rw [if_neg (by omega), if_neg hA]
            rw [this, cmpI_lt (by omega)]; rfl
          rw [e]
          exact rnewer_right a0 a1 a2 a3 a4 a5 a6 a7 b0 b1 b2 b3 b4 b7 _ _ ha0 ha hb0 hb rfl rfl (decide_eq_false hA) (decide_eq_true hB) w
        · have e0 : aloneI (yrs a0) (yrs b0) = 0 := by unfold aloneI; rw [if_pos (by omega)]
          rw [e0, fstI_zero]
          by_cases h1 : 900 < yrs a0 - yrs b0
          · have e : youngI (yrs a0) (yrs b0) = cmpI (yrs b0) (yrs a0) := if_neg (by omega)
            rw [e]
            exact rnewer_far1 a0 a1 a2 a3 a4 a5 a6 a7 b0 b1 b2 b3 b4 b7 _ _ ha0 ha hb0 hb rfl rfl (decide_eq_false hA) (decide_eq_false hB) hx.1 hx.2 hy.1 hy.2 h1 w
          · by_cases h2 : 900 < yrs b0 - yrs a0
            · have e : youngI (yrs a0) (yrs b0) = cmpI (yrs b0) (yrs a0) := if_neg (by omega)
              rw [e]
              exact rnewer_far2 a0 a1 a2 a3 a4 a5 a6 a7 b0 b1 b2 b3 b4 b7 _ _ ha0 ha hb0 hb rfl rfl (decide_eq_false hA) (decide_eq_false hB) hx.1 hx.2 hy.1 hy.2 h1 h2 w
            · have e : youngI (yrs a0) (yrs b0) = 0 := if_pos (by omega)
              rw [e]
              exact rnewer_near_ff a0 a1 a2 a3 a4 a5 a6 a7 b0 b1 b2 b3 b4 b7 _ _ ha0 ha hb0 hb rfl rfl (decide_eq_false hA) (decide_eq_false hB) hx.1 hx.2 hy.1 hy.2 h1 h2 w
    · rw [new_sum_ne h6]
      exact rnewer_sum a0 a1 a2 a3 a4 a5 a6 a7 b0 b1 b2 b3 b4 b6 b7 h6 hm0 hm hn0 hn w
  · rw [new_seq_ne h5]
    exact rnewer_seq a0 a1 a2 a3 a4 a5 a6 a7 b0 b1 b2 b3 b4 b5 b6 b7 h5 hs0 hs ht0 ht w
end Go.Proofs.Ytedolfggbgmklaa
