/- Contract: Fletcher. -/
import Derived.Test.YtfdpmlogieaiaaaSumBytes2
namespace Go.Proofs.Ytfdpmlogieaiaaa
open Go.RowKit
set_option linter.unusedVariables false
set_option maxRecDepth 100000

theorem slice_from (ga oa n vc a : Nat) (h : a + 2 ≤ n) (hc : n ≤ vc) (hz : ¬ vc = a + 2) (w : World) : Sem.run Try.prog (Instr.slice 28 (.slice (some ⟨ga, oa, none⟩) n vc) (some (.int .i64 ((a : Int) + 2))) none none) w = .ok (.slice (some ⟨ga, oa + (a + 2), none⟩) (n - (a + 2)) (vc - (a + 2))) w := by
  have h6 : ((a : Int) + 2).toNat = a + 2 := by omega
  have h8 : (0 : Int) ≤ (a : Int) + 2 := by omega
  have h4 : (a : Int) + 2 ≤ (n : Int) := by omega
  simp [Instr.slice, Instr.sliceBounds, Instr.sliceBound, go_sem, h6, h8, h4, hz]
theorem slice_end (ga oa n vc a : Nat) (h : a + 2 ≤ n) (hc : n ≤ vc) (hz : vc = a + 2) (w : World) : Sem.run Try.prog (Instr.slice 28 (.slice (some ⟨ga, oa, none⟩) n vc) (some (.int .i64 ((a : Int) + 2))) none none) w = .ok (.slice (some ⟨ga, oa, none⟩) (n - (a + 2)) (vc - (a + 2))) w := by
  have h6 : ((a : Int) + 2).toNat = a + 2 := by omega
  have h8 : (0 : Int) ≤ (a : Int) + 2 := by omega
  have h4 : (a : Int) + 2 ≤ (n : Int) := by omega
  simp [Instr.slice, Instr.sliceBounds, Instr.sliceBound, go_sem, h6, h8, h4, hz]
theorem fletcher_out (v : Value) (rs : List Int) (a : Int) (w : World) (hv : ArgAt w v rs) (h : a < 0 ∨ (rs.length : Int) - 2 < a) :
    Calls Try.prog 45 #[v, .int .i64 a] w fun e w' => e = .returned (.tuple #[.int .u16 0, .int .i64 1]) ∧ w = w' := by
  obtain ⟨va, vc, rfl, hm⟩ := hv.form
  unfold maxLen at hm
  clear hv
  by_cases h0 : a < 0
  · clear h
    go_enter Try.func45, Try.ntmps45
    go_wp2
    go_ret2
    exact ⟨rfl, rfl⟩
  · have h0' : decide (a < 0) = false := by simpa using h0
    have h2 : (rs.length : Int) - 2 < a := by omega
    clear h
    go_enter Try.func45, Try.ntmps45
    go_wp2
    go_ret2
    exact ⟨rfl, rfl⟩

theorem mem_take_byte {rs : List Int} (h : ∀ x ∈ rs, 0 ≤ x ∧ x < 256) (n : Nat) : ∀ x ∈ rs.take n, 0 ≤ x ∧ x < 256 := fun x hx => h x (List.mem_of_mem_take hx)
theorem mem_drop_byte {rs : List Int} (h : ∀ x ∈ rs, 0 ≤ x ∧ x < 256) (n : Nat) : ∀ x ∈ rs.drop n, 0 ≤ x ∧ x < 256 := fun x hx => h x (List.mem_of_mem_drop hx)
theorem mul_bound {x y : Int} (hx : 0 ≤ x ∧ x ≤ 254) (hy : 0 ≤ y ∧ y ≤ 254) : 0 ≤ x * y ∧ x * y ≤ 64516 := by
  refine ⟨Int.mul_nonneg hx.1 hy.1, ?_⟩
  have h1 : x * y ≤ 254 * y := Int.mul_le_mul_of_nonneg_right hx.2 hy.1
  omega

/-- The world behind the two literals of Fletcher. -/
abbrev flW (w : World) (v1 v3 : Value) : World := ((w.alloc (.cells #[.int .u8 0, .int .u8 0] 5)).alloc (.cells #[v1, .slice (some ⟨w.heap.size, 0, none⟩) 2 2, v3] 28)).drew
theorem fl_call (rs : List Int) (a : Nat) (w : World) (v1 v3 : Value) (h1 : ArgAt w v1 (rs.take a)) (h3 : ArgAt w v3 (rs.drop (a + 2))) (hby : ∀ x ∈ rs, 0 ≤ x ∧ x < 256) (h : a + 2 ≤ rs.length) :
    Calls Try.prog 52 #[.slice (some ⟨w.heap.size + 1, 0, none⟩) 3 3] (flW w v1 v3) fun e w' => (∃ f, e = .returned f ∧ SFun f (laid rs a 0 0)) ∧ Touch (fun _ => False) w w' := by
  have t : Touch (fun _ => False) w (flW w v1 v3) := (((Touch.refl _ w).alloc _).alloc _).drew
  have h2 : ArgAt (flW w v1 v3) (.slice (some ⟨w.heap.size, 0, none⟩) 2 2) [0, 0] := RowAt.arg (Or.inr ⟨w.heap.size, 0, 2, rfl, by simp, by simp [maxLen], fun j u hj => by
    match j, hj with
    | 0, hj => simp [bytesOf] at hj; subst hj; simp
    | 1, hj => simp [bytesOf] at hj; subst hj; simp
    | j + 2, hj => simp [bytesOf] at hj⟩)
  have k := add3 (w.heap.size + 1) v1 (.slice (some ⟨w.heap.size, 0, none⟩) 2 2) v3 (rs.take a) [0, 0] (rs.drop (a + 2)) (flW w v1 v3) (by simp) (by simp) (by simp) (h1.keep t (fun _ _ h => h)) h2 (h3.keep t (fun _ _ h => h)) (mem_take_byte hby a) (by simp) (mem_drop_byte hby _)
  rw [laid_cut rs a 0 0 h]
  exact k.mono fun e w' ⟨x, t'⟩ => ⟨x, t.trans t'⟩

set_option maxHeartbeats 4000000 in
theorem fletcher_in (ga oa vc : Nat) (rs : List Int) (a : Nat) (w : World) (hv : RowAt w (.slice (some ⟨ga, oa, none⟩) rs.length vc) rs) (hby : ∀ x ∈ rs, 0 ≤ x ∧ x < 256) (h : a + 2 ≤ rs.length) :
    Calls Try.prog 45 #[.slice (some ⟨ga, oa, none⟩) rs.length vc, .int .i64 (a : Int)] w fun e w' => e = .returned (.tuple #[.int .u16 (256 * flx rs a + fly rs a), .int .i64 0]) ∧ Touch (fun _ => False) w w' := by
  have hcap := rowAt_cap hv
  have hm : vc ≤ maxLen := by
    rcases hv with ⟨h, _⟩ | ⟨g', off', c', h, _, h2, _⟩
    · cases h
    · cases h; exact h2
  unfold maxLen at hm
  have h0 : ¬ (a : Int) < 0 := by omega
  have h1 : ¬ (rs.length : Int) - 2 < (a : Int) := by omega
  have h2 : (0 : Int) ≤ (a : Int) := by omega
  have h3 : (a : Int) ≤ (vc : Int) := by omega
  have h4 : (a : Int) + 2 ≤ (rs.length : Int) := by omega
  have h5 : (rs.length : Int) ≤ (vc : Int) := by omega
  have h6 : ((a : Int) + 2).toNat = a + 2 := by omega
  have h7 : ¬ vc = 0 := by omega
  have h8 : (0 : Int) ≤ (a : Int) + 2 := by omega
  have h9 : (vc : Int) ≤ 9223372036854775807 := by omega
  have hw2 : IntKind.i64.wrap ((a : Int) + 2) = (a : Int) + 2 := by rw [IntKind.wrap_i64]; omega
  -- the numbers, each under a name
  obtain ⟨T, hT⟩ : ∃ T, ((rs.length : Int) - (a : Int) - 1) % 255 = T := ⟨_, rfl⟩
  obtain ⟨C0, hC0⟩ : ∃ C0, S0 (laid rs a 0 0) % 255 = C0 := ⟨_, rfl⟩
  obtain ⟨C1, hC1⟩ : ∃ C1, S1 (laid rs a 0 0) % 255 = C1 := ⟨_, rfl⟩
  obtain ⟨X, hX⟩ : ∃ X, (T * C0 + 255 - C1 + 254) % 255 + 1 = X := ⟨_, rfl⟩
  obtain ⟨Y, hY⟩ : ∃ Y, (510 - C0 - X + 254) % 255 + 1 = Y := ⟨_, rfl⟩
  have hfx : flx rs a = X := by unfold flx fx tms; rw [hT, hC0, hC1, hX]
  have hfy : fly rs a = Y := by unfold fly fy; rw [hfx, hC0, hY]
  obtain ⟨F, hF⟩ : ∃ F, 256 * flx rs a + fly rs a = F := ⟨_, rfl⟩
  rw [hF]
  rw [hfx, hfy] at hF
  have HF : Hid (X * 256 + Y = F) := by show _ = _; omega
  have hTb : 0 ≤ T ∧ T ≤ 254 := by omega
  have hCb : 0 ≤ C0 ∧ C0 ≤ 254 := by omega
  obtain ⟨hP0, hP1⟩ := mul_bound hTb hCb
  obtain ⟨hT0, hT1⟩ := hTb
  obtain ⟨hC00, hC01⟩ := hCb
  have hC10 : 0 ≤ C1 := by omega
  have hC11 : C1 ≤ 254 := by omega
  have hX0 : 1 ≤ X := by omega
  have hX1 : X ≤ 255 := by omega
  have hY0 : 1 ≤ Y := by omega
  have hY1 : Y ≤ 255 := by omega
  have hor := or8 (x := X) (y := Y) (by omega) (by omega) (by omega) (by omega)
  have HU1 : ∀ w : World, Calls Try.prog 58 #[.int .u32 (T * C0 + 255 - C1)] w fun e w' => e = .returned (.int .u32 X) ∧ w = w' := fun w => by
    have := upper_any (T * C0 + 255 - C1) w (by omega) (by omega)
    rwa [hX] at this
  have HU2 : ∀ w : World, Calls Try.prog 58 #[.int .u32 (510 - C0 - X)] w fun e w' => e = .returned (.int .u32 Y) ∧ w = w' := fun w => by
    have := upper_any (510 - C0 - X) w (by omega) (by omega)
    rwa [hY] at this
  have HC0 : Hid (S0 (laid rs a 0 0) % 255 = C0) := hC0
  have HC1 : Hid (S1 (laid rs a 0 0) % 255 = C1) := hC1
  have HT : Hid (((rs.length : Int) - (a : Int) - 1) % 255 = T) := hT
  have a1 : ArgAt w (.slice (some ⟨ga, oa, none⟩) a vc) (rs.take a) := (rowAt_take hv a (by omega)).arg
  have hd := rowAt_drop hv (a + 2) h
  have HA : ∀ v3 : Value, ArgAt w v3 (rs.drop (a + 2)) → _ := fun v3 h3 => fl_call rs a w _ v3 a1 h3 hby h
  clear hX hY hfx hfy hF hC0 hC1 hT a1 hby
  by_cases hz : vc = a + 2
  · have hz' : a + 2 = rs.length := by omega
    obtain rfl : vc = rs.length := by omega
    have hs2 := slice_end ga oa rs.length rs.length a h hcap hz
    have hd0 : ArgAt w (.slice (some ⟨ga, oa, none⟩) 0 0) (rs.drop (a + 2)) := by
      rw [List.drop_eq_nil_of_le (by omega)]
      exact (RowAt.arg (Or.inr ⟨ga, oa, 0, by simp, by simp, by simp, by intro j u hj; simp [bytesOf] at hj⟩))
    replace HA := HA (.slice (some ⟨ga, oa, none⟩) 0 0) hd0
    clear hd hv hd0 hz
    go_enter Try.func45, Try.ntmps45
    go_wp2_with fail
    go_region_with (go_at_call 52; refine HA.mono ?_; rintro e w1 ⟨⟨f, rfl, ⟨H, K, rfl, hr, H0, K0, H1, K1⟩⟩, t1⟩)
    have hm0 : modv H K 0 = C0 := by show H % 255 = C0; rw [hr.c0, HC0.out]
    have hm1 : modv H K 1 = C1 := by show K % 255 = C1; rw [hr.c1, HC1.out]
    have hT := HT.out
    clear HA hs2 hz' hr h2 h3 h6 h7 h8 hw2
    go_wp2_with fail
    refine (mod_x H K 0 _ (Or.inl rfl) H0 H1 K0 K1).mono ?_
    rintro e w2 ⟨rfl, rfl⟩
    clear hT
    go_wp2_with fail
    refine (mod_x H K 1 _ (Or.inr rfl) H0 H1 K0 K1).mono ?_
    rintro e w2 ⟨rfl, rfl⟩
    go_wp2_with fail
    refine (HU1 _).mono ?_
    rintro e w2 ⟨rfl, rfl⟩
    go_wp2_with fail
    refine (mod_x H K 0 _ (Or.inl rfl) H0 H1 K0 K1).mono ?_
    rintro e w2 ⟨rfl, rfl⟩
    go_wp2_with fail
    refine (HU2 _).mono ?_
    rintro e w2 ⟨rfl, rfl⟩
    go_wp2
    go_ret2
    exact ⟨by rw [← HF.out]; rfl, ((t1.alloc _).alloc _).alloc _⟩
  · have hs2 := slice_from ga oa rs.length vc a h hcap hz
    replace HA := HA (.slice (some ⟨ga, oa + (a + 2), none⟩) (rs.length - (a + 2)) (vc - (a + 2))) hd.arg
    clear hd hv
    go_enter Try.func45, Try.ntmps45
    go_wp2_with fail
    go_region_with (go_at_call 52; refine HA.mono ?_; rintro e w1 ⟨⟨f, rfl, ⟨H, K, rfl, hr, H0, K0, H1, K1⟩⟩, t1⟩)
    have hm0 : modv H K 0 = C0 := by show H % 255 = C0; rw [hr.c0, HC0.out]
    have hm1 : modv H K 1 = C1 := by show K % 255 = C1; rw [hr.c1, HC1.out]
    have hT := HT.out
    clear HA hs2 hz hr h2 h3 h6 h7 h8 hw2
    go_wp2_with fail
    refine (mod_x H K 0 _ (Or.inl rfl) H0 H1 K0 K1).mono ?_
    rintro e w2 ⟨rfl, rfl⟩
    clear hT
    go_wp2_with fail
    refine (mod_x H K 1 _ (Or.inr rfl) H0 H1 K0 K1).mono ?_
    rintro e w2 ⟨rfl, rfl⟩
    go_wp2_with fail
    refine (HU1 _).mono ?_
    rintro e w2 ⟨rfl, rfl⟩
    go_wp2_with fail
    refine (mod_x H K 0 _ (Or.inl rfl) H0 H1 K0 K1).mono ?_
    rintro e w2 ⟨rfl, rfl⟩
    go_wp2_with fail
    refine (HU2 _).mono ?_
    rintro e w2 ⟨rfl, rfl⟩
    go_wp2
    go_ret2
    exact ⟨by rw [← HF.out]; rfl, ((t1.alloc _).alloc _).alloc _⟩

/-- Fletcher, within its places. -/
theorem fletcher_any (v : Value) (rs : List Int) (a : Nat) (w : World) (hv : ArgAt w v rs) (hby : ∀ x ∈ rs, 0 ≤ x ∧ x < 256) (h : a + 2 ≤ rs.length) :
    Calls Try.prog 45 #[v, .int .i64 (a : Int)] w fun e w' => e = .returned (.tuple #[.int .u16 (256 * flx rs a + fly rs a), .int .i64 0]) ∧ Touch (fun _ => False) w w' := by
  have hr := hv.row (by omega)
  obtain ⟨va, vc, rfl, _⟩ := hv.form
  obtain ⟨ga, oa, rfl⟩ := rowAt_some hr (by omega)
  exact fletcher_in ga oa vc rs a w hr hby h
end Go.Proofs.Ytfdpmlogieaiaaa
