/- Contracts of package order: Age, Old, alone, younger. -/
import Derived.Test.YtfflkconbpiflaaOrdCode
namespace Go.Proofs.Ytfflkconbpiflaa
open Go.RowKit
set_option linter.unusedVariables false
set_option maxRecDepth 100000

theorem old_any (a : Int) (h0 : 0 ≤ a) (h : a < 65536) (w : World) : Calls Try.prog 11 #[.int .u16 a] w fun e w' => e = .returned (.bool (decide (yrs a = 3600))) ∧ w = w' := by
  have HY := fun w => years_any a h0 h w
  generalize yrs a = y at HY ⊢
  by_cases hy : y = 3600
  · subst hy
    go_enter Try.func11, Try.ntmps11
    go_wp2_with fail
    refine (HY _).mono ?_
    rintro e w1 ⟨rfl, rfl⟩
    go_wp2
    go_ret
    exact ⟨rfl, rfl⟩
  · have H : Hid (decide (y = 3600) = false) := decide_eq_false hy
    generalize decide (y = 3600) = d at H ⊢
    go_enter Try.func11, Try.ntmps11
    go_wp2_with fail
    refine (HY _).mono ?_
    rintro e w1 ⟨rfl, rfl⟩
    go_wp2
    go_ret
    exact ⟨ret_bool (by rw [H.out]; exact beq_eq_false_iff_ne.mpr hy), rfl⟩

theorem age_still (a p : Int) (h0 : 0 ≤ a) (h : a < 65536) (h1 : 32768 ≤ a) (w : World) : Calls Try.prog 9 #[.int .u16 a, .int .i64 p] w fun e w' => e = .returned (.int .u16 a) ∧ w = w' := by
  have e1 := top_set h0 h h1
  go_enter Try.func9, Try.ntmps9
  go_wp2
  go_ret
  exact ⟨rfl, rfl⟩
theorem age_none (a p : Int) (h0 : 0 ≤ a) (h1 : a < 32768) (hp : p < 1) (w : World) : Calls Try.prog 9 #[.int .u16 a, .int .i64 p] w fun e w' => e = .returned (.int .u16 a) ∧ w = w' := by
  have e1 := top_unset h0 h1
  go_enter Try.func9, Try.ntmps9
  go_wp2
  go_ret
  exact ⟨rfl, rfl⟩
theorem age_more (a p z : Int) (h0 : 0 ≤ a) (h1 : a < 32768) (hp : ¬ p < 1) (hz : z = if yrs a + p < 3600 then yrs a + p else 3600) (w : World) :
    Calls Try.prog 9 #[.int .u16 a, .int .i64 p] w fun e w' => e = .returned (.int .u16 z) ∧ w = w' := by
  have e1 := top_unset h0 h1
  have HY := fun w => years_any a h0 (by omega) w
  have hb := yrs_bound a
  have HZ : Hid (z = if yrs a + p < 3600 then yrs a + p else 3600) := hz
  clear hz
  generalize yrs a = y at HY hb HZ
  obtain ⟨hb0, hb1⟩ := hb
  by_cases hq : p ≤ 3600
  · by_cases hs : y + p ≤ 3600
    · have H : Hid (z = y + p) := by show _ = _; have := HZ.out; split at this <;> omega
      clear HZ
      go_enter Try.func9, Try.ntmps9
      go_wp2_with fail
      refine (HY _).mono ?_
      rintro e w1 ⟨rfl, rfl⟩
      go_wp2
      go_ret
      exact ⟨ret_int H.out.symm, rfl⟩
    · have H : Hid (z = 3600) := by show _ = _; have := HZ.out; split at this <;> omega
      clear HZ
      go_enter Try.func9, Try.ntmps9
      go_wp2_with fail
      refine (HY _).mono ?_
      rintro e w1 ⟨rfl, rfl⟩
      go_wp2
      go_ret
      exact ⟨ret_int H.out.symm, rfl⟩
  · have H : Hid (z = 3600) := by show _ = _; have := HZ.out; split at this <;> omega
    clear HZ
    by_cases hy : y = 0
    · subst hy
      go_enter Try.func9, Try.ntmps9
      go_wp2_with fail
      refine (HY _).mono ?_
      rintro e w1 ⟨rfl, rfl⟩
      go_wp2
      go_ret
      exact ⟨ret_int H.out.symm, rfl⟩
    · have hy1 : ¬ y + 3600 ≤ 3600 := by omega
      go_enter Try.func9, Try.ntmps9
      go_wp2_with fail
      refine (HY _).mono ?_
      rintro e w1 ⟨rfl, rfl⟩
      go_wp2
      go_ret
      exact ⟨ret_int H.out.symm, rfl⟩
theorem age_any (a p : Int) (h0 : 0 ≤ a) (h : a < 65536) (w : World) : Calls Try.prog 9 #[.int .u16 a, .int .i64 p] w fun e w' => e = .returned (.int .u16 (ageI a p)) ∧ w = w' := by
  by_cases h1 : 32768 ≤ a
  · rw [show ageI a p = a from if_pos (Or.inl h1)]; exact age_still a p h0 h h1 w
  · by_cases h2 : p < 1
    · rw [show ageI a p = a from if_pos (Or.inr h2)]; exact age_none a p h0 (by omega) h2 w
    · exact age_more a p _ h0 (by omega) h2 (if_neg (by omega)) w

theorem alone_any (a b : Int) (ha0 : 0 ≤ a) (ha : a < 65536) (hb0 : 0 ≤ b) (hb : b < 65536) (w : World) :
    Calls Try.prog 25 #[.int .u16 a, .int .u16 b] w fun e w' => e = .returned (.int .i64 (aloneI (yrs a) (yrs b))) ∧ w = w' := by
  have HA := fun w => old_any a ha0 ha w
  have HB := fun w => old_any b hb0 hb w
  have HZ : Hid (aloneI (yrs a) (yrs b) = if decide (yrs a = 3600) = decide (yrs b = 3600) then 0 else if decide (yrs a = 3600) = true then 1 else -1) := by
    show _ = _
    unfold aloneI
    by_cases h1 : yrs a = 3600 <;> by_cases h2 : yrs b = 3600 <;> simp [h1, h2]
  generalize aloneI (yrs a) (yrs b) = z at HZ ⊢
  generalize decide (yrs a = 3600) = A at HA HZ
  generalize decide (yrs b = 3600) = B at HB HZ
  cases A <;> cases B
  · have H : Hid (z = 0) := HZ.out
    go_enter Try.func25, Try.ntmps25
    go_wp2_with (first | (go_at_call 11; refine (HA _).mono ?_; rintro e w1 ⟨rfl, rfl⟩) | (go_at_call 11; refine (HB _).mono ?_; rintro e w1 ⟨rfl, rfl⟩))
    go_ret
    exact ⟨ret_int H.out.symm, rfl⟩
  · have H : Hid (z = -1) := HZ.out
    go_enter Try.func25, Try.ntmps25
    go_wp2_with (first | (go_at_call 11; refine (HA _).mono ?_; rintro e w1 ⟨rfl, rfl⟩) | (go_at_call 11; refine (HB _).mono ?_; rintro e w1 ⟨rfl, rfl⟩))
    go_ret
    exact ⟨ret_int H.out.symm, rfl⟩
  · have H : Hid (z = 1) := HZ.out
    go_enter Try.func25, Try.ntmps25
    go_wp2_with (first | (go_at_call 11; refine (HA _).mono ?_; rintro e w1 ⟨rfl, rfl⟩) | (go_at_call 11; refine (HB _).mono ?_; rintro e w1 ⟨rfl, rfl⟩))
    go_ret
    exact ⟨ret_int H.out.symm, rfl⟩
  · have H : Hid (z = 0) := HZ.out
    go_enter Try.func25, Try.ntmps25
    go_wp2_with (first | (go_at_call 11; refine (HA _).mono ?_; rintro e w1 ⟨rfl, rfl⟩) | (go_at_call 11; refine (HB _).mono ?_; rintro e w1 ⟨rfl, rfl⟩))
    go_ret
    exact ⟨ret_int H.out.symm, rfl⟩

theorem younger_any (a b : Int) (ha0 : 0 ≤ a) (ha : a < 65536) (hb0 : 0 ≤ b) (hb : b < 65536) (w : World) :
    Calls Try.prog 26 #[.int .u16 a, .int .u16 b] w fun e w' => e = .returned (.int .i64 (youngI (yrs a) (yrs b))) ∧ w = w' := by
  have HA := fun w => years_any a ha0 ha w
  have HB := fun w => years_any b hb0 hb w
  have HC := fun w => cmp16_any (yrs b) (yrs a) w
  have hx := yrs_bound a
  have hy := yrs_bound b
  have HZ : Hid (youngI (yrs a) (yrs b) = if yrs a - yrs b ≤ 900 ∧ yrs b - yrs a ≤ 900 then 0 else cmpI (yrs b) (yrs a)) := rfl
  generalize youngI (yrs a) (yrs b) = z at HZ ⊢
  generalize cmpI (yrs b) (yrs a) = c at HC HZ
  generalize yrs a = x at HA HC hx HZ
  generalize yrs b = y at HB HC hy HZ
  obtain ⟨hx0, hx1⟩ := hx
  obtain ⟨hy0, hy1⟩ := hy
  by_cases hd : x - y ≤ 900 ∧ y - x ≤ 900
  · have H : Hid (z = 0) := by show _ = _; rw [HZ.out, if_pos hd]
    clear HZ HC
    obtain ⟨hd0, hd1⟩ := hd
    by_cases h : x ≤ y
    · by_cases h' : y ≤ x
      · obtain rfl : x = y := by omega
        go_enter Try.func26, Try.ntmps26
        go_wp2_with (first | (go_at_call 20; refine (HA _).mono ?_; rintro e w1 ⟨rfl, rfl⟩) | (go_at_call 20; refine (HB _).mono ?_; rintro e w1 ⟨rfl, rfl⟩) | (go_at_call 24; refine (HC _).mono ?_; rintro e w1 ⟨rfl, rfl⟩))
        go_ret
        exact ⟨ret_int H.out.symm, rfl⟩
      · have h1 : x < y := by omega
        go_enter Try.func26, Try.ntmps26
        go_wp2_with (first | (go_at_call 20; refine (HA _).mono ?_; rintro e w1 ⟨rfl, rfl⟩) | (go_at_call 20; refine (HB _).mono ?_; rintro e w1 ⟨rfl, rfl⟩) | (go_at_call 24; refine (HC _).mono ?_; rintro e w1 ⟨rfl, rfl⟩))
        go_ret
        exact ⟨ret_int H.out.symm, rfl⟩
    · have h1 : y < x := by omega
      have h2 : y ≤ x := by omega
      go_enter Try.func26, Try.ntmps26
      go_wp2_with (first | (go_at_call 20; refine (HA _).mono ?_; rintro e w1 ⟨rfl, rfl⟩) | (go_at_call 20; refine (HB _).mono ?_; rintro e w1 ⟨rfl, rfl⟩) | (go_at_call 24; refine (HC _).mono ?_; rintro e w1 ⟨rfl, rfl⟩))
      go_ret
      exact ⟨ret_int H.out.symm, rfl⟩
  · have H : Hid (z = c) := by show _ = _; rw [HZ.out, if_neg hd]
    clear HZ
    by_cases h : x ≤ y
    · have h1 : ¬ y - x ≤ 900 := by omega
      have h2 : ¬ y ≤ x := by omega
      clear hd
      go_enter Try.func26, Try.ntmps26
      go_wp2_with (first | (go_at_call 20; refine (HA _).mono ?_; rintro e w1 ⟨rfl, rfl⟩) | (go_at_call 20; refine (HB _).mono ?_; rintro e w1 ⟨rfl, rfl⟩) | (go_at_call 24; refine (HC _).mono ?_; rintro e w1 ⟨rfl, rfl⟩))
      go_ret
      exact ⟨ret_int H.out.symm, rfl⟩
    · have h1 : ¬ x - y ≤ 900 := by omega
      have h2 : y ≤ x := by omega
      clear hd
      go_enter Try.func26, Try.ntmps26
      go_wp2_with (first | (go_at_call 20; refine (HA _).mono ?_; rintro e w1 ⟨rfl, rfl⟩) | (go_at_call 20; refine (HB _).mono ?_; rintro e w1 ⟨rfl, rfl⟩) | (go_at_call 24; refine (HC _).mono ?_; rintro e w1 ⟨rfl, rfl⟩))
      go_ret
      exact ⟨ret_int H.out.symm, rfl⟩
end Go.Proofs.Ytfflkconbpiflaa
