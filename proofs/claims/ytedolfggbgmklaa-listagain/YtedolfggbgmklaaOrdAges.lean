
/- Contracts of package order: Age, Old, alone, younger. -/
import Derived.Test.YtedolfggbgmklaaOrdCode
namespace Go.Proofs.Ytedolfggbgmklaa
open Go.RowKit
set_option linter.unusedVariables false
set_option maxRecDepth 100000

theorem old_any (a : Int) (h0 : 0 ≤ a) (h : a < 65536) (w : World) : Calls Try.prog 31 #[.int .u16 a] w fun e w' => e = .returned (.bool (decide (yrs a = 3600))) ∧ w = w' := by
  have HY := fun w => years_any a h0 h w
  generalize yrs a = y at HY ⊢
  by_cases hy : y = 3600
  · subst hy
    go_enter Try.func31, Try.ntmps31
    go_wp2_with fail
    refine (HY _).mono ?_
    rintro e w1 ⟨rfl, rfl⟩
    go_wp2
    go_ret
    exact ⟨rfl, rfl⟩
  · have H : Hid (decide (y = 3600) = false) := decide_eq_false hy
    generalize decide (y = 3600) = d at H ⊢
    go_enter Try.func31, Try.ntmps31
    go_wp2_with fail
    refine (HY _).mono ?_
    rintro e w1 ⟨rfl, rfl⟩
    go_wp2
    go_ret
    exact ⟨ret_bool (by rw [H.out]; exact beq_eq_false_iff_ne.mpr hy), rfl⟩

theorem alone_any (a b : Int) (ha0 : 0 ≤ a) (ha : a < 65536) (hb0 : 0 ≤ b) (hb : b < 65536) (w : World) :
    Calls Try.prog 47 #[.int .u16 a, .int .u16 b] w fun e w' => e = .returned (.int .i64 (aloneI (yrs a) (yrs b))) ∧ w = w' := by
  have HA := fun w => old_any a ha0 ha w
  have HB := fun w => old_any b hb0 hb w
  have HZ : Hid (aloneI (yrs a) (yrs b) = if decide (yrs a = 3600) = decide (yrs b = 3600) then 0 else if decide (yrs a = 3600) = true then 1 else -1) := by
    show _ = _
    unfold aloneI
    by_cases h1 : yrs a = 3600 <;> by_cases h2 : yrs b = 3600 <;> simp [h1, h2]
  generalize aloneI (yrs a) (yrs b) = z at HZ ⊢
  generalize decide (yrs a = 3600) = A at HA HZ
  generalize decide (yrs b = 3600) = B at HB HZ
  cases A <;> cases B
  · have H : Hid (z = 0) := HZ.out
    go_enter Try.func47, Try.ntmps47
    go_wp2_with (first | (go_at_call 31; refine (HA _).mono ?_; rintro e w1 ⟨rfl, rfl⟩) | (go_at_call 31; refine (HB _).mono ?_; rintro e w1 ⟨rfl, rfl⟩))
    go_ret
    exact ⟨ret_int H.out.symm, rfl⟩
  · have H : Hid (z = -1) := HZ.out
    go_enter Try.func47, Try.ntmps47
    go_wp2_with (first | (go_at_call 31; refine (HA _).mono ?_; rintro e w1 ⟨rfl, rfl⟩) | (go_at_call 31; refine (HB _).mono ?_; rintro e w1 ⟨rfl, rfl⟩))
    go_ret
    exact ⟨ret_int H.out.symm, rfl⟩
  · have H : Hid (z = 1) := HZ.out
    go_enter Try.func47, Try.ntmps47
    go_wp2_with (first | (go_at_call 31; refine (HA _).mono ?_; rintro e w1 ⟨rfl, rfl⟩) | (go_at_call 31; refine (HB _).mono ?_; rintro e w1 ⟨rfl, rfl⟩))
    go_ret
    exact ⟨ret_int H.out.symm, rfl⟩
  · have H : Hid (z = 0) := HZ.out
    go_enter Try.func47, Try.ntmps47
    go_wp2_with (first | (go_at_call 31; refine (HA _).mono ?_; rintro e w1 ⟨rfl, rfl⟩) | (go_at_call 31; refine (HB _).mono ?_; rintro e w1 ⟨rfl, rfl⟩))
    go_ret
    exact ⟨ret_int H.out.symm, rfl⟩

theorem younger_any (a b : Int) (ha0 : 0 ≤ a) (ha : a < 65536) (hb0 : 0 ≤ b) (hb : b < 65536) (w : World) :
    Calls Try.prog 48 #[.int .u16 a, .int .u16 b] w fun e w' => e = .returned (.int .i64 (youngI (yrs a) (yrs b))) ∧ w = w' := by
  have HA := fun w => years_any a ha0 ha w
  have HB := fun w => years_any b hb0 hb w
  have HC := fun w => cmp16_any (yrs b) (yrs a) w
  have hx := yrs_bound a
  have hy := yrs_bound b
  have HZ : Hid (youngI (yrs a) (yrs b) = if yrs a - yrs b ≤ 900 ∧ yrs b - yrs a ≤ 900 then 0 else cmpI (yrs b) (yrs a)) := rfl
  generalize youngI (yrs a) (yrs b) = z at HZ ⊢
  generalize cmpI (yrs b) (yrs a) = c at HC HZ
  generalize yrs a = x at HA HC hx HZ
  generalize yrs b = y at HB HC hy HZ
  obtain ⟨hx0, hx1⟩ := hx
  obtain ⟨hy0, hy1⟩ := hy
  by_cases hd : x - y ≤ 900 ∧ y - x ≤ 900
  · have H : Hid (z = 0) := by show _ = _; rw [HZ.out, if_pos hd]
    clear HZ HC
    obtain ⟨hd0, hd1⟩ := hd
    by_cases h : x ≤ y
    · by_cases h' : y ≤ x
      · obtain rfl : x = y := by omega
        go_enter Try.func48, Try.ntmps48
        go_wp2_with (first | (go_at_call 49; refine (HA _).mono ?_; rintro e w1 ⟨rfl, rfl⟩) | (go_at_call 49; refine (HB _).mono ?_; rintro e w1 ⟨rfl, rfl⟩) | (go_at_call 46; refine (HC _).mono ?_; rintro e w1 ⟨rfl, rfl⟩))
        go_ret
        exact ⟨ret_int H.out.symm, rfl⟩
      · have h1 : x < y := by omega
        go_enter Try.func48, Try.ntmps48
        go_wp2_with (first | (go_at_call 49; refine (HA _).mono ?_; rintro e w1 ⟨rfl, rfl⟩) | (go_at_call 49; refine (HB _).mono ?_; rintro e w1 ⟨rfl, rfl⟩) | (go_at_call 46; refine (HC _).mono ?_; rintro e w1 ⟨rfl, rfl⟩))
        go_ret
        exact ⟨ret_int H.out.symm, rfl⟩
    · have h1 : y < x := by omega
      have h2 : y ≤ x := by omega
      go_enter Try.func48, Try.ntmps48
      go_wp2_with (first | (go_at_call 49; refine (HA _).mono ?_; rintro e w1 ⟨rfl, rfl⟩) | (go_at_call 49; refine (HB _).mono ?_; rintro e w1 ⟨rfl, rfl⟩) | (go_at_call 46; refine (HC _).mono ?_; rintro e w1 ⟨rfl, rfl⟩))
      go_ret
      exact ⟨ret_int H.out.symm, rfl⟩
  · have H : Hid (z = c) := by show _ = _; rw [HZ.out, if_neg hd]
    clear HZ
    by_cases h : x ≤ y
    · have h1 : ¬ y - x ≤ 900 := by omega
      have h2 : ¬ y ≤ x := by omega
      clear hd
      go_enter Try.func48, Try.ntmps48
      go_wp2_with (first | (go_at_call 49; refine (HA _).mono ?_; rintro e w1 ⟨rfl, rfl⟩) | (go_at_call 49; refine (HB _).mono ?_; rintro e w1 ⟨rfl, rfl⟩) | (go_at_call 46; refine (HC _).mono ?_; rintro e w1 ⟨rfl, rfl⟩))
      go_ret
      exact ⟨ret_int H.out.symm, rfl⟩
    · have h1 : ¬ x - y ≤ 900 := by omega
      have h2 : y ≤ x := by omega
      clear hd
      go_enter Try.func48, Try.ntmps48
      go_wp2_with (first | (go_at_call 49; refine (HA _).mono ?_; rintro e w1 ⟨rfl, rfl⟩) | (go_at_call 49; refine (HB _).mono ?_; rintro e w1 ⟨rfl, rfl⟩) | (go_at_call 46; refine (HC _).mono ?_; rintro e w1 ⟨rfl, rfl⟩))
      go_ret
      exact ⟨ret_int H.out.symm, rfl⟩
end Go.Proofs.Ytedolfggbgmklaa
