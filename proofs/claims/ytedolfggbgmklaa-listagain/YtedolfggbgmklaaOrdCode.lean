
/- Contracts of package order: numbers and ages. -/
import Derived.Test.YtedolfggbgmklaaOrdMath
namespace Go.Proofs.Ytedolfggbgmklaa
open Go.RowKit
set_option linter.unusedVariables false
set_option maxRecDepth 100000

theorem and15 {n : Int} (h0 : 0 ≤ n) (h : n < 65536) : bits .andNot .u16 n 32768 = n % 32768 := by
  rw [u16_andNot n _ h0 h (by omega) (by omega), show 65535 - (32768 : Int).toNat = 2 ^ 15 - 1 from rfl, Nat.and_two_pow_sub_one_eq_mod]
  omega
theorem and_top (N : Nat) (h : N < 65536) : N &&& 2 ^ 15 = N / 32768 * 32768 := by
  have h1 : (N &&& 2 ^ 15) % 2 ^ 15 = 0 := by rw [Nat.and_mod_two_pow, Nat.mod_self, Nat.and_zero]
  have h2 : (N &&& 2 ^ 15) / 2 ^ 15 = N / 32768 % 2 := by rw [Nat.and_div_two_pow, Nat.div_self (by decide), Nat.and_one_is_mod]
  omega
theorem top_set {n : Int} (h0 : 0 ≤ n) (h : n < 65536) (h1 : 32768 ≤ n) : bits .and .u16 n 32768 = 32768 := by
  rw [u16_and n _ h0 h (by omega) (by omega), show (32768 : Int).toNat = 2 ^ 15 from rfl, and_top _ (by omega)]
  omega
theorem top_unset {n : Int} (h0 : 0 ≤ n) (h1 : n < 32768) : bits .and .u16 n 32768 = 0 := by
  rw [u16_and n _ h0 (by omega) (by omega) (by omega), show (32768 : Int).toNat = 2 ^ 15 from rfl, and_top _ (by omega)]
  omega

set_option maxHeartbeats 400000 in
theorem cmp32s_any (x y : Int) (w : World) : Calls Try.prog 53 #[.int .i32 x, .int .i32 y] w fun e w' => e = .returned (.int .i64 (cmpI x y)) ∧ w = w' := by
  rcases Int.lt_trichotomy x y with h | h | h
  · have H : Hid _ := cmpI_lt h
    go_enter Try.func53, Try.ntmps53
    go_wp2
    go_ret
    exact ⟨ret_int H.out.symm, rfl⟩
  · subst h
    have H : Hid _ := cmpI_eq x
    have h1 : ¬ x < x := by omega
    go_enter Try.func53, Try.ntmps53
    go_wp2
    go_ret
    exact ⟨ret_int H.out.symm, rfl⟩
  · have H : Hid _ := cmpI_gt h
    have h1 : ¬ x < y := by omega
    go_enter Try.func53, Try.ntmps53
    go_wp2
    go_ret
    exact ⟨ret_int H.out.symm, rfl⟩

set_option maxHeartbeats 400000 in
theorem cmp16_any (x y : Int) (w : World) : Calls Try.prog 46 #[.int .u16 x, .int .u16 y] w fun e w' => e = .returned (.int .i64 (cmpI x y)) ∧ w = w' := by
  rcases Int.lt_trichotomy x y with h | h | h
  · have H : Hid _ := cmpI_lt h
    go_enter Try.func46, Try.ntmps46
    go_wp2
    go_ret
    exact ⟨ret_int H.out.symm, rfl⟩
  · subst h
    have H : Hid _ := cmpI_eq x
    have h1 : ¬ x < x := by omega
    go_enter Try.func46, Try.ntmps46
    go_wp2
    go_ret
    exact ⟨ret_int H.out.symm, rfl⟩
  · have H : Hid _ := cmpI_gt h
    have h1 : ¬ x < y := by omega
    go_enter Try.func46, Try.ntmps46
    go_wp2
    go_ret
    exact ⟨ret_int H.out.symm, rfl⟩

theorem seq_any (x y : Int) (w : World) : Calls Try.prog 45 #[.int .i32 x, .int .i32 y] w fun e w' => e = .returned (.int .i64 (cmpI x y)) ∧ w = w' := by
  generalize hc : cmpI x y = c
  have HC : ∀ w, Calls Try.prog 53 #[.int .i32 x, .int .i32 y] w fun e w' => e = .returned (.int .i64 c) ∧ w = w' := fun w => hc ▸ cmp32s_any x y w
  clear hc
  go_enter Try.func45, Try.ntmps45
  go_wp2_with fail
  refine (HC _).mono ?_
  rintro e w1 ⟨rfl, rfl⟩
  go_wp2
  go_ret
  exact ⟨rfl, rfl⟩

theorem years_any (a : Int) (h0 : 0 ≤ a) (h : a < 65536) (w : World) : Calls Try.prog 49 #[.int .u16 a] w fun e w' => e = .returned (.int .u16 (yrs a)) ∧ w = w' := by
  have e1 := and15 h0 h
  have e2 : Hid (yrs a = if a % 32768 < 3600 then a % 32768 else 3600) := rfl
  have hb : 0 ≤ a % 32768 ∧ a % 32768 < 32768 := by omega
  generalize yrs a = y at e2 ⊢
  generalize a % 32768 = m at e1 e2 hb
  obtain ⟨hb0, hb1⟩ := hb
  by_cases hm : m ≤ 3600
  · have H : Hid (y = m) := by show _ = _; have := e2.out; split at this <;> omega
    clear e2
    go_enter Try.func49, Try.ntmps49
    go_wp2
    go_ret
    exact ⟨ret_int H.out.symm, rfl⟩
  · have H : Hid (y = 3600) := by show _ = _; have := e2.out; split at this <;> omega
    clear e2
    go_enter Try.func49, Try.ntmps49
    go_wp2
    go_ret
    exact ⟨ret_int H.out.symm, rfl⟩
end Go.Proofs.Ytedolfggbgmklaa
