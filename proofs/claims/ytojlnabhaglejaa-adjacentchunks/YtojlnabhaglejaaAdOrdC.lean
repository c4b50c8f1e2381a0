
/- Contracts of package order: numbers and ages. -/
import Derived.Test.YtojlnabhaglejaaOrdMath
namespace Go.Proofs.Ytojlnabhaglejaa
open Go.RowKit
set_option linter.unusedVariables false
set_option maxRecDepth 100000

theorem and15 {n : Int} (h0 : 0 ≤ n) (h : n < 65536) : bits .andNot .u16 n 32768 = n % 32768 := by
  rw [u16_andNot n _ h0 h (by omega) (by omega), show 65535 - (32768 : Int).toNat = 2 ^ 15 - 1 from rfl, Nat.and_two_pow_sub_one_eq_mod]
  omega
set_option maxHeartbeats 400000 in
theorem cmp32s_any (x y : Int) (w : World) : Calls Try.prog 83 #[.int .i32 x, .int .i32 y] w fun e w' => e = .returned (.int .i64 (cmpI x y)) ∧ w = w' := by
  rcases Int.lt_trichotomy x y with h | h | h
  · have H : Hid _ := cmpI_lt h
    go_enter Try.func83, Try.ntmps83
    go_wp2
    go_ret
    exact ⟨ret_int H.out.symm, rfl⟩
  · subst h
    have H : Hid _ := cmpI_eq x
    have h1 : ¬ x < x := by omega
    go_enter Try.func83, Try.ntmps83
    go_wp2
    go_ret
    exact ⟨ret_int H.out.symm, rfl⟩
  · have H : Hid _ := cmpI_gt h
    have h1 : ¬ x < y := by omega
    go_enter Try.func83, Try.ntmps83
    go_wp2
    go_ret
    exact ⟨ret_int H.out.symm, rfl⟩

set_option maxHeartbeats 400000 in
theorem cmp16_any (x y : Int) (w : World) : Calls Try.prog 76 #[.int .u16 x, .int .u16 y] w fun e w' => e = .returned (.int .i64 (cmpI x y)) ∧ w = w' := by
  rcases Int.lt_trichotomy x y with h | h | h
  · have H : Hid _ := cmpI_lt h
    go_enter Try.func76, Try.ntmps76
    go_wp2
    go_ret
    exact ⟨ret_int H.out.symm, rfl⟩
  · subst h
    have H : Hid _ := cmpI_eq x
    have h1 : ¬ x < x := by omega
    go_enter Try.func76, Try.ntmps76
    go_wp2
    go_ret
    exact ⟨ret_int H.out.symm, rfl⟩
  · have H : Hid _ := cmpI_gt h
    have h1 : ¬ x < y := by omega
    go_enter Try.func76, Try.ntmps76
    go_wp2
    go_ret
    exact ⟨ret_int H.out.symm, rfl⟩

theorem seq_any (x y : Int) (w : World) : Calls Try.prog 75 #[.int .i32 x, .int .i32 y] w fun e w' => e = .returned (.int .i64 (cmpI x y)) ∧ w = w' := by
  generalize hc : cmpI x y = c
  have HC : ∀ w, Calls Try.prog 83 #[.int .i32 x, .int .i32 y] w fun e w' => e = .returned (.int .i64 c) ∧ w = w' := fun w => hc ▸ cmp32s_any x y w
  clear hc
  go_enter Try.func75, Try.ntmps75
  go_wp2_with fail
  refine (HC _).mono ?_
  rintro e w1 ⟨rfl, rfl⟩
  go_wp2
  go_ret
  exact ⟨rfl, rfl⟩

theorem years_any (a : Int) (h0 : 0 ≤ a) (h : a < 65536) (w : World) : Calls Try.prog 73 #[.int .u16 a] w fun e w' => e = .returned (.int .u16 (yrs a)) ∧ w = w' := by
  have e1 := and15 h0 h
  have e2 : Hid (yrs a = if a % 32768 < 3600 then a % 32768 else 3600) := rfl
  have hb : 0 ≤ a % 32768 ∧ a % 32768 < 32768 := by omega
  generalize yrs a = y at e2 ⊢
  generalize a % 32768 = m at e1 e2 hb
  obtain ⟨hb0, hb1⟩ := hb
  by_cases hm : m ≤ 3600
  · have H : Hid (y = m) := by show _ = _; have := e2.out; split at this <;> omega
    clear e2
    go_enter Try.func73, Try.ntmps73
    go_wp2
    go_ret
    exact ⟨ret_int H.out.symm, rfl⟩
  · have H : Hid (y = 3600) := by show _ = _; have := e2.out; split at this <;> omega
    clear e2
    go_enter Try.func73, Try.ntmps73
    go_wp2
    go_ret
    exact ⟨ret_int H.out.symm, rfl⟩
end Go.Proofs.Ytojlnabhaglejaa
