
/- The document's answers: Years, Still, compare, Seq, Next, Age, Old. -/
import Derived.Test.YtedolfggbgmklaaOrdHead
namespace Go.Proofs.Ytedolfggbgmklaa
open Go.RowKit
set_option linter.unusedVariables false
set_option maxRecDepth 100000

theorem ryears_any (a : Int) (h0 : 0 ≤ a) (h : a < 65536) (w : World) : Calls Try.prog 34 #[.int .u16 a] w fun e w' => e = .returned (.int .i64 (yrs a)) ∧ w = w' := by
  have hb : 0 ≤ a % 32768 ∧ a % 32768 < 32768 := by omega
  have e1 : a.tmod 32768 = a % 32768 := Int.tmod_eq_emod_of_nonneg h0
  have e2 : Hid (yrs a = if a % 32768 < 3600 then a % 32768 else 3600) := rfl
  generalize yrs a = y at e2 ⊢
  by_cases hm : a % 32768 ≤ 3600
  · have H : Hid (y = a % 32768) := by show _ = _; have := e2.out; split at this <;> omega
    clear e2
    go_enter Try.func34, Try.ntmps34
    go_wp2
    go_ret
    exact ⟨ret_int H.out.symm, rfl⟩
  · have H : Hid (y = 3600) := by show _ = _; have := e2.out; split at this <;> omega
    clear e2
    go_enter Try.func34, Try.ntmps34
    go_wp2
    go_ret
    exact ⟨ret_int H.out.symm, rfl⟩
theorem rcomp_any (x y : Int) (w : World) : Calls Try.prog 33 #[.int .i64 x, .int .i64 y] w fun e w' => e = .returned (.int .i64 (cmpI x y)) ∧ w = w' := by
  rcases Int.lt_trichotomy x y with h | h | h
  · have H : Hid _ := cmpI_lt h
    go_enter Try.func33, Try.ntmps33
    go_wp2
    go_ret
    exact ⟨ret_int H.out.symm, rfl⟩
  · subst h
    have H : Hid _ := cmpI_eq x
    have h1 : ¬ x < x := by omega
    go_enter Try.func33, Try.ntmps33
    go_wp2
    go_ret
    exact ⟨ret_int H.out.symm, rfl⟩
  · have H : Hid _ := cmpI_gt h
    have h1 : ¬ x < y := by omega
    go_enter Try.func33, Try.ntmps33
    go_wp2
    go_ret
    exact ⟨ret_int H.out.symm, rfl⟩
theorem rseq_any (x y : Int) (z : Int) (hz : cmpI x y = z) (hx0 : -2147483648 ≤ x) (hx : x ≤ 2147483647) (hy0 : -2147483648 ≤ y) (hy : y ≤ 2147483647) (w : World) :
    Calls Try.prog 32 #[.int .i32 x, .int .i32 y] w fun e w' => e = .returned (.int .i64 z) ∧ w = w' := by
  have HC : ∀ w, Calls Try.prog 33 #[.int .i64 x, .int .i64 y] w fun e w' => e = .returned (.int .i64 z) ∧ w = w' := fun w => hz ▸ rcomp_any x y w
  clear hz
  go_enter Try.func32, Try.ntmps32
  go_wp2_with fail
  refine (HC _).mono ?_
  rintro e w1 ⟨rfl, rfl⟩
  go_wp2
  go_ret
  exact ⟨rfl, rfl⟩
theorem rold_any (a : Int) (h0 : 0 ≤ a) (h : a < 65536) (b : Bool) (hb : decide (yrs a = 3600) = b) (w : World) : Calls Try.prog 35 #[.int .u16 a] w fun e w' => e = .returned (.bool b) ∧ w = w' := by
  have HY := fun w => ryears_any a h0 h w
  have HB : Hid (decide (yrs a = 3600) = b) := hb
  clear hb
  generalize yrs a = y at HY HB
  by_cases hy : y = 3600
  · subst hy
    go_enter Try.func35, Try.ntmps35
    go_wp2_with fail
    refine (HY _).mono ?_
    rintro e w1 ⟨rfl, rfl⟩
    go_wp2
    go_ret
    exact ⟨ret_bool HB.out, rfl⟩
  · have H : Hid (b = false) := by show _ = _; rw [← HB.out]; exact decide_eq_false hy
    clear HB
    go_enter Try.func35, Try.ntmps35
    go_wp2_with fail
    refine (HY _).mono ?_
    rintro e w1 ⟨rfl, rfl⟩
    go_wp2
    go_ret
    exact ⟨ret_bool (by rw [H.out]; exact beq_eq_false_iff_ne.mpr hy), rfl⟩

end Go.Proofs.Ytedolfggbgmklaa
