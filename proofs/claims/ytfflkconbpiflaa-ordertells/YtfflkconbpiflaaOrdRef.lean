/- The document's answers: Years, Still, compare, Seq, Next, Age, Old. -/
import Derived.Test.YtfflkconbpiflaaOrdHead
namespace Go.Proofs.Ytfflkconbpiflaa
open Go.RowKit
set_option linter.unusedVariables false
set_option maxRecDepth 100000

theorem ryears_any (a : Int) (h0 : 0 ≤ a) (h : a < 65536) (w : World) : Calls Try.prog 22 #[.int .u16 a] w fun e w' => e = .returned (.int .i64 (yrs a)) ∧ w = w' := by
  have hb : 0 ≤ a % 32768 ∧ a % 32768 < 32768 := by omega
  have e1 : a.tmod 32768 = a % 32768 := Int.tmod_eq_emod_of_nonneg h0
  have e2 : Hid (yrs a = if a % 32768 < 3600 then a % 32768 else 3600) := rfl
  generalize yrs a = y at e2 ⊢
  by_cases hm : a % 32768 ≤ 3600
  · have H : Hid (y = a % 32768) := by show _ = _; have := e2.out; split at this <;> omega
    clear e2
    go_enter Try.func22, Try.ntmps22
    go_wp2
    go_ret
    exact ⟨ret_int H.out.symm, rfl⟩
  · have H : Hid (y = 3600) := by show _ = _; have := e2.out; split at this <;> omega
    clear e2
    go_enter Try.func22, Try.ntmps22
    go_wp2
    go_ret
    exact ⟨ret_int H.out.symm, rfl⟩
theorem rstill_any (a : Int) (w : World) : Calls Try.prog 21 #[.int .u16 a] w fun e w' => e = .returned (.bool (decide (32768 ≤ a))) ∧ w = w' := by
  by_cases h : 32768 ≤ a
  · have H : Hid (decide (32768 ≤ a) = true) := decide_eq_true h
    generalize decide (32768 ≤ a) = d at H ⊢
    go_enter Try.func21, Try.ntmps21
    go_wp2
    go_ret
    exact ⟨ret_bool H.out.symm, rfl⟩
  · have H : Hid (decide (32768 ≤ a) = false) := decide_eq_false h
    generalize decide (32768 ≤ a) = d at H ⊢
    go_enter Try.func21, Try.ntmps21
    go_wp2
    go_ret
    exact ⟨ret_bool H.out.symm, rfl⟩
theorem rcomp_any (x y : Int) (w : World) : Calls Try.prog 19 #[.int .i64 x, .int .i64 y] w fun e w' => e = .returned (.int .i64 (cmpI x y)) ∧ w = w' := by
  rcases Int.lt_trichotomy x y with h | h | h
  · have H : Hid _ := cmpI_lt h
    go_enter Try.func19, Try.ntmps19
    go_wp2
    go_ret
    exact ⟨ret_int H.out.symm, rfl⟩
  · subst h
    have H : Hid _ := cmpI_eq x
    have h1 : ¬ x < x := by omega
    go_enter Try.func19, Try.ntmps19
    go_wp2
    go_ret
    exact ⟨ret_int H.out.symm, rfl⟩
  · have H : Hid _ := cmpI_gt h
    have h1 : ¬ x < y := by omega
    go_enter Try.func19, Try.ntmps19
    go_wp2
    go_ret
    exact ⟨ret_int H.out.symm, rfl⟩
theorem rseq_any (x y : Int) (z : Int) (hz : cmpI x y = z) (hx0 : -2147483648 ≤ x) (hx : x ≤ 2147483647) (hy0 : -2147483648 ≤ y) (hy : y ≤ 2147483647) (w : World) :
    Calls Try.prog 8 #[.int .i32 x, .int .i32 y] w fun e w' => e = .returned (.int .i64 z) ∧ w = w' := by
  have HC : ∀ w, Calls Try.prog 19 #[.int .i64 x, .int .i64 y] w fun e w' => e = .returned (.int .i64 z) ∧ w = w' := fun w => hz ▸ rcomp_any x y w
  clear hz
  go_enter Try.func8, Try.ntmps8
  go_wp2_with fail
  refine (HC _).mono ?_
  rintro e w1 ⟨rfl, rfl⟩
  go_wp2
  go_ret
  exact ⟨rfl, rfl⟩
theorem rnext_last (w : World) : Calls Try.prog 6 #[.int .i32 2147483647] w fun e w' => e = .returned (.tuple #[.int .i32 0, .bool false]) ∧ w = w' := by
  go_enter Try.func6, Try.ntmps6
  go_wp2
  go_ret2
  exact ⟨rfl, rfl⟩
theorem rnext_more (x : Int) (h0 : -2147483648 ≤ x) (h : x < 2147483647) (w : World) : Calls Try.prog 6 #[.int .i32 x] w fun e w' => e = .returned (.tuple #[.int .i32 (x + 1), .bool true]) ∧ w = w' := by
  have h1 : ¬ x = 2147483647 := by omega
  go_enter Try.func6, Try.ntmps6
  go_wp2
  go_ret2
  exact ⟨rfl, rfl⟩
theorem rold_any (a : Int) (h0 : 0 ≤ a) (h : a < 65536) (b : Bool) (hb : decide (yrs a = 3600) = b) (w : World) : Calls Try.prog 12 #[.int .u16 a] w fun e w' => e = .returned (.bool b) ∧ w = w' := by
  have HY := fun w => ryears_any a h0 h w
  have HB : Hid (decide (yrs a = 3600) = b) := hb
  clear hb
  generalize yrs a = y at HY HB
  by_cases hy : y = 3600
  · subst hy
    go_enter Try.func12, Try.ntmps12
    go_wp2_with fail
    refine (HY _).mono ?_
    rintro e w1 ⟨rfl, rfl⟩
    go_wp2
    go_ret
    exact ⟨ret_bool HB.out, rfl⟩
  · have H : Hid (b = false) := by show _ = _; rw [← HB.out]; exact decide_eq_false hy
    clear HB
    go_enter Try.func12, Try.ntmps12
    go_wp2_with fail
    refine (HY _).mono ?_
    rintro e w1 ⟨rfl, rfl⟩
    go_wp2
    go_ret
    exact ⟨ret_bool (by rw [H.out]; exact beq_eq_false_iff_ne.mpr hy), rfl⟩

theorem rage_any (a p z : Int) (h0 : 0 ≤ a) (h : a < 65536) (hz : ageI a p = z) (w : World) : Calls Try.prog 10 #[.int .u16 a, .int .i64 p] w fun e w' => e = .returned (.int .u16 z) ∧ w = w' := by
  have HS := fun w => rstill_any a w
  have HY := fun w => ryears_any a h0 h w
  have hb := yrs_bound a
  by_cases h1 : 32768 ≤ a
  · have H : Hid (z = a) := hz.symm.trans (if_pos (Or.inl h1))
    rw [decide_eq_true h1] at HS
    clear hz HY hb
    go_enter Try.func10, Try.ntmps10
    go_wp2_with fail
    refine (HS _).mono ?_
    rintro e w1 ⟨rfl, rfl⟩
    go_wp2
    go_ret
    exact ⟨ret_int H.out.symm, rfl⟩
  · rw [decide_eq_false h1] at HS
    by_cases h2 : p < 1
    · have H : Hid (z = a) := hz.symm.trans (if_pos (Or.inr h2))
      clear hz HY hb
      go_enter Try.func10, Try.ntmps10
      go_wp2_with fail
      refine (HS _).mono ?_
      rintro e w1 ⟨rfl, rfl⟩
      go_wp2
      go_ret
      exact ⟨ret_int H.out.symm, rfl⟩
    · have HZ : Hid (z = if yrs a + p < 3600 then yrs a + p else 3600) := hz.symm.trans (if_neg (by omega))
      clear hz
      generalize yrs a = y at HY hb HZ
      obtain ⟨hb0, hb1⟩ := hb
      by_cases hq : p ≤ 3600
      · by_cases hs : y + p ≤ 3600
        · have H : Hid (z = y + p) := by show _ = _; have := HZ.out; split at this <;> omega
          clear HZ
          go_enter Try.func10, Try.ntmps10
          go_wp2_with fail
          refine (HS _).mono ?_
          rintro e w1 ⟨rfl, rfl⟩
          go_wp2_with fail
          refine (HY _).mono ?_
          rintro e w1 ⟨rfl, rfl⟩
          go_wp2
          go_ret
          exact ⟨ret_int H.out.symm, rfl⟩
        · have H : Hid (z = 3600) := by show _ = _; have := HZ.out; split at this <;> omega
          clear HZ
          go_enter Try.func10, Try.ntmps10
          go_wp2_with fail
          refine (HS _).mono ?_
          rintro e w1 ⟨rfl, rfl⟩
          go_wp2_with fail
          refine (HY _).mono ?_
          rintro e w1 ⟨rfl, rfl⟩
          go_wp2
          go_ret
          exact ⟨ret_int H.out.symm, rfl⟩
      · have H : Hid (z = 3600) := by show _ = _; have := HZ.out; split at this <;> omega
        clear HZ
        by_cases hy : y = 0
        · subst hy
          go_enter Try.func10, Try.ntmps10
          go_wp2_with fail
          refine (HS _).mono ?_
          rintro e w1 ⟨rfl, rfl⟩
          go_wp2_with fail
          refine (HY _).mono ?_
          rintro e w1 ⟨rfl, rfl⟩
          go_wp2
          go_ret
          exact ⟨ret_int H.out.symm, rfl⟩
        · have hy1 : ¬ y + 3600 ≤ 3600 := by omega
          go_enter Try.func10, Try.ntmps10
          go_wp2_with fail
          refine (HS _).mono ?_
          rintro e w1 ⟨rfl, rfl⟩
          go_wp2_with fail
          refine (HY _).mono ?_
          rintro e w1 ⟨rfl, rfl⟩
          go_wp2
          go_ret
          exact ⟨ret_int H.out.symm, rfl⟩
end Go.Proofs.Ytfflkconbpiflaa
