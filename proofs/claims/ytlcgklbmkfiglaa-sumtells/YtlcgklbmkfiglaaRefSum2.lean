/- The document's side: Sums, Whole, Fletcher. -/
import Derived.Test.YtlcgklbmkfiglaaRefSum
namespace Go.Proofs.Ytlcgklbmkfiglaa
open Go.RowKit
set_option linter.unusedVariables false
set_option maxRecDepth 100000

theorem mul_bound255 {x y : Int} (hx : 0 ≤ x ∧ x ≤ 254) (hy : 0 ≤ y ∧ y ≤ 255) : 0 ≤ x * y ∧ x * y ≤ 64770 := by
  refine ⟨Int.mul_nonneg hx.1 hy.1, ?_⟩
  have h1 : x * y ≤ 254 * y := Int.mul_le_mul_of_nonneg_right hx.2 hy.1
  omega

/-- What Sums reads at a place. -/
structure ZAt (rs Z : List Int) (a : Int) : Prop where
  len : Z.length = rs.length
  out : ∀ j : Nat, j < rs.length → 0 ≤ a → ((j : Int) = a ∨ (j : Int) = a + 1) → Z.getD j 0 = 0
  same : ∀ j : Nat, j < rs.length → (0 ≤ a → (j : Int) ≠ a ∧ (j : Int) ≠ a + 1) → Z.getD j 0 = rs.getD j 0
theorem ZAt.all (rs : List Int) : ZAt rs rs (-1) := ⟨rfl, fun _ _ h => by omega, fun _ _ _ => rfl⟩
theorem ZAt.laid (rs : List Int) (a : Nat) (h : a + 2 ≤ rs.length) : ZAt rs (laid rs a 0 0) a := by
  refine ⟨length_laid _ _ _ _, fun j hj h0 e => ?_, fun j hj e => ?_⟩
  · unfold Ytlcgklbmkfiglaa.laid
    rcases e with e | e
    · obtain rfl : j = a := by omega
      rw [getD_set_ne _ _ _ _ (by omega), getD_set_eq _ _ _ (by omega)]
    · obtain rfl : j = a + 1 := by omega
      rw [getD_set_eq _ _ _ (by simp; omega)]
  · have e := e (by omega)
    unfold Ytlcgklbmkfiglaa.laid
    rw [getD_set_ne _ _ _ _ (by omega), getD_set_ne _ _ _ _ (by omega)]

def SmR (Z : List Int) (n : Nat) (c0 c1 i : Value) : Prop :=
  ∃ (j : Nat) (x y : Int), j ≤ n ∧ i = .int .i64 (j : Int) ∧ c0 = .int .i64 x ∧ c1 = .int .i64 y ∧ 0 ≤ x ∧ x ≤ 254 ∧ 0 ≤ y ∧ y ≤ 254 ∧ Hid (x = S0 (Z.take j) % 255) ∧ Hid (y = C1 (n : Int) (Z.take j) % 255)

theorem sm_zero {Z : List Int} {n j : Nat} {x y : Int} (hn : Z.length = n) (hj : j < n) (hz : Z.getD j 0 = 0) (hx : x = S0 (Z.take j) % 255) (hy : y = C1 (n : Int) (Z.take j) % 255) : x = S0 (Z.take (j + 1)) % 255 ∧ y = C1 (n : Int) (Z.take (j + 1)) % 255 := by
  rw [take_next (by omega), S0_append, C1_append, hz]
  simp only [S0, C1, Int.mul_zero, Int.add_zero]
  exact ⟨hx, hy⟩
theorem sm_next {Z : List Int} {n j : Nat} {x y : Int} (hn : Z.length = n) (hj : j < n) (hx : x = S0 (Z.take j) % 255) (hy : y = C1 (n : Int) (Z.take j) % 255) :
    (x + Z.getD j 0) % 255 = S0 (Z.take (j + 1)) % 255 ∧ (y + ((n : Int) - j) % 255 * Z.getD j 0) % 255 = C1 (n : Int) (Z.take (j + 1)) % 255 := by
  rw [take_next (by omega), S0_append, C1_append]
  simp only [S0, C1, Int.add_zero]
  have hl : ((Z.take j).length : Int) = j := by simp; omega
  rw [hl]
  generalize Z.getD j 0 = z
  refine ⟨by omega, ?_⟩
  obtain ⟨q, hq⟩ : ∃ q, (n : Int) - j = ((n : Int) - j) % 255 + 255 * q := ⟨((n : Int) - j) / 255, by omega⟩
  have e : ((n : Int) - j) * z = ((n : Int) - j) % 255 * z + 255 * (q * z) := by
    rw [hq]
    have : (((n : Int) - j) % 255 + 255 * q) % 255 = ((n : Int) - j) % 255 := by omega
    rw [this]
    grind
  rw [e]
  generalize ((n : Int) - j) % 255 * z = P
  generalize q * z = Q
  omega

set_option maxHeartbeats 1000000 in
theorem rsums_any (v : Value) (rs Z : List Int) (a : Int) (w : World) (hv : ArgAt w v rs) (hby : ∀ x ∈ rs, 0 ≤ x ∧ x < 256) (hl : rs.length ≤ 65536) (hZ : ZAt rs Z a) (ha : a ≤ 65536) (ha' : -1 ≤ a) :
    Calls Try.prog 20 #[v, .int .i64 a] w fun e w' => e = .returned (.tuple #[.int .i64 (S0 Z % 255), .int .i64 (S1 Z % 255)]) ∧ w = w' := by
  obtain ⟨A, hA⟩ : ∃ A, S0 Z % 255 = A := ⟨_, rfl⟩
  obtain ⟨B, hB⟩ : ∃ B, S1 Z % 255 = B := ⟨_, rfl⟩
  have HA : Hid (S0 Z % 255 = A) := hA
  have HB : Hid (S1 Z % 255 = B) := hB
  rw [hA, hB]
  clear hA hB
  have HBy : Hid (∀ x ∈ rs, 0 ≤ x ∧ x < 256) := hby
  have HZ : Hid (ZAt rs Z a) := hZ
  obtain ⟨va, vc, rfl, hm⟩ := hv.form
  unfold maxLen at hm
  have HV : Hid (ArgAt w (.slice va rs.length vc) rs) := hv
  have hl' : (rs.length : Int) ≤ 65536 := by omega
  clear hv hby hZ
  go_enter Try.func20, Try.ntmps20
  go_wp2
  go_loop [6, 7, 8] (fun c0 c1 i => SmR Z rs.length c0 c1 i) (fun _ _ i => rs.length - (intOf i).toNat)
  case atStart => exact ⟨0, 0, 0, Nat.zero_le _, rfl, rfl, rfl, by omega, by omega, by omega, by omega, rfl, rfl⟩
  case round =>
    obtain ⟨j, x, y, hj, rfl, rfl, rfl, hx0, hx1, hy0, hy1, HX, HY⟩ := hrel
    by_cases hlt : j < rs.length
    · have hlt' : (j : Int) < (rs.length : Int) := by omega
      by_cases hat : 0 ≤ a ∧ ((j : Int) = a ∨ (j : Int) = a + 1)
      · obtain ⟨hat0, hat1⟩ := hat
        have hst := sm_zero HZ.out.len hlt (HZ.out.out j hlt hat0 hat1) HX.out HY.out
        have HN : Hid (SmR Z rs.length (.int .i64 x) (.int .i64 y) (.int .i64 ((j : Int) + 1))) := ⟨j + 1, x, y, by omega, by rw [Int.natCast_add]; rfl, rfl, rfl, hx0, hx1, hy0, hy1, hst.1, hst.2⟩
        clear hst
        rcases hat1 with hat1 | hat1
        · have hat2 : ((j : Int) == a) = true := by simp [hat1]
          clear hat1
          go_wp2
          go_round
          case rel => exact HN.out
          case measure => simp [intOf]; omega
        · have hat2 : ((j : Int) == a) = false := by simp; omega
          have hat3 : ((j : Int) == a + 1) = true := by simp [hat1]
          clear hat1
          go_wp2
          go_round
          case rel => exact HN.out
          case measure => simp [intOf]; omega
      · have hr := HV.out.row (by omega)
        obtain ⟨ga, oa, rfl⟩ := rowAt_some hr (by omega)
        have hcx := rowAt_cell hr j hlt
        obtain ⟨hz0, hz1⟩ := getD_byte HBy.out j hlt
        have hst := sm_next HZ.out.len hlt HX.out HY.out
        rw [HZ.out.same j hlt (fun h0 => by omega)] at hst
        revert hcx hz0 hz1 hst
        generalize rs.getD j 0 = z
        intro hcx hz0 hz1 hst
        obtain ⟨hp0, hp1⟩ := mul_bound255 (x := ((rs.length : Int) - j) % 255) (y := z) (by omega) (by omega)
        have HN : Hid (SmR Z rs.length (.int .i64 ((x + z) % 255)) (.int .i64 ((y + ((rs.length : Int) - j) % 255 * z) % 255)) (.int .i64 ((j : Int) + 1))) := ⟨j + 1, _, _, by omega, by rw [Int.natCast_add]; rfl, rfl, rfl, by omega, by omega, by omega, by omega, hst.1, hst.2⟩
        clear hst hr
        by_cases h0 : 0 ≤ a
        · have hat2 : ((j : Int) == a) = false := by simp; omega
          have hat3 : ((j : Int) == a + 1) = false := by simp; omega
          clear hat
          go_wp2
          go_round
          case rel => exact HN.out
          case measure => simp [intOf]; omega
        · have h0' : decide (0 ≤ a) = false := by simpa using h0
          clear hat
          go_wp2
          go_round
          case rel => exact HN.out
          case measure => simp [intOf]; omega
    · obtain rfl : j = rs.length := by omega
      have hq : ¬ (rs.length : Int) < (rs.length : Int) := by omega
      have hlen := HZ.out.len
      have HXA : Hid (x = A) := by show _ = _; rw [HX.out, ← HA.out, List.take_of_length_le (by omega)]
      have HYB : Hid (y = B) := by show _ = _; rw [HY.out, ← HB.out, List.take_of_length_le (by omega), ← hlen]; rfl
      clear hlen
      go_wp2
      go_ret2
      rw [HXA.out, HYB.out]
      exact ⟨rfl, rfl⟩
end Go.Proofs.Ytlcgklbmkfiglaa
