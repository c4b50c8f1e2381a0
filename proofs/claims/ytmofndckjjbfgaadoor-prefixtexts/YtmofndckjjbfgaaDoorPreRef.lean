/- The document's answer, bit by bit: masks, bits, being a prefix, having. -/
import Derived.Test.YtmofndckjjbfgaaDoorPreBits
import Derived.Test.YtmofndckjjbfgaaDoorPreAft
namespace Go.Proofs.YtmofndckjjbfgaaDoor
open Go.RowKit
set_option linter.unusedVariables false
set_option maxRecDepth 100000

theorem psz_succ {k : Int} (h1 : k ≤ 31) : psz k = 2 * psz (k + 1) := by
  rw [psz_add (n := k) (m := k + 1) (by omega) (by omega), show (k + 1 - k).toNat = 1 by omega, Int.pow_succ, Int.pow_zero]; omega
theorem psz_bit {k : Int} : (2 : Int) ^ (31 - k).toNat = psz (k + 1) := by unfold psz; congr 2; omega

theorem mask_step {k : Nat} (hk : k ≤ 31) : bits .or .u32 (pmask k) (2 ^ (31 - k) % 4294967296) = pmask ((k : Int) + 1) := by
  have hp : (2 : Nat) ^ (31 - k) < 4294967296 := Nat.lt_of_le_of_lt (Nat.pow_le_pow_right (by omega) (by omega : 31 - k ≤ 31)) (by decide)
  have e2 : (2 : Int) ^ (31 - k) = ((2 ^ (31 - k) : Nat) : Int) := (Int.natCast_pow 2 _).symm
  have hq : (2 : Nat) ^ (32 - k) = 2 * 2 ^ (31 - k) := by rw [show 32 - k = (31 - k) + 1 by omega, Nat.pow_succ]; omega
  have hq2 : (2 : Nat) ^ (32 - k) ≤ 4294967296 := Nat.le_trans (Nat.pow_le_pow_right (by omega) (by omega : 32 - k ≤ 32)) (by decide)
  have hpos : 0 < (2 : Nat) ^ (31 - k) := Nat.two_pow_pos _
  have z1 : psz k = ((2 ^ (32 - k) : Nat) : Int) := by rw [psz_nat]; congr 3; omega
  have z2 : psz ((k : Int) + 1) = ((2 ^ (31 - k) : Nat) : Int) := by rw [psz_nat]; congr 3; omega
  have hdv : (4294967296 - 2 ^ (32 - k)) % 2 ^ (32 - k) = 0 := by
    have hd : 2 ^ (32 - k) ∣ 4294967296 := ⟨2 ^ k, by rw [← Nat.pow_add, show 32 - k + k = 32 by omega]⟩
    obtain ⟨c, hc⟩ := hd
    rw [hc]
    rw [show 2 ^ (32 - k) * c - 2 ^ (32 - k) = 2 ^ (32 - k) * (c - 1) by rw [Nat.mul_sub]; omega]
    exact Nat.mul_mod_right _ _
  rw [pmask_le (by omega), pmask_le (by omega), z1, z2, e2]
  rw [show ((2 ^ (31 - k) : Nat) : Int) % 4294967296 = ((2 ^ (31 - k) : Nat) : Int) by omega]
  rw [show (4294967296 - ((2 ^ (32 - k) : Nat) : Int)) = ((4294967296 - 2 ^ (32 - k) : Nat) : Int) by omega]
  rw [u32_or_nat _ _ (by omega) (by omega), nat_join (32 - k) _ _ hdv (by omega)]
  omega

set_option maxHeartbeats 400000 in
theorem rmask_any (n : Int) (w : World) (h0 : 0 ≤ n) :
    Calls Tryd.prog 12 #[.int .u8 n] w fun e w' => e = .returned (.int .u32 (pmask n)) ∧ w = w' := by
  by_cases h1 : n ≤ 32
  · obtain ⟨N, rfl⟩ : ∃ N : Nat, n = N := ⟨n.toNat, by omega⟩
    go_enter Tryd.func12, Tryd.ntmps12
    go_wp2
    go_loop [3, 4] (fun m i => ∃ k : Nat, k ≤ N ∧ i = .int .u8 (k : Int) ∧ m = .int .u32 (pmask k)) (fun _ i => N - (intOf i).toNat)
    case atStart => exact ⟨0, by omega, rfl, rfl⟩
    case round =>
      obtain ⟨k, hk, rfl, rfl⟩ := hrel
      by_cases hlt : k < N
      · have hs := mask_step (k := k) (by omega)
        have HS : Hid _ := hs
        clear hs
        have hlt' : (k : Int) < (N : Int) := by omega
        go_wp2
        go_round
        case rel => exact ⟨k + 1, by omega, by go_num, by rw [HS.out]; rfl⟩
        case measure => simp [intOf]; omega
      · obtain rfl : k = N := by omega
        have hlt' : ¬ (k : Int) < (k : Int) := by omega
        go_wp2
        go_ret
        exact ⟨rfl, rfl⟩
  · have H : Hid (pmask n = 0) := pmask_gt (by omega)
    go_enter Tryd.func12, Tryd.ntmps12
    go_wp2
    go_rounds 1
    go_ret
    exact ⟨ret_int H.out.symm, rfl⟩

set_option maxHeartbeats 400000 in
theorem rbits_any (a : Int) (w : World) :
    Calls Tryd.prog 8 #[.int .u32 a] w fun e w' => e = .returned (.tuple #[.int .u8 (pbn a), .bool (pbok a)]) ∧ w = w' := by
  go_enter Tryd.func8, Tryd.ntmps8
  go_wp2
  go_loop [4] (fun i => ∃ k : Nat, k ≤ 33 ∧ i = .int .u8 (k : Int) ∧ Hid (∀ j : Nat, j < k → pmask j ≠ a)) (fun i => 33 - (intOf i).toNat)
  case atStart => exact ⟨0, by omega, rfl, fun j hj => absurd hj (by omega)⟩
  case round =>
    obtain ⟨k, hk, rfl, HL⟩ := hrel
    by_cases hlt : k ≤ 32
    · have hlt' : (k : Int) ≤ 32 := by omega
      by_cases hm : pmask k = a
      · have HH : Hid (pbn a = k ∧ pbok a = true) := pb_yes (pfind_some hlt hm)
        have HM : Hid _ := hm
        clear hm
        go_wp2_with (go_at_call 12; refine (rmask_any _ _ (by omega)).mono ?_; rintro e w' ⟨rfl, rfl⟩; rw [HM.out])
        go_ret2
        exact ⟨ret_bits HH.out.1.symm HH.out.2.symm, rfl⟩
      · go_wp2_with (go_at_call 12; refine (rmask_any _ _ (by omega)).mono ?_; rintro e w' ⟨rfl, rfl⟩)
        go_round
        case rel => exact ⟨k + 1, by omega, by go_num, none_next HL.out hm⟩
        case measure => simp [intOf]; omega
    · obtain rfl : k = 33 := by omega
      have HH : Hid (pbn a = 0 ∧ pbok a = false) := pb_no (pfind_none fun j hj => HL.out j (by omega))
      go_wp2
      go_ret2
      exact ⟨ret_bits HH.out.1.symm HH.out.2.symm, rfl⟩

set_option maxHeartbeats 400000 in
theorem rmake_le (a n : Int) (w : World) (h0 : 0 ≤ n) (h1 : n ≤ 32) (ha0 : 0 ≤ a) (ha1 : a < 4294967296) :
    Calls Tryd.prog 10 #[.int .u32 a, .int .u8 n] w fun e w' => e = .returned (.tuple #[.agg #[.int .u32 (pcut a n), .int .u8 n], .int .i64 0]) ∧ Gr w w' := by
  have H : Hid (bits .and .u32 a (pmask n) = pcut a n) := and_mask ha0 ha1 h0 h1
  go_enter Tryd.func10, Tryd.ntmps10
  go_wp2_with (go_at_call 12; refine (rmask_any _ _ h0).mono ?_; rintro e w' ⟨rfl, rfl⟩)
  refine bodyPost_ret (v := .tuple #[.agg #[.int .u32 (bits .and .u32 a (pmask n)), .int .u8 n], .int .i64 0]) (by simp [results, Tryd.results10, go_sem]) rfl ⟨by rw [H.out], ?_⟩
  exact Gr.one _ _
set_option maxHeartbeats 400000 in
theorem rmake_gt (a n : Int) (w : World) (h1 : 32 < n) :
    Calls Tryd.prog 10 #[.int .u32 a, .int .u8 n] w fun e w' => e = .returned (.tuple #[.agg #[.int .u32 0, .int .u8 0], .int .i64 12]) ∧ Gr w w' := by
  go_enter Tryd.func10, Tryd.ntmps10
  go_wp2
  refine bodyPost_ret (v := .tuple #[.agg #[.int .u32 0, .int .u8 0], .int .i64 12]) (by simp [results, Tryd.results10, go_sem]) rfl ⟨rfl, ?_⟩
  exact Gr.one _ _

/-- The bit number i, from the highest on. -/
def pbit (a i : Int) : Int := a / psz (i + 1) % 2
theorem pbit_bd (a i : Int) : 0 ≤ pbit a i ∧ pbit a i < 2 := by unfold pbit; omega
set_option maxHeartbeats 400000 in
theorem bit_any (a i : Int) (w : World) (h0 : 0 ≤ i) (h1 : i ≤ 31) (ha : 0 ≤ a) (hb : a < 4294967296) :
    Calls Tryd.prog 38 #[.int .u32 a, .int .u8 i] w fun e w' => e = .returned (.int .u32 (pbit a i)) ∧ w = w' := by
  have H : Hid (bits .and .u32 (a / 2 ^ (31 - i).toNat) 1 = pbit a i) := by
    show _ = _
    unfold pbit
    rw [psz_bit]
    have hp := psz_pos (i + 1)
    have h2 : 0 ≤ a / psz (i + 1) := Int.ediv_nonneg ha (by omega)
    have h3 : a / psz (i + 1) ≤ a := Int.ediv_le_self _ ha
    rw [u32_and _ _ h2 (by omega) (by omega) (by omega), show (1 : Int).toNat = 1 from rfl, nat_mask1]
    omega
  go_enter Tryd.func38, Tryd.ntmps38
  go_wp2
  go_ret
  exact ⟨ret_int H.out, rfl⟩
end Go.Proofs.YtmofndckjjbfgaaDoor
