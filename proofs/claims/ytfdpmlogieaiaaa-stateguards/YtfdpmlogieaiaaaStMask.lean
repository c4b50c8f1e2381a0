/- Contracts: Mask, Bits. -/
import Derived.Test.YtfdpmlogieaiaaaMaskBits
import Derived.Test.YtfdpmlogieaiaaaRets
namespace Go.Proofs.Ytfdpmlogieaiaaa
open Go.RowKit
set_option linter.unusedVariables false
set_option maxRecDepth 100000

theorem mask_eq {n : Int} (h0 : 0 ≤ n) (h1 : n ≤ 32) : 4294967295 * 2 ^ (32 - n).toNat % 4294967296 = pmask n := by
  rw [pmask_le h1]
  show 4294967295 * psz n % 4294967296 = _
  have := psz_pos n; have := psz_le h0
  omega

set_option maxHeartbeats 400000 in
theorem mask_any (n : Int) (w : World) (h0 : 0 ≤ n) :
    Calls Try.prog 95 #[.int .u8 n] w fun e w' => e = .returned (.int .u32 (pmask n)) ∧ w = w' := by
  by_cases h1 : n ≤ 32
  · have hm := mask_eq h0 h1
    have H : Hid (4294967295 * 2 ^ (32 - n).toNat % 4294967296 = pmask n) := hm
    clear hm
    go_enter Try.func95, Try.ntmps95
    go_wp2
    go_ret
    exact ⟨ret_int H.out, rfl⟩
  · have h2 : 32 < n := by omega
    have H : Hid (pmask n = 0) := pmask_gt h2
    clear h1
    go_enter Try.func95, Try.ntmps95
    go_wp2
    go_ret
    exact ⟨ret_int H.out.symm, rfl⟩

set_option maxHeartbeats 400000 in
theorem bits_any (a : Int) (w : World) (h0 : 0 ≤ a) (h1 : a < 4294967296) :
    Calls Try.prog 94 #[.int .u32 a] w fun e w' => e = .returned (.tuple #[.int .u8 (pbn a), .bool (pbok a)]) ∧ w = w' := by
  go_enter Try.func94, Try.ntmps94
  go_wp2
  go_loop [4, 5] (fun n r => ∃ k : Nat, ∃ x : Int, k ≤ 32 ∧ n = .int .u8 k ∧ r = .int .u32 x ∧ 0 ≤ x ∧ x < 4294967296 ∧ Hid (x = a * 2 ^ k % 4294967296) ∧ Hid (∀ j : Nat, j < k → a * 2 ^ j % 4294967296 ≠ 0)) (fun n _ => 32 - (intOf n).toNat)
  case atStart => exact ⟨0, a, by omega, rfl, rfl, h0, h1, (by show a = _; rw [Int.pow_zero]; omega), fun j hj => absurd hj (by omega)⟩
  case round =>
    obtain ⟨k, x, hk, rfl, rfl, hx0, hx1, HX, HL⟩ := hrel
    by_cases hx : x = 0
    · subst hx
      have hp := bits_at hk HX.out.symm HL.out
      by_cases hm : pmask k = a
      · rw [if_pos hm] at hp
        have H := pb_yes hp
        have HH : Hid (pbn a = k ∧ pbok a = true) := H
        have HM : Hid (pmask k = a) := hm
        clear hp H hm
        go_wp2_with (go_at_call 95; refine (mask_any _ _ (by omega)).mono ?_; rintro e w' ⟨rfl, rfl⟩; rw [HM.out])
        go_ret2
        exact ⟨ret_bits HH.out.1.symm HH.out.2.symm, rfl⟩
      · rw [if_neg hm] at hp
        have H := pb_no hp
        have HH : Hid (pbn a = 0 ∧ pbok a = false) := H
        clear hp H
        go_wp2_with (go_at_call 95; refine (mask_any _ _ (by omega)).mono ?_; rintro e w' ⟨rfl, rfl⟩)
        go_ret2
        exact ⟨ret_bits HH.out.1.symm HH.out.2.symm, rfl⟩
    · have hk2 : k < 32 := by
        rcases Nat.lt_or_ge k 32 with h | h
        · exact h
        · exfalso; obtain rfl : k = 32 := by omega
          exact hx (HX.out.trans (shl_32 a))
      go_wp2
      go_round
      case rel => exact ⟨k + 1, x * 2 % 4294967296, by omega, by go_num, rfl, by omega, by omega, (by show _ = _; rw [HX.out, shl_one]), none_next HL.out (fun e => hx (HX.out.trans e))⟩
      case measure => simp [intOf]; omega
end Go.Proofs.Ytfdpmlogieaiaaa
