/- prefix.Bits: of how many bits a number is the mask. -/
import Derived.Test.YtmofndckjjbfgaaDoorPreCode
namespace Go.Proofs.YtmofndckjjbfgaaDoor
open Go.RowKit
set_option linter.unusedVariables false
set_option maxRecDepth 100000

/-- Of how many bits it is the mask. -/
def pfind (a : Int) : Option Nat := (List.range 33).find? fun n => pmask n == a
def pbn (a : Int) : Int := (((pfind a).getD 0 : Nat) : Int)
def pbok (a : Int) : Bool := (pfind a).isSome

theorem pmask_inj {j k : Nat} (hj : j ≤ 32) (hk : k ≤ 32) (h : pmask j = pmask k) : j = k := by
  rw [pmask_le (by omega), pmask_le (by omega)] at h
  rcases Nat.lt_trichotomy j k with h' | h' | h'
  · have := psz_lt (n := j) (m := k) (by omega) (by omega); omega
  · exact h'
  · have := psz_lt (n := k) (m := j) (by omega) (by omega); omega
theorem pfind_some {a : Int} {k : Nat} (hk : k ≤ 32) (h : pmask k = a) : pfind a = some k := by
  unfold pfind
  rw [List.find?_range_eq_some]
  refine ⟨by simp [h], by simp; omega, fun j hj => ?_⟩
  simp
  intro e
  have := pmask_inj (j := j) (k := k) (by omega) hk (by rw [e, h])
  omega
theorem pfind_none {a : Int} (h : ∀ k : Nat, k ≤ 32 → pmask k ≠ a) : pfind a = none := by
  unfold pfind
  rw [List.find?_eq_none]
  intro k hk
  simp at hk ⊢
  exact h k (by omega)

theorem shl_one (a : Int) (k : Nat) : a * 2 ^ k % 4294967296 * 2 % 4294967296 = a * 2 ^ (k + 1) % 4294967296 := by
  rw [Int.pow_succ, ← Int.mul_assoc]
  omega
theorem shl_32 (a : Int) : a * 2 ^ 32 % 4294967296 = 0 := by
  have e : (2 : Int) ^ 32 = 4294967296 := by decide
  rw [e]; omega

/-- The least shift that leaves nothing. -/
theorem pmask_shift {j k : Nat} (hj : j ≤ 32) : pmask j * 2 ^ k % 4294967296 = 0 ↔ j ≤ k := by
  rw [pmask_le (by omega), Int.sub_mul]
  have e : psz j * 2 ^ k = 2 ^ (32 - j + k) := by
    unfold psz
    rw [← Int.pow_add]
    congr 1; omega
  rw [e]
  constructor
  · intro h
    rcases Nat.lt_or_ge k j with h' | h'
    · have h1 : (2 : Int) ^ (32 - j + k) = ((2 ^ (32 - j + k) : Nat) : Int) := (Int.natCast_pow 2 _).symm
      have h2 : 2 ^ (32 - j + k) < 2 ^ 32 := Nat.pow_lt_pow_right (by omega) (by omega)
      have h3 : 0 < 2 ^ (32 - j + k) := Nat.two_pow_pos _
      have h4 : (2 : Nat) ^ 32 = 4294967296 := by decide
      rw [h1] at h
      omega
    · exact h'
  · intro h
    have h1 : (2 : Int) ^ (32 - j + k) = 4294967296 * 2 ^ (k - j) := by
      have e : (4294967296 : Int) = 2 ^ 32 := by decide
      rw [e, ← Int.pow_add]; congr 1; omega
    rw [h1, ← Int.mul_sub]
    exact Int.mul_emod_right _ _

theorem bits_at {a : Int} {k : Nat} (hk : k ≤ 32) (h0 : a * 2 ^ k % 4294967296 = 0) (hl : ∀ j : Nat, j < k → a * 2 ^ j % 4294967296 ≠ 0) : pfind a = if pmask k = a then some k else none := by
  split
  · rename_i h; exact pfind_some hk h
  · rename_i h
    refine pfind_none fun j hj e => h ?_
    have h1 : j ≤ k := (pmask_shift hj).1 (by rw [e]; exact h0)
    rcases Nat.lt_or_ge j k with h2 | h2
    · exact absurd ((pmask_shift (k := j) hj).2 (Nat.le_refl _)) (by rw [e]; exact hl j h2)
    · obtain rfl : j = k := by omega
      exact e

theorem none_next {p : Nat → Prop} {k : Nat} (h : ∀ j : Nat, j < k → ¬ p j) (hk : ¬ p k) : ∀ j : Nat, j < k + 1 → ¬ p j := by
  intro j hj
  rcases Nat.lt_or_ge j k with h' | h'
  · exact h j h'
  · obtain rfl : j = k := by omega
    exact hk

theorem pb_yes {a : Int} {k : Nat} (h : pfind a = some k) : pbn a = k ∧ pbok a = true := by simp [pbn, pbok, h]
theorem pb_no {a : Int} (h : pfind a = none) : pbn a = 0 ∧ pbok a = false := by simp [pbn, pbok, h]
theorem ret_bits {a b : Int} {c d : Bool} (h : a = b) (h' : c = d) : Ending.returned (.tuple #[.int .u8 a, .bool c]) = .returned (.tuple #[.int .u8 b, .bool d]) := by rw [h, h']

set_option maxHeartbeats 400000 in
theorem bits_any (a : Int) (w : World) (h0 : 0 ≤ a) (h1 : a < 4294967296) :
    Calls Tryd.prog 7 #[.int .u32 a] w fun e w' => e = .returned (.tuple #[.int .u8 (pbn a), .bool (pbok a)]) ∧ w = w' := by
  go_enter Tryd.func7, Tryd.ntmps7
  go_wp2
  go_loop [4, 5] (fun n r => ∃ k : Nat, ∃ x : Int, k ≤ 32 ∧ n = .int .u8 k ∧ r = .int .u32 x ∧ 0 ≤ x ∧ x < 4294967296 ∧ Hid (x = a * 2 ^ k % 4294967296) ∧ Hid (∀ j : Nat, j < k → a * 2 ^ j % 4294967296 ≠ 0)) (fun n _ => 32 - (intOf n).toNat)
  case atStart => exact ⟨0, a, by omega, rfl, rfl, h0, h1, (by show a = _; rw [Int.pow_zero]; omega), fun j hj => absurd hj (by omega)⟩
  case round =>
    obtain ⟨k, x, hk, rfl, rfl, hx0, hx1, HX, HL⟩ := hrel
    by_cases hx : x = 0
    · subst hx
      have hp := bits_at hk HX.out.symm HL.out
      by_cases hm : pmask k = a
      · rw [if_pos hm] at hp
        have H := pb_yes hp
        have HH : Hid (pbn a = k ∧ pbok a = true) := H
        have HM : Hid (pmask k = a) := hm
        clear hp H hm
        go_wp2_with (go_at_call 11; refine (mask_any _ _ (by omega)).mono ?_; rintro e w' ⟨rfl, rfl⟩; rw [HM.out])
        go_ret2
        exact ⟨ret_bits HH.out.1.symm HH.out.2.symm, rfl⟩
      · rw [if_neg hm] at hp
        have H := pb_no hp
        have HH : Hid (pbn a = 0 ∧ pbok a = false) := H
        clear hp H
        go_wp2_with (go_at_call 11; refine (mask_any _ _ (by omega)).mono ?_; rintro e w' ⟨rfl, rfl⟩)
        go_ret2
        exact ⟨ret_bits HH.out.1.symm HH.out.2.symm, rfl⟩
    · have hk2 : k < 32 := by
        rcases Nat.lt_or_ge k 32 with h | h
        · exact h
        · exfalso; obtain rfl : k = 32 := by omega
          exact hx (HX.out.trans (shl_32 a))
      go_wp2
      go_round
      case rel => exact ⟨k + 1, x * 2 % 4294967296, by omega, by go_num, rfl, by omega, by omega, (by show _ = _; rw [HX.out, shl_one]), none_next HL.out (fun e => hx (HX.out.trans e))⟩
      case measure => simp [intOf]; omega
end Go.Proofs.YtmofndckjjbfgaaDoor
