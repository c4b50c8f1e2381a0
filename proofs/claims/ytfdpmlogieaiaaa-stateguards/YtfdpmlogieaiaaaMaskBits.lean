/- Pure: of how many bits a number is the mask. -/
import Derived.Test.YtfdpmlogieaiaaaPreMath
namespace Go.Proofs.Ytfdpmlogieaiaaa
open Go.RowKit
set_option linter.unusedVariables false
set_option maxRecDepth 100000

/-- Of how many bits it is the mask. -/
def pfind (a : Int) : Option Nat := (List.range 33).find? fun n => pmask n == a
def pbn (a : Int) : Int := (((pfind a).getD 0 : Nat) : Int)
def pbok (a : Int) : Bool := (pfind a).isSome

theorem pmask_inj {j k : Nat} (hj : j ≤ 32) (hk : k ≤ 32) (h : pmask j = pmask k) : j = k := by
  rw [pmask_le (by omega), pmask_le (by omega)] at h
  rcases Nat.lt_trichotomy j k with h' | h' | h'
  · have := psz_lt (n := j) (m := k) (by omega) (by omega); omega
  · exact h'
  · have := psz_lt (n := k) (m := j) (by omega) (by omega); omega
theorem pfind_some {a : Int} {k : Nat} (hk : k ≤ 32) (h : pmask k = a) : pfind a = some k := by
  unfold pfind
  rw [List.find?_range_eq_some]
  refine ⟨by simp [h], by simp; omega, fun j hj => ?_⟩
  simp
  intro e
  have := pmask_inj (j := j) (k := k) (by omega) hk (by rw [e, h])
  omega
theorem pfind_none {a : Int} (h : ∀ k : Nat, k ≤ 32 → pmask k ≠ a) : pfind a = none := by
  unfold pfind
  rw [List.find?_eq_none]
  intro k hk
  simp at hk ⊢
  exact h k (by omega)

theorem shl_one (a : Int) (k : Nat) : a * 2 ^ k % 4294967296 * 2 % 4294967296 = a * 2 ^ (k + 1) % 4294967296 := by
  rw [Int.pow_succ, ← Int.mul_assoc]
  omega
theorem shl_32 (a : Int) : a * 2 ^ 32 % 4294967296 = 0 := by
  have e : (2 : Int) ^ 32 = 4294967296 := by decide
  rw [e]; omega

/-- The least shift that leaves nothing. -/
theorem pmask_shift {j k : Nat} (hj : j ≤ 32) : pmask j * 2 ^ k % 4294967296 = 0 ↔ j ≤ k := by
  rw [pmask_le (by omega), Int.sub_mul]
  have e : psz j * 2 ^ k = 2 ^ (32 - j + k) := by
    unfold psz
    rw [← Int.pow_add]
    congr 1; omega
  rw [e]
  constructor
  · intro h
    rcases Nat.lt_or_ge k j with h' | h'
    · have h1 : (2 : Int) ^ (32 - j + k) = ((2 ^ (32 - j + k) : Nat) : Int) := (Int.natCast_pow 2 _).symm
      have h2 : 2 ^ (32 - j + k) < 2 ^ 32 := Nat.pow_lt_pow_right (by omega) (by omega)
      have h3 : 0 < 2 ^ (32 - j + k) := Nat.two_pow_pos _
      have h4 : (2 : Nat) ^ 32 = 4294967296 := by decide
      rw [h1] at h
      omega
    · exact h'
  · intro h
    have h1 : (2 : Int) ^ (32 - j + k) = 4294967296 * 2 ^ (k - j) := by
      have e : (4294967296 : Int) = 2 ^ 32 := by decide
      rw [e, ← Int.pow_add]; congr 1; omega
    rw [h1, ← Int.mul_sub]
    exact Int.mul_emod_right _ _

theorem bits_at {a : Int} {k : Nat} (hk : k ≤ 32) (h0 : a * 2 ^ k % 4294967296 = 0) (hl : ∀ j : Nat, j < k → a * 2 ^ j % 4294967296 ≠ 0) : pfind a = if pmask k = a then some k else none := by
  split
  · rename_i h; exact pfind_some hk h
  · rename_i h
    refine pfind_none fun j hj e => h ?_
    have h1 : j ≤ k := (pmask_shift hj).1 (by rw [e]; exact h0)
    rcases Nat.lt_or_ge j k with h2 | h2
    · exact absurd ((pmask_shift (k := j) hj).2 (Nat.le_refl _)) (by rw [e]; exact hl j h2)
    · obtain rfl : j = k := by omega
      exact e

theorem none_next {p : Nat → Prop} {k : Nat} (h : ∀ j : Nat, j < k → ¬ p j) (hk : ¬ p k) : ∀ j : Nat, j < k + 1 → ¬ p j := by
  intro j hj
  rcases Nat.lt_or_ge j k with h' | h'
  · exact h j h'
  · obtain rfl : j = k := by omega
    exact hk

theorem pb_yes {a : Int} {k : Nat} (h : pfind a = some k) : pbn a = k ∧ pbok a = true := by simp [pbn, pbok, h]
theorem pb_no {a : Int} (h : pfind a = none) : pbn a = 0 ∧ pbok a = false := by simp [pbn, pbok, h]

end Go.Proofs.Ytfdpmlogieaiaaa
