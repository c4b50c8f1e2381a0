
/- Pure: three-way comparison, the years of an age, which of two heads is the newer one; ages in pieces. -/
import Derived.Test.YtdfacfpjhnohcaaRets
import Derived.Laws.BitsAllLaws
namespace Go.Proofs.Ytdfacfpjhnohcaa
open Go.RowKit
set_option linter.unusedVariables false
set_option maxRecDepth 100000


def cmpI (x y : Int) : Int := if x < y then -1 else if y < x then 1 else 0
theorem cmpI_lt {x y : Int} (h : x < y) : cmpI x y = -1 := if_pos h
theorem cmpI_gt {x y : Int} (h : y < x) : cmpI x y = 1 := by unfold cmpI; rw [if_neg (by omega), if_pos h]
theorem cmpI_eq (x : Int) : cmpI x x = 0 := by unfold cmpI; rw [if_neg (by omega), if_neg (by omega)]
theorem cmpI_zero {x y : Int} (h : cmpI x y = 0) : x = y := by
  unfold cmpI at h
  split at h
  · omega
  · split at h <;> omega
theorem cmpI_ne {x y : Int} (h : x ≠ y) : cmpI x y ≠ 0 := fun e => h (cmpI_zero e)
theorem cmpI_one {x y : Int} (h : cmpI x y = 1) : y < x := by
  unfold cmpI at h
  split at h
  · omega
  · split at h <;> omega
theorem cmpI_turn (x y : Int) : cmpI x y = - cmpI y x := by unfold cmpI; split <;> split <;> omega
theorem cmpI_range (x y : Int) : -1 ≤ cmpI x y ∧ cmpI x y ≤ 1 := by unfold cmpI; split <;> (try split) <;> omega

/-- The years of an age. -/
def yrs (a : Int) : Int := if a % 32768 < 3600 then a % 32768 else 3600
theorem yrs_lt {a : Int} (h : a % 32768 < 3600) : yrs a = a % 32768 := if_pos h
theorem yrs_ge {a : Int} (h : ¬ a % 32768 < 3600) : yrs a = 3600 := if_neg h
theorem yrs_bound (a : Int) : 0 ≤ yrs a ∧ yrs a ≤ 3600 := by unfold yrs; split <;> omega

/-- Just one is old: which. -/
def aloneI (x y : Int) : Int := if (x = 3600 ↔ y = 3600) then 0 else if x = 3600 then 1 else -1
/-- Years more than 900 apart: which has fewer. -/
def youngI (x y : Int) : Int := if x - y ≤ 900 ∧ y - x ≤ 900 then 0 else cmpI y x
/-- The first that is not nought. -/
def fstI (x y : Int) : Int := if x ≠ 0 then x else y
theorem fstI_ne {x : Int} (y : Int) (h : x ≠ 0) : fstI x y = x := if_pos h
theorem fstI_zero (y : Int) : fstI 0 y = y := if_neg (by omega)

theorem aloneI_turn (x y : Int) : aloneI x y = - aloneI y x := by unfold aloneI; split <;> split <;> (try split) <;> (try split) <;> omega
theorem youngI_turn (x y : Int) : youngI x y = - youngI y x := by
  unfold youngI
  split <;> split
  · omega
  · omega
  · omega
  · exact cmpI_turn y x
theorem fstI_turn {x y x' y' : Int} (h : x = - x') (k : y = - y') : fstI x y = - fstI x' y' := by
  unfold fstI
  split <;> split <;> omega

/-- By the numbers, then by the sums, then by the ages. -/
def newI (s m a s' m' a' : Int) : Int := fstI (cmpI s s') (fstI (cmpI m m') (fstI (aloneI (yrs a) (yrs a')) (youngI (yrs a) (yrs a'))))
theorem newI_turn (s m a s' m' a' : Int) : newI s m a s' m' a' = - newI s' m' a' s m a :=
  fstI_turn (cmpI_turn _ _) (fstI_turn (cmpI_turn _ _) (fstI_turn (aloneI_turn _ _) (youngI_turn _ _)))
theorem newI_self (s m a : Int) : newI s m a s m a = 0 := by have := newI_turn s m a s m a; omega
theorem newI_seq {s s' : Int} (h : s' < s) (m a m' a' : Int) : newI s m a s' m' a' = 1 := by
  unfold newI; rw [cmpI_gt h]; rfl
theorem newI_sum {s m m' : Int} (h : m' < m) (a a' : Int) : newI s m a s m' a' = 1 := by
  unfold newI; rw [cmpI_eq, fstI_zero, cmpI_gt h]; rfl
/-- Of equal numbers: who is newer has no lesser sum. -/
theorem newI_le {s m m' a a' : Int} (h : newI s m a s m' a' = 1) : m' ≤ m := by
  unfold newI at h
  rw [cmpI_eq, fstI_zero] at h
  rcases Int.lt_trichotomy m m' with g | g | g
  · rw [cmpI_lt g, fstI_ne _ (by omega)] at h; omega
  · omega
  · omega
theorem newI_three {s m a m1 a1 m2 a2 : Int} (h : newI s m a s m1 a1 = 1) (h1 : newI s m1 a1 s m2 a2 = 1) (hm : m ≠ m1) : newI s m a s m2 a2 = 1 := by
  have := newI_le h
  have := newI_le h1
  exact newI_sum (by omega) a a2
/-- Made old: newer than what it was, unless that was old. -/
theorem newI_old (s m a : Int) : newI s m 3600 s m a = if yrs a = 3600 then 0 else 1 := by
  have e : yrs 3600 = 3600 := rfl
  unfold newI
  rw [cmpI_eq, fstI_zero, cmpI_eq, fstI_zero, e]
  split
  · rename_i h
    rw [h]; rfl
  · rename_i h
    have : aloneI 3600 (yrs a) = 1 := by unfold aloneI; rw [if_neg (by omega), if_pos rfl]
    rw [this]; rfl

/-- An age when so many ticks have passed. -/
def ageI (a p : Int) : Int := if 32768 ≤ a ∨ p < 1 then a else if yrs a + p < 3600 then yrs a + p else 3600
theorem ageI_bound {a p : Int} (h0 : 0 ≤ a) (h : a < 65536) : 0 ≤ ageI a p ∧ ageI a p < 65536 := by
  have := yrs_bound a
  unfold ageI
  split
  · omega
  · split <;> omega
theorem ageI_two {a p q : Int} (h0 : 0 ≤ a) (h : a < 65536) (hp : 0 ≤ p) (hq : 0 ≤ q) : ageI a (p + q) = ageI (ageI a p) q := by
  have hy := yrs_bound a
  by_cases h1 : 32768 ≤ a
  · have e : ∀ r, ageI a r = a := fun r => if_pos (Or.inl h1)
    rw [e, e, e]
  · by_cases h2 : p < 1
    · have e : ageI a p = a := if_pos (Or.inr h2)
      have : p = 0 := by omega
      subst this
      rw [e, Int.zero_add]
    · have hA : ageI a p = if yrs a + p < 3600 then yrs a + p else 3600 := if_neg (by omega)
      have hB : ageI a (p + q) = if yrs a + (p + q) < 3600 then yrs a + (p + q) else 3600 := if_neg (by omega)
      rw [hA, hB]
      by_cases h3 : yrs a + p < 3600
      · rw [if_pos h3]
        have e : yrs (yrs a + p) = yrs a + p := by
          have : (yrs a + p) % 32768 = yrs a + p := by omega
          rw [yrs_lt (by omega), this]
        by_cases h4 : q < 1
        · have : ageI (yrs a + p) q = yrs a + p := if_pos (Or.inr h4)
          rw [this, if_pos (by omega)]
          omega
        · have : ageI (yrs a + p) q = if yrs (yrs a + p) + q < 3600 then yrs (yrs a + p) + q else 3600 := if_neg (by omega)
          rw [this, e]
          split <;> split <;> omega
      · rw [if_neg h3, if_neg (by omega)]
        by_cases h4 : q < 1
        · exact (if_pos (Or.inr h4)).symm
        · have : ageI 3600 q = if yrs 3600 + q < 3600 then yrs 3600 + q else 3600 := if_neg (by omega)
          rw [this, if_neg (by have : yrs 3600 = 3600 := rfl; omega)]
theorem ageI_old {a p : Int} (h : yrs a = 3600) : yrs (ageI a p) = 3600 := by
  unfold ageI
  split
  · exact h
  · rw [if_neg (by omega)]; rfl

/-- Keys: by the kind, then the ID, then who says it. -/
def keyI (t i a t' i' a' : Int) : Int := fstI (cmpI t t') (fstI (cmpI i i') (cmpI a a'))
end Go.Proofs.Ytdfacfpjhnohcaa
