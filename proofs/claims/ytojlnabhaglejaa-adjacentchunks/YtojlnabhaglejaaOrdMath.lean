
/- Pure: three-way comparison, the years of an age, which of two heads is the newer one; ages in pieces. -/
import Derived.Test.YtojlnabhaglejaaRets
import Derived.Laws.BitsAllLaws
namespace Go.Proofs.Ytojlnabhaglejaa
open Go.RowKit
set_option linter.unusedVariables false
set_option maxRecDepth 100000


def cmpI (x y : Int) : Int := if x < y then -1 else if y < x then 1 else 0
theorem cmpI_lt {x y : Int} (h : x < y) : cmpI x y = -1 := if_pos h
theorem cmpI_gt {x y : Int} (h : y < x) : cmpI x y = 1 := by unfold cmpI; rw [if_neg (by omega), if_pos h]
theorem cmpI_eq (x : Int) : cmpI x x = 0 := by unfold cmpI; rw [if_neg (by omega), if_neg (by omega)]
/-- The years of an age. -/
def yrs (a : Int) : Int := if a % 32768 < 3600 then a % 32768 else 3600
theorem yrs_bound (a : Int) : 0 ≤ yrs a ∧ yrs a ≤ 3600 := by unfold yrs; split <;> omega

/-- Just one is old: which. -/
def aloneI (x y : Int) : Int := if (x = 3600 ↔ y = 3600) then 0 else if x = 3600 then 1 else -1
/-- Years more than 900 apart: which has fewer. -/
def youngI (x y : Int) : Int := if x - y ≤ 900 ∧ y - x ≤ 900 then 0 else cmpI y x
/-- The first that is not nought. -/
def fstI (x y : Int) : Int := if x ≠ 0 then x else y
theorem fstI_ne {x : Int} (y : Int) (h : x ≠ 0) : fstI x y = x := if_pos h
theorem fstI_zero (y : Int) : fstI 0 y = y := if_neg (by omega)

/-- By the numbers, then by the sums, then by the ages. -/
def newI (s m a s' m' a' : Int) : Int := fstI (cmpI s s') (fstI (cmpI m m') (fstI (aloneI (yrs a) (yrs a')) (youngI (yrs a) (yrs a'))))
end Go.Proofs.Ytojlnabhaglejaa
