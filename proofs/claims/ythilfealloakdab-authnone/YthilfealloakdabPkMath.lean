/- Pure: a packet's length, as it tells itself; what of it is summed. -/
import Derived.Test.YthilfealloakdabNumB
import Derived.Test.YthilfealloakdabSumMath
namespace Go.Proofs.Ythilfealloakdab
set_option linter.unusedVariables false

/-- The length that bytes tell. -/
def pTold (rs : List Int) : Int := numOf ((rs.drop 2).take 2)
/-- What Length finds wrong. -/
def pLenE (rs : List Int) : Int :=
  if rs.length < 24 then 10 else if rs.getD 0 0 ≠ 2 then 20 else if ¬ (1 ≤ rs.getD 1 0 ∧ rs.getD 1 0 ≤ 5) then 21 else if ¬ (24 ≤ pTold rs ∧ pTold rs ≤ (rs.length : Int)) then 22 else 0
def pLenN (rs : List Int) : Int := if pLenE rs = 0 then pTold rs else 0
structure PLen (rs : List Int) : Prop where
  l : 24 ≤ rs.length
  v : rs.getD 0 0 = 2
  t : 1 ≤ rs.getD 1 0 ∧ rs.getD 1 0 ≤ 5
  n : 24 ≤ pTold rs ∧ pTold rs ≤ (rs.length : Int)
theorem pLenE_ok {rs : List Int} (h : pLenE rs = 0) : PLen rs := by
  unfold pLenE at h
  by_cases h1 : rs.length < 24
  · rw [if_pos h1] at h; omega
  · rw [if_neg h1] at h
    by_cases h2 : rs.getD 0 0 = 2
    · rw [if_neg (by omega)] at h
      by_cases h3 : 1 ≤ rs.getD 1 0 ∧ rs.getD 1 0 ≤ 5
      · rw [if_neg (by omega)] at h
        by_cases h4 : 24 ≤ pTold rs ∧ pTold rs ≤ (rs.length : Int)
        · exact ⟨by omega, h2, h3, h4⟩
        · rw [if_pos h4] at h; omega
      · rw [if_pos h3] at h; omega
    · rw [if_pos h2] at h; omega
theorem PLen.zero {rs : List Int} (h : PLen rs) : pLenE rs = 0 := by
  unfold pLenE
  rw [if_neg (by have := h.l; omega), if_neg (by have := h.v; omega), if_neg (by have := h.t; omega), if_neg (by have := h.n; omega)]
/-- A packet's bytes without Data. -/
def summedB (rs : List Int) : List Int := rs.take 16 ++ rs.drop 24
/-- Is its sum right? -/
def pRight (rs : List Int) : Bool := decide (pLenE rs = 0) && (fold (W true (summedB (rs.take (pTold rs).toNat))) == 65535)
end Go.Proofs.Ythilfealloakdab
