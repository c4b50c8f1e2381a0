/- Plain texts: cutting at a byte, numbers in tens, rows of numbers. No program in it. -/
import Derived.Test.YtmofndckjjbfgaaDoorPreMath
import Derived.Lib.IndexLaws
import Derived.Lib.ItoaNum
import Derived.Lib.Strings
namespace Go.Proofs.YtmofndckjjbfgaaDoor
set_option linter.unusedVariables false

/-- What is ahead of the first c, what is behind it, and whether there is one. -/
def cutL (c : UInt8) : List UInt8 → List UInt8 × List UInt8 × Bool
  | [] => ([], [], false)
  | x :: l => if x = c then ([], l, true) else (x :: (cutL c l).1, (cutL c l).2.1, (cutL c l).2.2)

theorem cutL_hit {c : UInt8} : ∀ {l : List UInt8} {o : Nat}, l[o]? = some c → (∀ k, k < o → l[k]? ≠ some c) → cutL c l = (l.take o, l.drop (o + 1), true)
  | [], o, h, _ => by simp at h
  | x :: l, 0, h, _ => by
    have : x = c := by simpa using h
    simp [cutL, this]
  | x :: l, o + 1, h, hn => by
    have hx : ¬ x = c := by
      have := hn 0 (by omega)
      simpa using this
    have ih := cutL_hit (c := c) (l := l) (o := o) (by simpa using h) (fun k hk => by have := hn (k + 1) (by omega); simpa using this)
    simp [cutL, hx, ih]
theorem cutL_miss {c : UInt8} : ∀ {l : List UInt8}, (∀ k : Nat, l[k]? ≠ some c) → cutL c l = (l, [], false)
  | [], _ => rfl
  | x :: l, h => by
    have hx : ¬ x = c := by have := h 0; simpa using this
    have ih := cutL_miss (c := c) (l := l) (fun k => by have := h (k + 1); simpa using this)
    simp [cutL, hx, ih]
theorem cutL_no {c : UInt8} : ∀ {l : List UInt8}, (cutL c l).2.2 = false → cutL c l = (l, [], false) ∧ c ∉ l
  | [], _ => ⟨rfl, by simp⟩
  | x :: l, h => by
    by_cases hx : x = c
    · simp [cutL, hx] at h
    · have ih := cutL_no (c := c) (l := l) (by simpa [cutL, hx] using h)
      refine ⟨by simp [cutL, hx, ih.1], ?_⟩
      simp [ih.2]; exact fun e => hx e.symm
theorem cutL_yes {c : UInt8} : ∀ {l : List UInt8}, (cutL c l).2.2 = true → l = (cutL c l).1 ++ c :: (cutL c l).2.1 ∧ c ∉ (cutL c l).1
  | [], h => by simp [cutL] at h
  | x :: l, h => by
    by_cases hx : x = c
    · simp [cutL, hx]
    · have ih := cutL_yes (c := c) (l := l) (by simpa [cutL, hx] using h)
      simp only [cutL, hx, if_false]
      refine ⟨by simp only [List.cons_append]; exact congrArg (x :: ·) ih.1, ?_⟩
      simp [ih.2]; exact fun e => hx e.symm
theorem cutL_app {c : UInt8} : ∀ {a b : List UInt8}, c ∉ a → cutL c (a ++ c :: b) = (a, b, true)
  | [], b, _ => by simp [cutL]
  | x :: a, b, h => by
    have hx : ¬ x = c := fun e => h (by simp [e])
    have ih := cutL_app (c := c) (a := a) (b := b) (fun e => h (by simp [e]))
    simp [cutL, hx, ih]
theorem cutL_none {c : UInt8} {l : List UInt8} (h : c ∉ l) : cutL c l = (l, [], false) :=
  cutL_miss fun k e => h (List.mem_of_getElem? e)

/-- A row of digits in tens. -/
def dval (l : List UInt8) : Nat := l.foldl (fun n c => 10 * n + (c.toNat - 48)) 0
def digB (c : UInt8) : Bool := decide (48 ≤ c.toNat ∧ c.toNat ≤ 57)
/-- A number in tens, without noughts ahead, at most top. -/
def isNum (l : List UInt8) (top : Nat) : Bool := decide (l ≠ [] ∧ (l.head? = some 48 → l = [48]) ∧ (∀ c ∈ l, digB c = true) ∧ dval l ≤ top)

theorem dval_snoc (l : List UInt8) (c : UInt8) : dval (l ++ [c]) = 10 * dval l + (c.toNat - 48) := by simp [dval, List.foldl_append]
theorem dval_take_le (l : List UInt8) : ∀ j, dval (l.take j) ≤ dval l := by
  intro j
  rcases Nat.lt_or_ge j l.length with h | h
  · have e : ∀ m, j ≤ m → m ≤ l.length → dval (l.take j) ≤ dval (l.take m) := by
      intro m
      induction m with
      | zero => intro h1 _; have : j = 0 := by omega
                subst this; exact Nat.le_refl _
      | succ m ih =>
        intro h1 h2
        rcases Nat.lt_or_ge j (m + 1) with h3 | h3
        · have := ih (by omega) (by omega)
          rw [List.take_succ_eq_append_getElem (by omega), dval_snoc]
          omega
        · have : j = m + 1 := by omega
          subst this; exact Nat.le_refl _
    have := e l.length (by omega) (Nat.le_refl _)
    rwa [List.take_length] at this
  · rw [List.take_of_length_le h]; exact Nat.le_refl _

/-- So many numbers with points between, the first the highest byte. -/
def rdN (top : Nat) : Nat → List UInt8 → Nat → Option Nat
  | 0, _, _ => none
  | k + 1, l, acc =>
    if (cutL 46 l).2.2 = decide (k = 0) then none
    else if isNum (cutL 46 l).1 top = true then (if k = 0 then some (acc * 256 + dval (cutL 46 l).1) else rdN top k (cutL 46 l).2.1 (acc * 256 + dval (cutL 46 l).1))
    else none
end Go.Proofs.YtmofndckjjbfgaaDoor
