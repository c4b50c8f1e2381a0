/- Plain texts: pieces between marks, and rows of numbers. No program in it. -/
import Derived.Test.YtmofndckjjbfgaaDoorPreBack
namespace Go.Proofs.YtmofndckjjbfgaaDoor
open Go.Lib
set_option linter.unusedVariables false

/-- The pieces between the marks c. -/
def pieces (c : UInt8) : List UInt8 → List (List UInt8)
  | [] => [[]]
  | x :: l => if x = c then [] :: pieces c l else
    match pieces c l with
    | p :: r => (x :: p) :: r
    | [] => [[x]]
theorem pieces_ne (c : UInt8) (l : List UInt8) : pieces c l ≠ [] := by
  cases l with
  | nil => simp [pieces]
  | cons x l =>
    unfold pieces
    split
    · simp
    · split <;> simp
theorem pieces_cons {c x : UInt8} {l p : List UInt8} {r : List (List UInt8)} (hx : ¬ x = c) (h : pieces c l = p :: r) : pieces c (x :: l) = (x :: p) :: r := by
  rw [pieces, if_neg hx, h]
theorem pieces_no {c : UInt8} : ∀ {l : List UInt8}, c ∉ l → pieces c l = [l]
  | [], _ => rfl
  | x :: l, h => pieces_cons (fun e => h (by simp [e])) (pieces_no (fun e => h (by simp [e])))
theorem pieces_app {c : UInt8} : ∀ {a b : List UInt8}, c ∉ a → pieces c (a ++ c :: b) = a :: pieces c b
  | [], b, _ => by simp [pieces]
  | x :: a, b, h => pieces_cons (fun e => h (by simp [e])) (pieces_app (fun e => h (by simp [e])))
theorem pieces_cut (c : UInt8) (l : List UInt8) : pieces c l = if (cutL c l).2.2 = true then (cutL c l).1 :: pieces c (cutL c l).2.1 else [l] := by
  cases h : (cutL c l).2.2 with
  | true =>
    obtain ⟨e, hn⟩ := cutL_yes h
    rw [if_pos rfl]
    conv => lhs; rw [e]
    exact pieces_app hn
  | false => rw [if_neg (by decide)]; exact pieces_no (cutL_no h).2

theorem rdN_pieces (top : Nat) : ∀ (k : Nat) (l : List UInt8) (acc : Nat), rdN top (k + 1) l acc = if (pieces 46 l).length = k + 1 ∧ (∀ p ∈ pieces 46 l, isNum p top = true) then some ((pieces 46 l).foldl (fun a p => a * 256 + dval p) acc) else none
  | 0, l, acc => by
    rw [rdN_succ, pieces_cut]
    cases h : (cutL 46 l).2.2 with
    | true =>
      simp
      intro h'; exact absurd h' (pieces_ne _ _)
    | false =>
      have e := (cutL_no h).1
      rw [e]
      by_cases hn : isNum l top = true <;> simp [hn]
  | k + 1, l, acc => by
    rw [rdN_succ, pieces_cut]
    cases h : (cutL 46 l).2.2 with
    | false => simp
    | true =>
      by_cases hn : isNum (cutL 46 l).1 top = true
      · have ih := rdN_pieces top k (cutL 46 l).2.1 (acc * 256 + dval (cutL 46 l).1)
        simp [hn, ih]
      · simp [hn]

theorem isNum_short {l : List UInt8} {top : Nat} (ht : top ≤ 255) (h : isNum l top = true) : l.length ≤ 3 := by
  obtain ⟨e, h2⟩ := dec_isNum_of h
  rw [← e]
  exact dec_len _ (by omega)
theorem isNum_long {l : List UInt8} {top : Nat} (ht : top ≤ 255) (h : 3 < l.length) : isNum l top = false := by
  cases hn : isNum l top with
  | false => rfl
  | true => have := isNum_short ht hn; omega
theorem isNum_lead {l : List UInt8} {top : Nat} (h : 1 < l.length) (hh : l.head? = some 48) : isNum l top = false := by
  simp only [isNum, decide_eq_false_iff_not]
  rintro ⟨_, h2, _⟩
  rw [h2 hh] at h
  simp at h
theorem dval_lt : ∀ (n : Nat) (l : List UInt8), l.length = n → (∀ c ∈ l, digB c = true) → dval l < 10 ^ n := by
  intro n
  induction n with
  | zero => intro l hl _; obtain rfl := List.eq_nil_of_length_eq_zero hl; decide
  | succ n ih =>
    intro l hl hd
    have hne : l ≠ [] := by rintro rfl; simp at hl
    obtain ⟨t, c, rfl⟩ : ∃ t c, l = t ++ [c] := ⟨l.dropLast, l.getLast hne, (List.dropLast_concat_getLast hne).symm⟩
    have h1 := ih t (by simpa using hl) (fun x hx => hd x (by simp [hx]))
    have hc := hd c (by simp)
    simp only [digB, decide_eq_true_eq] at hc
    rw [dval_snoc, Nat.pow_succ]
    omega
theorem isNum_iff {l : List UInt8} {top : Nat} (h1 : l ≠ []) (h2 : l.head? = some 48 → l = [48]) (h3 : ∀ c ∈ l, digB c = true) : isNum l top = decide (dval l ≤ top) := by
  unfold isNum
  exact decide_eq_decide.2 ⟨fun h => h.2.2.2, fun h => ⟨h1, h2, h3, h⟩⟩

/-- A prefix's text, by its pieces. -/
theorem rdB_num {l : List UInt8} : rdB l = if isNum l 32 = true then some (dval l) else none := by
  unfold rdB
  rw [rdN_pieces]
  by_cases hn : isNum l 32 = true
  · have hno : (46 : UInt8) ∉ l := by
      simp only [isNum, decide_eq_true_eq] at hn
      intro h; have := hn.2.2.1 46 h; exact absurd this (by decide)
    rw [pieces_no hno]
    simp [hn]
  · rw [if_neg hn, if_neg]
    rintro ⟨h1, h2⟩
    apply hn
    rw [pieces_cut] at h1 h2
    cases h : (cutL 46 l).2.2 with
    | true =>
      rw [h] at h1
      simp at h1
      exact absurd h1 (pieces_ne _ _)
    | false => rw [h] at h2; exact h2 l (by simp)
theorem rdP_pieces (l : List UInt8) : (∃ d1 d2, pieces 47 l = [d1, d2] ∧ rdP l = match rdA d1, (if isNum d2 32 = true then some (dval d2) else none) with
    | some a, some n => if pis a n = true then .ok a n else .notp
    | _, _ => .bad) ∨ ((pieces 47 l).length ≠ 2 ∧ rdP l = .bad) := by
  have hP : rdP l = match rdA (cutL 47 l).1, rdB (cutL 47 l).2.1 with
    | some a, some n => if pis a n = true then .ok a n else .notp
    | _, _ => .bad := rfl
  cases h : (cutL 47 l).2.2 with
  | false =>
    right
    have e := (cutL_no h).1
    refine ⟨by rw [pieces_cut, h]; simp, ?_⟩
    rw [hP, e, rdB_num]
    simp only [no_empty]
    cases rdA l <;> rfl
  | true =>
    have e : pieces 47 l = (cutL 47 l).1 :: pieces 47 (cutL 47 l).2.1 := by rw [pieces_cut, h]; rfl
    by_cases h2 : (47 : UInt8) ∈ (cutL 47 l).2.1
    · right
      refine ⟨?_, ?_⟩
      · rw [e, pieces_cut]
        have : (cutL 47 (cutL 47 l).2.1).2.2 = true := by
          cases h3 : (cutL 47 (cutL 47 l).2.1).2.2 with
          | true => rfl
          | false => exact absurd h2 (cutL_no h3).2
        rw [this]
        simp; intro h'; exact absurd h' (pieces_ne _ _)
      · rw [hP, rdB_num, if_neg]
        · cases rdA (cutL 47 l).1 <;> rfl
        · intro hn
          simp only [isNum, decide_eq_true_eq] at hn
          exact absurd (hn.2.2.1 47 h2) (by decide)
    · left
      refine ⟨(cutL 47 l).1, (cutL 47 l).2.1, by rw [e, pieces_no h2], ?_⟩
      rw [hP, rdB_num]
end Go.Proofs.YtmofndckjjbfgaaDoor
