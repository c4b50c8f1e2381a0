
/- Pure: hops joined, in order, each once. -/
import Derived.Test.YtdfacfpjhnohcaaTrJoin
namespace Go.Proofs.Ytdfacfpjhnohcaa
set_option linter.unusedVariables false

theorem last_mem {l : List HK} {h : HK} (e : l.getLast? = some h) : h ∈ l := List.mem_of_getLast? e
theorem mem_jn (l m : List HK) (x : HK) : x ∈ jn l m ↔ x ∈ l ∨ x ∈ m := by
  induction m generalizing l with
  | nil => simp [jn]
  | cons h t ih =>
    simp only [jn]
    split
    · rename_i e
      rw [ih]
      constructor
      · rintro (h1 | h1)
        · exact Or.inl h1
        · exact Or.inr (List.mem_cons_of_mem _ h1)
      · rintro (h1 | h1)
        · exact Or.inl h1
        · rcases List.mem_cons.1 h1 with rfl | h1
          · exact Or.inl (last_mem e)
          · exact Or.inr h1
    · rw [ih]
      simp [or_assoc]
/-- What is in order, each perhaps many times, is joined to a row that rises. -/
theorem jn_rises (l m : List HK) (hl : l.Pairwise HK.lt) (hm : m.Pairwise HK.le) (hc : ∀ x ∈ l, ∀ y ∈ m, x.le y) : (jn l m).Pairwise HK.lt := by
  induction m generalizing l with
  | nil => simpa [jn] using hl
  | cons h t ih =>
    have hm' := List.pairwise_cons.1 hm
    simp only [jn]
    split
    · exact ih l hl hm'.2 (fun x hx y hy => hc x hx y (List.mem_cons_of_mem _ hy))
    · rename_i e
      refine ih _ (pair_snoc hl (fun k hk => hc k hk h (by simp)) e) hm'.2 (fun x hx y hy => ?_)
      rcases List.mem_append.1 hx with hx | hx
      · exact hc x hx y (List.mem_cons_of_mem _ hy)
      · simp at hx; subst hx; exact hm'.1 y hy
/-- Two rows that rise and hold the same are one. -/
theorem rises_eq {l m : List HK} (hl : l.Pairwise HK.lt) (hm : m.Pairwise HK.lt) (h : ∀ x, x ∈ l ↔ x ∈ m) : l = m := by
  induction l generalizing m with
  | nil =>
    cases m with
    | nil => rfl
    | cons a t => have := (h a).2 (by simp); cases this
  | cons a l ih =>
    cases m with
    | nil => have := (h a).1 (by simp); cases this
    | cons b m =>
      have hl' := List.pairwise_cons.1 hl
      have hm' := List.pairwise_cons.1 hm
      have hab : a = b := by
        rcases List.mem_cons.1 ((h a).1 (by simp)) with e | e
        · exact e
        · rcases List.mem_cons.1 ((h b).2 (by simp)) with e2 | e2
          · exact e2.symm
          · exact (HK.lt_irrefl a (HK.lt_trans (hl'.1 b e2) (hm'.1 a e))).elim
      subst hab
      rw [ih hl'.2 hm'.2 (fun x => ?_)]
      have hx := h x
      constructor
      · intro h1
        rcases List.mem_cons.1 (hx.1 (List.mem_cons_of_mem _ h1)) with e | e
        · subst e; exact (HK.lt_irrefl _ (hl'.1 _ h1)).elim
        · exact e
      · intro h1
        rcases List.mem_cons.1 (hx.2 (List.mem_cons_of_mem _ h1)) with e | e
        · subst e; exact (HK.lt_irrefl _ (hm'.1 _ h1)).elim
        · exact e
/-- The place of h in a row. -/
def plc (h : HK) : List HK → Nat
  | [] => 0
  | x :: t => if cH x h < 0 then plc h t + 1 else 0
/-- One more, put at its place. -/
def pt (h : HK) : List HK → List HK
  | [] => [h]
  | x :: t => if cH x h < 0 then x :: pt h t else if x = h then x :: t else h :: x :: t
theorem plc_le (h : HK) (l : List HK) : plc h l ≤ l.length := by
  induction l with
  | nil => exact Nat.le_refl _
  | cons x t ih =>
    simp only [plc]
    split
    · simp; exact ih
    · simp
theorem plc_eq (h : HK) (l : List HK) (j : Nat) (hj : j ≤ l.length) (hb : ∀ k y, k < j → l[k]? = some y → cH y h < 0) (ha : ∀ y, l[j]? = some y → ¬ cH y h < 0) : plc h l = j := by
  induction l generalizing j with
  | nil => simp at hj; subst hj; rfl
  | cons x t ih =>
    simp only [plc]
    cases j with
    | zero => rw [if_neg (ha x rfl)]
    | succ j =>
      rw [if_pos (hb 0 x (by omega) rfl)]
      rw [ih j (by simpa using hj) (fun k y hk hy => hb (k + 1) y (by omega) hy) (fun y hy => ha y hy)]
theorem pt_eq (h : HK) (l : List HK) : pt h l = if l[plc h l]? = some h then l else l.take (plc h l) ++ h :: l.drop (plc h l) := by
  induction l with
  | nil => simp [pt, plc]
  | cons x t ih =>
    simp only [pt, plc]
    split
    · simp only [List.getElem?_cons_succ, List.take_succ_cons, List.drop_succ_cons, List.cons_append]
      rw [ih]
      split <;> rfl
    · simp only [List.getElem?_cons_zero, Option.some.injEq, List.take_zero, List.drop_zero, List.nil_append]
theorem mem_pt (h : HK) (l : List HK) (x : HK) : x ∈ pt h l ↔ x ∈ l ∨ x = h := by
  induction l with
  | nil => simp [pt]
  | cons y t ih =>
    simp only [pt]
    split
    · simp only [List.mem_cons, ih, or_assoc]
    · split
      · rename_i e
        subst e
        simp only [List.mem_cons]
        constructor
        · exact Or.inl
        · rintro (h1 | h1)
          · exact h1
          · exact Or.inl h1
      · simp only [List.mem_cons]
        constructor
        · rintro (h1 | h1)
          · exact Or.inr h1
          · exact Or.inl h1
        · rintro (h1 | h1)
          · exact Or.inr h1
          · exact Or.inl h1
theorem pt_rises (h : HK) (l : List HK) (hl : l.Pairwise HK.lt) : (pt h l).Pairwise HK.lt := by
  induction l with
  | nil => simp [pt]
  | cons y t ih =>
    have hl' := List.pairwise_cons.1 hl
    simp only [pt]
    split
    · rename_i e
      refine List.pairwise_cons.2 ⟨fun x hx => ?_, ih hl'.2⟩
      rcases (mem_pt h t x).1 hx with hx | hx
      · exact hl'.1 x hx
      · subst hx; exact (cH_neg y x).1 e
    · rename_i e
      split
      · exact hl
      · rename_i n
        have hy : h.lt y := HK.lt_of_le_ne (fun h1 => e ((cH_neg y h).2 h1)) (fun e => n e.symm)
        refine List.pairwise_cons.2 ⟨fun x hx => ?_, hl⟩
        rcases List.mem_cons.1 hx with rfl | hx
        · exact hy
        · exact HK.lt_trans hy (hl'.1 x hx)
theorem pt_length (h : HK) (l : List HK) : (pt h l).length ≤ l.length + 1 := by
  induction l with
  | nil => simp [pt]
  | cons y t ih =>
    simp only [pt]
    split
    · simp; exact ih
    · split <;> simp
/-- All of a row put, one by one. -/
def pts (l m : List HK) : List HK := m.foldl (fun l h => pt h l) l
theorem pts_step (l m : List HK) (i : Nat) (h : HK) (hi : m[i]? = some h) : pts l (m.take (i + 1)) = pt h (pts l (m.take i)) := by
  have e : m.take (i + 1) = m.take i ++ [h] := by rw [List.take_add_one, hi]; rfl
  rw [e]
  simp [pts]
theorem mem_pts (l m : List HK) (x : HK) : x ∈ pts l m ↔ x ∈ l ∨ x ∈ m := by
  induction m generalizing l with
  | nil => simp [pts]
  | cons h t ih =>
    have e : pts l (h :: t) = pts (pt h l) t := rfl
    rw [e, ih, mem_pt, List.mem_cons, or_assoc]
theorem pts_rises (l m : List HK) (hl : l.Pairwise HK.lt) : (pts l m).Pairwise HK.lt := by
  induction m generalizing l with
  | nil => exact hl
  | cons h t ih => exact ih _ (pt_rises h l hl)
theorem pts_length (l m : List HK) : (pts l m).length ≤ l.length + m.length := by
  induction m generalizing l with
  | nil => simp [pts]
  | cons h t ih =>
    have e : pts l (h :: t) = pts (pt h l) t := rfl
    have h1 := pt_length h l
    have h2 := ih (pt h l)
    rw [e]
    simp only [List.length_cons]
    omega
/-- What the document joins. -/
def rj (a b : List HK) : List HK := pts (pts [] a) b
theorem rj_length (a b : List HK) : (rj a b).length ≤ a.length + b.length := by
  have h1 := pts_length [] a
  have h2 := pts_length (pts [] a) b
  unfold rj
  simp at h1
  omega
/-- What is sorted and joined is what the document joins, if it holds the same. -/
theorem jn_rj (a b S : List HK) (hS : S.Pairwise HK.le) (hm : ∀ x, x ∈ S ↔ x ∈ a ∨ x ∈ b) : jn [] S = rj a b := by
  refine rises_eq (jn_rises [] S List.Pairwise.nil hS (fun x hx => by cases hx)) (pts_rises _ _ (pts_rises _ _ List.Pairwise.nil)) (fun x => ?_)
  rw [mem_jn, rj, mem_pts, mem_pts, hm]
  simp
theorem mem_rj (a b : List HK) (x : HK) : x ∈ rj a b ↔ x ∈ a ∨ x ∈ b := by
  rw [rj, mem_pts, mem_pts]
  simp
end Go.Proofs.Ytdfacfpjhnohcaa
