
/- Rows of entries in memory. -/
import Derived.Test.YtmdnlfbploaafaaQuMap
import Derived.Test.YtmdnlfbploaafaaRowB
namespace Go.Proofs.Ytmdnlfbploaafaa
open Go.RowKit
set_option linter.unusedVariables false
set_option maxRecDepth 100000

def cellsOf (l : List En) : List Value := l.flatMap En.cs
theorem cellsOf_nil : cellsOf [] = [] := rfl
theorem cellsOf_cons (e : En) (l : List En) : cellsOf (e :: l) = e.cs ++ cellsOf l := rfl
theorem cellsOf_append (l l' : List En) : cellsOf (l ++ l') = cellsOf l ++ cellsOf l' := List.flatMap_append
theorem length_cellsOf : ∀ l : List En, (cellsOf l).length = l.length * 3
  | [] => rfl
  | e :: l => by rw [cellsOf_cons, List.length_append, length_cellsOf l]; simp [En.cs]; omega
theorem cellsOf_get : ∀ (l : List En) (i c : Nat), c < 3 → (cellsOf l)[i * 3 + c]? = (l[i]?).bind (fun e => e.cs[c]?)
  | [], i, c, h => by simp [cellsOf]
  | e :: l, 0, c, h => by
    rw [cellsOf_cons, List.getElem?_append_left (by simp [En.cs]; omega)]
    simp
  | e :: l, i + 1, c, h => by
    rw [cellsOf_cons, List.getElem?_append_right (by simp [En.cs]; omega)]
    have e1 : (i + 1) * 3 + c - e.cs.length = i * 3 + c := by simp [En.cs]; omega
    rw [e1, cellsOf_get l i c h]
    simp
theorem cellsOf_set (l : List En) (i : Nat) (e : En) (hi : i < l.length) : cellsOf (l.set i e) = (((cellsOf l).set (i * 3) (.int .i64 e.a)).set (i * 3 + 1) (.int .i64 e.r)).set (i * 3 + 2) (.int .u64 e.k) := by
  apply List.ext_getElem?
  intro j
  have hj : j = j / 3 * 3 + j % 3 := by omega
  have h3 : j % 3 < 3 := by omega
  have hl := length_cellsOf l
  generalize j / 3 = q at hj
  generalize j % 3 = c at hj h3
  subst hj
  rw [cellsOf_get _ _ _ h3]
  simp only [List.getElem?_set, List.length_set, hl]
  by_cases hq : i = q
  · subst hq
    rw [if_pos rfl, if_pos hi]
    rcases (by omega : c = 0 ∨ c = 1 ∨ c = 2) with rfl | rfl | rfl
    · simp [En.cs, show i * 3 < l.length * 3 by omega]
    · simp [En.cs, show i * 3 + 1 < l.length * 3 by omega]
    · simp [En.cs, show i * 3 + 2 < l.length * 3 by omega]
  · rw [if_neg hq, if_neg (by omega), if_neg (by omega), if_neg (by omega), cellsOf_get _ _ _ h3]
theorem cellsOf_take (l : List En) (n : Nat) : cellsOf (l.take n) = (cellsOf l).take (n * 3) := by
  rcases Nat.lt_or_ge l.length n with h | h
  · rw [List.take_of_length_le (by omega), List.take_of_length_le (by rw [length_cellsOf]; omega)]
  · have e := congrArg cellsOf (List.take_append_drop n l)
    rw [cellsOf_append] at e
    rw [← e, List.take_append_of_le_length (by rw [length_cellsOf]; simp; omega)]
    exact (List.take_of_length_le (by rw [length_cellsOf]; simp; omega)).symm

/-- The slice v is a row of the call's own that holds the entries l. -/
def RE (w : World) (v : Value) (l : List En) : Prop := w.ownsRow 0 41 3 v l.length (cellsOf l)
theorem RE.keep {F : Nat → Prop} {w w' : World} {v : Value} {l : List En} (h : RE w v l) (t : Touch F w w') (hn : ∀ k, v.ownBlock = some k → ¬ F k) : RE w' v l := own_touch h t hn
theorem RE.form {w : World} {v : Value} {l : List En} (h : RE w v l) (hl : 0 < l.length) : ∃ g cap, v = .slice (some ⟨g, 0, none⟩) l.length cap ∧ l.length ≤ cap ∧ g < w.heap.size := by
  obtain ⟨h1, h2 | ⟨g, cap, cur, hv, _, hh, hc, _⟩⟩ := h
  · omega
  · exact ⟨g, cap, hv, hc, lt_of_heap hh⟩
theorem RE.shape {w : World} {v : Value} {l : List En} (h : RE w v l) : ∃ a cap, v = .slice a l.length cap := by
  obtain ⟨h1, ⟨h2, h3⟩ | ⟨g, cap, cur, hv, _⟩⟩ := h
  · exact ⟨none, 0, by rw [h2, h3]⟩
  · exact ⟨_, _, hv⟩
theorem RE.cells {w : World} {g c : Nat} {l : List En} {n : Nat} (h : RE w (.slice (some ⟨g, 0, none⟩) n c) l) {i : Nat} (hi : i < l.length) :
    w.cell? ⟨g, i * 3, none⟩ = some (.int .i64 (gt l i).a) ∧ w.cell? ⟨g, i * 3 + 1, none⟩ = some (.int .i64 (gt l i).r) ∧ w.cell? ⟨g, i * 3 + 2, none⟩ = some (.int .u64 (gt l i).k) := by
  have hc := World.ownsRow.cells h (g := g) rfl
  have e : l[i]? = some (gt l i) := gt_some hi
  refine ⟨?_, ?_, ?_⟩
  · have := hc (i * 3 + 0) (.int .i64 (gt l i).a) (by rw [cellsOf_get _ _ _ (by omega), e]; rfl)
    by_cases h0 : i * 3 = 0
    · simpa [Addr.add, h0] using this
    · simpa [Addr.add, h0] using this
  · have := hc (i * 3 + 1) (.int .i64 (gt l i).r) (by rw [cellsOf_get _ _ _ (by omega), e]; rfl)
    simpa [Addr.add] using this
  · have := hc (i * 3 + 2) (.int .u64 (gt l i).k) (by rw [cellsOf_get _ _ _ (by omega), e]; rfl)
    simpa [Addr.add] using this
theorem RE.fz {w : World} {g c : Nat} {l : List En} {n : Nat} (h : RE w (.slice (some ⟨g, 0, none⟩) n c) l) (j : Nat) : w.frozen? ⟨g, j, none⟩ = false := by
  obtain ⟨h1, ⟨h2, h3⟩ | ⟨g', cap, cur, hv, _, hh, _⟩⟩ := h
  · cases h2
  · cases hv
    exact frozen_of_row w g j _ _ hh
/-- A store into the row. -/
theorem RE.set {w : World} {g c : Nat} {l : List En} {n : Nat} (h : RE w (.slice (some ⟨g, 0, none⟩) n c) l) {i : Nat} (hi : i < l.length) (e : En) :
    RE (((w.setCell ⟨g, i * 3, none⟩ (.int .i64 e.a)).setCell ⟨g, i * 3 + 1, none⟩ (.int .i64 e.r)).setCell ⟨g, i * 3 + 2, none⟩ (.int .u64 e.k)) (.slice (some ⟨g, 0, none⟩) n c) (l.set i e) := by
  obtain ⟨h1, ⟨h2, h3⟩ | ⟨g', cap, cur, hv, hg, hh, hn, hm, hs, hx⟩⟩ := h
  · cases h2
  · have R : Row w g' 41 cur.toList := by unfold Row; simpa using hh
    cases hv
    have R3 := ((R.set (i * 3) (.int .i64 e.a)).set (i * 3 + 1) (.int .i64 e.r)).set (i * 3 + 2) (.int .u64 e.k)
    refine ⟨by rw [length_cellsOf], Or.inr ⟨g, c, _, by simp, hg, R3, by simpa using hn, hm, by simpa using hs, ?_⟩⟩
    rw [cellsOf_set l i e hi, ← hx, List.length_set]
    simp only [List.take_set]
/-- The row without its last. -/
theorem RE.cut {w : World} {g c : Nat} {l : List En} {n : Nat} (h : RE w (.slice (some ⟨g, 0, none⟩) n c) l) {k : Nat} (hk : k ≤ l.length) : RE w (.slice (some ⟨g, 0, none⟩) k c) (l.take k) := by
  obtain ⟨h1, ⟨h2, h3⟩ | ⟨g', cap, cur, hv, hg, hh, hn, hm, hs, hx⟩⟩ := h
  · cases h2
  · cases hv
    have e : (l.take k).length = k := by simp; omega
    refine ⟨length_cellsOf _, Or.inr ⟨g, c, cur, by rw [e], hg, hh, by omega, hm, hs, ?_⟩⟩
    rw [e, cellsOf_take, ← hx, List.take_take, Nat.min_eq_left (by omega)]
end Go.Proofs.Ytmdnlfbploaafaa
