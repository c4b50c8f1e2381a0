
/- Rows of voices in memory. -/
import Derived.Test.YtcmkhhdjhemmbaaElMath
import Derived.Test.YtcmkhhdjhemmbaaVals
import Derived.Test.YtcmkhhdjhemmbaaTAft
import Derived.Test.YtcmkhhdjhemmbaaRets
namespace Go.Proofs.Ytcmkhhdjhemmbaa
open Go.RowKit
set_option linter.unusedVariables false
set_option maxRecDepth 100000

def VC.cells (x : VC) : List Value := [.int .u32 x.r, .int .u32 x.ad, .int .u8 x.p, .int .u32 x.dr, .int .u32 x.bd]
abbrev VC.agg (x : VC) : Value := .agg #[.int .u32 x.r, .int .u32 x.ad, .int .u8 x.p, .int .u32 x.dr, .int .u32 x.bd]
def vcC (l : List VC) : List Value := l.flatMap VC.cells
theorem vcC_nil : vcC [] = [] := rfl
theorem vcC_one (x : VC) : vcC [x] = x.cells := by simp [vcC]
theorem vcC_append (a b : List VC) : vcC (a ++ b) = vcC a ++ vcC b := List.flatMap_append
theorem length_vcC (l : List VC) : (vcC l).length = l.length * 5 := by
  induction l with
  | nil => rfl
  | cons x r ih => unfold vcC at *; rw [List.flatMap_cons, List.length_append, ih, List.length_cons]; simp [VC.cells]; omega
theorem vcC_at (l : List VC) (j i : Nat) (x : VC) (hj : l[j]? = some x) (hi : i < 5) : (vcC l)[j * 5 + i]? = x.cells[i]? := by
  induction l generalizing j with
  | nil => simp at hj
  | cons y r ih =>
    have e : vcC (y :: r) = y.cells ++ vcC r := by simp [vcC]
    have hl : y.cells.length = 5 := rfl
    rw [e]
    cases j with
    | zero =>
      obtain rfl : y = x := by simpa using hj
      rw [List.getElem?_append_left (by omega), Nat.zero_mul, Nat.zero_add]
    | succ j =>
      rw [List.getElem?_append_right (by omega), hl, show (j + 1) * 5 + i - 5 = j * 5 + i by omega]
      exact ih j (by simpa using hj)
theorem one_vcC (l : List VC) : ∀ u ∈ vcC l, u.oneCell' = true := by
  intro u hu
  simp only [vcC, List.mem_flatMap] at hu
  obtain ⟨x, _, hx⟩ := hu
  simp only [VC.cells, List.mem_cons, List.not_mem_nil, or_false] at hx
  rcases hx with rfl | rfl | rfl | rfl | rfl <;> rfl
/-- A row of voices that came in, or that was made. -/
structure VcsAt (w : World) (v : Value) (l : List VC) : Prop where
  vals : ValsAt w 5 v l.length (vcC l)
  ok : ∀ x ∈ l, x.Ok
theorem VcsAt.keep {w w' : World} {v : Value} {l : List VC} (h : VcsAt w v l) (t : Touch (fun _ => False) w w') : VcsAt w' v l := ⟨h.vals.keep t, h.ok⟩
theorem VcsAt.form {w : World} {v : Value} {l : List VC} (h : VcsAt w v l) : ∃ a c, v = .slice a l.length c ∧ l.length ≤ maxLen := h.vals.form
/-- A voice in memory. -/
structure VcD (w : World) (g o : Nat) (x : VC) : Prop where
  c0 : w.cell? ⟨g, o, none⟩ = some (.int .u32 x.r)
  c1 : w.cell? ⟨g, o + 1, none⟩ = some (.int .u32 x.ad)
  c2 : w.cell? ⟨g, o + 2, none⟩ = some (.int .u8 x.p)
  c3 : w.cell? ⟨g, o + 3, none⟩ = some (.int .u32 x.dr)
  c4 : w.cell? ⟨g, o + 4, none⟩ = some (.int .u32 x.bd)
theorem VcD.keep {w w' : World} {g o : Nat} {x : VC} (h : VcD w g o x) (t : Touch (fun _ => False) w w') : VcD w' g o x := ⟨t.cellN h.c0, t.cellN h.c1, t.cellN h.c2, t.cellN h.c3, t.cellN h.c4⟩
theorem VcD.stay {F : Nat → Prop} {w w' : World} {g o : Nat} {x : VC} (h : VcD w g o x) (t : Touch F w w') (hn : ¬ F g) : VcD w' g o x :=
  have hl := lt_of_cell h.c0
  ⟨(t.cell (p := ⟨g, _, none⟩) hl hn).trans h.c0, (t.cell (p := ⟨g, _, none⟩) hl hn).trans h.c1, (t.cell (p := ⟨g, _, none⟩) hl hn).trans h.c2, (t.cell (p := ⟨g, _, none⟩) hl hn).trans h.c3, (t.cell (p := ⟨g, _, none⟩) hl hn).trans h.c4⟩
theorem VcsAt.at {w : World} {v : Value} {l : List VC} (h : VcsAt w v l) (hl : 0 < l.length) : ∃ g off c, v = .slice (some ⟨g, off, none⟩) l.length c ∧ l.length ≤ c ∧ c ≤ maxLen ∧ ∀ j x, l[j]? = some x → VcD w g (off + j * 5) x := by
  obtain ⟨g, off, c, e, h1, h2, hc⟩ := h.vals.cells hl (by omega)
  refine ⟨g, off, c, e, h1, h2, fun j x hj => ?_⟩
  have go : ∀ i u, x.cells[i]? = some u → i < 5 → w.cell? ⟨g, off + (j * 5 + i), none⟩ = some u := fun i u hu hi => hc _ _ (by rw [vcC_at l j i x hj hi]; exact hu)
  exact ⟨by simpa using go 0 _ rfl (by omega), by simpa [Nat.add_assoc] using go 1 _ rfl (by omega), by simpa [Nat.add_assoc] using go 2 _ rfl (by omega), by simpa [Nat.add_assoc] using go 3 _ rfl (by omega), by simpa [Nat.add_assoc] using go 4 _ rfl (by omega)⟩
end Go.Proofs.Ytcmkhhdjhemmbaa
