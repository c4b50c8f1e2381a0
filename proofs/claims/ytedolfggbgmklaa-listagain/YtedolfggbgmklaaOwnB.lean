
/- Bytes in a row of the call's own. -/
import Derived.Test.YtedolfggbgmklaaEqB
namespace Go.Proofs.Ytedolfggbgmklaa
open Go.RowKit
set_option linter.unusedVariables false
set_option maxRecDepth 100000

/-- The bytes l lie in a row of the call's own, in block g. -/
structure OwnB (w : World) (base g cap : Nat) (l : List Int) : Prop where
  own : w.ownsRow base 5 1 (.slice (some ⟨g, 0, none⟩) l.length cap) l.length (bytesOf l)
theorem OwnB.keep {w w' : World} {base g cap : Nat} {l : List Int} (h : OwnB w base g cap l) (t : Touch (fun _ => False) w w') : OwnB w' base g cap l := ⟨own_touch h.own t (fun _ _ h => h)⟩
theorem OwnB.arg {w : World} {base g cap : Nat} {l : List Int} (h : OwnB w base g cap l) : ArgAt w (.slice (some ⟨g, 0, none⟩) l.length cap) l := (own_rowAt h.own).arg
theorem OwnB.argL {w : World} {base g cap n : Nat} {l : List Int} (h : OwnB w base g cap l) (e : l.length = n) : ArgAt w (.slice (some ⟨g, 0, none⟩) n cap) l := by subst e; exact h.arg
theorem OwnB.row {w : World} {base g cap : Nat} {l : List Int} (h : OwnB w base g cap l) : RowAt w (.slice (some ⟨g, 0, none⟩) l.length cap) l := own_rowAt h.own
theorem OwnB.ge {w : World} {base g cap : Nat} {l : List Int} (h : OwnB w base g cap l) : base ≤ g := (h.own.lt g rfl).1
theorem OwnB.lt {w : World} {base g cap : Nat} {l : List Int} (h : OwnB w base g cap l) : g < w.heap.size := (h.own.lt g rfl).2
theorem OwnB.cell {w : World} {base g cap : Nat} {l : List Int} (h : OwnB w base g cap l) (j : Nat) (hj : j < l.length) : w.cell? ⟨g, j, none⟩ = some (.int .u8 (l.getD j 0)) := by
  have := rowAt_cell h.row j hj
  rwa [Nat.zero_add] at this
theorem OwnB.frozen {w : World} {base g cap : Nat} {l : List Int} (h : OwnB w base g cap l) (j : Nat) : w.frozen? ⟨g, j, none⟩ = false := h.own.frozenAt j
theorem OwnB.store {w : World} {base g cap : Nat} {l : List Int} (h : OwnB w base g cap l) (j : Nat) (x : Int) : OwnB (w.setCell ⟨g, j, none⟩ (.int .u8 x)) base g cap (l.set j x) := by
  constructor
  rw [List.length_set, bytesOf_set]
  exact (h.own.stored j _).1
/-- A store into another row. -/
theorem OwnB.other {w : World} {base g cap : Nat} {l : List Int} (h : OwnB w base g cap l) {p : Addr} (hp : p.block ≠ g) (u : Value) : OwnB (w.setCell p u) base g cap l :=
  ⟨own_touch h.own (Touch.setCell (F := fun k => k = p.block) (Touch.refl _ w) (Or.inl rfl) u) (fun k hk e => by cases hk; exact hp e.symm)⟩
theorem OwnB.drew {w : World} {base g cap : Nat} {l : List Int} (h : OwnB w base g cap l) : OwnB w.drew base g cap l := h.keep ((Touch.refl _ w).drew)
end Go.Proofs.Ytedolfggbgmklaa
