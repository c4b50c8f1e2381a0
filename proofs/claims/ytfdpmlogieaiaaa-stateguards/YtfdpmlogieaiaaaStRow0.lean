/- Pure: a head is read as it was laid; states one behind the other. -/
import Derived.Test.YtfdpmlogieaiaaaStRd3
import Derived.Test.YtfdpmlogieaiaaaStaOut
namespace Go.Proofs.Ytfdpmlogieaiaaa
open Go.RowKit
set_option linter.unusedVariables false
set_option maxRecDepth 100000

theorem rdHead_headB (h : HV) (ok : h.All) : rdHead (headB h) = h := by
  obtain ⟨a, o, t, i, v, s, m, l⟩ := h
  obtain ⟨⟨a0, a1⟩, ⟨o0, o1⟩, ⟨t0, t1⟩, ⟨i0, i1⟩, ⟨v0, v1⟩, ⟨s0, s1⟩, ⟨m0, m1⟩, ⟨l0, l1⟩⟩ := ok
  dsimp only at *
  simp only [headB, numBytes2, numBytes4, List.cons_append, List.nil_append]
  unfold rdHead
  simp [numAt, nextAt, numOf, IntKind.wrap, IntKind.bits, IntKind.signed]
  refine ⟨by omega, by omega, by omega, by omega, by omega, by omega⟩
theorem take_headB (h : HV) (r : List Int) : (headB h ++ r).take 20 = headB h := by
  rw [List.take_append_of_le_length (by rw [length_headB]; omega), List.take_of_length_le (by rw [length_headB]; omega)]
theorem drop_headB (h : HV) (r : List Int) : (headB h ++ r).drop 20 = r := by
  rw [List.drop_append_of_le_length (by rw [length_headB]; omega), List.drop_eq_nil_of_le (by rw [length_headB]; omega), List.nil_append]

/-- A state: its head, its body's row and bytes. -/
structure SE where
  h : HV
  v : Value
  rs : List Int
def SE.b (x : SE) : List Int := headB x.h ++ x.rs
def SE.size (x : SE) : Nat := 20 + x.rs.length
def rowB (l : List SE) : List Int := l.flatMap SE.b
def rowN (l : List SE) : Nat := (l.map SE.size).sum
theorem length_rowB (l : List SE) : (rowB l).length = rowN l := by
  induction l with
  | nil => rfl
  | cons x r ih => unfold rowB rowN at *; rw [List.flatMap_cons, List.length_append, ih, List.map_cons, List.sum_cons]; simp [SE.b, SE.size, length_headB]
theorem rowN_snoc (l : List SE) (x : SE) : rowN (l ++ [x]) = rowN l + x.size := by simp [rowN]
theorem rowB_snoc (l : List SE) (x : SE) : rowB (l ++ [x]) = rowB l ++ x.b := by simp [rowB]
def SE.cells (x : SE) : List Value := [.int .u16 x.h.age, .int .u8 x.h.opts, .int .u8 x.h.typ, .int .u32 x.h.id, .int .u32 x.h.adv, .int .i32 x.h.seq, .int .u16 x.h.sum, .int .u16 x.h.len, x.v]
def statesC (l : List SE) : List Value := l.flatMap SE.cells
theorem length_statesC (l : List SE) : (statesC l).length = l.length * 9 := by
  induction l with
  | nil => rfl
  | cons x r ih => unfold statesC at *; rw [List.flatMap_cons, List.length_append, ih, List.length_cons]; simp [SE.cells]; omega
theorem statesC_at (l : List SE) (j i : Nat) (x : SE) (hj : l[j]? = some x) (hi : i < 9) : (statesC l)[j * 9 + i]? = x.cells[i]? := by
  induction l generalizing j with
  | nil => simp at hj
  | cons y r ih =>
    have e : statesC (y :: r) = y.cells ++ statesC r := by simp [statesC]
    have hl : y.cells.length = 9 := rfl
    rw [e]
    cases j with
    | zero =>
      obtain rfl : y = x := by simpa using hj
      rw [List.getElem?_append_left (by omega), Nat.zero_mul, Nat.zero_add]
    | succ j =>
      rw [List.getElem?_append_right (by omega), hl, show (j + 1) * 9 + i - 9 = j * 9 + i by omega]
      exact ih j (by simpa using hj)
structure SE.Ok (w : World) (x : SE) : Prop where
  all : x.h.All
  arg : ArgAt w x.v x.rs
  byte : ∀ z ∈ x.rs, 0 ≤ z ∧ z < 256
/-- A row of states that came in. -/
structure StatesAt (w : World) (v : Value) (l : List SE) : Prop where
  vals : ValsAt w 9 v l.length (statesC l)
  ok : ∀ x ∈ l, x.Ok w
theorem SE.Ok.keep {w w' : World} {x : SE} (h : x.Ok w) (t : Touch (fun _ => False) w w') : x.Ok w' := ⟨h.all, h.arg.keepN t, h.byte⟩
theorem StatesAt.keep {w w' : World} {v : Value} {l : List SE} (h : StatesAt w v l) (t : Touch (fun _ => False) w w') : StatesAt w' v l := ⟨h.vals.keep t, fun x hx => (h.ok x hx).keep t⟩
/-- One of them. -/
theorem StatesAt.one {w : World} {v : Value} {l : List SE} (h : StatesAt w v l) {j : Nat} {x : SE} (hj : l[j]? = some x) : x.Ok w ∧ ∃ g off c, v = .slice (some ⟨g, off, none⟩) l.length c ∧ ∀ i u, x.cells[i]? = some u → w.cell? ⟨g, off + (j * 9 + i), none⟩ = some u := by
  have hlt := (List.getElem?_eq_some_iff.mp hj).1
  obtain ⟨g, off, c, e, _, _, hc⟩ := h.vals.cells (by omega) (by omega)
  refine ⟨h.ok x (List.mem_of_getElem? hj), g, off, c, e, fun i u hu => hc _ _ ?_⟩
  have hi : i < 9 := (List.getElem?_eq_some_iff.mp hu).1
  rw [statesC_at l j i x hj hi]
  exact hu
end Go.Proofs.Ytfdpmlogieaiaaa
