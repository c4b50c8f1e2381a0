/- Bodies whose rows are the call's own. -/
import Derived.Test.YtfdpmlogieaiaaaStaRd
import Derived.Test.YtfdpmlogieaiaaaStWrite
import Derived.Test.YtfdpmlogieaiaaaStRead2
namespace Go.Proofs.Ytfdpmlogieaiaaa
open Go.RowKit
set_option linter.unusedVariables false
set_option maxRecDepth 100000

/-- A body's three rows are the call's own. -/
structure BOwn (base : Nat) (w : World) (B : BV) (vl vr vd : Value) : Prop where
  l : w.ownsRow base 95 4 vl B.links.length (linksC B.links)
  r : w.ownsRow base 23 1 vr B.routers.length (wordsC B.routers)
  d : w.ownsRow base 5 1 vd B.data.length (bytesOf B.data)
theorem BOwn.touch {F : Nat → Prop} {base : Nat} {w w' : World} {B : BV} {vl vr vd : Value} (h : BOwn base w B vl vr vd) (t : Touch F w w') (hF : ∀ k, base ≤ k → ¬ F k) : BOwn base w' B vl vr vd :=
  ⟨own_touch h.l t (fun k hk => hF k (h.l.lt k hk).1), own_touch h.r t (fun k hk => hF k (h.r.lt k hk).1), own_touch h.d t (fun k hk => hF k (h.d.lt k hk).1)⟩
theorem BOwn.keep {base : Nat} {w w' : World} {B : BV} {vl vr vd : Value} (h : BOwn base w B vl vr vd) (t : Touch (fun _ => False) w w') : BOwn base w' B vl vr vd := h.touch t (fun _ _ h => h)
theorem BOwn.lower {base base' : Nat} {w : World} {B : BV} {vl vr vd : Value} (h : BOwn base w B vl vr vd) (hb : base' ≤ base) : BOwn base' w B vl vr vd := ⟨own_lower h.l hb, own_lower h.r hb, own_lower h.d hb⟩
theorem own_fm {w : World} {base e k n : Nat} {v : Value} {xs : List Value} (h : w.ownsRow base e k v n xs) : ∃ a c, v = .slice a n c := by
  rcases h.2 with ⟨rfl, e⟩ | ⟨g, cap, cur, rfl, _⟩
  · exact ⟨none, 0, by rw [e]⟩
  · exact ⟨_, cap, rfl⟩
theorem BOwn.form {base : Nat} {w : World} {B : BV} {vl vr vd : Value} (h : BOwn base w B vl vr vd) : ∃ a1 q1 a3 q3 a8 q8, vl = .slice a1 B.links.length q1 ∧ vr = .slice a3 B.routers.length q3 ∧ vd = .slice a8 B.data.length q8 := by
  obtain ⟨a1, q1, e1⟩ := own_fm h.l
  obtain ⟨a3, q3, e3⟩ := own_fm h.r
  obtain ⟨a8, q8, e8⟩ := own_fm h.d
  exact ⟨a1, q1, a3, q3, a8, q8, e1, e3, e8⟩
theorem BOwn.flat (base : Nat) (w : World) (x0 x2 x4 x6 x7 : Int) (x5 : Bool) : BOwn base w ⟨x0, [], x2, [], x4, x5, x6, x7, []⟩ (.slice none 0 0) (.slice none 0 0) (.slice none 0 0) :=
  ⟨World.ownsRow_nil _ _ _ _, World.ownsRow_nil _ _ _ _, World.ownsRow_nil _ _ _ _⟩
theorem own_vals {w : World} {base e k n : Nat} {v : Value} {xs : List Value} (h : w.ownsRow base e k v n xs) : ValsAt w k v n xs := by
  refine ⟨h.1, ?_⟩
  rcases h.2 with h2 | ⟨g, cap, cur, hv, hb, hh, h1, h2, h3, h4⟩
  · exact Or.inl h2
  · refine Or.inr ⟨_, cap, hv, h1, h2, fun j u hj => ?_⟩
    have hjl := (List.getElem?_eq_some_iff.mp hj).1
    have hl := h.1
    rw [add_plain, Nat.zero_add]
    rw [← h4, List.getElem?_take, if_pos (by omega)] at hj
    simp [World.cell?, hh]
    simpa using hj
theorem BOwn.arg {base : Nat} {w : World} {B : BV} {vl vr vd : Value} (h : BOwn base w B vl vr vd) : BArg w B vl vr vd :=
  ⟨own_vals h.l, own_vals h.r, (own_rowAt h.d).arg⟩
theorem OutB.row3 {w : World} {g : Nat} {b : BV} {vl vr vd : Value} (k : OutB w g b vl vr vd) (l : List Int) (u : Value) : OutB (w.setCell ⟨g, 3, none⟩ u) g { b with routers := l } vl u vd := by
  obtain ⟨⟨c0, c1, c2, c3, c4, c5, c6, c7, c8⟩, fz⟩ := k
  exact ⟨⟨by simp [c0, go_sem], by simp [c1, go_sem], by simp [c2, go_sem], by simp [c3, go_sem], by simp [c4, go_sem], by simp [c5, go_sem], by simp [c6, go_sem], by simp [c7, go_sem], by simp [c8, go_sem]⟩, fun i hi => by simp [fz i hi, go_sem]⟩
theorem OutB.row1 {w : World} {g : Nat} {b : BV} {vl vr vd : Value} (k : OutB w g b vl vr vd) (l : List LV) (u : Value) : OutB (w.setCell ⟨g, 1, none⟩ u) g { b with links := l } u vr vd := by
  obtain ⟨⟨c0, c1, c2, c3, c4, c5, c6, c7, c8⟩, fz⟩ := k
  exact ⟨⟨by simp [c0, go_sem], by simp [c1, go_sem], by simp [c2, go_sem], by simp [c3, go_sem], by simp [c4, go_sem], by simp [c5, go_sem], by simp [c6, go_sem], by simp [c7, go_sem], by simp [c8, go_sem]⟩, fun i hi => by simp [fz i hi, go_sem]⟩
/-- What a reader of a body of type t makes of the bytes rs. -/
def RdPost (t : Int) (N b : Nat) (rs : List Int) (w : World) : Ending → World → Prop := fun e w' =>
  (∃ B vl vr vd q, e = .returned (B.v vl vr vd) ∧ Rdr N w' b rs q ∧ BOwn w.heap.size w' B vl vr vd ∧ Touch (fun k => k = b) w w' ∧ decB t rs = (if q = some rs.length then some B else none)) ∨
  (e = .panicked (flawC 28) ∧ Touch (fun k => k = b) w w' ∧ decB t rs = none)
end Go.Proofs.Ytfdpmlogieaiaaa
