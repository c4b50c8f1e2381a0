/- A state in a block of the call's own: stores into it. -/
import Derived.Test.YtfdpmlogieaiaaaStaVal
namespace Go.Proofs.Ytfdpmlogieaiaaa
open Go.RowKit
set_option linter.unusedVariables false
set_option maxRecDepth 100000

/-- A state lies in block g, and may be stored into. -/
structure Out (w : World) (g : Nat) (h : HV) (v : Value) : Prop where
  sd : Sd w g h v
  fz : ∀ i, i < 9 → w.frozen? ⟨g, i, none⟩ = false
theorem Out.lt {w : World} {g : Nat} {h : HV} {v : Value} (k : Out w g h v) : g < w.heap.size := lt_of_cell k.sd.hd.c0
theorem Out.keep {w w' : World} {g : Nat} {h : HV} {v : Value} (k : Out w g h v) (t : Touch (fun _ => False) w w') : Out w' g h v :=
  ⟨k.sd.keep t, fun i hi => (t.frozen (p := ⟨g, i, none⟩) k.lt (fun h => h)).trans (k.fz i hi)⟩
theorem Out.new (w : World) (h : HV) (v : Value) (t : TypeId) :
    Out (w.alloc (.cells #[.int .u16 h.age, .int .u8 h.opts, .int .u8 h.typ, .int .u32 h.id, .int .u32 h.adv, .int .i32 h.seq, .int .u16 h.sum, .int .u16 h.len, v] t)) w.heap.size h v :=
  ⟨Sd.new w h v t, fun i hi => by simp [go_sem]⟩
theorem Out.set6 {w : World} {g : Nat} {h : HV} {v : Value} (k : Out w g h v) (x : Int) : Out (w.setCell ⟨g, 6, none⟩ (.int .u16 x)) g { h with sum := x } v := by
  obtain ⟨⟨⟨c0, c1, c2, c3, c4, c5, c6, c7⟩, c8⟩, fz⟩ := k
  exact ⟨⟨⟨by simp [c0, go_sem], by simp [c1, go_sem], by simp [c2, go_sem], by simp [c3, go_sem], by simp [c4, go_sem], by simp [c5, go_sem], by simp [c6, go_sem], by simp [c7, go_sem]⟩, by simp [c8, go_sem]⟩, fun i hi => by simp [fz i hi, go_sem]⟩
theorem Out.set7 {w : World} {g : Nat} {h : HV} {v : Value} (k : Out w g h v) (x : Int) : Out (w.setCell ⟨g, 7, none⟩ (.int .u16 x)) g { h with len := x } v := by
  obtain ⟨⟨⟨c0, c1, c2, c3, c4, c5, c6, c7⟩, c8⟩, fz⟩ := k
  exact ⟨⟨⟨by simp [c0, go_sem], by simp [c1, go_sem], by simp [c2, go_sem], by simp [c3, go_sem], by simp [c4, go_sem], by simp [c5, go_sem], by simp [c6, go_sem], by simp [c7, go_sem]⟩, by simp [c8, go_sem]⟩, fun i hi => by simp [fz i hi, go_sem]⟩
theorem Out.set8 {w : World} {g : Nat} {h : HV} {v : Value} (k : Out w g h v) (u : Value) : Out (w.setCell ⟨g, 8, none⟩ u) g h u := by
  obtain ⟨⟨⟨c0, c1, c2, c3, c4, c5, c6, c7⟩, c8⟩, fz⟩ := k
  exact ⟨⟨⟨by simp [c0, go_sem], by simp [c1, go_sem], by simp [c2, go_sem], by simp [c3, go_sem], by simp [c4, go_sem], by simp [c5, go_sem], by simp [c6, go_sem], by simp [c7, go_sem]⟩, by simp [c8, go_sem]⟩, fun i hi => by simp [fz i hi, go_sem]⟩
theorem Out.other {w : World} {g : Nat} {h : HV} {v : Value} (k : Out w g h v) {p : Addr} (hp : p.block ≠ g) (u : Value) : Out (w.setCell p u) g h v := by
  have t : Touch (fun k => k = p.block) w (w.setCell p u) := Touch.setCell (F := fun k => k = p.block) (Touch.refl _ w) (p := p) (Or.inl rfl) u
  have hl := k.lt
  have ce : ∀ i, (w.setCell p u).cell? ⟨g, i, none⟩ = w.cell? ⟨g, i, none⟩ := fun i => t.cell (p := ⟨g, i, none⟩) hl (fun e => hp e.symm)
  obtain ⟨⟨⟨c0, c1, c2, c3, c4, c5, c6, c7⟩, c8⟩, fz⟩ := k
  exact ⟨⟨⟨(ce 0).trans c0, (ce 1).trans c1, (ce 2).trans c2, (ce 3).trans c3, (ce 4).trans c4, (ce 5).trans c5, (ce 6).trans c6, (ce 7).trans c7⟩, (ce 8).trans c8⟩,
    fun i hi => (t.frozen (p := ⟨g, i, none⟩) hl (fun e => hp e.symm)).trans (fz i hi)⟩
/-- A row of the call's own and a store into an older block. -/
theorem own_store {w : World} {base e k n : Nat} {v : Value} {xs : List Value} (h : w.ownsRow base e k v n xs) {p : Addr} (hp : p.block < base) (u : Value) : (w.setCell p u).ownsRow base e k v n xs :=
  own_touch h (Touch.setCell (F := fun k => k = p.block) (Touch.refl _ w) (p := p) (Or.inl rfl) u) (fun j hj e => by have := (h.lt j hj).1; omega)
theorem own_lower {w : World} {base base' e k n : Nat} {v : Value} {xs : List Value} (h : w.ownsRow base e k v n xs) (hb : base' ≤ base) : w.ownsRow base' e k v n xs := by
  refine ⟨h.1, ?_⟩
  rcases h.2 with h2 | ⟨g, cap, cur, hv, hg, r⟩
  · exact Or.inl h2
  · exact Or.inr ⟨g, cap, cur, hv, by omega, r⟩
end Go.Proofs.Ytfdpmlogieaiaaa
