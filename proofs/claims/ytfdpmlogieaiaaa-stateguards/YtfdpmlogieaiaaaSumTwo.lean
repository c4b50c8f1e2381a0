/- Two numbers in a block; parts of a row. -/
import Derived.Test.YtfdpmlogieaiaaaSumBits
import Derived.Test.YtfdpmlogieaiaaaEqB
import Derived.Deep.LoopGhost
namespace Go.Proofs.Ytfdpmlogieaiaaa
open Go.RowKit
set_option linter.unusedVariables false
set_option maxRecDepth 100000

/-- Two numbers of 32 bits lie in block b. -/
structure Two (w : World) (b : Nat) (x y : Int) : Prop where
  c0 : w.cell? ⟨b, 0, none⟩ = some (.int .u32 x)
  c1 : w.cell? ⟨b, 1, none⟩ = some (.int .u32 y)
  f0 : w.frozen? ⟨b, 0, none⟩ = false
  f1 : w.frozen? ⟨b, 1, none⟩ = false
theorem Two.lt {w : World} {b : Nat} {x y : Int} (h : Two w b x y) : b < w.heap.size := lt_of_cell h.c0
theorem Two.keep {w w' : World} {b : Nat} {x y : Int} (h : Two w b x y) (t : Touch (fun _ => False) w w') : Two w' b x y :=
  ⟨t.cellN h.c0, t.cellN h.c1, (t.frozen h.lt (fun h => h)).trans h.f0, (t.frozen h.lt (fun h => h)).trans h.f1⟩
theorem Two.drew {w : World} {b : Nat} {x y : Int} (h : Two w b x y) : Two w.drew b x y := h.keep ((Touch.refl _ _).drew)
theorem Two.set0 {w : World} {b : Nat} {x y : Int} (h : Two w b x y) (z : Int) : Two (w.setCell ⟨b, 0, none⟩ (.int .u32 z)) b z y := by
  obtain ⟨h0, h1, h2, h3⟩ := h
  exact ⟨by simp [h0, go_sem], by simp [h1, go_sem], by simp [h2, go_sem], by simp [h3, go_sem]⟩
theorem Two.set1 {w : World} {b : Nat} {x y : Int} (h : Two w b x y) (z : Int) : Two (w.setCell ⟨b, 1, none⟩ (.int .u32 z)) b x z := by
  obtain ⟨h0, h1, h2, h3⟩ := h
  exact ⟨by simp [h0, go_sem], by simp [h1, go_sem], by simp [h2, go_sem], by simp [h3, go_sem]⟩
theorem Touch.new {w0 w : World} (t : Touch (fun _ => False) w0 w) {p : Addr} (h : w0.heap.size ≤ p.block) (u : Value) : Touch (fun _ => False) w0 (w.setCell p u) := t.setCell (Or.inr h) u

theorem rowAt_cap {w : World} {g off c : Nat} {rs : List Int} (h : RowAt w (.slice (some ⟨g, off, none⟩) rs.length c) rs) : rs.length ≤ c := by
  rcases h with ⟨h, _⟩ | ⟨g', off', c', h, h1, _⟩
  · cases h
  · cases h; exact h1
theorem rowAt_drop {w : World} {g off c : Nat} {rs : List Int} (h : RowAt w (.slice (some ⟨g, off, none⟩) rs.length c) rs) (n : Nat) (hn : n ≤ rs.length) : RowAt w (.slice (some ⟨g, off + n, none⟩) (rs.length - n) (c - n)) (rs.drop n) := by
  rcases h with ⟨h, _⟩ | ⟨g', off', c', h, h1, h2, h3⟩
  · cases h
  · cases h
    refine Or.inr ⟨g, off + n, c - n, by simp, by simp; omega, by omega, fun j u hj => ?_⟩
    rw [Nat.add_assoc]
    refine h3 (n + j) u ?_
    simpa [bytesOf, List.getElem?_drop] using hj
theorem rowAt_take {w : World} {g off c : Nat} {rs : List Int} (h : RowAt w (.slice (some ⟨g, off, none⟩) rs.length c) rs) (n : Nat) (hn : n ≤ rs.length) : RowAt w (.slice (some ⟨g, off, none⟩) n c) (rs.take n) := by
  rcases h with ⟨h, _⟩ | ⟨g', off', c', h, h1, h2, h3⟩
  · cases h
  · cases h
    refine Or.inr ⟨g, off, c, by simp; omega, by simp; omega, by omega, fun j u hj => ?_⟩
    refine h3 j u ?_
    simp only [bytesOf, List.getElem?_map, List.getElem?_take] at hj ⊢
    split at hj
    · exact hj
    · simp at hj
end Go.Proofs.Ytfdpmlogieaiaaa
