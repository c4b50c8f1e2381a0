
/- Contract of EqBytes. -/
import Derived.Test.YtedolfggbgmklaaArgB
namespace Go.Proofs.Ytedolfggbgmklaa
open Go.RowKit
set_option linter.unusedVariables false
set_option maxRecDepth 100000

theorem rowAt_cell {w : World} {g off c n : Nat} {rs : List Int} (h : RowAt w (.slice (some ⟨g, off, none⟩) n c) rs) (j : Nat) (hj : j < rs.length) : w.cell? ⟨g, off + j, none⟩ = some (.int .u8 (rs.getD j 0)) := by
  rcases h with ⟨h, _⟩ | ⟨g', off', c', h, _, _, h3⟩
  · simp at h
  · simp at h
    obtain ⟨⟨rfl, rfl⟩, _, _⟩ := h
    exact h3 j _ (by simp [bytesOf, List.getElem?_eq_getElem hj, List.getD])

/-- A row that is not empty has an address. -/
theorem rowAt_some {w : World} {a : Option Addr} {n c : Nat} {rs : List Int} (h : RowAt w (.slice a n c) rs) (hn : 0 < n) : ∃ g off, a = some ⟨g, off, none⟩ := by
  rcases h with ⟨h, _⟩ | ⟨g', off', c', h, _⟩
  · simp at h; omega
  · simp at h; exact ⟨g', off', h.1⟩

theorem Try.info5w : (Try.prog.info? 5).map (fun i => (i.zero, i.size, i.bytes)) = some (some (.int .u8 0), 1, 1) := by kernel_rfl
end Go.Proofs.Ytedolfggbgmklaa
