
/- Arguments: a list of bytes that came in. -/
import Derived.Test.YtedolfggbgmklaaParts
import Derived.Deep.Slices
import Derived.SizedLaws
import Derived.OpenShut
namespace Go.Proofs.Ytedolfggbgmklaa
open Go.RowKit Go.ChangeShapes Go.WideShapes Go.ChangeAt
set_option linter.unusedVariables false
set_option maxRecDepth 100000

/-- A slice that came in reads as rs; of the address of one without cells nothing is known. -/
def ArgAt (w : World) (v : Value) (rs : List Int) : Prop :=
  (v = .slice none 0 0 ∧ rs = []) ∨ ∃ ad c, v = .slice (some ad) rs.length c ∧ rs.length ≤ c ∧ c ≤ maxLen ∧ ∀ j u, (bytesOf rs)[j]? = some u → w.cell? (ad.add j) = some u

theorem RowAt.arg {w : World} {v : Value} {rs : List Int} (h : RowAt w v rs) : ArgAt w v rs := by
  rcases h with h | ⟨g, off, c, rfl, h1, h2, h3⟩
  · exact Or.inl h
  · exact Or.inr ⟨_, c, rfl, h1, h2, fun j u hj => by rw [add_plain]; exact h3 j u hj⟩
theorem ArgAt.form {w : World} {v : Value} {rs : List Int} (h : ArgAt w v rs) : ∃ a c, v = .slice a rs.length c ∧ rs.length ≤ maxLen := by
  rcases h with ⟨rfl, rfl⟩ | ⟨ad, c, rfl, h1, h2, h3⟩
  · exact ⟨_, _, rfl, Nat.zero_le _⟩
  · exact ⟨_, _, rfl, Nat.le_trans h1 h2⟩
theorem ArgAt.row {w : World} {v : Value} {rs : List Int} (h : ArgAt w v rs) (hp : 0 < rs.length) : RowAt w v rs := by
  rcases h with ⟨rfl, rfl⟩ | ⟨ad, c, rfl, h1, h2, h3⟩
  · exact Or.inl ⟨rfl, rfl⟩
  · obtain ⟨g, off, spot⟩ := ad
    have hc := h3 0 (.int .u8 rs[0]) (by simp [bytesOf, hp])
    have hspot : spot = none := by simpa [Addr.add] using World.cell?_spot hc
    subst hspot
    exact Or.inr ⟨g, off, c, rfl, h1, h2, fun j u hj => by have := h3 j u hj; rwa [add_plain] at this⟩
theorem add_block (ad : Addr) (j : Nat) : (ad.add j).block = ad.block := by by_cases h : j = 0 <;> simp [Addr.add, h]
theorem ArgAt.keep {F : Nat → Prop} {w w' : World} {v : Value} {rs : List Int} (h : ArgAt w v rs) (t : Touch F w w') (hF : ∀ k, k < w.heap.size → ¬ F k) : ArgAt w' v rs := by
  rcases h with h | ⟨ad, c, rfl, h1, h2, h3⟩
  · exact Or.inl h
  · refine Or.inr ⟨ad, c, rfl, h1, h2, fun j u hj => ?_⟩
    have hc := h3 j u hj
    exact (t.cell (lt_of_cellA hc) (hF _ (lt_of_cellA hc))).trans hc

section
variable {H : Type} {enc : TypeId × Value → H} {w : World} {base : Nat} {held : Bool}

theorem open_bytes {fuel : Nat} {a : Option Addr} {len cap : Nat} {x : DataW H × List MemPlace} (h : DataW.trod enc Try.prog w base (fun _ => true) held fuel 51 [.slice a len cap] = some x) :
    ∃ rs : List Int, rs.length = len ∧ ArgAt w (.slice a len cap) rs ∧ (∀ z ∈ rs, 0 ≤ z ∧ z < 256) ∧ (x.1 = .nil ∧ len = 0 ∨ ∃ el sp, x.1 = .slice el sp ∧ el.length = len) := by
  rcases open_ints Try.underlying51 Try.underlying5 (by kernel_rfl) h with ⟨hcs, hx⟩ | ⟨ad, l, c, zs, hcs, _, hl, hm, hz, hx, hcell, hwz⟩
  · simp at hcs
    obtain ⟨rfl, rfl, rfl⟩ := hcs
    exact ⟨[], rfl, Or.inl ⟨rfl, rfl⟩, by simp, Or.inl ⟨by rw [hx], rfl⟩⟩
  · simp at hcs
    obtain ⟨rfl, rfl, rfl⟩ := hcs
    have hz' : zs.length = cap := by simpa using hz
    have hlen : (zs.take len).length = len := by simp; omega
    refine ⟨zs.take len, hlen, Or.inr ⟨ad, cap, by rw [hlen], by omega, hm, fun j u hj => ?_⟩, fun z hzm => ?_, Or.inr ⟨_, _, by rw [hx], by simp [lits]; omega⟩⟩
    · have hjl : j < len := by
        have := (List.getElem?_eq_some_iff.mp hj).1
        simp [bytesOf] at this
        omega
      have := hcell j (by omega)
      rw [this]
      simp only [bytesOf, List.getElem?_map, List.getElem?_take, if_pos hjl] at hj
      rw [List.getElem?_eq_getElem (by omega)] at hj
      rw [← hj]
      simp [List.getD, show j < zs.length by omega]
    · have := bounds_u8 (hwz z (List.mem_of_mem_take hzm))
      omega
end
end Go.Proofs.Ytedolfggbgmklaa
