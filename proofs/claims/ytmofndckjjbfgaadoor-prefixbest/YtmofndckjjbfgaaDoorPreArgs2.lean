/- A list of prefixes that came in. -/
import Derived.Test.YtmofndckjjbfgaaDoorPreArgs
import Derived.Test.YtmofndckjjbfgaaDoorPreBest
import Derived.Deep.Slices
import Derived.Deep.Matrix
namespace Go.Proofs.YtmofndckjjbfgaaDoor
open Go.ChangeShapes Go.WideShapes Go.ChangeAt Go.RowKit
set_option linter.unusedVariables false
set_option maxRecDepth 100000

section
variable {H : Type} {enc : TypeId × Value → H} {w : World} {base : Nat} {held : Bool}

theorem open_pxs {a : Option Addr} {len cap : Nat} {d : DataW H} {p : List MemPlace} (hd : DataW.Trod enc Tryd.prog w base (fun _ => true) held 38 (.slice a len cap) d p) :
    ∃ (g off : Nat) (ps : Nat → Int × Int), (0 < len → a = some ⟨g, off, none⟩) ∧ PxRow w g off ps len ∧ ∀ i, i < len → (0 ≤ (ps i).1 ∧ (ps i).1 ≤ 4294967295) ∧ (0 ≤ (ps i).2 ∧ (ps i).2 ≤ 255) := by
  obtain ⟨fuel, hf⟩ := hd
  have h : DataW.trod enc Tryd.prog w base (fun _ => true) held fuel 38 [.slice a len cap] = some (d, p) := by simpa [Value.cells] using hf
  have hcl : Tryd.prog.cellsOf 24 = 2 := by kernel_rfl
  rcases Deep.open_slice Tryd.underlying38 h with ⟨hcs, _⟩ | ⟨ad, l, c, m, n, D, Pl, hcs, _, hl, hm, hmm, hx, hel⟩
  · simp at hcs
    obtain ⟨rfl, rfl, rfl⟩ := hcs
    exact ⟨0, 0, fun _ => (0, 0), by simp, fun i hi => absurd hi (by omega), fun i hi => absurd hi (by omega)⟩
  · simp at hcs
    obtain ⟨rfl, rfl, rfl⟩ := hcs
    simp at hmm
    subst hmm
    by_cases hl0 : len = 0
    · subst hl0
      exact ⟨0, 0, fun _ => (0, 0), by simp, fun i hi => absurd hi (by omega), fun i hi => absurd hi (by omega)⟩
    have each : ∀ i, i < len → ∃ o : Int × Int, (w.cell? (ad.add (i * 2)) = some (.int .u32 o.1) ∧ w.cell? (ad.add (i * 2 + 1)) = some (.int .u8 o.2)) ∧ (0 ≤ o.1 ∧ o.1 ≤ 4294967295) ∧ (0 ≤ o.2 ∧ o.2 ≤ 255) := by
      intro i hi
      obtain ⟨cs', h1, h2⟩ := hel i (by omega)
      rw [hcl] at h1
      obtain ⟨_, hlen, hcell⟩ := World.cells?_some h1
      obtain ⟨x, y, rfl, hx1, hy1⟩ := px_cells h2
      have q0 := hcell 0 (by omega)
      have q1 := hcell 1 (by omega)
      rw [Deep.add_add] at q0 q1
      exact ⟨(x, y), ⟨by simpa using q0, by simpa using q1⟩, hx1, hy1⟩
    obtain ⟨g, off, spot⟩ := ad
    have hspot : spot = none := by
      obtain ⟨o, ⟨q0, _⟩, _⟩ := each 0 (by omega)
      simpa [Addr.add] using World.cell?_spot q0
    subst hspot
    have each' : ∀ i, i < len → ∃ o : Int × Int, (w.cell? ⟨g, off + i * 2, none⟩ = some (.int .u32 o.1) ∧ w.cell? ⟨g, off + i * 2 + 1, none⟩ = some (.int .u8 o.2)) ∧ (0 ≤ o.1 ∧ o.1 ≤ 4294967295) ∧ (0 ≤ o.2 ∧ o.2 ≤ 255) := by
      intro i hi
      obtain ⟨o, ⟨q0, q1⟩, r⟩ := each i hi
      rw [Lib.add_plain] at q0 q1
      exact ⟨o, ⟨q0, q1⟩, r⟩
    obtain ⟨ps, hps⟩ := Deep.choose_lt each'
    exact ⟨g, off, ps, fun _ => rfl, fun i hi => (hps i hi).1, fun i hi => (hps i hi).2⟩
end
end Go.Proofs.YtmofndckjjbfgaaDoor
