
/- What no adjacency answers. -/
import Derived.Test.YtojlnabhaglejaaRowB
import Derived.Test.YtojlnabhaglejaaHeadV
import Derived.BigRegion
namespace Go.Proofs.Ytojlnabhaglejaa
open Go.RowKit
set_option linter.unusedVariables false
set_option maxRecDepth 100000

/-- No adjacency, or one that New did not make. -/
def NoAd (p : Value) (w : World) : Prop := p = .pointer none ∨ ∃ b, p = .pointer (some ⟨b, 0, none⟩) ∧ w.cell? ⟨b, 0, none⟩ = some (.int .u32 0)
theorem NoAd.keep {p : Value} {w w' : World} (h : NoAd p w) (t : Touch (fun _ => False) w w') : NoAd p w' := by
  rcases h with h | ⟨b, h, hc⟩
  · exact Or.inl h
  · exact Or.inr ⟨b, h, t.cellN hc⟩
end Go.Proofs.Ytojlnabhaglejaa
