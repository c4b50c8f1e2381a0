
/- Law 10: a queue and the document's side by side, and blocks G that stay as they were in W. -/
import Derived.Test.YtmdnlfbploaafaaQuPl1
import Derived.Test.YtmdnlfbploaafaaQuCopy
namespace Go.Proofs.Ytmdnlfbploaafaa
open Go.RowKit
set_option linter.unusedVariables false
set_option maxRecDepth 100000

structure BothG (G : Nat → Prop) (W w : World) (b : Nat) (v : Value) (m : Nat) (most : Int) (l : List En) (d : Nat) (u : Value) (k : List En) : Prop where
  q : QS w b v m most l
  ds : DS w d u most k
  ap : ∀ j, qB b v m j → ¬ dB d u j
  gq : ∀ j, G j → ¬ qB b v m j
  gd : ∀ j, G j → ¬ dB d u j
  gl : ∀ j, G j → j < W.heap.size
  t : Touch (fun j => ¬ G j) W w
section bothg
variable {G : Nat → Prop} {W w w' : World} {b : Nat} {v : Value} {m : Nat} {most : Int} {l L : List En} {d : Nat} {u : Value} {k : List En}
theorem BothG.keepN (h : BothG G W w b v m most l d u k) (t : Touch (fun _ => False) w w') : BothG G W w' b v m most l d u k :=
  ⟨h.q.keep t (fun _ _ e => e), h.ds.keep t (fun _ _ e => e), h.ap, h.gq, h.gd, h.gl, h.t.trans' t (fun _ _ e => e.elim)⟩
theorem BothG.step1 (h : BothG G W w b v m most l d u k) (n : QN w b v m most L w') : ∃ v' l', BothG G W w' b v' m most l' d u k ∧ l'.Perm L := by
  obtain ⟨⟨v', l', Q, p, hv⟩, t⟩ := n
  refine ⟨v', l', ⟨Q, h.ds.keep t (fun j hj e => h.ap j e hj), fun j hj hj2 => ?_, fun j hg hj => ?_, h.gd, h.gl, h.t.trans' t (fun i hi e g => h.gq i g e)⟩, p⟩
  · rcases qB_new hv hj with e | e
    · exact h.ap j e hj2
    · have := h.ds.lt j hj2; omega
  · rcases qB_new hv hj with e | e
    · exact h.gq j hg e
    · have := h.gl j hg; have := h.t.size; omega
theorem BothG.step2 (h : BothG G W w b v m most l d u k) (n : DN w d u most L w') : ∃ u', BothG G W w' b v m most l d u' L := by
  obtain ⟨⟨u', D, hu⟩, t⟩ := n
  refine ⟨u', ⟨h.q.keep t (fun j hj e => h.ap j hj e), D, fun j hj hj2 => ?_, h.gq, fun j hg hj2 => ?_, h.gl, h.t.trans' t (fun i hi e g => h.gd i g e)⟩⟩
  · rcases hj2 with e | e
    · exact h.ap j hj (Or.inl e)
    · rcases hu j e with e2 | e2
      · exact h.ap j hj (Or.inr e2)
      · have := h.q.lt j hj; omega
  · rcases hj2 with e | e
    · exact h.gd j hg (Or.inl e)
    · rcases hu j e with e2 | e2
      · exact h.gd j hg (Or.inr e2)
      · have := h.gl j hg; have := h.t.size; omega
end bothg
end Go.Proofs.Ytmdnlfbploaafaa
