
/- Rows of calls that came in, and how long they may be. -/
import Derived.Test.YtmdnlfbploaafaaQuArgs
namespace Go.Proofs.Ytmdnlfbploaafaa
open Go.ChangeShapes Go.WideShapes Go.ChangeAt Go.RowKit
set_option linter.unusedVariables false
set_option maxRecDepth 100000
section
variable {H : Type} {enc : TypeId × Value → H} {w : World} {base : Nat} {held : Bool}
theorem reachq {n : Nat} (h : n ≤ reachBytes) : n ≤ 140737488355328 := by
  unfold reachBytes at h
  omega
theorem open_opsqL {a : Option Addr} {len cap : Nat} {d : DataW H} {p : List MemPlace} (hd : DataW.Trod enc Try.prog w base (fun _ => true) held 22 (.slice a len cap) d p)
    (hL : ∀ n ∈ d.weights Try.prog 22, n ≤ 140737488355328) : ∃ os : List OpE, OpsAt w (.slice a len cap) os ∧ os.length ≤ 140737488355328 := by
  obtain ⟨os, ho⟩ := open_opsq hd
  refine ⟨os, ho, ?_⟩
  obtain ⟨a', c', e⟩ := ho.form
  injection e with _ e _
  obtain ⟨fuel, hf⟩ := hd
  have h : DataW.trod enc Try.prog w base (fun _ => true) held fuel 22 [.slice a len cap] = some (d, p) := by simpa [Value.cells] using hf
  have hby : Try.prog.bytesOf 34 = 32 := by kernel_rfl
  rcases Deep.open_slice Try.underlying22 h with ⟨hcs, _⟩ | ⟨ad, l, c, m, n, D, Pl, hcs, _, hl, hm, hmm, hx, hel⟩
  · simp at hcs
    omega
  · simp at hcs
    obtain ⟨rfl, rfl, rfl⟩ := hcs
    simp at hmm
    subst hmm
    simp only [Prod.mk.injEq] at hx
    obtain ⟨rfl, -⟩ := hx
    have := hL ((((List.range len).map D).length + ((List.range (m - len)).map fun j => D (len + j)).length) * Try.prog.bytesOf 34) (by simp [DataW.weights, Try.underlying22])
    rw [hby] at this
    simp at this
    omega
end
end Go.Proofs.Ytmdnlfbploaafaa
