
/- QueueOrder, whatever came in. -/
import Derived.Test.YtmdnlfbploaafaaQuOrder
namespace Go.Proofs.Ytmdnlfbploaafaa
open Go.RowKit
set_option linter.unusedVariables false
set_option maxRecDepth 100000

theorem OpsAt.ins {w : World} {a0 : Option Addr} {c0 : Nat} {os : List OpE} (h : OpsAt w (.slice a0 os.length c0) os) : Ins w a0 os := by
  refine ⟨fun hl => ?_⟩
  obtain ⟨g, off, c, hv, hc⟩ := h.at hl
  injection hv with e1 e2 e3
  exact ⟨g, off, e1, lt_of_cell (hc 0 hl).c0, hc⟩
set_option maxHeartbeats 400000 in
theorem order_any (v0 v1 : Value) (os : List OpE) (ns : List Int) (w : World) (h0 : OpsAt w v0 os) (h1 : NumsAt w v1 ns) :
    Calls Try.prog 5 #[v0, v1] w fun e w' => e = .returned (.bool true) ∧ Touch (fun _ => False) w w' := by
  obtain ⟨a0, c0, rfl⟩ := h0.form
  obtain ⟨a1, c1, rfl⟩ := h1.form
  by_cases hn : os.length ≤ 200
  · by_cases hs : ns.length ≤ 200
    · exact order_main a0 a1 c0 c1 os ns w h0.ins h1 hn hs
    · have hn' : ¬ 200 < (os.length : Int) := by omega
      have hs' : 200 < (ns.length : Int) := by omega
      clear h0 h1 hn hs
      go_enter Try.func5, Try.ntmps5
      go_wp2_with ((go_at_call 8; refine Calls.mono (lives_any _) ?_; rintro e wx ⟨rfl, tx⟩))
      go_ret
      exact ⟨rfl, tx⟩
  · have hn' : 200 < (os.length : Int) := by omega
    clear h0 h1 hn
    go_enter Try.func5, Try.ntmps5
    go_wp2_with ((go_at_call 8; refine Calls.mono (lives_any _) ?_; rintro e wx ⟨rfl, tx⟩))
    go_ret
    exact ⟨rfl, tx⟩
end Go.Proofs.Ytmdnlfbploaafaa
