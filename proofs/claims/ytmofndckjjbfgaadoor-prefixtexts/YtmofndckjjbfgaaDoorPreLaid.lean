/- The listed tables: what is behind the first. -/
import Derived.Test.YtmofndckjjbfgaaDoorPreTens
import Derived.Lib.LaidTab
namespace Go.Proofs.YtmofndckjjbfgaaDoor
set_option linter.unusedVariables false

theorem laid_tail {P : Program} {x : String × DataW Unit} {r : List (String × DataW Unit)} {w : World} (h : laidMet P (x :: r) w) : laidMet P r w := by
  obtain ⟨ps, hv, hn, hc⟩ := h
  obtain ⟨g, t, cs, fuel, p, q, hg, ht, hvar, hd, hq, rfl⟩ := hv
  exact ⟨q, hq, (List.nodup_append.1 hn).2.1, fun b off hb => hc b off (List.mem_append.2 (.inr hb))⟩
end Go.Proofs.YtmofndckjjbfgaaDoor
