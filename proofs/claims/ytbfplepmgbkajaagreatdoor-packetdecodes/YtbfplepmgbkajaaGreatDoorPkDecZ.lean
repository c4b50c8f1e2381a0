/- PacketDecodes: every input. -/
import Derived.Test.YtbfplepmgbkajaaGreatDoorPkDecW
import Derived.Test.YtbfplepmgbkajaaGreatDoorRefPkD9
namespace Go.Proofs.YtbfplepmgbkajaaGreatDoor
open Go.RowKit
set_option linter.unusedVariables false
set_option maxRecDepth 100000

theorem pdecodes_any (v : Value) (rs : List Int) (w : World) (hv : ArgAt w v rs) (hby : ∀ z ∈ rs, 0 ≤ z ∧ z < 256) :
  Calls Tryz.prog 4 #[v] w fun e w' => e = .returned (.bool true) ∧ Touch (fun _ => False) w w' := by
 obtain ⟨a, c, rfl, -⟩ := hv.form
 by_cases hl : 131072 < rs.length
 ·exact pdecodes_long a c rs w hl
 ·refine pdecodes_of a c rs w hv hby (by omega) fun w' h => (ddec_any _ rs w' h hby (by omega)).mono ?_
  intro e w'' d
  obtain ⟨vn, vd, vk, vs, vh, he, hp⟩ := d.out
  exact ⟨d.t, vn, vd, vk, vs, vh, he, hp⟩
end Go.Proofs.YtbfplepmgbkajaaGreatDoor
