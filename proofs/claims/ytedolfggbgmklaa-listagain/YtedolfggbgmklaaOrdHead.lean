
/- Heads and keys as values and in memory; newer of two such; some heads (lives). -/
import Derived.Test.YtedolfggbgmklaaOrdKeys
import Derived.Test.YtedolfggbgmklaaHeadV
import Derived.Test.YtedolfggbgmklaaTAft
namespace Go.Proofs.Ytedolfggbgmklaa
open Go.RowKit
set_option linter.unusedVariables false
set_option maxRecDepth 100000

def HV.new (a b : HV) : Int := newI a.seq a.sum a.age b.seq b.sum b.age
theorem newer_hv (a b : HV) (ha : a.Ok) (hb : b.Ok) (x : Int) (hx : a.new b = x) (w : World) :
    Calls Try.prog 30 #[a.v, b.v] w fun e w' => e = .returned (.int .i64 x) ∧ Touch (fun _ => False) w w' := by
  rw [← hx]
  exact newer_any a.age a.opts a.typ a.id a.adv a.seq a.sum a.len b.age b.opts b.typ b.id b.adv b.seq b.sum b.len ha.a0 ha.a1 hb.a0 hb.a1 w
theorem seq_hv (x y : Int) (z : Int) (hz : cmpI x y = z) (w : World) : Calls Try.prog 45 #[.int .i32 x, .int .i32 y] w fun e w' => e = .returned (.int .i64 z) ∧ Touch (fun _ => False) w w' := by
  rw [← hz]
  exact (seq_any x y w).mono fun e w' ⟨he, hw⟩ => ⟨he, hw ▸ Touch.refl _ w⟩
theorem old_hv (a : Int) (h0 : 0 ≤ a) (h : a < 65536) (b : Bool) (hb : decide (yrs a = 3600) = b) (w : World) :
    Calls Try.prog 31 #[.int .u16 a] w fun e w' => e = .returned (.bool b) ∧ Touch (fun _ => False) w w' := by
  rw [← hb]
  exact (old_any a h0 h w).mono fun e w' ⟨he, hw⟩ => ⟨he, hw ▸ Touch.refl _ w⟩
end Go.Proofs.Ytedolfggbgmklaa
