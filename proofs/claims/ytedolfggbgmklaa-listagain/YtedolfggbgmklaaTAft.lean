
/- A region that draws its order, whose callees make memory but turn nothing old: one walk in the order of the text (the frame is Touch of no block). -/
import Derived.Test.YtedolfggbgmklaaParts
namespace Go.Proofs.Ytedolfggbgmklaa
open Go.RowKit
set_option linter.unusedVariables false
set_option maxRecDepth 100000

/-- A world in which nothing of w has turned. -/
structure Aft (w0 : World) where
  w : World
  gr : Touch (fun _ => False) w0 w

theorem wp_region_aft {P : Program} {id : Nat} {Q : Exit → Act → World → Prop} {a : Act} {w : World} {l : List Oper} (hm : P.follows .mixedOrders = true) (hB : Region.lexB .any l.toArray = true)
    (h : wpQuiet P l.toArray (fun w' => ∃ u : Aft w, w' = u.w) (fun a' => ∀ w', (∃ u : Aft w, w' = u.w) → Q .normal a' w') l a) : (Code.region id l.toArray true).wp P Q a w :=
  wp_region_quiet (C := fun w' => ∃ u : Aft w, w' = u.w) hm hB ⟨⟨_, (Touch.refl _ w).drew⟩, rfl⟩ (by simpa using h)
theorem Aft.call {P : Program} {f : FuncId} {args : Array Value} {w : World} {u : Aft w} {v : Value} (h : Calls P f args u.w fun e w' => e = .returned v ∧ Touch (fun _ => False) u.w w') :
    Calls P f args u.w fun e w'' => e = .returned v ∧ ∃ u' : Aft w, w'' = u'.w :=
  h.mono fun _ w'' ⟨he, hg⟩ => ⟨he, ⟨w'', u.gr.trans hg⟩, rfl⟩
theorem aft_cell {w : World} {p : Addr} {v : Value} (h : w.cell? p = some v) : ∀ u : Aft w, u.w.cell? p = some v :=
  fun u => u.gr.cellN h
end Go.Proofs.Ytedolfggbgmklaa
