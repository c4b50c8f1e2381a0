/-
  DERIVED. GIVEN WITH THE SEED: THE CARDS: each row of YthdkihnmeoacaaaGreatDoorRows.lean that lists a variable, with what it lists TIED to the program's text (the seventh form; the later family's looks); each row that meets fmt, with fmt's text TOLD by the authors' own Lean function (tested against real Go, not proved from fmt's source: count such statements apart). THE CARD IS WHAT COUNTS. Prove the row's statement (the work); the ties are given (YthdkihnmeoacaaaGreatDoorTie.lean); close each card by the builder's one call (the guide's Derived/Test/ToyasCard.lean, 'card_holds'). Laid BY PROGRAM, IN A SANDBOX (cutbox-door.mjs). By AI agents, Wed Nov 11 2026. No macro, syntax, notation, axiom, sorry.
-/
import Derived.Test.YthdkihnmeoacaaaGreatDoorRows
import GoSem.ClaimSeven
namespace Go.Proofs.YthdkihnmeoacaaaGreatDoor
namespace Rows

/-- THE TIED CARD OF 'lodestarlaw06.StateEncodes'. -/
def stateEncodesCard : Claim7 := { stood := { row := stateEncodesRow, standIns := [], harness := (true, "dc5a1ef5922c49b78e4beb83ee6f04658048b56591bb23c989548098d5ccfe2e"), looks := true }, kinds := [], alts := [], laidByText := true, laidKinds := [.data, .data, .data], laidTests := true, laidLooks := .later }
def StateEncodesCardSaid : Prop := Claim7.holds Tryz.pinned (.plain (OpenSpec.ofChange stateEncodesSpec)) stateEncodesCard

/-- THE TIED CARD OF 'lodestarlaw06.StateDecodes'. -/
def stateDecodesCard : Claim7 := { stood := { row := stateDecodesRow, standIns := [], harness := (true, "dc5a1ef5922c49b78e4beb83ee6f04658048b56591bb23c989548098d5ccfe2e"), looks := true }, kinds := [], alts := [], laidByText := true, laidKinds := [.data, .data, .data], laidTests := true, laidLooks := .later }
def StateDecodesCardSaid : Prop := Claim7.holds Tryz.pinned (.plain (OpenSpec.ofChange stateDecodesSpec)) stateDecodesCard

/-- THE TIED CARD OF 'lodestarlaw06.StateChecks'. -/
def stateChecksCard : Claim7 := { stood := { row := stateChecksRow, standIns := [], harness := (true, "dc5a1ef5922c49b78e4beb83ee6f04658048b56591bb23c989548098d5ccfe2e"), looks := true }, kinds := [], alts := [], laidByText := true, laidKinds := [.data, .data, .data], laidTests := true, laidLooks := .later }
def StateChecksCardSaid : Prop := Claim7.holds Tryz.pinned (.plain (OpenSpec.ofChange stateChecksSpec)) stateChecksCard

/-- THE SECOND FORM's CARD OF 'lodestarlaw06.StateEncodes'. -/
def stateEncodesUptoCard : Claim7 := { stood := { row := stateEncodesUptoRow, standIns := [], harness := (true, "dc5a1ef5922c49b78e4beb83ee6f04658048b56591bb23c989548098d5ccfe2e"), looks := true }, kinds := [], alts := [], laidByText := true, laidKinds := [.data, .data, .data], laidTests := true, laidLooks := .later }
def StateEncodesUptoCardSaid : Prop := Claim7.holds Tryz.pinned (.plain (OpenSpec.upto stateEncodesSpec)) stateEncodesUptoCard

/-- THE SECOND FORM's CARD OF 'lodestarlaw06.StateDecodes'. -/
def stateDecodesUptoCard : Claim7 := { stood := { row := stateDecodesUptoRow, standIns := [], harness := (true, "dc5a1ef5922c49b78e4beb83ee6f04658048b56591bb23c989548098d5ccfe2e"), looks := true }, kinds := [], alts := [], laidByText := true, laidKinds := [.data, .data, .data], laidTests := true, laidLooks := .later }
def StateDecodesUptoCardSaid : Prop := Claim7.holds Tryz.pinned (.plain (OpenSpec.upto stateDecodesSpec)) stateDecodesUptoCard

/-- THE SECOND FORM's CARD OF 'lodestarlaw06.StateChecks'. -/
def stateChecksUptoCard : Claim7 := { stood := { row := stateChecksUptoRow, standIns := [], harness := (true, "dc5a1ef5922c49b78e4beb83ee6f04658048b56591bb23c989548098d5ccfe2e"), looks := true }, kinds := [], alts := [], laidByText := true, laidKinds := [.data, .data, .data], laidTests := true, laidLooks := .later }
def StateChecksUptoCardSaid : Prop := Claim7.holds Tryz.pinned (.plain (OpenSpec.upto stateChecksSpec)) stateChecksUptoCard
end Rows
end Go.Proofs.YthdkihnmeoacaaaGreatDoor
