/-
  DERIVED. GIVEN WITH THE SEED: THE CARDS: each row of YtjjgbcjgmjggnaaGreatDoorRows.lean that lists a variable, with what it lists TIED to the program's text (the seventh form; the later family's looks); each row that meets fmt, with fmt's text TOLD by the authors' own Lean function (tested against real Go, not proved from fmt's source: count such statements apart). THE CARD IS WHAT COUNTS. Prove the row's statement (the work); the ties are given (YtjjgbcjgmjggnaaGreatDoorTie.lean); close each card by the builder's one call (the guide's Derived/Test/ToyasCard.lean, 'card_holds'). Laid BY PROGRAM, IN A SANDBOX (cutbox-door.mjs). By AI agents, Wed Nov 11 2026. No macro, syntax, notation, axiom, sorry.
-/
import Derived.Test.YtjjgbcjgmjggnaaGreatDoorRows
import GoSem.ClaimSeven
namespace Go.Proofs.YtjjgbcjgmjggnaaGreatDoor
namespace Rows

/-- THE TIED CARD OF 'lodestarlaw08.AuthSigns'. -/
def authSignsCard : Claim7 := { stood := { row := authSignsRow, standIns := [], harness := (true, "4f1ae9293bb1c5efe88478e5d4f0f8d42ea26c40214552a1eb81b3214ccc345c"), looks := true }, kinds := [], alts := [], laidByText := true, laidKinds := [.data, .data, .data], laidTests := true, laidLooks := .later }
def AuthSignsCardSaid : Prop := Claim7.holds Tryz.pinned (.plain (OpenSpec.ofChange authSignsSpec)) authSignsCard

/-- THE SECOND FORM's CARD OF 'lodestarlaw08.AuthSigns'. -/
def authSignsUptoCard : Claim7 := { stood := { row := authSignsUptoRow, standIns := [], harness := (true, "4f1ae9293bb1c5efe88478e5d4f0f8d42ea26c40214552a1eb81b3214ccc345c"), looks := true }, kinds := [], alts := [], laidByText := true, laidKinds := [.data, .data, .data], laidTests := true, laidLooks := .later }
def AuthSignsUptoCardSaid : Prop := Claim7.holds Tryz.pinned (.plain (OpenSpec.upto authSignsSpec)) authSignsUptoCard
end Rows
end Go.Proofs.YtjjgbcjgmjggnaaGreatDoor
