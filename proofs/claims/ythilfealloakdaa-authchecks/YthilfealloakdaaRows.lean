/-
  No cell of these rows narrows 'for every input' (looked for: loops, veiled, ifaces, maps, wideKeys, modest, calm, conditions, laid).
  DERIVED. THE GIVEN ROWS OF THIS SEAT. 2 by the template 'for every input the law returns true; each argument reads behind the call as it read before'; 0 by the template 'total and deterministic' (their statements: YthilfealloakdaaTotals.lean).
  GIVEN WITH THE SEED: the statements are not yours to turn. If you find one false, say at which input.
  Laid BY PROGRAM, IN A SANDBOX (cutbox-rows.mjs): the forced cells as the released guide's own fill.sh prints them over the translation d65eb0186753eafd… (all of the seat's roots in one cut). By AI agents, Wed Nov 11 2026. No macro, syntax, notation, axiom, sorry.
-/
import Derived.Test.YthilfealloakdaaChecked
import GoSem.Claim
import GoSem.ClaimJoined
import GoSem.ClaimMapViews
import Derived.JoinedTies
import Derived.KernelRfl
namespace Go.Proofs.Ythilfealloakdaa
/- THE CELL 'sum', in the pinned program and in every row, IS THE sha256 OF THE DUMP (.gsa) THAT YthilfealloakdaaProg.lean LOADS. Nothing in Lean hashes anything: it is a label: what it is worth is what the hold of that sum in a sandbox is worth. -/
noncomputable def Try.pinned : Pinned := { name := "ythilfealloakdaa", sum := "d65eb0186753eafdbb1e3869704827fa77d8d79db189b06e3ba339c75c6e10f9", checked := Try.checked }
namespace Rows
def none {H : Type} : Left H := { results := [], args := [] }

/-- 'lodestarlaw08.AuthChecks': WHATEVER THE INPUT: true; the input reads as it did. -/
def authChecksSpec : ChangeSpec := { name := "authChecks", fn := fun _ => fun
  | [d1, d2] => { results := [.lit (.bool true)], args := [d1, d2] }
  | _ => none }
def authChecksRow : OpenClaim := { program := "ythilfealloakdaa", sum := "d65eb0186753eafdbb1e3869704827fa77d8d79db189b06e3ba339c75c6e10f9", func := "lodestar/lodestarlaw08.AuthChecks", spec := "authChecks", unfollowed := true, recurses := true, apart := false }
def AuthChecksSaid : Prop := authChecksRow.holds Try.pinned (OpenSpec.ofChange authChecksSpec)

/-- ITS FALSE NEIGHBOUR: 'it returns false'. Refute it at one input. -/
def authChecksWrong : ChangeSpec := { name := "authChecks", fn := fun _ => fun
  | [d1, d2] => { results := [.lit (.bool false)], args := [d1, d2] }
  | _ => none }
def AuthChecksWrongFalsely : Prop := authChecksRow.holds Try.pinned (OpenSpec.ofChange authChecksWrong)

/-- 'lodestarlaw08.AuthLast': WHATEVER THE INPUT: true; the input reads as it did. -/
def authLastSpec : ChangeSpec := { name := "authLast", fn := fun _ => fun
  | [d] => { results := [.lit (.bool true)], args := [d] }
  | _ => none }
def authLastRow : OpenClaim := { program := "ythilfealloakdaa", sum := "d65eb0186753eafdbb1e3869704827fa77d8d79db189b06e3ba339c75c6e10f9", func := "lodestar/lodestarlaw08.AuthLast", spec := "authLast", unfollowed := true, recurses := true, apart := false }
def AuthLastSaid : Prop := authLastRow.holds Try.pinned (OpenSpec.ofChange authLastSpec)

/-- ITS FALSE NEIGHBOUR: 'it returns false'. Refute it at one input. -/
def authLastWrong : ChangeSpec := { name := "authLast", fn := fun _ => fun
  | [d] => { results := [.lit (.bool false)], args := [d] }
  | _ => none }
def AuthLastWrongFalsely : Prop := authLastRow.holds Try.pinned (OpenSpec.ofChange authLastWrong)

/- THE SECOND FORM. 'bulk': how many values and letters a reading holds, each counted each time it is reached (what is shared counts as often as it is met; a slice's spare places count too). A statement '..UptoSaid' is the law's where the arguments, and the package variables that the reading takes, are together of bulk at most 1048576: NARROWER than '..Said'. Prove '..Said' where nothing that the law and all that it calls make is longer than what came in: it says more and counts as full. Else prove '..UptoSaid'. A law counts once. -/
mutual
def uptoBulk {H : Type} : DataW H → Nat
  | .lit (.string bytes) => bytes.length + 1
  | .lit _ => 1
  | .nil => 1
  | .ptr d => uptoBulk d + 1
  | .slice elems spare => uptoBulkAll elems + uptoBulkAll spare + 1
  | .agg parts => uptoBulkAll parts + 1
  | .iface _ d => uptoBulk d + 1
  | .map entries => uptoBulkEntries entries + 1
  | .held _ => 1
def uptoBulkAll {H : Type} : List (DataW H) → Nat
  | [] => 0
  | d :: r => uptoBulk d + uptoBulkAll r
def uptoBulkEntries {H : Type} : List (Lit × DataW H) → Nat
  | [] => 0
  | x :: r => uptoBulkEntry x + uptoBulkEntries r
def uptoBulkEntry {H : Type} : Lit × DataW H → Nat
  | (.string bytes, d) => bytes.length + uptoBulk d + 1
  | (_, d) => uptoBulk d + 1
 end
def uptoSmall : (H : Type) → List (DataW H) → Bool := fun _ ds => decide (uptoBulkAll ds ≤ 1048576)
def OpenSpec.upto (s : _root_.Go.ChangeSpec) : _root_.Go.OpenSpec := { _root_.Go.OpenSpec.ofChange s with cond := some uptoSmall }

/-- 'lodestarlaw08.AuthChecks', WHERE WHAT IT READS IS OF BULK AT MOST 1048576: true; the input reads as it did. -/
def authChecksUptoRow : OpenClaim := { program := "ythilfealloakdaa", sum := "d65eb0186753eafdbb1e3869704827fa77d8d79db189b06e3ba339c75c6e10f9", func := "lodestar/lodestarlaw08.AuthChecks", spec := "authChecks", unfollowed := true, recurses := true, apart := false, narrowed := true }
def AuthChecksUptoSaid : Prop := authChecksUptoRow.holds Try.pinned (OpenSpec.upto authChecksSpec)

/-- 'lodestarlaw08.AuthLast', WHERE WHAT IT READS IS OF BULK AT MOST 1048576: true; the input reads as it did. -/
def authLastUptoRow : OpenClaim := { program := "ythilfealloakdaa", sum := "d65eb0186753eafdbb1e3869704827fa77d8d79db189b06e3ba339c75c6e10f9", func := "lodestar/lodestarlaw08.AuthLast", spec := "authLast", unfollowed := true, recurses := true, apart := false, narrowed := true }
def AuthLastUptoSaid : Prop := authLastUptoRow.holds Try.pinned (OpenSpec.upto authLastSpec)

end Rows
end Go.Proofs.Ythilfealloakdaa
