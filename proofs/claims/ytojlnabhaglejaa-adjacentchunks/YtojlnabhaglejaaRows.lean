/-
  No cell of these rows narrows 'for every input' (looked for: loops, veiled, ifaces, maps, wideKeys, modest, calm, conditions, laid).
  DERIVED. THE GIVEN ROWS OF THIS SEAT. 3 by the template 'for every input the law returns true; each argument reads behind the call as it read before'; 0 by the template 'total and deterministic' (their statements: YtojlnabhaglejaaTotals.lean).
  GIVEN WITH THE SEED: the statements are not yours to turn. If you find one false, say at which input.
  Laid BY PROGRAM, IN A SANDBOX (cutbox-rows.mjs): the forced cells as the released guide's own fill.sh prints them over the translation fbf65bfae7b60796… (all of the seat's roots in one cut). By AI agents, Wed Nov 11 2026. No macro, syntax, notation, axiom, sorry.
-/
import Derived.Test.YtojlnabhaglejaaChecked
import GoSem.Claim
import GoSem.ClaimJoined
import GoSem.ClaimMapViews
import Derived.JoinedTies
import Derived.KernelRfl
namespace Go.Proofs.Ytojlnabhaglejaa
/- THE CELL 'sum', in the pinned program and in every row, IS THE sha256 OF THE DUMP (.gsa) THAT YtojlnabhaglejaaProg.lean LOADS. Nothing in Lean hashes anything: it is a label: what it is worth is what the hold of that sum in a sandbox is worth. -/
noncomputable def Try.pinned : Pinned := { name := "ytojlnabhaglejaa", sum := "fbf65bfae7b60796deeb561acb53856ced16aa099f8380fedf08209a2cf0609e", checked := Try.checked }
namespace Rows
def none {H : Type} : Left H := { results := [], args := [] }

/-- 'lodestarlaw14.AdjacentFull': WHATEVER THE INPUT: true; the input reads as it did. -/
def adjacentFullSpec : ChangeSpec := { name := "adjacentFull", fn := fun _ => fun
  | [d] => { results := [.lit (.bool true)], args := [d] }
  | _ => none }
def adjacentFullRow : OpenClaim := { program := "ytojlnabhaglejaa", sum := "fbf65bfae7b60796deeb561acb53856ced16aa099f8380fedf08209a2cf0609e", func := "lodestar/lodestarlaw14.AdjacentFull", spec := "adjacentFull", unfollowed := true, recurses := true, plainKeys := false, apart := false }
def AdjacentFullSaid : Prop := adjacentFullRow.holds Try.pinned (OpenSpec.ofChange adjacentFullSpec)

/-- ITS FALSE NEIGHBOUR: 'it returns false'. Refute it at one input. -/
def adjacentFullWrong : ChangeSpec := { name := "adjacentFull", fn := fun _ => fun
  | [d] => { results := [.lit (.bool false)], args := [d] }
  | _ => none }
def AdjacentFullWrongFalsely : Prop := adjacentFullRow.holds Try.pinned (OpenSpec.ofChange adjacentFullWrong)

/-- 'lodestarlaw14.AdjacentChunks': WHATEVER THE INPUT: true; the input reads as it did. -/
def adjacentChunksSpec : ChangeSpec := { name := "adjacentChunks", fn := fun _ => fun
  | [d1, d2] => { results := [.lit (.bool true)], args := [d1, d2] }
  | _ => none }
def adjacentChunksRow : OpenClaim := { program := "ytojlnabhaglejaa", sum := "fbf65bfae7b60796deeb561acb53856ced16aa099f8380fedf08209a2cf0609e", func := "lodestar/lodestarlaw14.AdjacentChunks", spec := "adjacentChunks", unfollowed := true, recurses := true, plainKeys := false, apart := false }
def AdjacentChunksSaid : Prop := adjacentChunksRow.holds Try.pinned (OpenSpec.ofChange adjacentChunksSpec)

/-- ITS FALSE NEIGHBOUR: 'it returns false'. Refute it at one input. -/
def adjacentChunksWrong : ChangeSpec := { name := "adjacentChunks", fn := fun _ => fun
  | [d1, d2] => { results := [.lit (.bool false)], args := [d1, d2] }
  | _ => none }
def AdjacentChunksWrongFalsely : Prop := adjacentChunksRow.holds Try.pinned (OpenSpec.ofChange adjacentChunksWrong)

/-- 'lodestarlaw14.AdjacentNone': WHATEVER THE INPUT: true; the input reads as it did. -/
def adjacentNoneSpec : ChangeSpec := { name := "adjacentNone", fn := fun _ => fun
  | [d] => { results := [.lit (.bool true)], args := [d] }
  | _ => none }
def adjacentNoneRow : OpenClaim := { program := "ytojlnabhaglejaa", sum := "fbf65bfae7b60796deeb561acb53856ced16aa099f8380fedf08209a2cf0609e", func := "lodestar/lodestarlaw14.AdjacentNone", spec := "adjacentNone", unfollowed := true, recurses := true, plainKeys := false, apart := false }
def AdjacentNoneSaid : Prop := adjacentNoneRow.holds Try.pinned (OpenSpec.ofChange adjacentNoneSpec)

/-- ITS FALSE NEIGHBOUR: 'it returns false'. Refute it at one input. -/
def adjacentNoneWrong : ChangeSpec := { name := "adjacentNone", fn := fun _ => fun
  | [d] => { results := [.lit (.bool false)], args := [d] }
  | _ => none }
def AdjacentNoneWrongFalsely : Prop := adjacentNoneRow.holds Try.pinned (OpenSpec.ofChange adjacentNoneWrong)

/- THE SECOND FORM. 'bulk': how many values and letters a reading holds, each counted each time it is reached (what is shared counts as often as it is met; a slice's spare places count too). A statement '..UptoSaid' is the law's where the arguments, and the package variables that the reading takes, are together of bulk at most 1048576: NARROWER than '..Said'. Prove '..Said' where nothing that the law and all that it calls make is longer than what came in: it says more and counts as full. Else prove '..UptoSaid'. A law counts once. -/
mutual
def uptoBulk {H : Type} : DataW H → Nat
  | .lit (.string bytes) => bytes.length + 1
  | .lit _ => 1
  | .nil => 1
  | .ptr d => uptoBulk d + 1
  | .slice elems spare => uptoBulkAll elems + uptoBulkAll spare + 1
  | .agg parts => uptoBulkAll parts + 1
  | .iface _ d => uptoBulk d + 1
  | .map entries => uptoBulkEntries entries + 1
  | .held _ => 1
def uptoBulkAll {H : Type} : List (DataW H) → Nat
  | [] => 0
  | d :: r => uptoBulk d + uptoBulkAll r
def uptoBulkEntries {H : Type} : List (Lit × DataW H) → Nat
  | [] => 0
  | x :: r => uptoBulkEntry x + uptoBulkEntries r
def uptoBulkEntry {H : Type} : Lit × DataW H → Nat
  | (.string bytes, d) => bytes.length + uptoBulk d + 1
  | (_, d) => uptoBulk d + 1
 end
def uptoSmall : (H : Type) → List (DataW H) → Bool := fun _ ds => decide (uptoBulkAll ds ≤ 1048576)
def OpenSpec.upto (s : _root_.Go.ChangeSpec) : _root_.Go.OpenSpec := { _root_.Go.OpenSpec.ofChange s with cond := some uptoSmall }

/-- 'lodestarlaw14.AdjacentFull', WHERE WHAT IT READS IS OF BULK AT MOST 1048576: true; the input reads as it did. -/
def adjacentFullUptoRow : OpenClaim := { program := "ytojlnabhaglejaa", sum := "fbf65bfae7b60796deeb561acb53856ced16aa099f8380fedf08209a2cf0609e", func := "lodestar/lodestarlaw14.AdjacentFull", spec := "adjacentFull", unfollowed := true, recurses := true, plainKeys := false, apart := false, narrowed := true }
def AdjacentFullUptoSaid : Prop := adjacentFullUptoRow.holds Try.pinned (OpenSpec.upto adjacentFullSpec)

/-- 'lodestarlaw14.AdjacentChunks', WHERE WHAT IT READS IS OF BULK AT MOST 1048576: true; the input reads as it did. -/
def adjacentChunksUptoRow : OpenClaim := { program := "ytojlnabhaglejaa", sum := "fbf65bfae7b60796deeb561acb53856ced16aa099f8380fedf08209a2cf0609e", func := "lodestar/lodestarlaw14.AdjacentChunks", spec := "adjacentChunks", unfollowed := true, recurses := true, plainKeys := false, apart := false, narrowed := true }
def AdjacentChunksUptoSaid : Prop := adjacentChunksUptoRow.holds Try.pinned (OpenSpec.upto adjacentChunksSpec)

/-- 'lodestarlaw14.AdjacentNone', WHERE WHAT IT READS IS OF BULK AT MOST 1048576: true; the input reads as it did. -/
def adjacentNoneUptoRow : OpenClaim := { program := "ytojlnabhaglejaa", sum := "fbf65bfae7b60796deeb561acb53856ced16aa099f8380fedf08209a2cf0609e", func := "lodestar/lodestarlaw14.AdjacentNone", spec := "adjacentNone", unfollowed := true, recurses := true, plainKeys := false, apart := false, narrowed := true }
def AdjacentNoneUptoSaid : Prop := adjacentNoneUptoRow.holds Try.pinned (OpenSpec.upto adjacentNoneSpec)

end Rows
end Go.Proofs.Ytojlnabhaglejaa
