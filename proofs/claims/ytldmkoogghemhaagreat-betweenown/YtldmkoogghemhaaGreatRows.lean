/-
  No cell of these rows narrows 'for every input' (looked for: loops, veiled, ifaces, maps, wideKeys, modest, calm, conditions, laid).
  DERIVED. THE GIVEN ROWS OF THIS SEAT. 5 by the template 'for every input the law returns true; each argument reads behind the call as it read before'; 0 by the template 'total and deterministic' (their statements: YtldmkoogghemhaaGreatTotals.lean).
  GIVEN WITH THE SEED: the statements are not yours to turn. If you find one false, say at which input.
  Laid BY PROGRAM, IN A SANDBOX (cutbox-rows.mjs): the forced cells as the released guide's own fill.sh prints them over the translation 2332db9a7b6556ed… (all of the seat's roots in one cut). By AI agents, Wed Nov 11 2026. No macro, syntax, notation, axiom, sorry.
-/
import Derived.Test.YtldmkoogghemhaaGreatChecked
import GoSem.Claim
import GoSem.ClaimJoined
import GoSem.ClaimMapViews
import Derived.JoinedTies
import Derived.KernelRfl
namespace Go.Proofs.YtldmkoogghemhaaGreat
/- THE CELL 'sum', in the pinned program and in every row, IS THE sha256 OF THE DUMP (.gsa) THAT YtldmkoogghemhaaGreatProg.lean LOADS. Nothing in Lean hashes anything: it is a label: what it is worth is what the hold of that sum in a sandbox is worth. -/
noncomputable def Tryz.pinned : Pinned := { name := "ytldmkoogghemhaagreat", sum := "2332db9a7b6556ed3b22574221905bb2c26f9c9d7a01d1e69d6b945fde8da53b", checked := Tryz.checked }
namespace Rows
def none {H : Type} : Left H := { results := [], args := [] }

/-- 'lodestarlaw19.BetweenRoutes': WHATEVER THE INPUT: true; the input reads as it did. -/
def betweenRoutesSpec : ChangeSpec := { name := "betweenRoutes", fn := fun _ => fun
  | [d] => { results := [.lit (.bool true)], args := [d] }
  | _ => none }
def betweenRoutesRow : OpenClaim := { program := "ytldmkoogghemhaagreat", sum := "2332db9a7b6556ed3b22574221905bb2c26f9c9d7a01d1e69d6b945fde8da53b", func := "lodestar/lodestarlaw19.BetweenRoutes", spec := "betweenRoutes", unfollowed := true, recurses := true, apart := false }
def BetweenRoutesSaid : Prop := betweenRoutesRow.holds Tryz.pinned (OpenSpec.ofChange betweenRoutesSpec)

/-- ITS FALSE NEIGHBOUR: 'it returns false'. Refute it at one input. -/
def betweenRoutesWrong : ChangeSpec := { name := "betweenRoutes", fn := fun _ => fun
  | [d] => { results := [.lit (.bool false)], args := [d] }
  | _ => none }
def BetweenRoutesWrongFalsely : Prop := betweenRoutesRow.holds Tryz.pinned (OpenSpec.ofChange betweenRoutesWrong)

/-- 'lodestarlaw19.BetweenImproves': WHATEVER THE INPUT: true; the input reads as it did. -/
def betweenImprovesSpec : ChangeSpec := { name := "betweenImproves", fn := fun _ => fun
  | [d1, d2] => { results := [.lit (.bool true)], args := [d1, d2] }
  | _ => none }
def betweenImprovesRow : OpenClaim := { program := "ytldmkoogghemhaagreat", sum := "2332db9a7b6556ed3b22574221905bb2c26f9c9d7a01d1e69d6b945fde8da53b", func := "lodestar/lodestarlaw19.BetweenImproves", spec := "betweenImproves", unfollowed := true, recurses := true, apart := false }
def BetweenImprovesSaid : Prop := betweenImprovesRow.holds Tryz.pinned (OpenSpec.ofChange betweenImprovesSpec)

/-- ITS FALSE NEIGHBOUR: 'it returns false'. Refute it at one input. -/
def betweenImprovesWrong : ChangeSpec := { name := "betweenImproves", fn := fun _ => fun
  | [d1, d2] => { results := [.lit (.bool false)], args := [d1, d2] }
  | _ => none }
def BetweenImprovesWrongFalsely : Prop := betweenImprovesRow.holds Tryz.pinned (OpenSpec.ofChange betweenImprovesWrong)

/-- 'lodestarlaw19.BetweenShorter': WHATEVER THE INPUT: true; the input reads as it did. -/
def betweenShorterSpec : ChangeSpec := { name := "betweenShorter", fn := fun _ => fun
  | [d1, d2] => { results := [.lit (.bool true)], args := [d1, d2] }
  | _ => none }
def betweenShorterRow : OpenClaim := { program := "ytldmkoogghemhaagreat", sum := "2332db9a7b6556ed3b22574221905bb2c26f9c9d7a01d1e69d6b945fde8da53b", func := "lodestar/lodestarlaw19.BetweenShorter", spec := "betweenShorter", unfollowed := true, recurses := true, apart := false }
def BetweenShorterSaid : Prop := betweenShorterRow.holds Tryz.pinned (OpenSpec.ofChange betweenShorterSpec)

/-- ITS FALSE NEIGHBOUR: 'it returns false'. Refute it at one input. -/
def betweenShorterWrong : ChangeSpec := { name := "betweenShorter", fn := fun _ => fun
  | [d1, d2] => { results := [.lit (.bool false)], args := [d1, d2] }
  | _ => none }
def BetweenShorterWrongFalsely : Prop := betweenShorterRow.holds Tryz.pinned (OpenSpec.ofChange betweenShorterWrong)

/-- 'lodestarlaw19.BetweenBorders': WHATEVER THE INPUT: true; the input reads as it did. -/
def betweenBordersSpec : ChangeSpec := { name := "betweenBorders", fn := fun _ => fun
  | [d] => { results := [.lit (.bool true)], args := [d] }
  | _ => none }
def betweenBordersRow : OpenClaim := { program := "ytldmkoogghemhaagreat", sum := "2332db9a7b6556ed3b22574221905bb2c26f9c9d7a01d1e69d6b945fde8da53b", func := "lodestar/lodestarlaw19.BetweenBorders", spec := "betweenBorders", unfollowed := true, recurses := true, apart := false }
def BetweenBordersSaid : Prop := betweenBordersRow.holds Tryz.pinned (OpenSpec.ofChange betweenBordersSpec)

/-- ITS FALSE NEIGHBOUR: 'it returns false'. Refute it at one input. -/
def betweenBordersWrong : ChangeSpec := { name := "betweenBorders", fn := fun _ => fun
  | [d] => { results := [.lit (.bool false)], args := [d] }
  | _ => none }
def BetweenBordersWrongFalsely : Prop := betweenBordersRow.holds Tryz.pinned (OpenSpec.ofChange betweenBordersWrong)

/-- 'lodestarlaw19.BetweenOwn': WHATEVER THE INPUT: true; the input reads as it did. -/
def betweenOwnSpec : ChangeSpec := { name := "betweenOwn", fn := fun _ => fun
  | [d] => { results := [.lit (.bool true)], args := [d] }
  | _ => none }
def betweenOwnRow : OpenClaim := { program := "ytldmkoogghemhaagreat", sum := "2332db9a7b6556ed3b22574221905bb2c26f9c9d7a01d1e69d6b945fde8da53b", func := "lodestar/lodestarlaw19.BetweenOwn", spec := "betweenOwn", unfollowed := true, recurses := true, apart := false }
def BetweenOwnSaid : Prop := betweenOwnRow.holds Tryz.pinned (OpenSpec.ofChange betweenOwnSpec)

/-- ITS FALSE NEIGHBOUR: 'it returns false'. Refute it at one input. -/
def betweenOwnWrong : ChangeSpec := { name := "betweenOwn", fn := fun _ => fun
  | [d] => { results := [.lit (.bool false)], args := [d] }
  | _ => none }
def BetweenOwnWrongFalsely : Prop := betweenOwnRow.holds Tryz.pinned (OpenSpec.ofChange betweenOwnWrong)

/- THE SECOND FORM. 'bulk': how many values and letters a reading holds, each counted each time it is reached (what is shared counts as often as it is met; a slice's spare places count too). A statement '..UptoSaid' is the law's where the arguments, and the package variables that the reading takes, are together of bulk at most 1048576: NARROWER than '..Said'. Prove '..Said' where nothing that the law and all that it calls make is longer than what came in: it says more and counts as full. Else prove '..UptoSaid'. A law counts once. -/
mutual
def uptoBulk {H : Type} : DataW H → Nat
  | .lit (.string bytes) => bytes.length + 1
  | .lit _ => 1
  | .nil => 1
  | .ptr d => uptoBulk d + 1
  | .slice elems spare => uptoBulkAll elems + uptoBulkAll spare + 1
  | .agg parts => uptoBulkAll parts + 1
  | .iface _ d => uptoBulk d + 1
  | .map entries => uptoBulkEntries entries + 1
  | .held _ => 1
def uptoBulkAll {H : Type} : List (DataW H) → Nat
  | [] => 0
  | d :: r => uptoBulk d + uptoBulkAll r
def uptoBulkEntries {H : Type} : List (Lit × DataW H) → Nat
  | [] => 0
  | x :: r => uptoBulkEntry x + uptoBulkEntries r
def uptoBulkEntry {H : Type} : Lit × DataW H → Nat
  | (.string bytes, d) => bytes.length + uptoBulk d + 1
  | (_, d) => uptoBulk d + 1
 end
def uptoSmall : (H : Type) → List (DataW H) → Bool := fun _ ds => decide (uptoBulkAll ds ≤ 1048576)
def OpenSpec.upto (s : _root_.Go.ChangeSpec) : _root_.Go.OpenSpec := { _root_.Go.OpenSpec.ofChange s with cond := some uptoSmall }

/-- 'lodestarlaw19.BetweenRoutes', WHERE WHAT IT READS IS OF BULK AT MOST 1048576: true; the input reads as it did. -/
def betweenRoutesUptoRow : OpenClaim := { program := "ytldmkoogghemhaagreat", sum := "2332db9a7b6556ed3b22574221905bb2c26f9c9d7a01d1e69d6b945fde8da53b", func := "lodestar/lodestarlaw19.BetweenRoutes", spec := "betweenRoutes", unfollowed := true, recurses := true, apart := false, narrowed := true }
def BetweenRoutesUptoSaid : Prop := betweenRoutesUptoRow.holds Tryz.pinned (OpenSpec.upto betweenRoutesSpec)

/-- 'lodestarlaw19.BetweenImproves', WHERE WHAT IT READS IS OF BULK AT MOST 1048576: true; the input reads as it did. -/
def betweenImprovesUptoRow : OpenClaim := { program := "ytldmkoogghemhaagreat", sum := "2332db9a7b6556ed3b22574221905bb2c26f9c9d7a01d1e69d6b945fde8da53b", func := "lodestar/lodestarlaw19.BetweenImproves", spec := "betweenImproves", unfollowed := true, recurses := true, apart := false, narrowed := true }
def BetweenImprovesUptoSaid : Prop := betweenImprovesUptoRow.holds Tryz.pinned (OpenSpec.upto betweenImprovesSpec)

/-- 'lodestarlaw19.BetweenShorter', WHERE WHAT IT READS IS OF BULK AT MOST 1048576: true; the input reads as it did. -/
def betweenShorterUptoRow : OpenClaim := { program := "ytldmkoogghemhaagreat", sum := "2332db9a7b6556ed3b22574221905bb2c26f9c9d7a01d1e69d6b945fde8da53b", func := "lodestar/lodestarlaw19.BetweenShorter", spec := "betweenShorter", unfollowed := true, recurses := true, apart := false, narrowed := true }
def BetweenShorterUptoSaid : Prop := betweenShorterUptoRow.holds Tryz.pinned (OpenSpec.upto betweenShorterSpec)

/-- 'lodestarlaw19.BetweenBorders', WHERE WHAT IT READS IS OF BULK AT MOST 1048576: true; the input reads as it did. -/
def betweenBordersUptoRow : OpenClaim := { program := "ytldmkoogghemhaagreat", sum := "2332db9a7b6556ed3b22574221905bb2c26f9c9d7a01d1e69d6b945fde8da53b", func := "lodestar/lodestarlaw19.BetweenBorders", spec := "betweenBorders", unfollowed := true, recurses := true, apart := false, narrowed := true }
def BetweenBordersUptoSaid : Prop := betweenBordersUptoRow.holds Tryz.pinned (OpenSpec.upto betweenBordersSpec)

/-- 'lodestarlaw19.BetweenOwn', WHERE WHAT IT READS IS OF BULK AT MOST 1048576: true; the input reads as it did. -/
def betweenOwnUptoRow : OpenClaim := { program := "ytldmkoogghemhaagreat", sum := "2332db9a7b6556ed3b22574221905bb2c26f9c9d7a01d1e69d6b945fde8da53b", func := "lodestar/lodestarlaw19.BetweenOwn", spec := "betweenOwn", unfollowed := true, recurses := true, apart := false, narrowed := true }
def BetweenOwnUptoSaid : Prop := betweenOwnUptoRow.holds Tryz.pinned (OpenSpec.upto betweenOwnSpec)

end Rows
end Go.Proofs.YtldmkoogghemhaaGreat
