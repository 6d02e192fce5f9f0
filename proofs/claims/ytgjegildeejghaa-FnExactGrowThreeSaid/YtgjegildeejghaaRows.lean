/-
  No cell of these rows narrows 'for every input' (looked for: loops, veiled, ifaces, maps, wideKeys, modest, calm, conditions, laid).
  DERIVED. THE GIVEN ROWS OF THIS SEAT. 12 by the template 'for every input the law returns true; each argument reads behind the call as it read before'; 0 by the template 'total and deterministic' (their statements: YtgjegildeejghaaTotals.lean).
  GIVEN WITH THE SEED: the statements are not yours to turn. If you find one false, say at which input.
  Laid BY PROGRAM, IN A SANDBOX (cutbox-rows.mjs): the forced cells as the released guide's own fill.sh prints them over the translation 031fd30086b070ab… (all of the seat's roots in one cut). By AI agents, Wed Nov 11 2026. No macro, syntax, notation, axiom, sorry.
-/
import Derived.Test.YtgjegildeejghaaChecked
import GoSem.Claim
import GoSem.ClaimJoined
import GoSem.ClaimMapViews
import Derived.JoinedTies
import Derived.KernelRfl
namespace Go.Proofs.Ytgjegildeejghaa
/- THE CELL 'sum', in the pinned program and in every row, IS THE sha256 OF THE DUMP (.gsa) THAT YtgjegildeejghaaProg.lean LOADS. Nothing in Lean hashes anything: it is a label: what it is worth is what the hold of that sum in a sandbox is worth. -/
noncomputable def Try.pinned : Pinned := { name := "ytgjegildeejghaa", sum := "031fd30086b070ab1c221e4dbf448f3cfd9fe9554d6cea33628eefb5e92cf0bb", checked := Try.checked }
namespace Rows
def none {H : Type} : Left H := { results := [], args := [] }

/-- 'laws.FnExactIsEmptyThree': WHATEVER THE INPUT: true; the input reads as it did. -/
def fnExactIsEmptyThreeSpec : ChangeSpec := { name := "fnExactIsEmptyThree", fn := fun _ => fun
  | [d] => { results := [.lit (.bool true)], args := [d] }
  | _ => none }
def fnExactIsEmptyThreeRow : OpenClaim := { program := "ytgjegildeejghaa", sum := "031fd30086b070ab1c221e4dbf448f3cfd9fe9554d6cea33628eefb5e92cf0bb", func := "loop.example/g01259/laws.FnExactIsEmptyThree", spec := "fnExactIsEmptyThree", apart := false }
def FnExactIsEmptyThreeSaid : Prop := fnExactIsEmptyThreeRow.holds Try.pinned (OpenSpec.ofChange fnExactIsEmptyThreeSpec)

/-- ITS FALSE NEIGHBOUR: 'it returns false'. Refute it at one input. -/
def fnExactIsEmptyThreeWrong : ChangeSpec := { name := "fnExactIsEmptyThree", fn := fun _ => fun
  | [d] => { results := [.lit (.bool false)], args := [d] }
  | _ => none }
def FnExactIsEmptyThreeWrongFalsely : Prop := fnExactIsEmptyThreeRow.holds Try.pinned (OpenSpec.ofChange fnExactIsEmptyThreeWrong)

/-- 'laws.FnExactIsHollowThree': WHATEVER THE INPUT: true; the input reads as it did. -/
def fnExactIsHollowThreeSpec : ChangeSpec := { name := "fnExactIsHollowThree", fn := fun _ => fun
  | [d] => { results := [.lit (.bool true)], args := [d] }
  | _ => none }
def fnExactIsHollowThreeRow : OpenClaim := { program := "ytgjegildeejghaa", sum := "031fd30086b070ab1c221e4dbf448f3cfd9fe9554d6cea33628eefb5e92cf0bb", func := "loop.example/g01259/laws.FnExactIsHollowThree", spec := "fnExactIsHollowThree", unfollowed := true, recurses := true, apart := false }
def FnExactIsHollowThreeSaid : Prop := fnExactIsHollowThreeRow.holds Try.pinned (OpenSpec.ofChange fnExactIsHollowThreeSpec)

/-- ITS FALSE NEIGHBOUR: 'it returns false'. Refute it at one input. -/
def fnExactIsHollowThreeWrong : ChangeSpec := { name := "fnExactIsHollowThree", fn := fun _ => fun
  | [d] => { results := [.lit (.bool false)], args := [d] }
  | _ => none }
def FnExactIsHollowThreeWrongFalsely : Prop := fnExactIsHollowThreeRow.holds Try.pinned (OpenSpec.ofChange fnExactIsHollowThreeWrong)

/-- 'laws.FnExactSidesOfThree': WHATEVER THE INPUT: true; the input reads as it did. -/
def fnExactSidesOfThreeSpec : ChangeSpec := { name := "fnExactSidesOfThree", fn := fun _ => fun
  | [d] => { results := [.lit (.bool true)], args := [d] }
  | _ => none }
def fnExactSidesOfThreeRow : OpenClaim := { program := "ytgjegildeejghaa", sum := "031fd30086b070ab1c221e4dbf448f3cfd9fe9554d6cea33628eefb5e92cf0bb", func := "loop.example/g01259/laws.FnExactSidesOfThree", spec := "fnExactSidesOfThree", apart := false }
def FnExactSidesOfThreeSaid : Prop := fnExactSidesOfThreeRow.holds Try.pinned (OpenSpec.ofChange fnExactSidesOfThreeSpec)

/-- ITS FALSE NEIGHBOUR: 'it returns false'. Refute it at one input. -/
def fnExactSidesOfThreeWrong : ChangeSpec := { name := "fnExactSidesOfThree", fn := fun _ => fun
  | [d] => { results := [.lit (.bool false)], args := [d] }
  | _ => none }
def FnExactSidesOfThreeWrongFalsely : Prop := fnExactSidesOfThreeRow.holds Try.pinned (OpenSpec.ofChange fnExactSidesOfThreeWrong)

/-- 'laws.FnExactHeightsOfThree': WHATEVER THE INPUT: true; the input reads as it did. -/
def fnExactHeightsOfThreeSpec : ChangeSpec := { name := "fnExactHeightsOfThree", fn := fun _ => fun
  | [d] => { results := [.lit (.bool true)], args := [d] }
  | _ => none }
def fnExactHeightsOfThreeRow : OpenClaim := { program := "ytgjegildeejghaa", sum := "031fd30086b070ab1c221e4dbf448f3cfd9fe9554d6cea33628eefb5e92cf0bb", func := "loop.example/g01259/laws.FnExactHeightsOfThree", spec := "fnExactHeightsOfThree", apart := false }
def FnExactHeightsOfThreeSaid : Prop := fnExactHeightsOfThreeRow.holds Try.pinned (OpenSpec.ofChange fnExactHeightsOfThreeSpec)

/-- ITS FALSE NEIGHBOUR: 'it returns false'. Refute it at one input. -/
def fnExactHeightsOfThreeWrong : ChangeSpec := { name := "fnExactHeightsOfThree", fn := fun _ => fun
  | [d] => { results := [.lit (.bool false)], args := [d] }
  | _ => none }
def FnExactHeightsOfThreeWrongFalsely : Prop := fnExactHeightsOfThreeRow.holds Try.pinned (OpenSpec.ofChange fnExactHeightsOfThreeWrong)

/-- 'laws.FnExactAngleKind': WHATEVER THE INPUT: true; the input reads as it did. -/
def fnExactAngleKindSpec : ChangeSpec := { name := "fnExactAngleKind", fn := fun _ => fun
  | [d] => { results := [.lit (.bool true)], args := [d] }
  | _ => none }
def fnExactAngleKindRow : OpenClaim := { program := "ytgjegildeejghaa", sum := "031fd30086b070ab1c221e4dbf448f3cfd9fe9554d6cea33628eefb5e92cf0bb", func := "loop.example/g01259/laws.FnExactAngleKind", spec := "fnExactAngleKind", apart := false }
def FnExactAngleKindSaid : Prop := fnExactAngleKindRow.holds Try.pinned (OpenSpec.ofChange fnExactAngleKindSpec)

/-- ITS FALSE NEIGHBOUR: 'it returns false'. Refute it at one input. -/
def fnExactAngleKindWrong : ChangeSpec := { name := "fnExactAngleKind", fn := fun _ => fun
  | [d] => { results := [.lit (.bool false)], args := [d] }
  | _ => none }
def FnExactAngleKindWrongFalsely : Prop := fnExactAngleKindRow.holds Try.pinned (OpenSpec.ofChange fnExactAngleKindWrong)

/-- 'laws.FnExactThriceCentre': WHATEVER THE INPUT: true; the input reads as it did. -/
def fnExactThriceCentreSpec : ChangeSpec := { name := "fnExactThriceCentre", fn := fun _ => fun
  | [d] => { results := [.lit (.bool true)], args := [d] }
  | _ => none }
def fnExactThriceCentreRow : OpenClaim := { program := "ytgjegildeejghaa", sum := "031fd30086b070ab1c221e4dbf448f3cfd9fe9554d6cea33628eefb5e92cf0bb", func := "loop.example/g01259/laws.FnExactThriceCentre", spec := "fnExactThriceCentre", apart := false }
def FnExactThriceCentreSaid : Prop := fnExactThriceCentreRow.holds Try.pinned (OpenSpec.ofChange fnExactThriceCentreSpec)

/-- ITS FALSE NEIGHBOUR: 'it returns false'. Refute it at one input. -/
def fnExactThriceCentreWrong : ChangeSpec := { name := "fnExactThriceCentre", fn := fun _ => fun
  | [d] => { results := [.lit (.bool false)], args := [d] }
  | _ => none }
def FnExactThriceCentreWrongFalsely : Prop := fnExactThriceCentreRow.holds Try.pinned (OpenSpec.ofChange fnExactThriceCentreWrong)

/-- 'laws.FnExactHasCentrePeg': WHATEVER THE INPUT: true; the input reads as it did. -/
def fnExactHasCentrePegSpec : ChangeSpec := { name := "fnExactHasCentrePeg", fn := fun _ => fun
  | [d] => { results := [.lit (.bool true)], args := [d] }
  | _ => none }
def fnExactHasCentrePegRow : OpenClaim := { program := "ytgjegildeejghaa", sum := "031fd30086b070ab1c221e4dbf448f3cfd9fe9554d6cea33628eefb5e92cf0bb", func := "loop.example/g01259/laws.FnExactHasCentrePeg", spec := "fnExactHasCentrePeg", apart := false }
def FnExactHasCentrePegSaid : Prop := fnExactHasCentrePegRow.holds Try.pinned (OpenSpec.ofChange fnExactHasCentrePegSpec)

/-- ITS FALSE NEIGHBOUR: 'it returns false'. Refute it at one input. -/
def fnExactHasCentrePegWrong : ChangeSpec := { name := "fnExactHasCentrePeg", fn := fun _ => fun
  | [d] => { results := [.lit (.bool false)], args := [d] }
  | _ => none }
def FnExactHasCentrePegWrongFalsely : Prop := fnExactHasCentrePegRow.holds Try.pinned (OpenSpec.ofChange fnExactHasCentrePegWrong)

/-- 'laws.FnExactBoxOfThree': WHATEVER THE INPUT: true; the input reads as it did. -/
def fnExactBoxOfThreeSpec : ChangeSpec := { name := "fnExactBoxOfThree", fn := fun _ => fun
  | [d] => { results := [.lit (.bool true)], args := [d] }
  | _ => none }
def fnExactBoxOfThreeRow : OpenClaim := { program := "ytgjegildeejghaa", sum := "031fd30086b070ab1c221e4dbf448f3cfd9fe9554d6cea33628eefb5e92cf0bb", func := "loop.example/g01259/laws.FnExactBoxOfThree", spec := "fnExactBoxOfThree", apart := false }
def FnExactBoxOfThreeSaid : Prop := fnExactBoxOfThreeRow.holds Try.pinned (OpenSpec.ofChange fnExactBoxOfThreeSpec)

/-- ITS FALSE NEIGHBOUR: 'it returns false'. Refute it at one input. -/
def fnExactBoxOfThreeWrong : ChangeSpec := { name := "fnExactBoxOfThree", fn := fun _ => fun
  | [d] => { results := [.lit (.bool false)], args := [d] }
  | _ => none }
def FnExactBoxOfThreeWrongFalsely : Prop := fnExactBoxOfThreeRow.holds Try.pinned (OpenSpec.ofChange fnExactBoxOfThreeWrong)

/-- 'laws.FnExactCircleOfThree': WHATEVER THE INPUT: true; the input reads as it did. -/
def fnExactCircleOfThreeSpec : ChangeSpec := { name := "fnExactCircleOfThree", fn := fun _ => fun
  | [d] => { results := [.lit (.bool true)], args := [d] }
  | _ => none }
def fnExactCircleOfThreeRow : OpenClaim := { program := "ytgjegildeejghaa", sum := "031fd30086b070ab1c221e4dbf448f3cfd9fe9554d6cea33628eefb5e92cf0bb", func := "loop.example/g01259/laws.FnExactCircleOfThree", spec := "fnExactCircleOfThree", apart := false }
def FnExactCircleOfThreeSaid : Prop := fnExactCircleOfThreeRow.holds Try.pinned (OpenSpec.ofChange fnExactCircleOfThreeSpec)

/-- ITS FALSE NEIGHBOUR: 'it returns false'. Refute it at one input. -/
def fnExactCircleOfThreeWrong : ChangeSpec := { name := "fnExactCircleOfThree", fn := fun _ => fun
  | [d] => { results := [.lit (.bool false)], args := [d] }
  | _ => none }
def FnExactCircleOfThreeWrongFalsely : Prop := fnExactCircleOfThreeRow.holds Try.pinned (OpenSpec.ofChange fnExactCircleOfThreeWrong)

/-- 'laws.FnExactInCircle': WHATEVER THE INPUT: true; the input reads as it did. -/
def fnExactInCircleSpec : ChangeSpec := { name := "fnExactInCircle", fn := fun _ => fun
  | [d1, d2] => { results := [.lit (.bool true)], args := [d1, d2] }
  | _ => none }
def fnExactInCircleRow : OpenClaim := { program := "ytgjegildeejghaa", sum := "031fd30086b070ab1c221e4dbf448f3cfd9fe9554d6cea33628eefb5e92cf0bb", func := "loop.example/g01259/laws.FnExactInCircle", spec := "fnExactInCircle", apart := false }
def FnExactInCircleSaid : Prop := fnExactInCircleRow.holds Try.pinned (OpenSpec.ofChange fnExactInCircleSpec)

/-- ITS FALSE NEIGHBOUR: 'it returns false'. Refute it at one input. -/
def fnExactInCircleWrong : ChangeSpec := { name := "fnExactInCircle", fn := fun _ => fun
  | [d1, d2] => { results := [.lit (.bool false)], args := [d1, d2] }
  | _ => none }
def FnExactInCircleWrongFalsely : Prop := fnExactInCircleRow.holds Try.pinned (OpenSpec.ofChange fnExactInCircleWrong)

/-- 'laws.FnExactPegOfParts': WHATEVER THE INPUT: true; the input reads as it did. -/
def fnExactPegOfPartsSpec : ChangeSpec := { name := "fnExactPegOfParts", fn := fun _ => fun
  | [d1, d2] => { results := [.lit (.bool true)], args := [d1, d2] }
  | _ => none }
def fnExactPegOfPartsRow : OpenClaim := { program := "ytgjegildeejghaa", sum := "031fd30086b070ab1c221e4dbf448f3cfd9fe9554d6cea33628eefb5e92cf0bb", func := "loop.example/g01259/laws.FnExactPegOfParts", spec := "fnExactPegOfParts", apart := false }
def FnExactPegOfPartsSaid : Prop := fnExactPegOfPartsRow.holds Try.pinned (OpenSpec.ofChange fnExactPegOfPartsSpec)

/-- ITS FALSE NEIGHBOUR: 'it returns false'. Refute it at one input. -/
def fnExactPegOfPartsWrong : ChangeSpec := { name := "fnExactPegOfParts", fn := fun _ => fun
  | [d1, d2] => { results := [.lit (.bool false)], args := [d1, d2] }
  | _ => none }
def FnExactPegOfPartsWrongFalsely : Prop := fnExactPegOfPartsRow.holds Try.pinned (OpenSpec.ofChange fnExactPegOfPartsWrong)

/-- 'laws.FnExactGrowThree': WHATEVER THE INPUT: true; the input reads as it did. -/
def fnExactGrowThreeSpec : ChangeSpec := { name := "fnExactGrowThree", fn := fun _ => fun
  | [d1, d2] => { results := [.lit (.bool true)], args := [d1, d2] }
  | _ => none }
def fnExactGrowThreeRow : OpenClaim := { program := "ytgjegildeejghaa", sum := "031fd30086b070ab1c221e4dbf448f3cfd9fe9554d6cea33628eefb5e92cf0bb", func := "loop.example/g01259/laws.FnExactGrowThree", spec := "fnExactGrowThree", apart := false }
def FnExactGrowThreeSaid : Prop := fnExactGrowThreeRow.holds Try.pinned (OpenSpec.ofChange fnExactGrowThreeSpec)

/-- ITS FALSE NEIGHBOUR: 'it returns false'. Refute it at one input. -/
def fnExactGrowThreeWrong : ChangeSpec := { name := "fnExactGrowThree", fn := fun _ => fun
  | [d1, d2] => { results := [.lit (.bool false)], args := [d1, d2] }
  | _ => none }
def FnExactGrowThreeWrongFalsely : Prop := fnExactGrowThreeRow.holds Try.pinned (OpenSpec.ofChange fnExactGrowThreeWrong)

/- THE SECOND FORM. 'bulk': how many values and letters a reading holds, each counted each time it is reached (what is shared counts as often as it is met; a slice's spare places count too). A statement '..UptoSaid' is the law's where the arguments, and the package variables that the reading takes, are together of bulk at most 1048576: NARROWER than '..Said'. Prove '..Said' where nothing that the law and all that it calls make is longer than what came in: it says more and counts as full. Else prove '..UptoSaid'. A law counts once. -/
mutual
def uptoBulk {H : Type} : DataW H → Nat
  | .lit (.string bytes) => bytes.length + 1
  | .lit _ => 1
  | .nil => 1
  | .ptr d => uptoBulk d + 1
  | .slice elems spare => uptoBulkAll elems + uptoBulkAll spare + 1
  | .agg parts => uptoBulkAll parts + 1
  | .iface _ d => uptoBulk d + 1
  | .map entries => uptoBulkEntries entries + 1
  | .held _ => 1
def uptoBulkAll {H : Type} : List (DataW H) → Nat
  | [] => 0
  | d :: r => uptoBulk d + uptoBulkAll r
def uptoBulkEntries {H : Type} : List (Lit × DataW H) → Nat
  | [] => 0
  | x :: r => uptoBulkEntry x + uptoBulkEntries r
def uptoBulkEntry {H : Type} : Lit × DataW H → Nat
  | (.string bytes, d) => bytes.length + uptoBulk d + 1
  | (_, d) => uptoBulk d + 1
 end
def uptoSmall : (H : Type) → List (DataW H) → Bool := fun _ ds => decide (uptoBulkAll ds ≤ 1048576)
def OpenSpec.upto (s : _root_.Go.ChangeSpec) : _root_.Go.OpenSpec := { _root_.Go.OpenSpec.ofChange s with cond := some uptoSmall }

/-- 'laws.FnExactIsEmptyThree', WHERE WHAT IT READS IS OF BULK AT MOST 1048576: true; the input reads as it did. -/
def fnExactIsEmptyThreeUptoRow : OpenClaim := { program := "ytgjegildeejghaa", sum := "031fd30086b070ab1c221e4dbf448f3cfd9fe9554d6cea33628eefb5e92cf0bb", func := "loop.example/g01259/laws.FnExactIsEmptyThree", spec := "fnExactIsEmptyThree", apart := false, narrowed := true }
def FnExactIsEmptyThreeUptoSaid : Prop := fnExactIsEmptyThreeUptoRow.holds Try.pinned (OpenSpec.upto fnExactIsEmptyThreeSpec)

/-- 'laws.FnExactIsHollowThree', WHERE WHAT IT READS IS OF BULK AT MOST 1048576: true; the input reads as it did. -/
def fnExactIsHollowThreeUptoRow : OpenClaim := { program := "ytgjegildeejghaa", sum := "031fd30086b070ab1c221e4dbf448f3cfd9fe9554d6cea33628eefb5e92cf0bb", func := "loop.example/g01259/laws.FnExactIsHollowThree", spec := "fnExactIsHollowThree", unfollowed := true, recurses := true, apart := false, narrowed := true }
def FnExactIsHollowThreeUptoSaid : Prop := fnExactIsHollowThreeUptoRow.holds Try.pinned (OpenSpec.upto fnExactIsHollowThreeSpec)

/-- 'laws.FnExactSidesOfThree', WHERE WHAT IT READS IS OF BULK AT MOST 1048576: true; the input reads as it did. -/
def fnExactSidesOfThreeUptoRow : OpenClaim := { program := "ytgjegildeejghaa", sum := "031fd30086b070ab1c221e4dbf448f3cfd9fe9554d6cea33628eefb5e92cf0bb", func := "loop.example/g01259/laws.FnExactSidesOfThree", spec := "fnExactSidesOfThree", apart := false, narrowed := true }
def FnExactSidesOfThreeUptoSaid : Prop := fnExactSidesOfThreeUptoRow.holds Try.pinned (OpenSpec.upto fnExactSidesOfThreeSpec)

/-- 'laws.FnExactHeightsOfThree', WHERE WHAT IT READS IS OF BULK AT MOST 1048576: true; the input reads as it did. -/
def fnExactHeightsOfThreeUptoRow : OpenClaim := { program := "ytgjegildeejghaa", sum := "031fd30086b070ab1c221e4dbf448f3cfd9fe9554d6cea33628eefb5e92cf0bb", func := "loop.example/g01259/laws.FnExactHeightsOfThree", spec := "fnExactHeightsOfThree", apart := false, narrowed := true }
def FnExactHeightsOfThreeUptoSaid : Prop := fnExactHeightsOfThreeUptoRow.holds Try.pinned (OpenSpec.upto fnExactHeightsOfThreeSpec)

/-- 'laws.FnExactAngleKind', WHERE WHAT IT READS IS OF BULK AT MOST 1048576: true; the input reads as it did. -/
def fnExactAngleKindUptoRow : OpenClaim := { program := "ytgjegildeejghaa", sum := "031fd30086b070ab1c221e4dbf448f3cfd9fe9554d6cea33628eefb5e92cf0bb", func := "loop.example/g01259/laws.FnExactAngleKind", spec := "fnExactAngleKind", apart := false, narrowed := true }
def FnExactAngleKindUptoSaid : Prop := fnExactAngleKindUptoRow.holds Try.pinned (OpenSpec.upto fnExactAngleKindSpec)

/-- 'laws.FnExactThriceCentre', WHERE WHAT IT READS IS OF BULK AT MOST 1048576: true; the input reads as it did. -/
def fnExactThriceCentreUptoRow : OpenClaim := { program := "ytgjegildeejghaa", sum := "031fd30086b070ab1c221e4dbf448f3cfd9fe9554d6cea33628eefb5e92cf0bb", func := "loop.example/g01259/laws.FnExactThriceCentre", spec := "fnExactThriceCentre", apart := false, narrowed := true }
def FnExactThriceCentreUptoSaid : Prop := fnExactThriceCentreUptoRow.holds Try.pinned (OpenSpec.upto fnExactThriceCentreSpec)

/-- 'laws.FnExactHasCentrePeg', WHERE WHAT IT READS IS OF BULK AT MOST 1048576: true; the input reads as it did. -/
def fnExactHasCentrePegUptoRow : OpenClaim := { program := "ytgjegildeejghaa", sum := "031fd30086b070ab1c221e4dbf448f3cfd9fe9554d6cea33628eefb5e92cf0bb", func := "loop.example/g01259/laws.FnExactHasCentrePeg", spec := "fnExactHasCentrePeg", apart := false, narrowed := true }
def FnExactHasCentrePegUptoSaid : Prop := fnExactHasCentrePegUptoRow.holds Try.pinned (OpenSpec.upto fnExactHasCentrePegSpec)

/-- 'laws.FnExactBoxOfThree', WHERE WHAT IT READS IS OF BULK AT MOST 1048576: true; the input reads as it did. -/
def fnExactBoxOfThreeUptoRow : OpenClaim := { program := "ytgjegildeejghaa", sum := "031fd30086b070ab1c221e4dbf448f3cfd9fe9554d6cea33628eefb5e92cf0bb", func := "loop.example/g01259/laws.FnExactBoxOfThree", spec := "fnExactBoxOfThree", apart := false, narrowed := true }
def FnExactBoxOfThreeUptoSaid : Prop := fnExactBoxOfThreeUptoRow.holds Try.pinned (OpenSpec.upto fnExactBoxOfThreeSpec)

/-- 'laws.FnExactCircleOfThree', WHERE WHAT IT READS IS OF BULK AT MOST 1048576: true; the input reads as it did. -/
def fnExactCircleOfThreeUptoRow : OpenClaim := { program := "ytgjegildeejghaa", sum := "031fd30086b070ab1c221e4dbf448f3cfd9fe9554d6cea33628eefb5e92cf0bb", func := "loop.example/g01259/laws.FnExactCircleOfThree", spec := "fnExactCircleOfThree", apart := false, narrowed := true }
def FnExactCircleOfThreeUptoSaid : Prop := fnExactCircleOfThreeUptoRow.holds Try.pinned (OpenSpec.upto fnExactCircleOfThreeSpec)

/-- 'laws.FnExactInCircle', WHERE WHAT IT READS IS OF BULK AT MOST 1048576: true; the input reads as it did. -/
def fnExactInCircleUptoRow : OpenClaim := { program := "ytgjegildeejghaa", sum := "031fd30086b070ab1c221e4dbf448f3cfd9fe9554d6cea33628eefb5e92cf0bb", func := "loop.example/g01259/laws.FnExactInCircle", spec := "fnExactInCircle", apart := false, narrowed := true }
def FnExactInCircleUptoSaid : Prop := fnExactInCircleUptoRow.holds Try.pinned (OpenSpec.upto fnExactInCircleSpec)

/-- 'laws.FnExactPegOfParts', WHERE WHAT IT READS IS OF BULK AT MOST 1048576: true; the input reads as it did. -/
def fnExactPegOfPartsUptoRow : OpenClaim := { program := "ytgjegildeejghaa", sum := "031fd30086b070ab1c221e4dbf448f3cfd9fe9554d6cea33628eefb5e92cf0bb", func := "loop.example/g01259/laws.FnExactPegOfParts", spec := "fnExactPegOfParts", apart := false, narrowed := true }
def FnExactPegOfPartsUptoSaid : Prop := fnExactPegOfPartsUptoRow.holds Try.pinned (OpenSpec.upto fnExactPegOfPartsSpec)

/-- 'laws.FnExactGrowThree', WHERE WHAT IT READS IS OF BULK AT MOST 1048576: true; the input reads as it did. -/
def fnExactGrowThreeUptoRow : OpenClaim := { program := "ytgjegildeejghaa", sum := "031fd30086b070ab1c221e4dbf448f3cfd9fe9554d6cea33628eefb5e92cf0bb", func := "loop.example/g01259/laws.FnExactGrowThree", spec := "fnExactGrowThree", apart := false, narrowed := true }
def FnExactGrowThreeUptoSaid : Prop := fnExactGrowThreeUptoRow.holds Try.pinned (OpenSpec.upto fnExactGrowThreeSpec)

end Rows
end Go.Proofs.Ytgjegildeejghaa
