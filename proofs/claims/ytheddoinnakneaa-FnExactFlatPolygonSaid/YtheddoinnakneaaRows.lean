/-
  No cell of these rows narrows 'for every input' (looked for: loops, veiled, ifaces, maps, wideKeys, modest, calm, conditions, laid).
  DERIVED. THE GIVEN ROWS OF THIS SEAT. 12 by the template 'for every input the law returns true; each argument reads behind the call as it read before'; 0 by the template 'total and deterministic' (their statements: YtheddoinnakneaaTotals.lean).
  GIVEN WITH THE SEED: the statements are not yours to turn. If you find one false, say at which input.
  Laid BY PROGRAM, IN A SANDBOX (cutbox-rows.mjs): the forced cells as the released guide's own fill.sh prints them over the translation be3220a43d28d96f… (all of the seat's roots in one cut). By AI agents, Wed Nov 11 2026. No macro, syntax, notation, axiom, sorry.
-/
import Derived.Test.YtheddoinnakneaaChecked
import GoSem.Claim
import GoSem.ClaimJoined
import GoSem.ClaimMapViews
import Derived.JoinedTies
import Derived.KernelRfl
namespace Go.Proofs.Ytheddoinnakneaa
/- THE CELL 'sum', in the pinned program and in every row, IS THE sha256 OF THE DUMP (.gsa) THAT YtheddoinnakneaaProg.lean LOADS. Nothing in Lean hashes anything: it is a label: what it is worth is what the hold of that sum in a sandbox is worth. -/
noncomputable def Try.pinned : Pinned := { name := "ytheddoinnakneaa", sum := "be3220a43d28d96f30d3973e4c7d4e0b40ead5d8aa8fc5a7da431fa70c92b77f", checked := Try.checked }
namespace Rows
def none {H : Type} : Left H := { results := [], args := [] }

/-- 'laws.FnExactLeastWidth': WHATEVER THE INPUT: true; the input reads as it did. -/
def fnExactLeastWidthSpec : ChangeSpec := { name := "fnExactLeastWidth", fn := fun _ => fun
  | [d] => { results := [.lit (.bool true)], args := [d] }
  | _ => none }
def fnExactLeastWidthRow : OpenClaim := { program := "ytheddoinnakneaa", sum := "be3220a43d28d96f30d3973e4c7d4e0b40ead5d8aa8fc5a7da431fa70c92b77f", func := "loop.example/g01259/laws.FnExactLeastWidth", spec := "fnExactLeastWidth", unfollowed := true, recurses := true, apart := false }
def FnExactLeastWidthSaid : Prop := fnExactLeastWidthRow.holds Try.pinned (OpenSpec.ofChange fnExactLeastWidthSpec)

/-- ITS FALSE NEIGHBOUR: 'it returns false'. Refute it at one input. -/
def fnExactLeastWidthWrong : ChangeSpec := { name := "fnExactLeastWidth", fn := fun _ => fun
  | [d] => { results := [.lit (.bool false)], args := [d] }
  | _ => none }
def FnExactLeastWidthWrongFalsely : Prop := fnExactLeastWidthRow.holds Try.pinned (OpenSpec.ofChange fnExactLeastWidthWrong)

/-- 'laws.FnExactDirectionsOfWidth': WHATEVER THE INPUT: true; the input reads as it did. -/
def fnExactDirectionsOfWidthSpec : ChangeSpec := { name := "fnExactDirectionsOfWidth", fn := fun _ => fun
  | [d] => { results := [.lit (.bool true)], args := [d] }
  | _ => none }
def fnExactDirectionsOfWidthRow : OpenClaim := { program := "ytheddoinnakneaa", sum := "be3220a43d28d96f30d3973e4c7d4e0b40ead5d8aa8fc5a7da431fa70c92b77f", func := "loop.example/g01259/laws.FnExactDirectionsOfWidth", spec := "fnExactDirectionsOfWidth", unfollowed := true, recurses := true, apart := false }
def FnExactDirectionsOfWidthSaid : Prop := fnExactDirectionsOfWidthRow.holds Try.pinned (OpenSpec.ofChange fnExactDirectionsOfWidthSpec)

/-- ITS FALSE NEIGHBOUR: 'it returns false'. Refute it at one input. -/
def fnExactDirectionsOfWidthWrong : ChangeSpec := { name := "fnExactDirectionsOfWidth", fn := fun _ => fun
  | [d] => { results := [.lit (.bool false)], args := [d] }
  | _ => none }
def FnExactDirectionsOfWidthWrongFalsely : Prop := fnExactDirectionsOfWidthRow.holds Try.pinned (OpenSpec.ofChange fnExactDirectionsOfWidthWrong)

/-- 'laws.FnExactCountDirections': WHATEVER THE INPUT: true; the input reads as it did. -/
def fnExactCountDirectionsSpec : ChangeSpec := { name := "fnExactCountDirections", fn := fun _ => fun
  | [d1, d2] => { results := [.lit (.bool true)], args := [d1, d2] }
  | _ => none }
def fnExactCountDirectionsRow : OpenClaim := { program := "ytheddoinnakneaa", sum := "be3220a43d28d96f30d3973e4c7d4e0b40ead5d8aa8fc5a7da431fa70c92b77f", func := "loop.example/g01259/laws.FnExactCountDirections", spec := "fnExactCountDirections", unfollowed := true, recurses := true, apart := false }
def FnExactCountDirectionsSaid : Prop := fnExactCountDirectionsRow.holds Try.pinned (OpenSpec.ofChange fnExactCountDirectionsSpec)

/-- ITS FALSE NEIGHBOUR: 'it returns false'. Refute it at one input. -/
def fnExactCountDirectionsWrong : ChangeSpec := { name := "fnExactCountDirections", fn := fun _ => fun
  | [d1, d2] => { results := [.lit (.bool false)], args := [d1, d2] }
  | _ => none }
def FnExactCountDirectionsWrongFalsely : Prop := fnExactCountDirectionsRow.holds Try.pinned (OpenSpec.ofChange fnExactCountDirectionsWrong)

/-- 'laws.FnExactIsThin': WHATEVER THE INPUT: true; the input reads as it did. -/
def fnExactIsThinSpec : ChangeSpec := { name := "fnExactIsThin", fn := fun _ => fun
  | [d] => { results := [.lit (.bool true)], args := [d] }
  | _ => none }
def fnExactIsThinRow : OpenClaim := { program := "ytheddoinnakneaa", sum := "be3220a43d28d96f30d3973e4c7d4e0b40ead5d8aa8fc5a7da431fa70c92b77f", func := "loop.example/g01259/laws.FnExactIsThin", spec := "fnExactIsThin", unfollowed := true, recurses := true, apart := false }
def FnExactIsThinSaid : Prop := fnExactIsThinRow.holds Try.pinned (OpenSpec.ofChange fnExactIsThinSpec)

/-- ITS FALSE NEIGHBOUR: 'it returns false'. Refute it at one input. -/
def fnExactIsThinWrong : ChangeSpec := { name := "fnExactIsThin", fn := fun _ => fun
  | [d] => { results := [.lit (.bool false)], args := [d] }
  | _ => none }
def FnExactIsThinWrongFalsely : Prop := fnExactIsThinRow.holds Try.pinned (OpenSpec.ofChange fnExactIsThinWrong)

/-- 'laws.FnExactFlatMove': WHATEVER THE INPUT: true; the input reads as it did. -/
def fnExactFlatMoveSpec : ChangeSpec := { name := "fnExactFlatMove", fn := fun _ => fun
  | [d] => { results := [.lit (.bool true)], args := [d] }
  | _ => none }
def fnExactFlatMoveRow : OpenClaim := { program := "ytheddoinnakneaa", sum := "be3220a43d28d96f30d3973e4c7d4e0b40ead5d8aa8fc5a7da431fa70c92b77f", func := "loop.example/g01259/laws.FnExactFlatMove", spec := "fnExactFlatMove", unfollowed := true, recurses := true, apart := false }
def FnExactFlatMoveSaid : Prop := fnExactFlatMoveRow.holds Try.pinned (OpenSpec.ofChange fnExactFlatMoveSpec)

/-- ITS FALSE NEIGHBOUR: 'it returns false'. Refute it at one input. -/
def fnExactFlatMoveWrong : ChangeSpec := { name := "fnExactFlatMove", fn := fun _ => fun
  | [d] => { results := [.lit (.bool false)], args := [d] }
  | _ => none }
def FnExactFlatMoveWrongFalsely : Prop := fnExactFlatMoveRow.holds Try.pinned (OpenSpec.ofChange fnExactFlatMoveWrong)

/-- 'laws.FnExactFlatPolygon': WHATEVER THE INPUT: true; the input reads as it did. -/
def fnExactFlatPolygonSpec : ChangeSpec := { name := "fnExactFlatPolygon", fn := fun _ => fun
  | [d] => { results := [.lit (.bool true)], args := [d] }
  | _ => none }
def fnExactFlatPolygonRow : OpenClaim := { program := "ytheddoinnakneaa", sum := "be3220a43d28d96f30d3973e4c7d4e0b40ead5d8aa8fc5a7da431fa70c92b77f", func := "loop.example/g01259/laws.FnExactFlatPolygon", spec := "fnExactFlatPolygon", unfollowed := true, recurses := true, apart := false }
def FnExactFlatPolygonSaid : Prop := fnExactFlatPolygonRow.holds Try.pinned (OpenSpec.ofChange fnExactFlatPolygonSpec)

/-- ITS FALSE NEIGHBOUR: 'it returns false'. Refute it at one input. -/
def fnExactFlatPolygonWrong : ChangeSpec := { name := "fnExactFlatPolygon", fn := fun _ => fun
  | [d] => { results := [.lit (.bool false)], args := [d] }
  | _ => none }
def FnExactFlatPolygonWrongFalsely : Prop := fnExactFlatPolygonRow.holds Try.pinned (OpenSpec.ofChange fnExactFlatPolygonWrong)

/-- 'laws.FnExactPegsPerLine': WHATEVER THE INPUT: true; the input reads as it did. -/
def fnExactPegsPerLineSpec : ChangeSpec := { name := "fnExactPegsPerLine", fn := fun _ => fun
  | [d1, d2, d3] => { results := [.lit (.bool true)], args := [d1, d2, d3] }
  | _ => none }
def fnExactPegsPerLineRow : OpenClaim := { program := "ytheddoinnakneaa", sum := "be3220a43d28d96f30d3973e4c7d4e0b40ead5d8aa8fc5a7da431fa70c92b77f", func := "loop.example/g01259/laws.FnExactPegsPerLine", spec := "fnExactPegsPerLine", unfollowed := true, recurses := true, apart := false }
def FnExactPegsPerLineSaid : Prop := fnExactPegsPerLineRow.holds Try.pinned (OpenSpec.ofChange fnExactPegsPerLineSpec)

/-- ITS FALSE NEIGHBOUR: 'it returns false'. Refute it at one input. -/
def fnExactPegsPerLineWrong : ChangeSpec := { name := "fnExactPegsPerLine", fn := fun _ => fun
  | [d1, d2, d3] => { results := [.lit (.bool false)], args := [d1, d2, d3] }
  | _ => none }
def FnExactPegsPerLineWrongFalsely : Prop := fnExactPegsPerLineRow.holds Try.pinned (OpenSpec.ofChange fnExactPegsPerLineWrong)

/-- 'laws.FnExactMostOnLine': WHATEVER THE INPUT: true; the input reads as it did. -/
def fnExactMostOnLineSpec : ChangeSpec := { name := "fnExactMostOnLine", fn := fun _ => fun
  | [d1, d2, d3] => { results := [.lit (.bool true)], args := [d1, d2, d3] }
  | _ => none }
def fnExactMostOnLineRow : OpenClaim := { program := "ytheddoinnakneaa", sum := "be3220a43d28d96f30d3973e4c7d4e0b40ead5d8aa8fc5a7da431fa70c92b77f", func := "loop.example/g01259/laws.FnExactMostOnLine", spec := "fnExactMostOnLine", unfollowed := true, recurses := true, apart := false }
def FnExactMostOnLineSaid : Prop := fnExactMostOnLineRow.holds Try.pinned (OpenSpec.ofChange fnExactMostOnLineSpec)

/-- ITS FALSE NEIGHBOUR: 'it returns false'. Refute it at one input. -/
def fnExactMostOnLineWrong : ChangeSpec := { name := "fnExactMostOnLine", fn := fun _ => fun
  | [d1, d2, d3] => { results := [.lit (.bool false)], args := [d1, d2, d3] }
  | _ => none }
def FnExactMostOnLineWrongFalsely : Prop := fnExactMostOnLineRow.holds Try.pinned (OpenSpec.ofChange fnExactMostOnLineWrong)

/-- 'laws.FnExactSupportOf': WHATEVER THE INPUT: true; the input reads as it did. -/
def fnExactSupportOfSpec : ChangeSpec := { name := "fnExactSupportOf", fn := fun _ => fun
  | [d1, d2, d3] => { results := [.lit (.bool true)], args := [d1, d2, d3] }
  | _ => none }
def fnExactSupportOfRow : OpenClaim := { program := "ytheddoinnakneaa", sum := "be3220a43d28d96f30d3973e4c7d4e0b40ead5d8aa8fc5a7da431fa70c92b77f", func := "loop.example/g01259/laws.FnExactSupportOf", spec := "fnExactSupportOf", unfollowed := true, recurses := true, apart := false }
def FnExactSupportOfSaid : Prop := fnExactSupportOfRow.holds Try.pinned (OpenSpec.ofChange fnExactSupportOfSpec)

/-- ITS FALSE NEIGHBOUR: 'it returns false'. Refute it at one input. -/
def fnExactSupportOfWrong : ChangeSpec := { name := "fnExactSupportOf", fn := fun _ => fun
  | [d1, d2, d3] => { results := [.lit (.bool false)], args := [d1, d2, d3] }
  | _ => none }
def FnExactSupportOfWrongFalsely : Prop := fnExactSupportOfRow.holds Try.pinned (OpenSpec.ofChange fnExactSupportOfWrong)

/-- 'laws.FnExactFarthestCorners': WHATEVER THE INPUT: true; the input reads as it did. -/
def fnExactFarthestCornersSpec : ChangeSpec := { name := "fnExactFarthestCorners", fn := fun _ => fun
  | [d] => { results := [.lit (.bool true)], args := [d] }
  | _ => none }
def fnExactFarthestCornersRow : OpenClaim := { program := "ytheddoinnakneaa", sum := "be3220a43d28d96f30d3973e4c7d4e0b40ead5d8aa8fc5a7da431fa70c92b77f", func := "loop.example/g01259/laws.FnExactFarthestCorners", spec := "fnExactFarthestCorners", unfollowed := true, recurses := true, apart := false }
def FnExactFarthestCornersSaid : Prop := fnExactFarthestCornersRow.holds Try.pinned (OpenSpec.ofChange fnExactFarthestCornersSpec)

/-- ITS FALSE NEIGHBOUR: 'it returns false'. Refute it at one input. -/
def fnExactFarthestCornersWrong : ChangeSpec := { name := "fnExactFarthestCorners", fn := fun _ => fun
  | [d] => { results := [.lit (.bool false)], args := [d] }
  | _ => none }
def FnExactFarthestCornersWrongFalsely : Prop := fnExactFarthestCornersRow.holds Try.pinned (OpenSpec.ofChange fnExactFarthestCornersWrong)

/-- 'laws.FnExactFarSquare': WHATEVER THE INPUT: true; the input reads as it did. -/
def fnExactFarSquareSpec : ChangeSpec := { name := "fnExactFarSquare", fn := fun _ => fun
  | [d] => { results := [.lit (.bool true)], args := [d] }
  | _ => none }
def fnExactFarSquareRow : OpenClaim := { program := "ytheddoinnakneaa", sum := "be3220a43d28d96f30d3973e4c7d4e0b40ead5d8aa8fc5a7da431fa70c92b77f", func := "loop.example/g01259/laws.FnExactFarSquare", spec := "fnExactFarSquare", unfollowed := true, recurses := true, apart := false }
def FnExactFarSquareSaid : Prop := fnExactFarSquareRow.holds Try.pinned (OpenSpec.ofChange fnExactFarSquareSpec)

/-- ITS FALSE NEIGHBOUR: 'it returns false'. Refute it at one input. -/
def fnExactFarSquareWrong : ChangeSpec := { name := "fnExactFarSquare", fn := fun _ => fun
  | [d] => { results := [.lit (.bool false)], args := [d] }
  | _ => none }
def FnExactFarSquareWrongFalsely : Prop := fnExactFarSquareRow.holds Try.pinned (OpenSpec.ofChange fnExactFarSquareWrong)

/-- 'laws.FnExactWidthIn': WHATEVER THE INPUT: true; the input reads as it did. -/
def fnExactWidthInSpec : ChangeSpec := { name := "fnExactWidthIn", fn := fun _ => fun
  | [d1, d2, d3] => { results := [.lit (.bool true)], args := [d1, d2, d3] }
  | _ => none }
def fnExactWidthInRow : OpenClaim := { program := "ytheddoinnakneaa", sum := "be3220a43d28d96f30d3973e4c7d4e0b40ead5d8aa8fc5a7da431fa70c92b77f", func := "loop.example/g01259/laws.FnExactWidthIn", spec := "fnExactWidthIn", apart := false }
def FnExactWidthInSaid : Prop := fnExactWidthInRow.holds Try.pinned (OpenSpec.ofChange fnExactWidthInSpec)

/-- ITS FALSE NEIGHBOUR: 'it returns false'. Refute it at one input. -/
def fnExactWidthInWrong : ChangeSpec := { name := "fnExactWidthIn", fn := fun _ => fun
  | [d1, d2, d3] => { results := [.lit (.bool false)], args := [d1, d2, d3] }
  | _ => none }
def FnExactWidthInWrongFalsely : Prop := fnExactWidthInRow.holds Try.pinned (OpenSpec.ofChange fnExactWidthInWrong)

/- THE SECOND FORM. 'bulk': how many values and letters a reading holds, each counted each time it is reached (what is shared counts as often as it is met; a slice's spare places count too). A statement '..UptoSaid' is the law's where the arguments, and the package variables that the reading takes, are together of bulk at most 1048576: NARROWER than '..Said'. Prove '..Said' where nothing that the law and all that it calls make is longer than what came in: it says more and counts as full. Else prove '..UptoSaid'. A law counts once. -/
mutual
def uptoBulk {H : Type} : DataW H → Nat
  | .lit (.string bytes) => bytes.length + 1
  | .lit _ => 1
  | .nil => 1
  | .ptr d => uptoBulk d + 1
  | .slice elems spare => uptoBulkAll elems + uptoBulkAll spare + 1
  | .agg parts => uptoBulkAll parts + 1
  | .iface _ d => uptoBulk d + 1
  | .map entries => uptoBulkEntries entries + 1
  | .held _ => 1
def uptoBulkAll {H : Type} : List (DataW H) → Nat
  | [] => 0
  | d :: r => uptoBulk d + uptoBulkAll r
def uptoBulkEntries {H : Type} : List (Lit × DataW H) → Nat
  | [] => 0
  | x :: r => uptoBulkEntry x + uptoBulkEntries r
def uptoBulkEntry {H : Type} : Lit × DataW H → Nat
  | (.string bytes, d) => bytes.length + uptoBulk d + 1
  | (_, d) => uptoBulk d + 1
 end
def uptoSmall : (H : Type) → List (DataW H) → Bool := fun _ ds => decide (uptoBulkAll ds ≤ 1048576)
def OpenSpec.upto (s : _root_.Go.ChangeSpec) : _root_.Go.OpenSpec := { _root_.Go.OpenSpec.ofChange s with cond := some uptoSmall }

/-- 'laws.FnExactLeastWidth', WHERE WHAT IT READS IS OF BULK AT MOST 1048576: true; the input reads as it did. -/
def fnExactLeastWidthUptoRow : OpenClaim := { program := "ytheddoinnakneaa", sum := "be3220a43d28d96f30d3973e4c7d4e0b40ead5d8aa8fc5a7da431fa70c92b77f", func := "loop.example/g01259/laws.FnExactLeastWidth", spec := "fnExactLeastWidth", unfollowed := true, recurses := true, apart := false, narrowed := true }
def FnExactLeastWidthUptoSaid : Prop := fnExactLeastWidthUptoRow.holds Try.pinned (OpenSpec.upto fnExactLeastWidthSpec)

/-- 'laws.FnExactDirectionsOfWidth', WHERE WHAT IT READS IS OF BULK AT MOST 1048576: true; the input reads as it did. -/
def fnExactDirectionsOfWidthUptoRow : OpenClaim := { program := "ytheddoinnakneaa", sum := "be3220a43d28d96f30d3973e4c7d4e0b40ead5d8aa8fc5a7da431fa70c92b77f", func := "loop.example/g01259/laws.FnExactDirectionsOfWidth", spec := "fnExactDirectionsOfWidth", unfollowed := true, recurses := true, apart := false, narrowed := true }
def FnExactDirectionsOfWidthUptoSaid : Prop := fnExactDirectionsOfWidthUptoRow.holds Try.pinned (OpenSpec.upto fnExactDirectionsOfWidthSpec)

/-- 'laws.FnExactCountDirections', WHERE WHAT IT READS IS OF BULK AT MOST 1048576: true; the input reads as it did. -/
def fnExactCountDirectionsUptoRow : OpenClaim := { program := "ytheddoinnakneaa", sum := "be3220a43d28d96f30d3973e4c7d4e0b40ead5d8aa8fc5a7da431fa70c92b77f", func := "loop.example/g01259/laws.FnExactCountDirections", spec := "fnExactCountDirections", unfollowed := true, recurses := true, apart := false, narrowed := true }
def FnExactCountDirectionsUptoSaid : Prop := fnExactCountDirectionsUptoRow.holds Try.pinned (OpenSpec.upto fnExactCountDirectionsSpec)

/-- 'laws.FnExactIsThin', WHERE WHAT IT READS IS OF BULK AT MOST 1048576: true; the input reads as it did. -/
def fnExactIsThinUptoRow : OpenClaim := { program := "ytheddoinnakneaa", sum := "be3220a43d28d96f30d3973e4c7d4e0b40ead5d8aa8fc5a7da431fa70c92b77f", func := "loop.example/g01259/laws.FnExactIsThin", spec := "fnExactIsThin", unfollowed := true, recurses := true, apart := false, narrowed := true }
def FnExactIsThinUptoSaid : Prop := fnExactIsThinUptoRow.holds Try.pinned (OpenSpec.upto fnExactIsThinSpec)

/-- 'laws.FnExactFlatMove', WHERE WHAT IT READS IS OF BULK AT MOST 1048576: true; the input reads as it did. -/
def fnExactFlatMoveUptoRow : OpenClaim := { program := "ytheddoinnakneaa", sum := "be3220a43d28d96f30d3973e4c7d4e0b40ead5d8aa8fc5a7da431fa70c92b77f", func := "loop.example/g01259/laws.FnExactFlatMove", spec := "fnExactFlatMove", unfollowed := true, recurses := true, apart := false, narrowed := true }
def FnExactFlatMoveUptoSaid : Prop := fnExactFlatMoveUptoRow.holds Try.pinned (OpenSpec.upto fnExactFlatMoveSpec)

/-- 'laws.FnExactFlatPolygon', WHERE WHAT IT READS IS OF BULK AT MOST 1048576: true; the input reads as it did. -/
def fnExactFlatPolygonUptoRow : OpenClaim := { program := "ytheddoinnakneaa", sum := "be3220a43d28d96f30d3973e4c7d4e0b40ead5d8aa8fc5a7da431fa70c92b77f", func := "loop.example/g01259/laws.FnExactFlatPolygon", spec := "fnExactFlatPolygon", unfollowed := true, recurses := true, apart := false, narrowed := true }
def FnExactFlatPolygonUptoSaid : Prop := fnExactFlatPolygonUptoRow.holds Try.pinned (OpenSpec.upto fnExactFlatPolygonSpec)

/-- 'laws.FnExactPegsPerLine', WHERE WHAT IT READS IS OF BULK AT MOST 1048576: true; the input reads as it did. -/
def fnExactPegsPerLineUptoRow : OpenClaim := { program := "ytheddoinnakneaa", sum := "be3220a43d28d96f30d3973e4c7d4e0b40ead5d8aa8fc5a7da431fa70c92b77f", func := "loop.example/g01259/laws.FnExactPegsPerLine", spec := "fnExactPegsPerLine", unfollowed := true, recurses := true, apart := false, narrowed := true }
def FnExactPegsPerLineUptoSaid : Prop := fnExactPegsPerLineUptoRow.holds Try.pinned (OpenSpec.upto fnExactPegsPerLineSpec)

/-- 'laws.FnExactMostOnLine', WHERE WHAT IT READS IS OF BULK AT MOST 1048576: true; the input reads as it did. -/
def fnExactMostOnLineUptoRow : OpenClaim := { program := "ytheddoinnakneaa", sum := "be3220a43d28d96f30d3973e4c7d4e0b40ead5d8aa8fc5a7da431fa70c92b77f", func := "loop.example/g01259/laws.FnExactMostOnLine", spec := "fnExactMostOnLine", unfollowed := true, recurses := true, apart := false, narrowed := true }
def FnExactMostOnLineUptoSaid : Prop := fnExactMostOnLineUptoRow.holds Try.pinned (OpenSpec.upto fnExactMostOnLineSpec)

/-- 'laws.FnExactSupportOf', WHERE WHAT IT READS IS OF BULK AT MOST 1048576: true; the input reads as it did. -/
def fnExactSupportOfUptoRow : OpenClaim := { program := "ytheddoinnakneaa", sum := "be3220a43d28d96f30d3973e4c7d4e0b40ead5d8aa8fc5a7da431fa70c92b77f", func := "loop.example/g01259/laws.FnExactSupportOf", spec := "fnExactSupportOf", unfollowed := true, recurses := true, apart := false, narrowed := true }
def FnExactSupportOfUptoSaid : Prop := fnExactSupportOfUptoRow.holds Try.pinned (OpenSpec.upto fnExactSupportOfSpec)

/-- 'laws.FnExactFarthestCorners', WHERE WHAT IT READS IS OF BULK AT MOST 1048576: true; the input reads as it did. -/
def fnExactFarthestCornersUptoRow : OpenClaim := { program := "ytheddoinnakneaa", sum := "be3220a43d28d96f30d3973e4c7d4e0b40ead5d8aa8fc5a7da431fa70c92b77f", func := "loop.example/g01259/laws.FnExactFarthestCorners", spec := "fnExactFarthestCorners", unfollowed := true, recurses := true, apart := false, narrowed := true }
def FnExactFarthestCornersUptoSaid : Prop := fnExactFarthestCornersUptoRow.holds Try.pinned (OpenSpec.upto fnExactFarthestCornersSpec)

/-- 'laws.FnExactFarSquare', WHERE WHAT IT READS IS OF BULK AT MOST 1048576: true; the input reads as it did. -/
def fnExactFarSquareUptoRow : OpenClaim := { program := "ytheddoinnakneaa", sum := "be3220a43d28d96f30d3973e4c7d4e0b40ead5d8aa8fc5a7da431fa70c92b77f", func := "loop.example/g01259/laws.FnExactFarSquare", spec := "fnExactFarSquare", unfollowed := true, recurses := true, apart := false, narrowed := true }
def FnExactFarSquareUptoSaid : Prop := fnExactFarSquareUptoRow.holds Try.pinned (OpenSpec.upto fnExactFarSquareSpec)

/-- 'laws.FnExactWidthIn', WHERE WHAT IT READS IS OF BULK AT MOST 1048576: true; the input reads as it did. -/
def fnExactWidthInUptoRow : OpenClaim := { program := "ytheddoinnakneaa", sum := "be3220a43d28d96f30d3973e4c7d4e0b40ead5d8aa8fc5a7da431fa70c92b77f", func := "loop.example/g01259/laws.FnExactWidthIn", spec := "fnExactWidthIn", apart := false, narrowed := true }
def FnExactWidthInUptoSaid : Prop := fnExactWidthInUptoRow.holds Try.pinned (OpenSpec.upto fnExactWidthInSpec)

end Rows
end Go.Proofs.Ytheddoinnakneaa
