/-
  No cell of these rows narrows 'for every input' (looked for: loops, veiled, ifaces, maps, wideKeys, modest, calm, conditions, laid).
  DERIVED. THE GIVEN ROWS OF THIS SEAT. 12 by the template 'for every input the law returns true; each argument reads behind the call as it read before'; 0 by the template 'total and deterministic' (their statements: YtmhdbodmpohdnaaTotals.lean).
  GIVEN WITH THE SEED: the statements are not yours to turn. If you find one false, say at which input.
  Laid BY PROGRAM, IN A SANDBOX (cutbox-rows.mjs): the forced cells as the released guide's own fill.sh prints them over the translation c27b5e57e9e22819… (all of the seat's roots in one cut). By AI agents, Wed Nov 11 2026. No macro, syntax, notation, axiom, sorry.
-/
import Derived.Test.YtmhdbodmpohdnaaChecked
import GoSem.Claim
import GoSem.ClaimJoined
import GoSem.ClaimMapViews
import Derived.JoinedTies
import Derived.KernelRfl
namespace Go.Proofs.Ytmhdbodmpohdnaa
/- THE CELL 'sum', in the pinned program and in every row, IS THE sha256 OF THE DUMP (.gsa) THAT YtmhdbodmpohdnaaProg.lean LOADS. Nothing in Lean hashes anything: it is a label: what it is worth is what the hold of that sum in a sandbox is worth. -/
noncomputable def Try.pinned : Pinned := { name := "ytmhdbodmpohdnaa", sum := "c27b5e57e9e228190470106540b1f196dc9c21fd38f91a2afc30d78c2616df94", checked := Try.checked }
namespace Rows
def none {H : Type} : Left H := { results := [], args := [] }

/-- 'laws.FnExactGreatestTriangle': WHATEVER THE INPUT: true; the input reads as it did. -/
def fnExactGreatestTriangleSpec : ChangeSpec := { name := "fnExactGreatestTriangle", fn := fun _ => fun
  | [d1, d2] => { results := [.lit (.bool true)], args := [d1, d2] }
  | _ => none }
def fnExactGreatestTriangleRow : OpenClaim := { program := "ytmhdbodmpohdnaa", sum := "c27b5e57e9e228190470106540b1f196dc9c21fd38f91a2afc30d78c2616df94", func := "loop.example/g01259/laws.FnExactGreatestTriangle", spec := "fnExactGreatestTriangle", plainKeys := false, apart := false }
def FnExactGreatestTriangleSaid : Prop := fnExactGreatestTriangleRow.holds Try.pinned (OpenSpec.ofChange fnExactGreatestTriangleSpec)

/-- ITS FALSE NEIGHBOUR: 'it returns false'. Refute it at one input. -/
def fnExactGreatestTriangleWrong : ChangeSpec := { name := "fnExactGreatestTriangle", fn := fun _ => fun
  | [d1, d2] => { results := [.lit (.bool false)], args := [d1, d2] }
  | _ => none }
def FnExactGreatestTriangleWrongFalsely : Prop := fnExactGreatestTriangleRow.holds Try.pinned (OpenSpec.ofChange fnExactGreatestTriangleWrong)

/-- 'laws.FnExactCountUpright': WHATEVER THE INPUT: true; the input reads as it did. -/
def fnExactCountUprightSpec : ChangeSpec := { name := "fnExactCountUpright", fn := fun _ => fun
  | [d1, d2] => { results := [.lit (.bool true)], args := [d1, d2] }
  | _ => none }
def fnExactCountUprightRow : OpenClaim := { program := "ytmhdbodmpohdnaa", sum := "c27b5e57e9e228190470106540b1f196dc9c21fd38f91a2afc30d78c2616df94", func := "loop.example/g01259/laws.FnExactCountUpright", spec := "fnExactCountUpright", plainKeys := false, apart := false }
def FnExactCountUprightSaid : Prop := fnExactCountUprightRow.holds Try.pinned (OpenSpec.ofChange fnExactCountUprightSpec)

/-- ITS FALSE NEIGHBOUR: 'it returns false'. Refute it at one input. -/
def fnExactCountUprightWrong : ChangeSpec := { name := "fnExactCountUpright", fn := fun _ => fun
  | [d1, d2] => { results := [.lit (.bool false)], args := [d1, d2] }
  | _ => none }
def FnExactCountUprightWrongFalsely : Prop := fnExactCountUprightRow.holds Try.pinned (OpenSpec.ofChange fnExactCountUprightWrong)

/-- 'laws.FnExactCountSquares': WHATEVER THE INPUT: true; the input reads as it did. -/
def fnExactCountSquaresSpec : ChangeSpec := { name := "fnExactCountSquares", fn := fun _ => fun
  | [d1, d2] => { results := [.lit (.bool true)], args := [d1, d2] }
  | _ => none }
def fnExactCountSquaresRow : OpenClaim := { program := "ytmhdbodmpohdnaa", sum := "c27b5e57e9e228190470106540b1f196dc9c21fd38f91a2afc30d78c2616df94", func := "loop.example/g01259/laws.FnExactCountSquares", spec := "fnExactCountSquares", plainKeys := false, apart := false }
def FnExactCountSquaresSaid : Prop := fnExactCountSquaresRow.holds Try.pinned (OpenSpec.ofChange fnExactCountSquaresSpec)

/-- ITS FALSE NEIGHBOUR: 'it returns false'. Refute it at one input. -/
def fnExactCountSquaresWrong : ChangeSpec := { name := "fnExactCountSquares", fn := fun _ => fun
  | [d1, d2] => { results := [.lit (.bool false)], args := [d1, d2] }
  | _ => none }
def FnExactCountSquaresWrongFalsely : Prop := fnExactCountSquaresRow.holds Try.pinned (OpenSpec.ofChange fnExactCountSquaresWrong)

/-- 'laws.FnExactPegsSeen': WHATEVER THE INPUT: true; the input reads as it did. -/
def fnExactPegsSeenSpec : ChangeSpec := { name := "fnExactPegsSeen", fn := fun _ => fun
  | [d1, d2, d3] => { results := [.lit (.bool true)], args := [d1, d2, d3] }
  | _ => none }
def fnExactPegsSeenRow : OpenClaim := { program := "ytmhdbodmpohdnaa", sum := "c27b5e57e9e228190470106540b1f196dc9c21fd38f91a2afc30d78c2616df94", func := "loop.example/g01259/laws.FnExactPegsSeen", spec := "fnExactPegsSeen", plainKeys := false, apart := false }
def FnExactPegsSeenSaid : Prop := fnExactPegsSeenRow.holds Try.pinned (OpenSpec.ofChange fnExactPegsSeenSpec)

/-- ITS FALSE NEIGHBOUR: 'it returns false'. Refute it at one input. -/
def fnExactPegsSeenWrong : ChangeSpec := { name := "fnExactPegsSeen", fn := fun _ => fun
  | [d1, d2, d3] => { results := [.lit (.bool false)], args := [d1, d2, d3] }
  | _ => none }
def FnExactPegsSeenWrongFalsely : Prop := fnExactPegsSeenRow.holds Try.pinned (OpenSpec.ofChange fnExactPegsSeenWrong)

/-- 'laws.FnExactCountPairs': WHATEVER THE INPUT: true; the input reads as it did. -/
def fnExactCountPairsSpec : ChangeSpec := { name := "fnExactCountPairs", fn := fun _ => fun
  | [d1, d2, d3] => { results := [.lit (.bool true)], args := [d1, d2, d3] }
  | _ => none }
def fnExactCountPairsRow : OpenClaim := { program := "ytmhdbodmpohdnaa", sum := "c27b5e57e9e228190470106540b1f196dc9c21fd38f91a2afc30d78c2616df94", func := "loop.example/g01259/laws.FnExactCountPairs", spec := "fnExactCountPairs", plainKeys := false, apart := false }
def FnExactCountPairsSaid : Prop := fnExactCountPairsRow.holds Try.pinned (OpenSpec.ofChange fnExactCountPairsSpec)

/-- ITS FALSE NEIGHBOUR: 'it returns false'. Refute it at one input. -/
def fnExactCountPairsWrong : ChangeSpec := { name := "fnExactCountPairs", fn := fun _ => fun
  | [d1, d2, d3] => { results := [.lit (.bool false)], args := [d1, d2, d3] }
  | _ => none }
def FnExactCountPairsWrongFalsely : Prop := fnExactCountPairsRow.holds Try.pinned (OpenSpec.ofChange fnExactCountPairsWrong)

/-- 'laws.FnExactCountOfArea': WHATEVER THE INPUT: true; the input reads as it did. -/
def fnExactCountOfAreaSpec : ChangeSpec := { name := "fnExactCountOfArea", fn := fun _ => fun
  | [d1, d2, d3] => { results := [.lit (.bool true)], args := [d1, d2, d3] }
  | _ => none }
def fnExactCountOfAreaRow : OpenClaim := { program := "ytmhdbodmpohdnaa", sum := "c27b5e57e9e228190470106540b1f196dc9c21fd38f91a2afc30d78c2616df94", func := "loop.example/g01259/laws.FnExactCountOfArea", spec := "fnExactCountOfArea", unfollowed := true, recurses := true, plainKeys := false, apart := false }
def FnExactCountOfAreaSaid : Prop := fnExactCountOfAreaRow.holds Try.pinned (OpenSpec.ofChange fnExactCountOfAreaSpec)

/-- ITS FALSE NEIGHBOUR: 'it returns false'. Refute it at one input. -/
def fnExactCountOfAreaWrong : ChangeSpec := { name := "fnExactCountOfArea", fn := fun _ => fun
  | [d1, d2, d3] => { results := [.lit (.bool false)], args := [d1, d2, d3] }
  | _ => none }
def FnExactCountOfAreaWrongFalsely : Prop := fnExactCountOfAreaRow.holds Try.pinned (OpenSpec.ofChange fnExactCountOfAreaWrong)

/-- 'laws.FnExactCountRight': WHATEVER THE INPUT: true; the input reads as it did. -/
def fnExactCountRightSpec : ChangeSpec := { name := "fnExactCountRight", fn := fun _ => fun
  | [d1, d2] => { results := [.lit (.bool true)], args := [d1, d2] }
  | _ => none }
def fnExactCountRightRow : OpenClaim := { program := "ytmhdbodmpohdnaa", sum := "c27b5e57e9e228190470106540b1f196dc9c21fd38f91a2afc30d78c2616df94", func := "loop.example/g01259/laws.FnExactCountRight", spec := "fnExactCountRight", unfollowed := true, recurses := true, plainKeys := false, apart := false }
def FnExactCountRightSaid : Prop := fnExactCountRightRow.holds Try.pinned (OpenSpec.ofChange fnExactCountRightSpec)

/-- ITS FALSE NEIGHBOUR: 'it returns false'. Refute it at one input. -/
def fnExactCountRightWrong : ChangeSpec := { name := "fnExactCountRight", fn := fun _ => fun
  | [d1, d2] => { results := [.lit (.bool false)], args := [d1, d2] }
  | _ => none }
def FnExactCountRightWrongFalsely : Prop := fnExactCountRightRow.holds Try.pinned (OpenSpec.ofChange fnExactCountRightWrong)

/-- 'laws.FnExactCountRectangles': WHATEVER THE INPUT: true; the input reads as it did. -/
def fnExactCountRectanglesSpec : ChangeSpec := { name := "fnExactCountRectangles", fn := fun _ => fun
  | [d1, d2] => { results := [.lit (.bool true)], args := [d1, d2] }
  | _ => none }
def fnExactCountRectanglesRow : OpenClaim := { program := "ytmhdbodmpohdnaa", sum := "c27b5e57e9e228190470106540b1f196dc9c21fd38f91a2afc30d78c2616df94", func := "loop.example/g01259/laws.FnExactCountRectangles", spec := "fnExactCountRectangles", unfollowed := true, recurses := true, plainKeys := false, apart := false }
def FnExactCountRectanglesSaid : Prop := fnExactCountRectanglesRow.holds Try.pinned (OpenSpec.ofChange fnExactCountRectanglesSpec)

/-- ITS FALSE NEIGHBOUR: 'it returns false'. Refute it at one input. -/
def fnExactCountRectanglesWrong : ChangeSpec := { name := "fnExactCountRectangles", fn := fun _ => fun
  | [d1, d2] => { results := [.lit (.bool false)], args := [d1, d2] }
  | _ => none }
def FnExactCountRectanglesWrongFalsely : Prop := fnExactCountRectanglesRow.holds Try.pinned (OpenSpec.ofChange fnExactCountRectanglesWrong)

/-- 'laws.FnExactCountStraight': WHATEVER THE INPUT: true; the input reads as it did. -/
def fnExactCountStraightSpec : ChangeSpec := { name := "fnExactCountStraight", fn := fun _ => fun
  | [d1, d2] => { results := [.lit (.bool true)], args := [d1, d2] }
  | _ => none }
def fnExactCountStraightRow : OpenClaim := { program := "ytmhdbodmpohdnaa", sum := "c27b5e57e9e228190470106540b1f196dc9c21fd38f91a2afc30d78c2616df94", func := "loop.example/g01259/laws.FnExactCountStraight", spec := "fnExactCountStraight", plainKeys := false, apart := false }
def FnExactCountStraightSaid : Prop := fnExactCountStraightRow.holds Try.pinned (OpenSpec.ofChange fnExactCountStraightSpec)

/-- ITS FALSE NEIGHBOUR: 'it returns false'. Refute it at one input. -/
def fnExactCountStraightWrong : ChangeSpec := { name := "fnExactCountStraight", fn := fun _ => fun
  | [d1, d2] => { results := [.lit (.bool false)], args := [d1, d2] }
  | _ => none }
def FnExactCountStraightWrongFalsely : Prop := fnExactCountStraightRow.holds Try.pinned (OpenSpec.ofChange fnExactCountStraightWrong)

/-- 'laws.FnExactCountSlopes': WHATEVER THE INPUT: true; the input reads as it did. -/
def fnExactCountSlopesSpec : ChangeSpec := { name := "fnExactCountSlopes", fn := fun _ => fun
  | [d1, d2] => { results := [.lit (.bool true)], args := [d1, d2] }
  | _ => none }
def fnExactCountSlopesRow : OpenClaim := { program := "ytmhdbodmpohdnaa", sum := "c27b5e57e9e228190470106540b1f196dc9c21fd38f91a2afc30d78c2616df94", func := "loop.example/g01259/laws.FnExactCountSlopes", spec := "fnExactCountSlopes", plainKeys := false, apart := false }
def FnExactCountSlopesSaid : Prop := fnExactCountSlopesRow.holds Try.pinned (OpenSpec.ofChange fnExactCountSlopesSpec)

/-- ITS FALSE NEIGHBOUR: 'it returns false'. Refute it at one input. -/
def fnExactCountSlopesWrong : ChangeSpec := { name := "fnExactCountSlopes", fn := fun _ => fun
  | [d1, d2] => { results := [.lit (.bool false)], args := [d1, d2] }
  | _ => none }
def FnExactCountSlopesWrongFalsely : Prop := fnExactCountSlopesRow.holds Try.pinned (OpenSpec.ofChange fnExactCountSlopesWrong)

/-- 'laws.FnExactCountOnLongest': WHATEVER THE INPUT: true; the input reads as it did. -/
def fnExactCountOnLongestSpec : ChangeSpec := { name := "fnExactCountOnLongest", fn := fun _ => fun
  | [d1, d2] => { results := [.lit (.bool true)], args := [d1, d2] }
  | _ => none }
def fnExactCountOnLongestRow : OpenClaim := { program := "ytmhdbodmpohdnaa", sum := "c27b5e57e9e228190470106540b1f196dc9c21fd38f91a2afc30d78c2616df94", func := "loop.example/g01259/laws.FnExactCountOnLongest", spec := "fnExactCountOnLongest", plainKeys := false, apart := false }
def FnExactCountOnLongestSaid : Prop := fnExactCountOnLongestRow.holds Try.pinned (OpenSpec.ofChange fnExactCountOnLongestSpec)

/-- ITS FALSE NEIGHBOUR: 'it returns false'. Refute it at one input. -/
def fnExactCountOnLongestWrong : ChangeSpec := { name := "fnExactCountOnLongest", fn := fun _ => fun
  | [d1, d2] => { results := [.lit (.bool false)], args := [d1, d2] }
  | _ => none }
def FnExactCountOnLongestWrongFalsely : Prop := fnExactCountOnLongestRow.holds Try.pinned (OpenSpec.ofChange fnExactCountOnLongestWrong)

/-- 'laws.FnExactCountInLine': WHATEVER THE INPUT: true; the input reads as it did. -/
def fnExactCountInLineSpec : ChangeSpec := { name := "fnExactCountInLine", fn := fun _ => fun
  | [d1, d2] => { results := [.lit (.bool true)], args := [d1, d2] }
  | _ => none }
def fnExactCountInLineRow : OpenClaim := { program := "ytmhdbodmpohdnaa", sum := "c27b5e57e9e228190470106540b1f196dc9c21fd38f91a2afc30d78c2616df94", func := "loop.example/g01259/laws.FnExactCountInLine", spec := "fnExactCountInLine", unfollowed := true, recurses := true, plainKeys := false, apart := false }
def FnExactCountInLineSaid : Prop := fnExactCountInLineRow.holds Try.pinned (OpenSpec.ofChange fnExactCountInLineSpec)

/-- ITS FALSE NEIGHBOUR: 'it returns false'. Refute it at one input. -/
def fnExactCountInLineWrong : ChangeSpec := { name := "fnExactCountInLine", fn := fun _ => fun
  | [d1, d2] => { results := [.lit (.bool false)], args := [d1, d2] }
  | _ => none }
def FnExactCountInLineWrongFalsely : Prop := fnExactCountInLineRow.holds Try.pinned (OpenSpec.ofChange fnExactCountInLineWrong)

/- THE SECOND FORM. 'bulk': how many values and letters a reading holds, each counted each time it is reached (what is shared counts as often as it is met; a slice's spare places count too). A statement '..UptoSaid' is the law's where the arguments, and the package variables that the reading takes, are together of bulk at most 1048576: NARROWER than '..Said'. Prove '..Said' where nothing that the law and all that it calls make is longer than what came in: it says more and counts as full. Else prove '..UptoSaid'. A law counts once. -/
mutual
def uptoBulk {H : Type} : DataW H → Nat
  | .lit (.string bytes) => bytes.length + 1
  | .lit _ => 1
  | .nil => 1
  | .ptr d => uptoBulk d + 1
  | .slice elems spare => uptoBulkAll elems + uptoBulkAll spare + 1
  | .agg parts => uptoBulkAll parts + 1
  | .iface _ d => uptoBulk d + 1
  | .map entries => uptoBulkEntries entries + 1
  | .held _ => 1
def uptoBulkAll {H : Type} : List (DataW H) → Nat
  | [] => 0
  | d :: r => uptoBulk d + uptoBulkAll r
def uptoBulkEntries {H : Type} : List (Lit × DataW H) → Nat
  | [] => 0
  | x :: r => uptoBulkEntry x + uptoBulkEntries r
def uptoBulkEntry {H : Type} : Lit × DataW H → Nat
  | (.string bytes, d) => bytes.length + uptoBulk d + 1
  | (_, d) => uptoBulk d + 1
 end
def uptoSmall : (H : Type) → List (DataW H) → Bool := fun _ ds => decide (uptoBulkAll ds ≤ 1048576)
def OpenSpec.upto (s : _root_.Go.ChangeSpec) : _root_.Go.OpenSpec := { _root_.Go.OpenSpec.ofChange s with cond := some uptoSmall }

/-- 'laws.FnExactGreatestTriangle', WHERE WHAT IT READS IS OF BULK AT MOST 1048576: true; the input reads as it did. -/
def fnExactGreatestTriangleUptoRow : OpenClaim := { program := "ytmhdbodmpohdnaa", sum := "c27b5e57e9e228190470106540b1f196dc9c21fd38f91a2afc30d78c2616df94", func := "loop.example/g01259/laws.FnExactGreatestTriangle", spec := "fnExactGreatestTriangle", plainKeys := false, apart := false, narrowed := true }
def FnExactGreatestTriangleUptoSaid : Prop := fnExactGreatestTriangleUptoRow.holds Try.pinned (OpenSpec.upto fnExactGreatestTriangleSpec)

/-- 'laws.FnExactCountUpright', WHERE WHAT IT READS IS OF BULK AT MOST 1048576: true; the input reads as it did. -/
def fnExactCountUprightUptoRow : OpenClaim := { program := "ytmhdbodmpohdnaa", sum := "c27b5e57e9e228190470106540b1f196dc9c21fd38f91a2afc30d78c2616df94", func := "loop.example/g01259/laws.FnExactCountUpright", spec := "fnExactCountUpright", plainKeys := false, apart := false, narrowed := true }
def FnExactCountUprightUptoSaid : Prop := fnExactCountUprightUptoRow.holds Try.pinned (OpenSpec.upto fnExactCountUprightSpec)

/-- 'laws.FnExactCountSquares', WHERE WHAT IT READS IS OF BULK AT MOST 1048576: true; the input reads as it did. -/
def fnExactCountSquaresUptoRow : OpenClaim := { program := "ytmhdbodmpohdnaa", sum := "c27b5e57e9e228190470106540b1f196dc9c21fd38f91a2afc30d78c2616df94", func := "loop.example/g01259/laws.FnExactCountSquares", spec := "fnExactCountSquares", plainKeys := false, apart := false, narrowed := true }
def FnExactCountSquaresUptoSaid : Prop := fnExactCountSquaresUptoRow.holds Try.pinned (OpenSpec.upto fnExactCountSquaresSpec)

/-- 'laws.FnExactPegsSeen', WHERE WHAT IT READS IS OF BULK AT MOST 1048576: true; the input reads as it did. -/
def fnExactPegsSeenUptoRow : OpenClaim := { program := "ytmhdbodmpohdnaa", sum := "c27b5e57e9e228190470106540b1f196dc9c21fd38f91a2afc30d78c2616df94", func := "loop.example/g01259/laws.FnExactPegsSeen", spec := "fnExactPegsSeen", plainKeys := false, apart := false, narrowed := true }
def FnExactPegsSeenUptoSaid : Prop := fnExactPegsSeenUptoRow.holds Try.pinned (OpenSpec.upto fnExactPegsSeenSpec)

/-- 'laws.FnExactCountPairs', WHERE WHAT IT READS IS OF BULK AT MOST 1048576: true; the input reads as it did. -/
def fnExactCountPairsUptoRow : OpenClaim := { program := "ytmhdbodmpohdnaa", sum := "c27b5e57e9e228190470106540b1f196dc9c21fd38f91a2afc30d78c2616df94", func := "loop.example/g01259/laws.FnExactCountPairs", spec := "fnExactCountPairs", plainKeys := false, apart := false, narrowed := true }
def FnExactCountPairsUptoSaid : Prop := fnExactCountPairsUptoRow.holds Try.pinned (OpenSpec.upto fnExactCountPairsSpec)

/-- 'laws.FnExactCountOfArea', WHERE WHAT IT READS IS OF BULK AT MOST 1048576: true; the input reads as it did. -/
def fnExactCountOfAreaUptoRow : OpenClaim := { program := "ytmhdbodmpohdnaa", sum := "c27b5e57e9e228190470106540b1f196dc9c21fd38f91a2afc30d78c2616df94", func := "loop.example/g01259/laws.FnExactCountOfArea", spec := "fnExactCountOfArea", unfollowed := true, recurses := true, plainKeys := false, apart := false, narrowed := true }
def FnExactCountOfAreaUptoSaid : Prop := fnExactCountOfAreaUptoRow.holds Try.pinned (OpenSpec.upto fnExactCountOfAreaSpec)

/-- 'laws.FnExactCountRight', WHERE WHAT IT READS IS OF BULK AT MOST 1048576: true; the input reads as it did. -/
def fnExactCountRightUptoRow : OpenClaim := { program := "ytmhdbodmpohdnaa", sum := "c27b5e57e9e228190470106540b1f196dc9c21fd38f91a2afc30d78c2616df94", func := "loop.example/g01259/laws.FnExactCountRight", spec := "fnExactCountRight", unfollowed := true, recurses := true, plainKeys := false, apart := false, narrowed := true }
def FnExactCountRightUptoSaid : Prop := fnExactCountRightUptoRow.holds Try.pinned (OpenSpec.upto fnExactCountRightSpec)

/-- 'laws.FnExactCountRectangles', WHERE WHAT IT READS IS OF BULK AT MOST 1048576: true; the input reads as it did. -/
def fnExactCountRectanglesUptoRow : OpenClaim := { program := "ytmhdbodmpohdnaa", sum := "c27b5e57e9e228190470106540b1f196dc9c21fd38f91a2afc30d78c2616df94", func := "loop.example/g01259/laws.FnExactCountRectangles", spec := "fnExactCountRectangles", unfollowed := true, recurses := true, plainKeys := false, apart := false, narrowed := true }
def FnExactCountRectanglesUptoSaid : Prop := fnExactCountRectanglesUptoRow.holds Try.pinned (OpenSpec.upto fnExactCountRectanglesSpec)

/-- 'laws.FnExactCountStraight', WHERE WHAT IT READS IS OF BULK AT MOST 1048576: true; the input reads as it did. -/
def fnExactCountStraightUptoRow : OpenClaim := { program := "ytmhdbodmpohdnaa", sum := "c27b5e57e9e228190470106540b1f196dc9c21fd38f91a2afc30d78c2616df94", func := "loop.example/g01259/laws.FnExactCountStraight", spec := "fnExactCountStraight", plainKeys := false, apart := false, narrowed := true }
def FnExactCountStraightUptoSaid : Prop := fnExactCountStraightUptoRow.holds Try.pinned (OpenSpec.upto fnExactCountStraightSpec)

/-- 'laws.FnExactCountSlopes', WHERE WHAT IT READS IS OF BULK AT MOST 1048576: true; the input reads as it did. -/
def fnExactCountSlopesUptoRow : OpenClaim := { program := "ytmhdbodmpohdnaa", sum := "c27b5e57e9e228190470106540b1f196dc9c21fd38f91a2afc30d78c2616df94", func := "loop.example/g01259/laws.FnExactCountSlopes", spec := "fnExactCountSlopes", plainKeys := false, apart := false, narrowed := true }
def FnExactCountSlopesUptoSaid : Prop := fnExactCountSlopesUptoRow.holds Try.pinned (OpenSpec.upto fnExactCountSlopesSpec)

/-- 'laws.FnExactCountOnLongest', WHERE WHAT IT READS IS OF BULK AT MOST 1048576: true; the input reads as it did. -/
def fnExactCountOnLongestUptoRow : OpenClaim := { program := "ytmhdbodmpohdnaa", sum := "c27b5e57e9e228190470106540b1f196dc9c21fd38f91a2afc30d78c2616df94", func := "loop.example/g01259/laws.FnExactCountOnLongest", spec := "fnExactCountOnLongest", plainKeys := false, apart := false, narrowed := true }
def FnExactCountOnLongestUptoSaid : Prop := fnExactCountOnLongestUptoRow.holds Try.pinned (OpenSpec.upto fnExactCountOnLongestSpec)

/-- 'laws.FnExactCountInLine', WHERE WHAT IT READS IS OF BULK AT MOST 1048576: true; the input reads as it did. -/
def fnExactCountInLineUptoRow : OpenClaim := { program := "ytmhdbodmpohdnaa", sum := "c27b5e57e9e228190470106540b1f196dc9c21fd38f91a2afc30d78c2616df94", func := "loop.example/g01259/laws.FnExactCountInLine", spec := "fnExactCountInLine", unfollowed := true, recurses := true, plainKeys := false, apart := false, narrowed := true }
def FnExactCountInLineUptoSaid : Prop := fnExactCountInLineUptoRow.holds Try.pinned (OpenSpec.upto fnExactCountInLineSpec)

end Rows
end Go.Proofs.Ytmhdbodmpohdnaa
