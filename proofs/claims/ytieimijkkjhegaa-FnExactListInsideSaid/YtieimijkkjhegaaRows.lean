/-
  No cell of these rows narrows 'for every input' (looked for: loops, veiled, ifaces, maps, wideKeys, modest, calm, conditions, laid).
  DERIVED. THE GIVEN ROWS OF THIS SEAT. 12 by the template 'for every input the law returns true; each argument reads behind the call as it read before'; 0 by the template 'total and deterministic' (their statements: YtieimijkkjhegaaTotals.lean).
  GIVEN WITH THE SEED: the statements are not yours to turn. If you find one false, say at which input.
  Laid BY PROGRAM, IN A SANDBOX (cutbox-rows.mjs): the forced cells as the released guide's own fill.sh prints them over the translation fe48fa14cec97a4c… (all of the seat's roots in one cut). By AI agents, Wed Nov 11 2026. No macro, syntax, notation, axiom, sorry.
-/
import Derived.Test.YtieimijkkjhegaaChecked
import GoSem.Claim
import GoSem.ClaimJoined
import GoSem.ClaimMapViews
import Derived.JoinedTies
import Derived.KernelRfl
namespace Go.Proofs.Ytieimijkkjhegaa
/- THE CELL 'sum', in the pinned program and in every row, IS THE sha256 OF THE DUMP (.gsa) THAT YtieimijkkjhegaaProg.lean LOADS. Nothing in Lean hashes anything: it is a label: what it is worth is what the hold of that sum in a sandbox is worth. -/
noncomputable def Try.pinned : Pinned := { name := "ytieimijkkjhegaa", sum := "fe48fa14cec97a4c9079a813ebc53d62c04c301d0c527ff8ecafd536d8ff72fd", checked := Try.checked }
namespace Rows
def none {H : Type} : Left H := { results := [], args := [] }

/-- 'laws.FnExactPegsOfGrown': WHATEVER THE INPUT: true; the input reads as it did. -/
def fnExactPegsOfGrownSpec : ChangeSpec := { name := "fnExactPegsOfGrown", fn := fun _ => fun
  | [d1, d2] => { results := [.lit (.bool true)], args := [d1, d2] }
  | _ => none }
def fnExactPegsOfGrownRow : OpenClaim := { program := "ytieimijkkjhegaa", sum := "fe48fa14cec97a4c9079a813ebc53d62c04c301d0c527ff8ecafd536d8ff72fd", func := "loop.example/g01259/laws.FnExactPegsOfGrown", spec := "fnExactPegsOfGrown", unfollowed := true, recurses := true, apart := false }
def FnExactPegsOfGrownSaid : Prop := fnExactPegsOfGrownRow.holds Try.pinned (OpenSpec.ofChange fnExactPegsOfGrownSpec)

/-- ITS FALSE NEIGHBOUR: 'it returns false'. Refute it at one input. -/
def fnExactPegsOfGrownWrong : ChangeSpec := { name := "fnExactPegsOfGrown", fn := fun _ => fun
  | [d1, d2] => { results := [.lit (.bool false)], args := [d1, d2] }
  | _ => none }
def FnExactPegsOfGrownWrongFalsely : Prop := fnExactPegsOfGrownRow.holds Try.pinned (OpenSpec.ofChange fnExactPegsOfGrownWrong)

/-- 'laws.FnExactMiddleThree': WHATEVER THE INPUT: true; the input reads as it did. -/
def fnExactMiddleThreeSpec : ChangeSpec := { name := "fnExactMiddleThree", fn := fun _ => fun
  | [d] => { results := [.lit (.bool true)], args := [d] }
  | _ => none }
def fnExactMiddleThreeRow : OpenClaim := { program := "ytieimijkkjhegaa", sum := "fe48fa14cec97a4c9079a813ebc53d62c04c301d0c527ff8ecafd536d8ff72fd", func := "loop.example/g01259/laws.FnExactMiddleThree", spec := "fnExactMiddleThree", apart := false }
def FnExactMiddleThreeSaid : Prop := fnExactMiddleThreeRow.holds Try.pinned (OpenSpec.ofChange fnExactMiddleThreeSpec)

/-- ITS FALSE NEIGHBOUR: 'it returns false'. Refute it at one input. -/
def fnExactMiddleThreeWrong : ChangeSpec := { name := "fnExactMiddleThree", fn := fun _ => fun
  | [d] => { results := [.lit (.bool false)], args := [d] }
  | _ => none }
def FnExactMiddleThreeWrongFalsely : Prop := fnExactMiddleThreeRow.holds Try.pinned (OpenSpec.ofChange fnExactMiddleThreeWrong)

/-- 'laws.FnExactMoveCorners': WHATEVER THE INPUT: true; the input reads as it did. -/
def fnExactMoveCornersSpec : ChangeSpec := { name := "fnExactMoveCorners", fn := fun _ => fun
  | [d1, d2] => { results := [.lit (.bool true)], args := [d1, d2] }
  | _ => none }
def fnExactMoveCornersRow : OpenClaim := { program := "ytieimijkkjhegaa", sum := "fe48fa14cec97a4c9079a813ebc53d62c04c301d0c527ff8ecafd536d8ff72fd", func := "loop.example/g01259/laws.FnExactMoveCorners", spec := "fnExactMoveCorners", unfollowed := true, recurses := true, apart := false }
def FnExactMoveCornersSaid : Prop := fnExactMoveCornersRow.holds Try.pinned (OpenSpec.ofChange fnExactMoveCornersSpec)

/-- ITS FALSE NEIGHBOUR: 'it returns false'. Refute it at one input. -/
def fnExactMoveCornersWrong : ChangeSpec := { name := "fnExactMoveCorners", fn := fun _ => fun
  | [d1, d2] => { results := [.lit (.bool false)], args := [d1, d2] }
  | _ => none }
def FnExactMoveCornersWrongFalsely : Prop := fnExactMoveCornersRow.holds Try.pinned (OpenSpec.ofChange fnExactMoveCornersWrong)

/-- 'laws.FnExactListInside': WHATEVER THE INPUT: true; the input reads as it did. -/
def fnExactListInsideSpec : ChangeSpec := { name := "fnExactListInside", fn := fun _ => fun
  | [d] => { results := [.lit (.bool true)], args := [d] }
  | _ => none }
def fnExactListInsideRow : OpenClaim := { program := "ytieimijkkjhegaa", sum := "fe48fa14cec97a4c9079a813ebc53d62c04c301d0c527ff8ecafd536d8ff72fd", func := "loop.example/g01259/laws.FnExactListInside", spec := "fnExactListInside", unfollowed := true, recurses := true, apart := false }
def FnExactListInsideSaid : Prop := fnExactListInsideRow.holds Try.pinned (OpenSpec.ofChange fnExactListInsideSpec)

/-- ITS FALSE NEIGHBOUR: 'it returns false'. Refute it at one input. -/
def fnExactListInsideWrong : ChangeSpec := { name := "fnExactListInside", fn := fun _ => fun
  | [d] => { results := [.lit (.bool false)], args := [d] }
  | _ => none }
def FnExactListInsideWrongFalsely : Prop := fnExactListInsideRow.holds Try.pinned (OpenSpec.ofChange fnExactListInsideWrong)

/-- 'laws.FnExactPegsInAll': WHATEVER THE INPUT: true; the input reads as it did. -/
def fnExactPegsInAllSpec : ChangeSpec := { name := "fnExactPegsInAll", fn := fun _ => fun
  | [d] => { results := [.lit (.bool true)], args := [d] }
  | _ => none }
def fnExactPegsInAllRow : OpenClaim := { program := "ytieimijkkjhegaa", sum := "fe48fa14cec97a4c9079a813ebc53d62c04c301d0c527ff8ecafd536d8ff72fd", func := "loop.example/g01259/laws.FnExactPegsInAll", spec := "fnExactPegsInAll", unfollowed := true, recurses := true, apart := false }
def FnExactPegsInAllSaid : Prop := fnExactPegsInAllRow.holds Try.pinned (OpenSpec.ofChange fnExactPegsInAllSpec)

/-- ITS FALSE NEIGHBOUR: 'it returns false'. Refute it at one input. -/
def fnExactPegsInAllWrong : ChangeSpec := { name := "fnExactPegsInAll", fn := fun _ => fun
  | [d] => { results := [.lit (.bool false)], args := [d] }
  | _ => none }
def FnExactPegsInAllWrongFalsely : Prop := fnExactPegsInAllRow.holds Try.pinned (OpenSpec.ofChange fnExactPegsInAllWrong)

/-- 'laws.FnExactBoxOf': WHATEVER THE INPUT: true; the input reads as it did. -/
def fnExactBoxOfSpec : ChangeSpec := { name := "fnExactBoxOf", fn := fun _ => fun
  | [d] => { results := [.lit (.bool true)], args := [d] }
  | _ => none }
def fnExactBoxOfRow : OpenClaim := { program := "ytieimijkkjhegaa", sum := "fe48fa14cec97a4c9079a813ebc53d62c04c301d0c527ff8ecafd536d8ff72fd", func := "loop.example/g01259/laws.FnExactBoxOf", spec := "fnExactBoxOf", apart := false }
def FnExactBoxOfSaid : Prop := fnExactBoxOfRow.holds Try.pinned (OpenSpec.ofChange fnExactBoxOfSpec)

/-- ITS FALSE NEIGHBOUR: 'it returns false'. Refute it at one input. -/
def fnExactBoxOfWrong : ChangeSpec := { name := "fnExactBoxOf", fn := fun _ => fun
  | [d] => { results := [.lit (.bool false)], args := [d] }
  | _ => none }
def FnExactBoxOfWrongFalsely : Prop := fnExactBoxOfRow.holds Try.pinned (OpenSpec.ofChange fnExactBoxOfWrong)

/-- 'laws.FnExactWidthIn': WHATEVER THE INPUT: true; the input reads as it did. -/
def fnExactWidthInSpec : ChangeSpec := { name := "fnExactWidthIn", fn := fun _ => fun
  | [d1, d2, d3] => { results := [.lit (.bool true)], args := [d1, d2, d3] }
  | _ => none }
def fnExactWidthInRow : OpenClaim := { program := "ytieimijkkjhegaa", sum := "fe48fa14cec97a4c9079a813ebc53d62c04c301d0c527ff8ecafd536d8ff72fd", func := "loop.example/g01259/laws.FnExactWidthIn", spec := "fnExactWidthIn", apart := false }
def FnExactWidthInSaid : Prop := fnExactWidthInRow.holds Try.pinned (OpenSpec.ofChange fnExactWidthInSpec)

/-- ITS FALSE NEIGHBOUR: 'it returns false'. Refute it at one input. -/
def fnExactWidthInWrong : ChangeSpec := { name := "fnExactWidthIn", fn := fun _ => fun
  | [d1, d2, d3] => { results := [.lit (.bool false)], args := [d1, d2, d3] }
  | _ => none }
def FnExactWidthInWrongFalsely : Prop := fnExactWidthInRow.holds Try.pinned (OpenSpec.ofChange fnExactWidthInWrong)

/-- 'laws.FnExactIsDesk': WHATEVER THE INPUT: true; the input reads as it did. -/
def fnExactIsDeskSpec : ChangeSpec := { name := "fnExactIsDesk", fn := fun _ => fun
  | [d] => { results := [.lit (.bool true)], args := [d] }
  | _ => none }
def fnExactIsDeskRow : OpenClaim := { program := "ytieimijkkjhegaa", sum := "fe48fa14cec97a4c9079a813ebc53d62c04c301d0c527ff8ecafd536d8ff72fd", func := "loop.example/g01259/laws.FnExactIsDesk", spec := "fnExactIsDesk", apart := false }
def FnExactIsDeskSaid : Prop := fnExactIsDeskRow.holds Try.pinned (OpenSpec.ofChange fnExactIsDeskSpec)

/-- ITS FALSE NEIGHBOUR: 'it returns false'. Refute it at one input. -/
def fnExactIsDeskWrong : ChangeSpec := { name := "fnExactIsDesk", fn := fun _ => fun
  | [d] => { results := [.lit (.bool false)], args := [d] }
  | _ => none }
def FnExactIsDeskWrongFalsely : Prop := fnExactIsDeskRow.holds Try.pinned (OpenSpec.ofChange fnExactIsDeskWrong)

/-- 'laws.FnExactFirstDesk': WHATEVER THE INPUT: true; the input reads as it did. -/
def fnExactFirstDeskSpec : ChangeSpec := { name := "fnExactFirstDesk", fn := fun _ => fun
  | [] => { results := [.lit (.bool true)], args := [] }
  | _ => none }
def fnExactFirstDeskRow : OpenClaim := { program := "ytieimijkkjhegaa", sum := "fe48fa14cec97a4c9079a813ebc53d62c04c301d0c527ff8ecafd536d8ff72fd", func := "loop.example/g01259/laws.FnExactFirstDesk", spec := "fnExactFirstDesk", apart := false }
def FnExactFirstDeskSaid : Prop := fnExactFirstDeskRow.holds Try.pinned (OpenSpec.ofChange fnExactFirstDeskSpec)

/-- ITS FALSE NEIGHBOUR: 'it returns false'. Refute it at one input. -/
def fnExactFirstDeskWrong : ChangeSpec := { name := "fnExactFirstDesk", fn := fun _ => fun
  | [] => { results := [.lit (.bool false)], args := [] }
  | _ => none }
def FnExactFirstDeskWrongFalsely : Prop := fnExactFirstDeskRow.holds Try.pinned (OpenSpec.ofChange fnExactFirstDeskWrong)

/-- 'laws.FnExactTakePeg': WHATEVER THE INPUT: true; the input reads as it did. -/
def fnExactTakePegSpec : ChangeSpec := { name := "fnExactTakePeg", fn := fun _ => fun
  | [d1, d2] => { results := [.lit (.bool true)], args := [d1, d2] }
  | _ => none }
def fnExactTakePegRow : OpenClaim := { program := "ytieimijkkjhegaa", sum := "fe48fa14cec97a4c9079a813ebc53d62c04c301d0c527ff8ecafd536d8ff72fd", func := "loop.example/g01259/laws.FnExactTakePeg", spec := "fnExactTakePeg", apart := false }
def FnExactTakePegSaid : Prop := fnExactTakePegRow.holds Try.pinned (OpenSpec.ofChange fnExactTakePegSpec)

/-- ITS FALSE NEIGHBOUR: 'it returns false'. Refute it at one input. -/
def fnExactTakePegWrong : ChangeSpec := { name := "fnExactTakePeg", fn := fun _ => fun
  | [d1, d2] => { results := [.lit (.bool false)], args := [d1, d2] }
  | _ => none }
def FnExactTakePegWrongFalsely : Prop := fnExactTakePegRow.holds Try.pinned (OpenSpec.ofChange fnExactTakePegWrong)

/-- 'laws.FnExactPutPeg': WHATEVER THE INPUT: true; the input reads as it did. -/
def fnExactPutPegSpec : ChangeSpec := { name := "fnExactPutPeg", fn := fun _ => fun
  | [d1, d2] => { results := [.lit (.bool true)], args := [d1, d2] }
  | _ => none }
def fnExactPutPegRow : OpenClaim := { program := "ytieimijkkjhegaa", sum := "fe48fa14cec97a4c9079a813ebc53d62c04c301d0c527ff8ecafd536d8ff72fd", func := "loop.example/g01259/laws.FnExactPutPeg", spec := "fnExactPutPeg", inPlace := ["slices.overlaps[int]"], apart := false }
def FnExactPutPegSaid : Prop := fnExactPutPegRow.holds Try.pinned (OpenSpec.ofChange fnExactPutPegSpec)

/-- ITS FALSE NEIGHBOUR: 'it returns false'. Refute it at one input. -/
def fnExactPutPegWrong : ChangeSpec := { name := "fnExactPutPeg", fn := fun _ => fun
  | [d1, d2] => { results := [.lit (.bool false)], args := [d1, d2] }
  | _ => none }
def FnExactPutPegWrongFalsely : Prop := fnExactPutPegRow.holds Try.pinned (OpenSpec.ofChange fnExactPutPegWrong)

/-- 'laws.FnExactLeastNumbers': WHATEVER THE INPUT: true; the input reads as it did. -/
def fnExactLeastNumbersSpec : ChangeSpec := { name := "fnExactLeastNumbers", fn := fun _ => fun
  | [d] => { results := [.lit (.bool true)], args := [d] }
  | _ => none }
def fnExactLeastNumbersRow : OpenClaim := { program := "ytieimijkkjhegaa", sum := "fe48fa14cec97a4c9079a813ebc53d62c04c301d0c527ff8ecafd536d8ff72fd", func := "loop.example/g01259/laws.FnExactLeastNumbers", spec := "fnExactLeastNumbers", unfollowed := true, recurses := true, apart := false }
def FnExactLeastNumbersSaid : Prop := fnExactLeastNumbersRow.holds Try.pinned (OpenSpec.ofChange fnExactLeastNumbersSpec)

/-- ITS FALSE NEIGHBOUR: 'it returns false'. Refute it at one input. -/
def fnExactLeastNumbersWrong : ChangeSpec := { name := "fnExactLeastNumbers", fn := fun _ => fun
  | [d] => { results := [.lit (.bool false)], args := [d] }
  | _ => none }
def FnExactLeastNumbersWrongFalsely : Prop := fnExactLeastNumbersRow.holds Try.pinned (OpenSpec.ofChange fnExactLeastNumbersWrong)

/- THE SECOND FORM. 'bulk': how many values and letters a reading holds, each counted each time it is reached (what is shared counts as often as it is met; a slice's spare places count too). A statement '..UptoSaid' is the law's where the arguments, and the package variables that the reading takes, are together of bulk at most 1048576: NARROWER than '..Said'. Prove '..Said' where nothing that the law and all that it calls make is longer than what came in: it says more and counts as full. Else prove '..UptoSaid'. A law counts once. -/
mutual
def uptoBulk {H : Type} : DataW H → Nat
  | .lit (.string bytes) => bytes.length + 1
  | .lit _ => 1
  | .nil => 1
  | .ptr d => uptoBulk d + 1
  | .slice elems spare => uptoBulkAll elems + uptoBulkAll spare + 1
  | .agg parts => uptoBulkAll parts + 1
  | .iface _ d => uptoBulk d + 1
  | .map entries => uptoBulkEntries entries + 1
  | .held _ => 1
def uptoBulkAll {H : Type} : List (DataW H) → Nat
  | [] => 0
  | d :: r => uptoBulk d + uptoBulkAll r
def uptoBulkEntries {H : Type} : List (Lit × DataW H) → Nat
  | [] => 0
  | x :: r => uptoBulkEntry x + uptoBulkEntries r
def uptoBulkEntry {H : Type} : Lit × DataW H → Nat
  | (.string bytes, d) => bytes.length + uptoBulk d + 1
  | (_, d) => uptoBulk d + 1
 end
def uptoSmall : (H : Type) → List (DataW H) → Bool := fun _ ds => decide (uptoBulkAll ds ≤ 1048576)
def OpenSpec.upto (s : _root_.Go.ChangeSpec) : _root_.Go.OpenSpec := { _root_.Go.OpenSpec.ofChange s with cond := some uptoSmall }

/-- 'laws.FnExactPegsOfGrown', WHERE WHAT IT READS IS OF BULK AT MOST 1048576: true; the input reads as it did. -/
def fnExactPegsOfGrownUptoRow : OpenClaim := { program := "ytieimijkkjhegaa", sum := "fe48fa14cec97a4c9079a813ebc53d62c04c301d0c527ff8ecafd536d8ff72fd", func := "loop.example/g01259/laws.FnExactPegsOfGrown", spec := "fnExactPegsOfGrown", unfollowed := true, recurses := true, apart := false, narrowed := true }
def FnExactPegsOfGrownUptoSaid : Prop := fnExactPegsOfGrownUptoRow.holds Try.pinned (OpenSpec.upto fnExactPegsOfGrownSpec)

/-- 'laws.FnExactMiddleThree', WHERE WHAT IT READS IS OF BULK AT MOST 1048576: true; the input reads as it did. -/
def fnExactMiddleThreeUptoRow : OpenClaim := { program := "ytieimijkkjhegaa", sum := "fe48fa14cec97a4c9079a813ebc53d62c04c301d0c527ff8ecafd536d8ff72fd", func := "loop.example/g01259/laws.FnExactMiddleThree", spec := "fnExactMiddleThree", apart := false, narrowed := true }
def FnExactMiddleThreeUptoSaid : Prop := fnExactMiddleThreeUptoRow.holds Try.pinned (OpenSpec.upto fnExactMiddleThreeSpec)

/-- 'laws.FnExactMoveCorners', WHERE WHAT IT READS IS OF BULK AT MOST 1048576: true; the input reads as it did. -/
def fnExactMoveCornersUptoRow : OpenClaim := { program := "ytieimijkkjhegaa", sum := "fe48fa14cec97a4c9079a813ebc53d62c04c301d0c527ff8ecafd536d8ff72fd", func := "loop.example/g01259/laws.FnExactMoveCorners", spec := "fnExactMoveCorners", unfollowed := true, recurses := true, apart := false, narrowed := true }
def FnExactMoveCornersUptoSaid : Prop := fnExactMoveCornersUptoRow.holds Try.pinned (OpenSpec.upto fnExactMoveCornersSpec)

/-- 'laws.FnExactListInside', WHERE WHAT IT READS IS OF BULK AT MOST 1048576: true; the input reads as it did. -/
def fnExactListInsideUptoRow : OpenClaim := { program := "ytieimijkkjhegaa", sum := "fe48fa14cec97a4c9079a813ebc53d62c04c301d0c527ff8ecafd536d8ff72fd", func := "loop.example/g01259/laws.FnExactListInside", spec := "fnExactListInside", unfollowed := true, recurses := true, apart := false, narrowed := true }
def FnExactListInsideUptoSaid : Prop := fnExactListInsideUptoRow.holds Try.pinned (OpenSpec.upto fnExactListInsideSpec)

/-- 'laws.FnExactPegsInAll', WHERE WHAT IT READS IS OF BULK AT MOST 1048576: true; the input reads as it did. -/
def fnExactPegsInAllUptoRow : OpenClaim := { program := "ytieimijkkjhegaa", sum := "fe48fa14cec97a4c9079a813ebc53d62c04c301d0c527ff8ecafd536d8ff72fd", func := "loop.example/g01259/laws.FnExactPegsInAll", spec := "fnExactPegsInAll", unfollowed := true, recurses := true, apart := false, narrowed := true }
def FnExactPegsInAllUptoSaid : Prop := fnExactPegsInAllUptoRow.holds Try.pinned (OpenSpec.upto fnExactPegsInAllSpec)

/-- 'laws.FnExactBoxOf', WHERE WHAT IT READS IS OF BULK AT MOST 1048576: true; the input reads as it did. -/
def fnExactBoxOfUptoRow : OpenClaim := { program := "ytieimijkkjhegaa", sum := "fe48fa14cec97a4c9079a813ebc53d62c04c301d0c527ff8ecafd536d8ff72fd", func := "loop.example/g01259/laws.FnExactBoxOf", spec := "fnExactBoxOf", apart := false, narrowed := true }
def FnExactBoxOfUptoSaid : Prop := fnExactBoxOfUptoRow.holds Try.pinned (OpenSpec.upto fnExactBoxOfSpec)

/-- 'laws.FnExactWidthIn', WHERE WHAT IT READS IS OF BULK AT MOST 1048576: true; the input reads as it did. -/
def fnExactWidthInUptoRow : OpenClaim := { program := "ytieimijkkjhegaa", sum := "fe48fa14cec97a4c9079a813ebc53d62c04c301d0c527ff8ecafd536d8ff72fd", func := "loop.example/g01259/laws.FnExactWidthIn", spec := "fnExactWidthIn", apart := false, narrowed := true }
def FnExactWidthInUptoSaid : Prop := fnExactWidthInUptoRow.holds Try.pinned (OpenSpec.upto fnExactWidthInSpec)

/-- 'laws.FnExactIsDesk', WHERE WHAT IT READS IS OF BULK AT MOST 1048576: true; the input reads as it did. -/
def fnExactIsDeskUptoRow : OpenClaim := { program := "ytieimijkkjhegaa", sum := "fe48fa14cec97a4c9079a813ebc53d62c04c301d0c527ff8ecafd536d8ff72fd", func := "loop.example/g01259/laws.FnExactIsDesk", spec := "fnExactIsDesk", apart := false, narrowed := true }
def FnExactIsDeskUptoSaid : Prop := fnExactIsDeskUptoRow.holds Try.pinned (OpenSpec.upto fnExactIsDeskSpec)

/-- 'laws.FnExactFirstDesk', WHERE WHAT IT READS IS OF BULK AT MOST 1048576: true; the input reads as it did. -/
def fnExactFirstDeskUptoRow : OpenClaim := { program := "ytieimijkkjhegaa", sum := "fe48fa14cec97a4c9079a813ebc53d62c04c301d0c527ff8ecafd536d8ff72fd", func := "loop.example/g01259/laws.FnExactFirstDesk", spec := "fnExactFirstDesk", apart := false, narrowed := true }
def FnExactFirstDeskUptoSaid : Prop := fnExactFirstDeskUptoRow.holds Try.pinned (OpenSpec.upto fnExactFirstDeskSpec)

/-- 'laws.FnExactTakePeg', WHERE WHAT IT READS IS OF BULK AT MOST 1048576: true; the input reads as it did. -/
def fnExactTakePegUptoRow : OpenClaim := { program := "ytieimijkkjhegaa", sum := "fe48fa14cec97a4c9079a813ebc53d62c04c301d0c527ff8ecafd536d8ff72fd", func := "loop.example/g01259/laws.FnExactTakePeg", spec := "fnExactTakePeg", apart := false, narrowed := true }
def FnExactTakePegUptoSaid : Prop := fnExactTakePegUptoRow.holds Try.pinned (OpenSpec.upto fnExactTakePegSpec)

/-- 'laws.FnExactPutPeg', WHERE WHAT IT READS IS OF BULK AT MOST 1048576: true; the input reads as it did. -/
def fnExactPutPegUptoRow : OpenClaim := { program := "ytieimijkkjhegaa", sum := "fe48fa14cec97a4c9079a813ebc53d62c04c301d0c527ff8ecafd536d8ff72fd", func := "loop.example/g01259/laws.FnExactPutPeg", spec := "fnExactPutPeg", inPlace := ["slices.overlaps[int]"], apart := false, narrowed := true }
def FnExactPutPegUptoSaid : Prop := fnExactPutPegUptoRow.holds Try.pinned (OpenSpec.upto fnExactPutPegSpec)

/-- 'laws.FnExactLeastNumbers', WHERE WHAT IT READS IS OF BULK AT MOST 1048576: true; the input reads as it did. -/
def fnExactLeastNumbersUptoRow : OpenClaim := { program := "ytieimijkkjhegaa", sum := "fe48fa14cec97a4c9079a813ebc53d62c04c301d0c527ff8ecafd536d8ff72fd", func := "loop.example/g01259/laws.FnExactLeastNumbers", spec := "fnExactLeastNumbers", unfollowed := true, recurses := true, apart := false, narrowed := true }
def FnExactLeastNumbersUptoSaid : Prop := fnExactLeastNumbersUptoRow.holds Try.pinned (OpenSpec.upto fnExactLeastNumbersSpec)

end Rows
end Go.Proofs.Ytieimijkkjhegaa
