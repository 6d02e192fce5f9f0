/-
  No cell of these rows narrows 'for every input' (looked for: loops, veiled, ifaces, maps, wideKeys, modest, calm, conditions, laid).
  DERIVED. THE GIVEN ROWS OF THIS SEAT. 7 by the template 'for every input the law returns true; each argument reads behind the call as it read before'; 0 by the template 'total and deterministic' (their statements: YtchdpcndhgjkpaaTotals.lean).
  GIVEN WITH THE SEED: the statements are not yours to turn. If you find one false, say at which input.
  Laid BY PROGRAM, IN A SANDBOX (cutbox-rows.mjs): the forced cells as the released guide's own fill.sh prints them over the translation 092a242b5fafb972… (all of the seat's roots in one cut). By AI agents, Wed Nov 11 2026. No macro, syntax, notation, axiom, sorry.
-/
import Derived.Test.YtchdpcndhgjkpaaChecked
import GoSem.Claim
import GoSem.ClaimJoined
import GoSem.ClaimMapViews
import Derived.JoinedTies
import Derived.KernelRfl
namespace Go.Proofs.Ytchdpcndhgjkpaa
/- THE CELL 'sum', in the pinned program and in every row, IS THE sha256 OF THE DUMP (.gsa) THAT YtchdpcndhgjkpaaProg.lean LOADS. Nothing in Lean hashes anything: it is a label: what it is worth is what the hold of that sum in a sandbox is worth. -/
noncomputable def Try.pinned : Pinned := { name := "ytchdpcndhgjkpaa", sum := "092a242b5fafb97242db864db33fa9912a8d0a9f03ff6f20ff7f2ff758718918", checked := Try.checked }
namespace Rows
def none {H : Type} : Left H := { results := [], args := [] }

/-- 'laws.FnExactTrianglesOfCut': WHATEVER THE INPUT: true; the input reads as it did. -/
def fnExactTrianglesOfCutSpec : ChangeSpec := { name := "fnExactTrianglesOfCut", fn := fun _ => fun
  | [d] => { results := [.lit (.bool true)], args := [d] }
  | _ => none }
def fnExactTrianglesOfCutRow : OpenClaim := { program := "ytchdpcndhgjkpaa", sum := "092a242b5fafb97242db864db33fa9912a8d0a9f03ff6f20ff7f2ff758718918", func := "loop.example/g01259/laws.FnExactTrianglesOfCut", spec := "fnExactTrianglesOfCut", unfollowed := true, recurses := true, apart := false }
def FnExactTrianglesOfCutSaid : Prop := fnExactTrianglesOfCutRow.holds Try.pinned (OpenSpec.ofChange fnExactTrianglesOfCutSpec)

/-- ITS FALSE NEIGHBOUR: 'it returns false'. Refute it at one input. -/
def fnExactTrianglesOfCutWrong : ChangeSpec := { name := "fnExactTrianglesOfCut", fn := fun _ => fun
  | [d] => { results := [.lit (.bool false)], args := [d] }
  | _ => none }
def FnExactTrianglesOfCutWrongFalsely : Prop := fnExactTrianglesOfCutRow.holds Try.pinned (OpenSpec.ofChange fnExactTrianglesOfCutWrong)

/-- 'laws.FnExactLinesOfCut': WHATEVER THE INPUT: true; the input reads as it did. -/
def fnExactLinesOfCutSpec : ChangeSpec := { name := "fnExactLinesOfCut", fn := fun _ => fun
  | [d] => { results := [.lit (.bool true)], args := [d] }
  | _ => none }
def fnExactLinesOfCutRow : OpenClaim := { program := "ytchdpcndhgjkpaa", sum := "092a242b5fafb97242db864db33fa9912a8d0a9f03ff6f20ff7f2ff758718918", func := "loop.example/g01259/laws.FnExactLinesOfCut", spec := "fnExactLinesOfCut", unfollowed := true, recurses := true, apart := false }
def FnExactLinesOfCutSaid : Prop := fnExactLinesOfCutRow.holds Try.pinned (OpenSpec.ofChange fnExactLinesOfCutSpec)

/-- ITS FALSE NEIGHBOUR: 'it returns false'. Refute it at one input. -/
def fnExactLinesOfCutWrong : ChangeSpec := { name := "fnExactLinesOfCut", fn := fun _ => fun
  | [d] => { results := [.lit (.bool false)], args := [d] }
  | _ => none }
def FnExactLinesOfCutWrongFalsely : Prop := fnExactLinesOfCutRow.holds Try.pinned (OpenSpec.ofChange fnExactLinesOfCutWrong)

/-- 'laws.FnExactStripPolygon': WHATEVER THE INPUT: true; the input reads as it did. -/
def fnExactStripPolygonSpec : ChangeSpec := { name := "fnExactStripPolygon", fn := fun _ => fun
  | [d] => { results := [.lit (.bool true)], args := [d] }
  | _ => none }
def fnExactStripPolygonRow : OpenClaim := { program := "ytchdpcndhgjkpaa", sum := "092a242b5fafb97242db864db33fa9912a8d0a9f03ff6f20ff7f2ff758718918", func := "loop.example/g01259/laws.FnExactStripPolygon", spec := "fnExactStripPolygon", apart := false }
def FnExactStripPolygonSaid : Prop := fnExactStripPolygonRow.holds Try.pinned (OpenSpec.ofChange fnExactStripPolygonSpec)

/-- ITS FALSE NEIGHBOUR: 'it returns false'. Refute it at one input. -/
def fnExactStripPolygonWrong : ChangeSpec := { name := "fnExactStripPolygon", fn := fun _ => fun
  | [d] => { results := [.lit (.bool false)], args := [d] }
  | _ => none }
def FnExactStripPolygonWrongFalsely : Prop := fnExactStripPolygonRow.holds Try.pinned (OpenSpec.ofChange fnExactStripPolygonWrong)

/-- 'laws.FnExactPutPeg': WHATEVER THE INPUT: true; the input reads as it did. -/
def fnExactPutPegSpec : ChangeSpec := { name := "fnExactPutPeg", fn := fun _ => fun
  | [d1, d2] => { results := [.lit (.bool true)], args := [d1, d2] }
  | _ => none }
def fnExactPutPegRow : OpenClaim := { program := "ytchdpcndhgjkpaa", sum := "092a242b5fafb97242db864db33fa9912a8d0a9f03ff6f20ff7f2ff758718918", func := "loop.example/g01259/laws.FnExactPutPeg", spec := "fnExactPutPeg", inPlace := ["slices.overlaps[int]"], apart := false }
def FnExactPutPegSaid : Prop := fnExactPutPegRow.holds Try.pinned (OpenSpec.ofChange fnExactPutPegSpec)

/-- ITS FALSE NEIGHBOUR: 'it returns false'. Refute it at one input. -/
def fnExactPutPegWrong : ChangeSpec := { name := "fnExactPutPeg", fn := fun _ => fun
  | [d1, d2] => { results := [.lit (.bool false)], args := [d1, d2] }
  | _ => none }
def FnExactPutPegWrongFalsely : Prop := fnExactPutPegRow.holds Try.pinned (OpenSpec.ofChange fnExactPutPegWrong)

/-- 'laws.FnExactTakePeg': WHATEVER THE INPUT: true; the input reads as it did. -/
def fnExactTakePegSpec : ChangeSpec := { name := "fnExactTakePeg", fn := fun _ => fun
  | [d1, d2] => { results := [.lit (.bool true)], args := [d1, d2] }
  | _ => none }
def fnExactTakePegRow : OpenClaim := { program := "ytchdpcndhgjkpaa", sum := "092a242b5fafb97242db864db33fa9912a8d0a9f03ff6f20ff7f2ff758718918", func := "loop.example/g01259/laws.FnExactTakePeg", spec := "fnExactTakePeg", apart := false }
def FnExactTakePegSaid : Prop := fnExactTakePegRow.holds Try.pinned (OpenSpec.ofChange fnExactTakePegSpec)

/-- ITS FALSE NEIGHBOUR: 'it returns false'. Refute it at one input. -/
def fnExactTakePegWrong : ChangeSpec := { name := "fnExactTakePeg", fn := fun _ => fun
  | [d1, d2] => { results := [.lit (.bool false)], args := [d1, d2] }
  | _ => none }
def FnExactTakePegWrongFalsely : Prop := fnExactTakePegRow.holds Try.pinned (OpenSpec.ofChange fnExactTakePegWrong)

/-- 'laws.FnExactAreAround': WHATEVER THE INPUT: true; the input reads as it did. -/
def fnExactAreAroundSpec : ChangeSpec := { name := "fnExactAreAround", fn := fun _ => fun
  | [d] => { results := [.lit (.bool true)], args := [d] }
  | _ => none }
def fnExactAreAroundRow : OpenClaim := { program := "ytchdpcndhgjkpaa", sum := "092a242b5fafb97242db864db33fa9912a8d0a9f03ff6f20ff7f2ff758718918", func := "loop.example/g01259/laws.FnExactAreAround", spec := "fnExactAreAround", apart := false }
def FnExactAreAroundSaid : Prop := fnExactAreAroundRow.holds Try.pinned (OpenSpec.ofChange fnExactAreAroundSpec)

/-- ITS FALSE NEIGHBOUR: 'it returns false'. Refute it at one input. -/
def fnExactAreAroundWrong : ChangeSpec := { name := "fnExactAreAround", fn := fun _ => fun
  | [d] => { results := [.lit (.bool false)], args := [d] }
  | _ => none }
def FnExactAreAroundWrongFalsely : Prop := fnExactAreAroundRow.holds Try.pinned (OpenSpec.ofChange fnExactAreAroundWrong)

/-- 'laws.FnExactLeastNumbers': WHATEVER THE INPUT: true; the input reads as it did. -/
def fnExactLeastNumbersSpec : ChangeSpec := { name := "fnExactLeastNumbers", fn := fun _ => fun
  | [d] => { results := [.lit (.bool true)], args := [d] }
  | _ => none }
def fnExactLeastNumbersRow : OpenClaim := { program := "ytchdpcndhgjkpaa", sum := "092a242b5fafb97242db864db33fa9912a8d0a9f03ff6f20ff7f2ff758718918", func := "loop.example/g01259/laws.FnExactLeastNumbers", spec := "fnExactLeastNumbers", unfollowed := true, recurses := true, apart := false }
def FnExactLeastNumbersSaid : Prop := fnExactLeastNumbersRow.holds Try.pinned (OpenSpec.ofChange fnExactLeastNumbersSpec)

/-- ITS FALSE NEIGHBOUR: 'it returns false'. Refute it at one input. -/
def fnExactLeastNumbersWrong : ChangeSpec := { name := "fnExactLeastNumbers", fn := fun _ => fun
  | [d] => { results := [.lit (.bool false)], args := [d] }
  | _ => none }
def FnExactLeastNumbersWrongFalsely : Prop := fnExactLeastNumbersRow.holds Try.pinned (OpenSpec.ofChange fnExactLeastNumbersWrong)

/- THE SECOND FORM. 'bulk': how many values and letters a reading holds, each counted each time it is reached (what is shared counts as often as it is met; a slice's spare places count too). A statement '..UptoSaid' is the law's where the arguments, and the package variables that the reading takes, are together of bulk at most 1048576: NARROWER than '..Said'. Prove '..Said' where nothing that the law and all that it calls make is longer than what came in: it says more and counts as full. Else prove '..UptoSaid'. A law counts once. -/
mutual
def uptoBulk {H : Type} : DataW H → Nat
  | .lit (.string bytes) => bytes.length + 1
  | .lit _ => 1
  | .nil => 1
  | .ptr d => uptoBulk d + 1
  | .slice elems spare => uptoBulkAll elems + uptoBulkAll spare + 1
  | .agg parts => uptoBulkAll parts + 1
  | .iface _ d => uptoBulk d + 1
  | .map entries => uptoBulkEntries entries + 1
  | .held _ => 1
def uptoBulkAll {H : Type} : List (DataW H) → Nat
  | [] => 0
  | d :: r => uptoBulk d + uptoBulkAll r
def uptoBulkEntries {H : Type} : List (Lit × DataW H) → Nat
  | [] => 0
  | x :: r => uptoBulkEntry x + uptoBulkEntries r
def uptoBulkEntry {H : Type} : Lit × DataW H → Nat
  | (.string bytes, d) => bytes.length + uptoBulk d + 1
  | (_, d) => uptoBulk d + 1
 end
def uptoSmall : (H : Type) → List (DataW H) → Bool := fun _ ds => decide (uptoBulkAll ds ≤ 1048576)
def OpenSpec.upto (s : _root_.Go.ChangeSpec) : _root_.Go.OpenSpec := { _root_.Go.OpenSpec.ofChange s with cond := some uptoSmall }

/-- 'laws.FnExactTrianglesOfCut', WHERE WHAT IT READS IS OF BULK AT MOST 1048576: true; the input reads as it did. -/
def fnExactTrianglesOfCutUptoRow : OpenClaim := { program := "ytchdpcndhgjkpaa", sum := "092a242b5fafb97242db864db33fa9912a8d0a9f03ff6f20ff7f2ff758718918", func := "loop.example/g01259/laws.FnExactTrianglesOfCut", spec := "fnExactTrianglesOfCut", unfollowed := true, recurses := true, apart := false, narrowed := true }
def FnExactTrianglesOfCutUptoSaid : Prop := fnExactTrianglesOfCutUptoRow.holds Try.pinned (OpenSpec.upto fnExactTrianglesOfCutSpec)

/-- 'laws.FnExactLinesOfCut', WHERE WHAT IT READS IS OF BULK AT MOST 1048576: true; the input reads as it did. -/
def fnExactLinesOfCutUptoRow : OpenClaim := { program := "ytchdpcndhgjkpaa", sum := "092a242b5fafb97242db864db33fa9912a8d0a9f03ff6f20ff7f2ff758718918", func := "loop.example/g01259/laws.FnExactLinesOfCut", spec := "fnExactLinesOfCut", unfollowed := true, recurses := true, apart := false, narrowed := true }
def FnExactLinesOfCutUptoSaid : Prop := fnExactLinesOfCutUptoRow.holds Try.pinned (OpenSpec.upto fnExactLinesOfCutSpec)

/-- 'laws.FnExactStripPolygon', WHERE WHAT IT READS IS OF BULK AT MOST 1048576: true; the input reads as it did. -/
def fnExactStripPolygonUptoRow : OpenClaim := { program := "ytchdpcndhgjkpaa", sum := "092a242b5fafb97242db864db33fa9912a8d0a9f03ff6f20ff7f2ff758718918", func := "loop.example/g01259/laws.FnExactStripPolygon", spec := "fnExactStripPolygon", apart := false, narrowed := true }
def FnExactStripPolygonUptoSaid : Prop := fnExactStripPolygonUptoRow.holds Try.pinned (OpenSpec.upto fnExactStripPolygonSpec)

/-- 'laws.FnExactPutPeg', WHERE WHAT IT READS IS OF BULK AT MOST 1048576: true; the input reads as it did. -/
def fnExactPutPegUptoRow : OpenClaim := { program := "ytchdpcndhgjkpaa", sum := "092a242b5fafb97242db864db33fa9912a8d0a9f03ff6f20ff7f2ff758718918", func := "loop.example/g01259/laws.FnExactPutPeg", spec := "fnExactPutPeg", inPlace := ["slices.overlaps[int]"], apart := false, narrowed := true }
def FnExactPutPegUptoSaid : Prop := fnExactPutPegUptoRow.holds Try.pinned (OpenSpec.upto fnExactPutPegSpec)

/-- 'laws.FnExactTakePeg', WHERE WHAT IT READS IS OF BULK AT MOST 1048576: true; the input reads as it did. -/
def fnExactTakePegUptoRow : OpenClaim := { program := "ytchdpcndhgjkpaa", sum := "092a242b5fafb97242db864db33fa9912a8d0a9f03ff6f20ff7f2ff758718918", func := "loop.example/g01259/laws.FnExactTakePeg", spec := "fnExactTakePeg", apart := false, narrowed := true }
def FnExactTakePegUptoSaid : Prop := fnExactTakePegUptoRow.holds Try.pinned (OpenSpec.upto fnExactTakePegSpec)

/-- 'laws.FnExactAreAround', WHERE WHAT IT READS IS OF BULK AT MOST 1048576: true; the input reads as it did. -/
def fnExactAreAroundUptoRow : OpenClaim := { program := "ytchdpcndhgjkpaa", sum := "092a242b5fafb97242db864db33fa9912a8d0a9f03ff6f20ff7f2ff758718918", func := "loop.example/g01259/laws.FnExactAreAround", spec := "fnExactAreAround", apart := false, narrowed := true }
def FnExactAreAroundUptoSaid : Prop := fnExactAreAroundUptoRow.holds Try.pinned (OpenSpec.upto fnExactAreAroundSpec)

/-- 'laws.FnExactLeastNumbers', WHERE WHAT IT READS IS OF BULK AT MOST 1048576: true; the input reads as it did. -/
def fnExactLeastNumbersUptoRow : OpenClaim := { program := "ytchdpcndhgjkpaa", sum := "092a242b5fafb97242db864db33fa9912a8d0a9f03ff6f20ff7f2ff758718918", func := "loop.example/g01259/laws.FnExactLeastNumbers", spec := "fnExactLeastNumbers", unfollowed := true, recurses := true, apart := false, narrowed := true }
def FnExactLeastNumbersUptoSaid : Prop := fnExactLeastNumbersUptoRow.holds Try.pinned (OpenSpec.upto fnExactLeastNumbersSpec)

end Rows
end Go.Proofs.Ytchdpcndhgjkpaa
