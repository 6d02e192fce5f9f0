/-
  No cell of these rows narrows 'for every input' (looked for: loops, veiled, ifaces, maps, wideKeys, modest, calm, conditions, laid).
  DERIVED. THE GIVEN ROWS OF THIS SEAT. 12 by the template 'for every input the law returns true; each argument reads behind the call as it read before'; 0 by the template 'total and deterministic' (their statements: YthpbnfmfedggjaaTotals.lean).
  GIVEN WITH THE SEED: the statements are not yours to turn. If you find one false, say at which input.
  Laid BY PROGRAM, IN A SANDBOX (cutbox-rows.mjs): the forced cells as the released guide's own fill.sh prints them over the translation 1c1dc8eca3a8467a… (all of the seat's roots in one cut). By AI agents, Wed Nov 11 2026. No macro, syntax, notation, axiom, sorry.
-/
import Derived.Test.YthpbnfmfedggjaaChecked
import GoSem.Claim
import GoSem.ClaimJoined
import GoSem.ClaimMapViews
import Derived.JoinedTies
import Derived.KernelRfl
namespace Go.Proofs.Ythpbnfmfedggjaa
/- THE CELL 'sum', in the pinned program and in every row, IS THE sha256 OF THE DUMP (.gsa) THAT YthpbnfmfedggjaaProg.lean LOADS. Nothing in Lean hashes anything: it is a label: what it is worth is what the hold of that sum in a sandbox is worth. -/
noncomputable def Try.pinned : Pinned := { name := "ythpbnfmfedggjaa", sum := "1c1dc8eca3a8467a1d379c6f12588e9492c299dc138a87885e043f50c711279d", checked := Try.checked }
namespace Rows
def none {H : Type} : Left H := { results := [], args := [] }

/-- 'laws.FnExactAreDifferent': WHATEVER THE INPUT: true; the input reads as it did. -/
def fnExactAreDifferentSpec : ChangeSpec := { name := "fnExactAreDifferent", fn := fun _ => fun
  | [d] => { results := [.lit (.bool true)], args := [d] }
  | _ => none }
def fnExactAreDifferentRow : OpenClaim := { program := "ythpbnfmfedggjaa", sum := "1c1dc8eca3a8467a1d379c6f12588e9492c299dc138a87885e043f50c711279d", func := "loop.example/g01259/laws.FnExactAreDifferent", spec := "fnExactAreDifferent", apart := false }
def FnExactAreDifferentSaid : Prop := fnExactAreDifferentRow.holds Try.pinned (OpenSpec.ofChange fnExactAreDifferentSpec)

/-- ITS FALSE NEIGHBOUR: 'it returns false'. Refute it at one input. -/
def fnExactAreDifferentWrong : ChangeSpec := { name := "fnExactAreDifferent", fn := fun _ => fun
  | [d] => { results := [.lit (.bool false)], args := [d] }
  | _ => none }
def FnExactAreDifferentWrongFalsely : Prop := fnExactAreDifferentRow.holds Try.pinned (OpenSpec.ofChange fnExactAreDifferentWrong)

/-- 'laws.FnExactBandOf': WHATEVER THE INPUT: true; the input reads as it did. -/
def fnExactBandOfSpec : ChangeSpec := { name := "fnExactBandOf", fn := fun _ => fun
  | [d] => { results := [.lit (.bool true)], args := [d] }
  | _ => none }
def fnExactBandOfRow : OpenClaim := { program := "ythpbnfmfedggjaa", sum := "1c1dc8eca3a8467a1d379c6f12588e9492c299dc138a87885e043f50c711279d", func := "loop.example/g01259/laws.FnExactBandOf", spec := "fnExactBandOf", unfollowed := true, recurses := true, apart := false }
def FnExactBandOfSaid : Prop := fnExactBandOfRow.holds Try.pinned (OpenSpec.ofChange fnExactBandOfSpec)

/-- ITS FALSE NEIGHBOUR: 'it returns false'. Refute it at one input. -/
def fnExactBandOfWrong : ChangeSpec := { name := "fnExactBandOf", fn := fun _ => fun
  | [d] => { results := [.lit (.bool false)], args := [d] }
  | _ => none }
def FnExactBandOfWrongFalsely : Prop := fnExactBandOfRow.holds Try.pinned (OpenSpec.ofChange fnExactBandOfWrong)

/-- 'laws.FnExactTwiceBand': WHATEVER THE INPUT: true; the input reads as it did. -/
def fnExactTwiceBandSpec : ChangeSpec := { name := "fnExactTwiceBand", fn := fun _ => fun
  | [d] => { results := [.lit (.bool true)], args := [d] }
  | _ => none }
def fnExactTwiceBandRow : OpenClaim := { program := "ythpbnfmfedggjaa", sum := "1c1dc8eca3a8467a1d379c6f12588e9492c299dc138a87885e043f50c711279d", func := "loop.example/g01259/laws.FnExactTwiceBand", spec := "fnExactTwiceBand", unfollowed := true, recurses := true, apart := false }
def FnExactTwiceBandSaid : Prop := fnExactTwiceBandRow.holds Try.pinned (OpenSpec.ofChange fnExactTwiceBandSpec)

/-- ITS FALSE NEIGHBOUR: 'it returns false'. Refute it at one input. -/
def fnExactTwiceBandWrong : ChangeSpec := { name := "fnExactTwiceBand", fn := fun _ => fun
  | [d] => { results := [.lit (.bool false)], args := [d] }
  | _ => none }
def FnExactTwiceBandWrongFalsely : Prop := fnExactTwiceBandRow.holds Try.pinned (OpenSpec.ofChange fnExactTwiceBandWrong)

/-- 'laws.FnExactCountInBand': WHATEVER THE INPUT: true; the input reads as it did. -/
def fnExactCountInBandSpec : ChangeSpec := { name := "fnExactCountInBand", fn := fun _ => fun
  | [d] => { results := [.lit (.bool true)], args := [d] }
  | _ => none }
def fnExactCountInBandRow : OpenClaim := { program := "ythpbnfmfedggjaa", sum := "1c1dc8eca3a8467a1d379c6f12588e9492c299dc138a87885e043f50c711279d", func := "loop.example/g01259/laws.FnExactCountInBand", spec := "fnExactCountInBand", unfollowed := true, recurses := true, apart := false }
def FnExactCountInBandSaid : Prop := fnExactCountInBandRow.holds Try.pinned (OpenSpec.ofChange fnExactCountInBandSpec)

/-- ITS FALSE NEIGHBOUR: 'it returns false'. Refute it at one input. -/
def fnExactCountInBandWrong : ChangeSpec := { name := "fnExactCountInBand", fn := fun _ => fun
  | [d] => { results := [.lit (.bool false)], args := [d] }
  | _ => none }
def FnExactCountInBandWrongFalsely : Prop := fnExactCountInBandRow.holds Try.pinned (OpenSpec.ofChange fnExactCountInBandWrong)

/-- 'laws.FnExactInBand': WHATEVER THE INPUT: true; the input reads as it did. -/
def fnExactInBandSpec : ChangeSpec := { name := "fnExactInBand", fn := fun _ => fun
  | [d1, d2] => { results := [.lit (.bool true)], args := [d1, d2] }
  | _ => none }
def fnExactInBandRow : OpenClaim := { program := "ythpbnfmfedggjaa", sum := "1c1dc8eca3a8467a1d379c6f12588e9492c299dc138a87885e043f50c711279d", func := "loop.example/g01259/laws.FnExactInBand", spec := "fnExactInBand", unfollowed := true, recurses := true, apart := false }
def FnExactInBandSaid : Prop := fnExactInBandRow.holds Try.pinned (OpenSpec.ofChange fnExactInBandSpec)

/-- ITS FALSE NEIGHBOUR: 'it returns false'. Refute it at one input. -/
def fnExactInBandWrong : ChangeSpec := { name := "fnExactInBand", fn := fun _ => fun
  | [d1, d2] => { results := [.lit (.bool false)], args := [d1, d2] }
  | _ => none }
def FnExactInBandWrongFalsely : Prop := fnExactInBandRow.holds Try.pinned (OpenSpec.ofChange fnExactInBandWrong)

/-- 'laws.FnExactJoinBands': WHATEVER THE INPUT: true; the input reads as it did. -/
def fnExactJoinBandsSpec : ChangeSpec := { name := "fnExactJoinBands", fn := fun _ => fun
  | [d1, d2] => { results := [.lit (.bool true)], args := [d1, d2] }
  | _ => none }
def fnExactJoinBandsRow : OpenClaim := { program := "ythpbnfmfedggjaa", sum := "1c1dc8eca3a8467a1d379c6f12588e9492c299dc138a87885e043f50c711279d", func := "loop.example/g01259/laws.FnExactJoinBands", spec := "fnExactJoinBands", unfollowed := true, recurses := true, apart := false }
def FnExactJoinBandsSaid : Prop := fnExactJoinBandsRow.holds Try.pinned (OpenSpec.ofChange fnExactJoinBandsSpec)

/-- ITS FALSE NEIGHBOUR: 'it returns false'. Refute it at one input. -/
def fnExactJoinBandsWrong : ChangeSpec := { name := "fnExactJoinBands", fn := fun _ => fun
  | [d1, d2] => { results := [.lit (.bool false)], args := [d1, d2] }
  | _ => none }
def FnExactJoinBandsWrongFalsely : Prop := fnExactJoinBandsRow.holds Try.pinned (OpenSpec.ofChange fnExactJoinBandsWrong)

/-- 'laws.FnExactPegsOfBand': WHATEVER THE INPUT: true; the input reads as it did. -/
def fnExactPegsOfBandSpec : ChangeSpec := { name := "fnExactPegsOfBand", fn := fun _ => fun
  | [d] => { results := [.lit (.bool true)], args := [d] }
  | _ => none }
def fnExactPegsOfBandRow : OpenClaim := { program := "ythpbnfmfedggjaa", sum := "1c1dc8eca3a8467a1d379c6f12588e9492c299dc138a87885e043f50c711279d", func := "loop.example/g01259/laws.FnExactPegsOfBand", spec := "fnExactPegsOfBand", unfollowed := true, recurses := true, apart := false }
def FnExactPegsOfBandSaid : Prop := fnExactPegsOfBandRow.holds Try.pinned (OpenSpec.ofChange fnExactPegsOfBandSpec)

/-- ITS FALSE NEIGHBOUR: 'it returns false'. Refute it at one input. -/
def fnExactPegsOfBandWrong : ChangeSpec := { name := "fnExactPegsOfBand", fn := fun _ => fun
  | [d] => { results := [.lit (.bool false)], args := [d] }
  | _ => none }
def FnExactPegsOfBandWrongFalsely : Prop := fnExactPegsOfBandRow.holds Try.pinned (OpenSpec.ofChange fnExactPegsOfBandWrong)

/-- 'laws.FnExactHalvingLines': WHATEVER THE INPUT: true; the input reads as it did. -/
def fnExactHalvingLinesSpec : ChangeSpec := { name := "fnExactHalvingLines", fn := fun _ => fun
  | [d] => { results := [.lit (.bool true)], args := [d] }
  | _ => none }
def fnExactHalvingLinesRow : OpenClaim := { program := "ythpbnfmfedggjaa", sum := "1c1dc8eca3a8467a1d379c6f12588e9492c299dc138a87885e043f50c711279d", func := "loop.example/g01259/laws.FnExactHalvingLines", spec := "fnExactHalvingLines", apart := false }
def FnExactHalvingLinesSaid : Prop := fnExactHalvingLinesRow.holds Try.pinned (OpenSpec.ofChange fnExactHalvingLinesSpec)

/-- ITS FALSE NEIGHBOUR: 'it returns false'. Refute it at one input. -/
def fnExactHalvingLinesWrong : ChangeSpec := { name := "fnExactHalvingLines", fn := fun _ => fun
  | [d] => { results := [.lit (.bool false)], args := [d] }
  | _ => none }
def FnExactHalvingLinesWrongFalsely : Prop := fnExactHalvingLinesRow.holds Try.pinned (OpenSpec.ofChange fnExactHalvingLinesWrong)

/-- 'laws.FnExactAreConvex': WHATEVER THE INPUT: true; the input reads as it did. -/
def fnExactAreConvexSpec : ChangeSpec := { name := "fnExactAreConvex", fn := fun _ => fun
  | [d] => { results := [.lit (.bool true)], args := [d] }
  | _ => none }
def fnExactAreConvexRow : OpenClaim := { program := "ythpbnfmfedggjaa", sum := "1c1dc8eca3a8467a1d379c6f12588e9492c299dc138a87885e043f50c711279d", func := "loop.example/g01259/laws.FnExactAreConvex", spec := "fnExactAreConvex", unfollowed := true, recurses := true, apart := false }
def FnExactAreConvexSaid : Prop := fnExactAreConvexRow.holds Try.pinned (OpenSpec.ofChange fnExactAreConvexSpec)

/-- ITS FALSE NEIGHBOUR: 'it returns false'. Refute it at one input. -/
def fnExactAreConvexWrong : ChangeSpec := { name := "fnExactAreConvex", fn := fun _ => fun
  | [d] => { results := [.lit (.bool false)], args := [d] }
  | _ => none }
def FnExactAreConvexWrongFalsely : Prop := fnExactAreConvexRow.holds Try.pinned (OpenSpec.ofChange fnExactAreConvexWrong)

/-- 'laws.FnExactLayersOf': WHATEVER THE INPUT: true; the input reads as it did. -/
def fnExactLayersOfSpec : ChangeSpec := { name := "fnExactLayersOf", fn := fun _ => fun
  | [d] => { results := [.lit (.bool true)], args := [d] }
  | _ => none }
def fnExactLayersOfRow : OpenClaim := { program := "ythpbnfmfedggjaa", sum := "1c1dc8eca3a8467a1d379c6f12588e9492c299dc138a87885e043f50c711279d", func := "loop.example/g01259/laws.FnExactLayersOf", spec := "fnExactLayersOf", unfollowed := true, recurses := true, apart := false }
def FnExactLayersOfSaid : Prop := fnExactLayersOfRow.holds Try.pinned (OpenSpec.ofChange fnExactLayersOfSpec)

/-- ITS FALSE NEIGHBOUR: 'it returns false'. Refute it at one input. -/
def fnExactLayersOfWrong : ChangeSpec := { name := "fnExactLayersOf", fn := fun _ => fun
  | [d] => { results := [.lit (.bool false)], args := [d] }
  | _ => none }
def FnExactLayersOfWrongFalsely : Prop := fnExactLayersOfRow.holds Try.pinned (OpenSpec.ofChange fnExactLayersOfWrong)

/-- 'laws.FnExactLayerOfPeg': WHATEVER THE INPUT: true; the input reads as it did. -/
def fnExactLayerOfPegSpec : ChangeSpec := { name := "fnExactLayerOfPeg", fn := fun _ => fun
  | [d1, d2] => { results := [.lit (.bool true)], args := [d1, d2] }
  | _ => none }
def fnExactLayerOfPegRow : OpenClaim := { program := "ythpbnfmfedggjaa", sum := "1c1dc8eca3a8467a1d379c6f12588e9492c299dc138a87885e043f50c711279d", func := "loop.example/g01259/laws.FnExactLayerOfPeg", spec := "fnExactLayerOfPeg", unfollowed := true, recurses := true, apart := false }
def FnExactLayerOfPegSaid : Prop := fnExactLayerOfPegRow.holds Try.pinned (OpenSpec.ofChange fnExactLayerOfPegSpec)

/-- ITS FALSE NEIGHBOUR: 'it returns false'. Refute it at one input. -/
def fnExactLayerOfPegWrong : ChangeSpec := { name := "fnExactLayerOfPeg", fn := fun _ => fun
  | [d1, d2] => { results := [.lit (.bool false)], args := [d1, d2] }
  | _ => none }
def FnExactLayerOfPegWrongFalsely : Prop := fnExactLayerOfPegRow.holds Try.pinned (OpenSpec.ofChange fnExactLayerOfPegWrong)

/-- 'laws.FnExactTangentsFrom': WHATEVER THE INPUT: true; the input reads as it did. -/
def fnExactTangentsFromSpec : ChangeSpec := { name := "fnExactTangentsFrom", fn := fun _ => fun
  | [d1, d2] => { results := [.lit (.bool true)], args := [d1, d2] }
  | _ => none }
def fnExactTangentsFromRow : OpenClaim := { program := "ythpbnfmfedggjaa", sum := "1c1dc8eca3a8467a1d379c6f12588e9492c299dc138a87885e043f50c711279d", func := "loop.example/g01259/laws.FnExactTangentsFrom", spec := "fnExactTangentsFrom", unfollowed := true, recurses := true, apart := false }
def FnExactTangentsFromSaid : Prop := fnExactTangentsFromRow.holds Try.pinned (OpenSpec.ofChange fnExactTangentsFromSpec)

/-- ITS FALSE NEIGHBOUR: 'it returns false'. Refute it at one input. -/
def fnExactTangentsFromWrong : ChangeSpec := { name := "fnExactTangentsFrom", fn := fun _ => fun
  | [d1, d2] => { results := [.lit (.bool false)], args := [d1, d2] }
  | _ => none }
def FnExactTangentsFromWrongFalsely : Prop := fnExactTangentsFromRow.holds Try.pinned (OpenSpec.ofChange fnExactTangentsFromWrong)

/- THE SECOND FORM. 'bulk': how many values and letters a reading holds, each counted each time it is reached (what is shared counts as often as it is met; a slice's spare places count too). A statement '..UptoSaid' is the law's where the arguments, and the package variables that the reading takes, are together of bulk at most 1048576: NARROWER than '..Said'. Prove '..Said' where nothing that the law and all that it calls make is longer than what came in: it says more and counts as full. Else prove '..UptoSaid'. A law counts once. -/
mutual
def uptoBulk {H : Type} : DataW H → Nat
  | .lit (.string bytes) => bytes.length + 1
  | .lit _ => 1
  | .nil => 1
  | .ptr d => uptoBulk d + 1
  | .slice elems spare => uptoBulkAll elems + uptoBulkAll spare + 1
  | .agg parts => uptoBulkAll parts + 1
  | .iface _ d => uptoBulk d + 1
  | .map entries => uptoBulkEntries entries + 1
  | .held _ => 1
def uptoBulkAll {H : Type} : List (DataW H) → Nat
  | [] => 0
  | d :: r => uptoBulk d + uptoBulkAll r
def uptoBulkEntries {H : Type} : List (Lit × DataW H) → Nat
  | [] => 0
  | x :: r => uptoBulkEntry x + uptoBulkEntries r
def uptoBulkEntry {H : Type} : Lit × DataW H → Nat
  | (.string bytes, d) => bytes.length + uptoBulk d + 1
  | (_, d) => uptoBulk d + 1
 end
def uptoSmall : (H : Type) → List (DataW H) → Bool := fun _ ds => decide (uptoBulkAll ds ≤ 1048576)
def OpenSpec.upto (s : _root_.Go.ChangeSpec) : _root_.Go.OpenSpec := { _root_.Go.OpenSpec.ofChange s with cond := some uptoSmall }

/-- 'laws.FnExactAreDifferent', WHERE WHAT IT READS IS OF BULK AT MOST 1048576: true; the input reads as it did. -/
def fnExactAreDifferentUptoRow : OpenClaim := { program := "ythpbnfmfedggjaa", sum := "1c1dc8eca3a8467a1d379c6f12588e9492c299dc138a87885e043f50c711279d", func := "loop.example/g01259/laws.FnExactAreDifferent", spec := "fnExactAreDifferent", apart := false, narrowed := true }
def FnExactAreDifferentUptoSaid : Prop := fnExactAreDifferentUptoRow.holds Try.pinned (OpenSpec.upto fnExactAreDifferentSpec)

/-- 'laws.FnExactBandOf', WHERE WHAT IT READS IS OF BULK AT MOST 1048576: true; the input reads as it did. -/
def fnExactBandOfUptoRow : OpenClaim := { program := "ythpbnfmfedggjaa", sum := "1c1dc8eca3a8467a1d379c6f12588e9492c299dc138a87885e043f50c711279d", func := "loop.example/g01259/laws.FnExactBandOf", spec := "fnExactBandOf", unfollowed := true, recurses := true, apart := false, narrowed := true }
def FnExactBandOfUptoSaid : Prop := fnExactBandOfUptoRow.holds Try.pinned (OpenSpec.upto fnExactBandOfSpec)

/-- 'laws.FnExactTwiceBand', WHERE WHAT IT READS IS OF BULK AT MOST 1048576: true; the input reads as it did. -/
def fnExactTwiceBandUptoRow : OpenClaim := { program := "ythpbnfmfedggjaa", sum := "1c1dc8eca3a8467a1d379c6f12588e9492c299dc138a87885e043f50c711279d", func := "loop.example/g01259/laws.FnExactTwiceBand", spec := "fnExactTwiceBand", unfollowed := true, recurses := true, apart := false, narrowed := true }
def FnExactTwiceBandUptoSaid : Prop := fnExactTwiceBandUptoRow.holds Try.pinned (OpenSpec.upto fnExactTwiceBandSpec)

/-- 'laws.FnExactCountInBand', WHERE WHAT IT READS IS OF BULK AT MOST 1048576: true; the input reads as it did. -/
def fnExactCountInBandUptoRow : OpenClaim := { program := "ythpbnfmfedggjaa", sum := "1c1dc8eca3a8467a1d379c6f12588e9492c299dc138a87885e043f50c711279d", func := "loop.example/g01259/laws.FnExactCountInBand", spec := "fnExactCountInBand", unfollowed := true, recurses := true, apart := false, narrowed := true }
def FnExactCountInBandUptoSaid : Prop := fnExactCountInBandUptoRow.holds Try.pinned (OpenSpec.upto fnExactCountInBandSpec)

/-- 'laws.FnExactInBand', WHERE WHAT IT READS IS OF BULK AT MOST 1048576: true; the input reads as it did. -/
def fnExactInBandUptoRow : OpenClaim := { program := "ythpbnfmfedggjaa", sum := "1c1dc8eca3a8467a1d379c6f12588e9492c299dc138a87885e043f50c711279d", func := "loop.example/g01259/laws.FnExactInBand", spec := "fnExactInBand", unfollowed := true, recurses := true, apart := false, narrowed := true }
def FnExactInBandUptoSaid : Prop := fnExactInBandUptoRow.holds Try.pinned (OpenSpec.upto fnExactInBandSpec)

/-- 'laws.FnExactJoinBands', WHERE WHAT IT READS IS OF BULK AT MOST 1048576: true; the input reads as it did. -/
def fnExactJoinBandsUptoRow : OpenClaim := { program := "ythpbnfmfedggjaa", sum := "1c1dc8eca3a8467a1d379c6f12588e9492c299dc138a87885e043f50c711279d", func := "loop.example/g01259/laws.FnExactJoinBands", spec := "fnExactJoinBands", unfollowed := true, recurses := true, apart := false, narrowed := true }
def FnExactJoinBandsUptoSaid : Prop := fnExactJoinBandsUptoRow.holds Try.pinned (OpenSpec.upto fnExactJoinBandsSpec)

/-- 'laws.FnExactPegsOfBand', WHERE WHAT IT READS IS OF BULK AT MOST 1048576: true; the input reads as it did. -/
def fnExactPegsOfBandUptoRow : OpenClaim := { program := "ythpbnfmfedggjaa", sum := "1c1dc8eca3a8467a1d379c6f12588e9492c299dc138a87885e043f50c711279d", func := "loop.example/g01259/laws.FnExactPegsOfBand", spec := "fnExactPegsOfBand", unfollowed := true, recurses := true, apart := false, narrowed := true }
def FnExactPegsOfBandUptoSaid : Prop := fnExactPegsOfBandUptoRow.holds Try.pinned (OpenSpec.upto fnExactPegsOfBandSpec)

/-- 'laws.FnExactHalvingLines', WHERE WHAT IT READS IS OF BULK AT MOST 1048576: true; the input reads as it did. -/
def fnExactHalvingLinesUptoRow : OpenClaim := { program := "ythpbnfmfedggjaa", sum := "1c1dc8eca3a8467a1d379c6f12588e9492c299dc138a87885e043f50c711279d", func := "loop.example/g01259/laws.FnExactHalvingLines", spec := "fnExactHalvingLines", apart := false, narrowed := true }
def FnExactHalvingLinesUptoSaid : Prop := fnExactHalvingLinesUptoRow.holds Try.pinned (OpenSpec.upto fnExactHalvingLinesSpec)

/-- 'laws.FnExactAreConvex', WHERE WHAT IT READS IS OF BULK AT MOST 1048576: true; the input reads as it did. -/
def fnExactAreConvexUptoRow : OpenClaim := { program := "ythpbnfmfedggjaa", sum := "1c1dc8eca3a8467a1d379c6f12588e9492c299dc138a87885e043f50c711279d", func := "loop.example/g01259/laws.FnExactAreConvex", spec := "fnExactAreConvex", unfollowed := true, recurses := true, apart := false, narrowed := true }
def FnExactAreConvexUptoSaid : Prop := fnExactAreConvexUptoRow.holds Try.pinned (OpenSpec.upto fnExactAreConvexSpec)

/-- 'laws.FnExactLayersOf', WHERE WHAT IT READS IS OF BULK AT MOST 1048576: true; the input reads as it did. -/
def fnExactLayersOfUptoRow : OpenClaim := { program := "ythpbnfmfedggjaa", sum := "1c1dc8eca3a8467a1d379c6f12588e9492c299dc138a87885e043f50c711279d", func := "loop.example/g01259/laws.FnExactLayersOf", spec := "fnExactLayersOf", unfollowed := true, recurses := true, apart := false, narrowed := true }
def FnExactLayersOfUptoSaid : Prop := fnExactLayersOfUptoRow.holds Try.pinned (OpenSpec.upto fnExactLayersOfSpec)

/-- 'laws.FnExactLayerOfPeg', WHERE WHAT IT READS IS OF BULK AT MOST 1048576: true; the input reads as it did. -/
def fnExactLayerOfPegUptoRow : OpenClaim := { program := "ythpbnfmfedggjaa", sum := "1c1dc8eca3a8467a1d379c6f12588e9492c299dc138a87885e043f50c711279d", func := "loop.example/g01259/laws.FnExactLayerOfPeg", spec := "fnExactLayerOfPeg", unfollowed := true, recurses := true, apart := false, narrowed := true }
def FnExactLayerOfPegUptoSaid : Prop := fnExactLayerOfPegUptoRow.holds Try.pinned (OpenSpec.upto fnExactLayerOfPegSpec)

/-- 'laws.FnExactTangentsFrom', WHERE WHAT IT READS IS OF BULK AT MOST 1048576: true; the input reads as it did. -/
def fnExactTangentsFromUptoRow : OpenClaim := { program := "ythpbnfmfedggjaa", sum := "1c1dc8eca3a8467a1d379c6f12588e9492c299dc138a87885e043f50c711279d", func := "loop.example/g01259/laws.FnExactTangentsFrom", spec := "fnExactTangentsFrom", unfollowed := true, recurses := true, apart := false, narrowed := true }
def FnExactTangentsFromUptoSaid : Prop := fnExactTangentsFromUptoRow.holds Try.pinned (OpenSpec.upto fnExactTangentsFromSpec)

end Rows
end Go.Proofs.Ythpbnfmfedggjaa
