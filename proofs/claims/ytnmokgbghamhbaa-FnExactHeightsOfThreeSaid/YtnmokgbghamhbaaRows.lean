/-
  No cell of these rows narrows 'for every input' (looked for: loops, veiled, ifaces, maps, wideKeys, modest, calm, conditions, laid).
  DERIVED. THE GIVEN ROWS OF THIS SEAT. 5 by the template 'for every input the law returns true; each argument reads behind the call as it read before'; 0 by the template 'total and deterministic' (their statements: YtnmokgbghamhbaaTotals.lean).
  GIVEN WITH THE SEED: the statements are not yours to turn. If you find one false, say at which input.
  Laid BY PROGRAM, IN A SANDBOX (cutbox-rows.mjs): the forced cells as the released guide's own fill.sh prints them over the translation 2a8cd6f766e52af9… (all of the seat's roots in one cut). By AI agents, Wed Nov 11 2026. No macro, syntax, notation, axiom, sorry.
-/
import Derived.Test.YtnmokgbghamhbaaChecked
import GoSem.Claim
import GoSem.ClaimJoined
import GoSem.ClaimMapViews
import Derived.JoinedTies
import Derived.KernelRfl
namespace Go.Proofs.Ytnmokgbghamhbaa
/- THE CELL 'sum', in the pinned program and in every row, IS THE sha256 OF THE DUMP (.gsa) THAT YtnmokgbghamhbaaProg.lean LOADS. Nothing in Lean hashes anything: it is a label: what it is worth is what the hold of that sum in a sandbox is worth. -/
noncomputable def Try.pinned : Pinned := { name := "ytnmokgbghamhbaa", sum := "2a8cd6f766e52af94221f1d363a91852fea28c03ab35cff23f8444fb5119c78b", checked := Try.checked }
namespace Rows
def none {H : Type} : Left H := { results := [], args := [] }

/-- 'laws.FnExactTellFirst': WHATEVER THE INPUT: true; the input reads as it did. -/
def fnExactTellFirstSpec : ChangeSpec := { name := "fnExactTellFirst", fn := fun _ => fun
  | [d] => { results := [.lit (.bool true)], args := [d] }
  | _ => none }
def fnExactTellFirstRow : OpenClaim := { program := "ytnmokgbghamhbaa", sum := "2a8cd6f766e52af94221f1d363a91852fea28c03ab35cff23f8444fb5119c78b", func := "loop.example/g01259/laws.FnExactTellFirst", spec := "fnExactTellFirst", unfollowed := true, recurses := true, apart := false }
def FnExactTellFirstSaid : Prop := fnExactTellFirstRow.holds Try.pinned (OpenSpec.ofChange fnExactTellFirstSpec)

/-- ITS FALSE NEIGHBOUR: 'it returns false'. Refute it at one input. -/
def fnExactTellFirstWrong : ChangeSpec := { name := "fnExactTellFirst", fn := fun _ => fun
  | [d] => { results := [.lit (.bool false)], args := [d] }
  | _ => none }
def FnExactTellFirstWrongFalsely : Prop := fnExactTellFirstRow.holds Try.pinned (OpenSpec.ofChange fnExactTellFirstWrong)

/-- 'laws.FnExactHeightsOfThree': WHATEVER THE INPUT: true; the input reads as it did. -/
def fnExactHeightsOfThreeSpec : ChangeSpec := { name := "fnExactHeightsOfThree", fn := fun _ => fun
  | [d] => { results := [.lit (.bool true)], args := [d] }
  | _ => none }
def fnExactHeightsOfThreeRow : OpenClaim := { program := "ytnmokgbghamhbaa", sum := "2a8cd6f766e52af94221f1d363a91852fea28c03ab35cff23f8444fb5119c78b", func := "loop.example/g01259/laws.FnExactHeightsOfThree", spec := "fnExactHeightsOfThree", apart := false }
def FnExactHeightsOfThreeSaid : Prop := fnExactHeightsOfThreeRow.holds Try.pinned (OpenSpec.ofChange fnExactHeightsOfThreeSpec)

/-- ITS FALSE NEIGHBOUR: 'it returns false'. Refute it at one input. -/
def fnExactHeightsOfThreeWrong : ChangeSpec := { name := "fnExactHeightsOfThree", fn := fun _ => fun
  | [d] => { results := [.lit (.bool false)], args := [d] }
  | _ => none }
def FnExactHeightsOfThreeWrongFalsely : Prop := fnExactHeightsOfThreeRow.holds Try.pinned (OpenSpec.ofChange fnExactHeightsOfThreeWrong)

/-- 'laws.FnExactWhereIs': WHATEVER THE INPUT: true; the input reads as it did. -/
def fnExactWhereIsSpec : ChangeSpec := { name := "fnExactWhereIs", fn := fun _ => fun
  | [d1, d2] => { results := [.lit (.bool true)], args := [d1, d2] }
  | _ => none }
def fnExactWhereIsRow : OpenClaim := { program := "ytnmokgbghamhbaa", sum := "2a8cd6f766e52af94221f1d363a91852fea28c03ab35cff23f8444fb5119c78b", func := "loop.example/g01259/laws.FnExactWhereIs", spec := "fnExactWhereIs", apart := false }
def FnExactWhereIsSaid : Prop := fnExactWhereIsRow.holds Try.pinned (OpenSpec.ofChange fnExactWhereIsSpec)

/-- ITS FALSE NEIGHBOUR: 'it returns false'. Refute it at one input. -/
def fnExactWhereIsWrong : ChangeSpec := { name := "fnExactWhereIs", fn := fun _ => fun
  | [d1, d2] => { results := [.lit (.bool false)], args := [d1, d2] }
  | _ => none }
def FnExactWhereIsWrongFalsely : Prop := fnExactWhereIsRow.holds Try.pinned (OpenSpec.ofChange fnExactWhereIsWrong)

/-- 'laws.FnExactIsConvex': WHATEVER THE INPUT: true; the input reads as it did. -/
def fnExactIsConvexSpec : ChangeSpec := { name := "fnExactIsConvex", fn := fun _ => fun
  | [d] => { results := [.lit (.bool true)], args := [d] }
  | _ => none }
def fnExactIsConvexRow : OpenClaim := { program := "ytnmokgbghamhbaa", sum := "2a8cd6f766e52af94221f1d363a91852fea28c03ab35cff23f8444fb5119c78b", func := "loop.example/g01259/laws.FnExactIsConvex", spec := "fnExactIsConvex", apart := false }
def FnExactIsConvexSaid : Prop := fnExactIsConvexRow.holds Try.pinned (OpenSpec.ofChange fnExactIsConvexSpec)

/-- ITS FALSE NEIGHBOUR: 'it returns false'. Refute it at one input. -/
def fnExactIsConvexWrong : ChangeSpec := { name := "fnExactIsConvex", fn := fun _ => fun
  | [d] => { results := [.lit (.bool false)], args := [d] }
  | _ => none }
def FnExactIsConvexWrongFalsely : Prop := fnExactIsConvexRow.holds Try.pinned (OpenSpec.ofChange fnExactIsConvexWrong)

/-- 'laws.FnExactListInside': WHATEVER THE INPUT: true; the input reads as it did. -/
def fnExactListInsideSpec : ChangeSpec := { name := "fnExactListInside", fn := fun _ => fun
  | [d] => { results := [.lit (.bool true)], args := [d] }
  | _ => none }
def fnExactListInsideRow : OpenClaim := { program := "ytnmokgbghamhbaa", sum := "2a8cd6f766e52af94221f1d363a91852fea28c03ab35cff23f8444fb5119c78b", func := "loop.example/g01259/laws.FnExactListInside", spec := "fnExactListInside", unfollowed := true, recurses := true, apart := false }
def FnExactListInsideSaid : Prop := fnExactListInsideRow.holds Try.pinned (OpenSpec.ofChange fnExactListInsideSpec)

/-- ITS FALSE NEIGHBOUR: 'it returns false'. Refute it at one input. -/
def fnExactListInsideWrong : ChangeSpec := { name := "fnExactListInside", fn := fun _ => fun
  | [d] => { results := [.lit (.bool false)], args := [d] }
  | _ => none }
def FnExactListInsideWrongFalsely : Prop := fnExactListInsideRow.holds Try.pinned (OpenSpec.ofChange fnExactListInsideWrong)

/- THE SECOND FORM. 'bulk': how many values and letters a reading holds, each counted each time it is reached (what is shared counts as often as it is met; a slice's spare places count too). A statement '..UptoSaid' is the law's where the arguments, and the package variables that the reading takes, are together of bulk at most 1048576: NARROWER than '..Said'. Prove '..Said' where nothing that the law and all that it calls make is longer than what came in: it says more and counts as full. Else prove '..UptoSaid'. A law counts once. -/
mutual
def uptoBulk {H : Type} : DataW H → Nat
  | .lit (.string bytes) => bytes.length + 1
  | .lit _ => 1
  | .nil => 1
  | .ptr d => uptoBulk d + 1
  | .slice elems spare => uptoBulkAll elems + uptoBulkAll spare + 1
  | .agg parts => uptoBulkAll parts + 1
  | .iface _ d => uptoBulk d + 1
  | .map entries => uptoBulkEntries entries + 1
  | .held _ => 1
def uptoBulkAll {H : Type} : List (DataW H) → Nat
  | [] => 0
  | d :: r => uptoBulk d + uptoBulkAll r
def uptoBulkEntries {H : Type} : List (Lit × DataW H) → Nat
  | [] => 0
  | x :: r => uptoBulkEntry x + uptoBulkEntries r
def uptoBulkEntry {H : Type} : Lit × DataW H → Nat
  | (.string bytes, d) => bytes.length + uptoBulk d + 1
  | (_, d) => uptoBulk d + 1
 end
def uptoSmall : (H : Type) → List (DataW H) → Bool := fun _ ds => decide (uptoBulkAll ds ≤ 1048576)
def OpenSpec.upto (s : _root_.Go.ChangeSpec) : _root_.Go.OpenSpec := { _root_.Go.OpenSpec.ofChange s with cond := some uptoSmall }

/-- 'laws.FnExactTellFirst', WHERE WHAT IT READS IS OF BULK AT MOST 1048576: true; the input reads as it did. -/
def fnExactTellFirstUptoRow : OpenClaim := { program := "ytnmokgbghamhbaa", sum := "2a8cd6f766e52af94221f1d363a91852fea28c03ab35cff23f8444fb5119c78b", func := "loop.example/g01259/laws.FnExactTellFirst", spec := "fnExactTellFirst", unfollowed := true, recurses := true, apart := false, narrowed := true }
def FnExactTellFirstUptoSaid : Prop := fnExactTellFirstUptoRow.holds Try.pinned (OpenSpec.upto fnExactTellFirstSpec)

/-- 'laws.FnExactHeightsOfThree', WHERE WHAT IT READS IS OF BULK AT MOST 1048576: true; the input reads as it did. -/
def fnExactHeightsOfThreeUptoRow : OpenClaim := { program := "ytnmokgbghamhbaa", sum := "2a8cd6f766e52af94221f1d363a91852fea28c03ab35cff23f8444fb5119c78b", func := "loop.example/g01259/laws.FnExactHeightsOfThree", spec := "fnExactHeightsOfThree", apart := false, narrowed := true }
def FnExactHeightsOfThreeUptoSaid : Prop := fnExactHeightsOfThreeUptoRow.holds Try.pinned (OpenSpec.upto fnExactHeightsOfThreeSpec)

/-- 'laws.FnExactWhereIs', WHERE WHAT IT READS IS OF BULK AT MOST 1048576: true; the input reads as it did. -/
def fnExactWhereIsUptoRow : OpenClaim := { program := "ytnmokgbghamhbaa", sum := "2a8cd6f766e52af94221f1d363a91852fea28c03ab35cff23f8444fb5119c78b", func := "loop.example/g01259/laws.FnExactWhereIs", spec := "fnExactWhereIs", apart := false, narrowed := true }
def FnExactWhereIsUptoSaid : Prop := fnExactWhereIsUptoRow.holds Try.pinned (OpenSpec.upto fnExactWhereIsSpec)

/-- 'laws.FnExactIsConvex', WHERE WHAT IT READS IS OF BULK AT MOST 1048576: true; the input reads as it did. -/
def fnExactIsConvexUptoRow : OpenClaim := { program := "ytnmokgbghamhbaa", sum := "2a8cd6f766e52af94221f1d363a91852fea28c03ab35cff23f8444fb5119c78b", func := "loop.example/g01259/laws.FnExactIsConvex", spec := "fnExactIsConvex", apart := false, narrowed := true }
def FnExactIsConvexUptoSaid : Prop := fnExactIsConvexUptoRow.holds Try.pinned (OpenSpec.upto fnExactIsConvexSpec)

/-- 'laws.FnExactListInside', WHERE WHAT IT READS IS OF BULK AT MOST 1048576: true; the input reads as it did. -/
def fnExactListInsideUptoRow : OpenClaim := { program := "ytnmokgbghamhbaa", sum := "2a8cd6f766e52af94221f1d363a91852fea28c03ab35cff23f8444fb5119c78b", func := "loop.example/g01259/laws.FnExactListInside", spec := "fnExactListInside", unfollowed := true, recurses := true, apart := false, narrowed := true }
def FnExactListInsideUptoSaid : Prop := fnExactListInsideUptoRow.holds Try.pinned (OpenSpec.upto fnExactListInsideSpec)

end Rows
end Go.Proofs.Ytnmokgbghamhbaa
