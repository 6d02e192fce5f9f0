/-
  No cell of these rows narrows 'for every input' (looked for: loops, veiled, ifaces, maps, wideKeys, modest, calm, conditions, laid).
  DERIVED. THE GIVEN ROWS OF THIS SEAT. 8 by the template 'for every input the law returns true; each argument reads behind the call as it read before'; 0 by the template 'total and deterministic' (their statements: YtjkfdcjfoliboaaTotals.lean).
  GIVEN WITH THE SEED: the statements are not yours to turn. If you find one false, say at which input.
  Laid BY PROGRAM, IN A SANDBOX (cutbox-rows.mjs): the forced cells as the released guide's own fill.sh prints them over the translation b49bf75e8c4fa844… (all of the seat's roots in one cut). By AI agents, Wed Nov 11 2026. No macro, syntax, notation, axiom, sorry.
-/
import Derived.Test.YtjkfdcjfoliboaaChecked
import GoSem.Claim
import GoSem.ClaimJoined
import GoSem.ClaimMapViews
import Derived.JoinedTies
import Derived.KernelRfl
namespace Go.Proofs.Ytjkfdcjfoliboaa
/- THE CELL 'sum', in the pinned program and in every row, IS THE sha256 OF THE DUMP (.gsa) THAT YtjkfdcjfoliboaaProg.lean LOADS. Nothing in Lean hashes anything: it is a label: what it is worth is what the hold of that sum in a sandbox is worth. -/
noncomputable def Try.pinned : Pinned := { name := "ytjkfdcjfoliboaa", sum := "b49bf75e8c4fa8449494eb985ec607223a53600d94fe455079edae2e06d0008a", checked := Try.checked }
namespace Rows
def none {H : Type} : Left H := { results := [], args := [] }

/-- 'laws.FnExactIsConvex': WHATEVER THE INPUT: true; the input reads as it did. -/
def fnExactIsConvexSpec : ChangeSpec := { name := "fnExactIsConvex", fn := fun _ => fun
  | [d] => { results := [.lit (.bool true)], args := [d] }
  | _ => none }
def fnExactIsConvexRow : OpenClaim := { program := "ytjkfdcjfoliboaa", sum := "b49bf75e8c4fa8449494eb985ec607223a53600d94fe455079edae2e06d0008a", func := "loop.example/g01259/laws.FnExactIsConvex", spec := "fnExactIsConvex", apart := false }
def FnExactIsConvexSaid : Prop := fnExactIsConvexRow.holds Try.pinned (OpenSpec.ofChange fnExactIsConvexSpec)

/-- ITS FALSE NEIGHBOUR: 'it returns false'. Refute it at one input. -/
def fnExactIsConvexWrong : ChangeSpec := { name := "fnExactIsConvex", fn := fun _ => fun
  | [d] => { results := [.lit (.bool false)], args := [d] }
  | _ => none }
def FnExactIsConvexWrongFalsely : Prop := fnExactIsConvexRow.holds Try.pinned (OpenSpec.ofChange fnExactIsConvexWrong)

/-- 'laws.FnExactWhereIs': WHATEVER THE INPUT: true; the input reads as it did. -/
def fnExactWhereIsSpec : ChangeSpec := { name := "fnExactWhereIs", fn := fun _ => fun
  | [d1, d2] => { results := [.lit (.bool true)], args := [d1, d2] }
  | _ => none }
def fnExactWhereIsRow : OpenClaim := { program := "ytjkfdcjfoliboaa", sum := "b49bf75e8c4fa8449494eb985ec607223a53600d94fe455079edae2e06d0008a", func := "loop.example/g01259/laws.FnExactWhereIs", spec := "fnExactWhereIs", apart := false }
def FnExactWhereIsSaid : Prop := fnExactWhereIsRow.holds Try.pinned (OpenSpec.ofChange fnExactWhereIsSpec)

/-- ITS FALSE NEIGHBOUR: 'it returns false'. Refute it at one input. -/
def fnExactWhereIsWrong : ChangeSpec := { name := "fnExactWhereIs", fn := fun _ => fun
  | [d1, d2] => { results := [.lit (.bool false)], args := [d1, d2] }
  | _ => none }
def FnExactWhereIsWrongFalsely : Prop := fnExactWhereIsRow.holds Try.pinned (OpenSpec.ofChange fnExactWhereIsWrong)

/-- 'laws.FnExactListInside': WHATEVER THE INPUT: true; the input reads as it did. -/
def fnExactListInsideSpec : ChangeSpec := { name := "fnExactListInside", fn := fun _ => fun
  | [d] => { results := [.lit (.bool true)], args := [d] }
  | _ => none }
def fnExactListInsideRow : OpenClaim := { program := "ytjkfdcjfoliboaa", sum := "b49bf75e8c4fa8449494eb985ec607223a53600d94fe455079edae2e06d0008a", func := "loop.example/g01259/laws.FnExactListInside", spec := "fnExactListInside", unfollowed := true, recurses := true, apart := false }
def FnExactListInsideSaid : Prop := fnExactListInsideRow.holds Try.pinned (OpenSpec.ofChange fnExactListInsideSpec)

/-- ITS FALSE NEIGHBOUR: 'it returns false'. Refute it at one input. -/
def fnExactListInsideWrong : ChangeSpec := { name := "fnExactListInside", fn := fun _ => fun
  | [d] => { results := [.lit (.bool false)], args := [d] }
  | _ => none }
def FnExactListInsideWrongFalsely : Prop := fnExactListInsideRow.holds Try.pinned (OpenSpec.ofChange fnExactListInsideWrong)

/-- 'laws.FnExactIsOneInside': WHATEVER THE INPUT: true; the input reads as it did. -/
def fnExactIsOneInsideSpec : ChangeSpec := { name := "fnExactIsOneInside", fn := fun _ => fun
  | [d] => { results := [.lit (.bool true)], args := [d] }
  | _ => none }
def fnExactIsOneInsideRow : OpenClaim := { program := "ytjkfdcjfoliboaa", sum := "b49bf75e8c4fa8449494eb985ec607223a53600d94fe455079edae2e06d0008a", func := "loop.example/g01259/laws.FnExactIsOneInside", spec := "fnExactIsOneInside", unfollowed := true, recurses := true, apart := false }
def FnExactIsOneInsideSaid : Prop := fnExactIsOneInsideRow.holds Try.pinned (OpenSpec.ofChange fnExactIsOneInsideSpec)

/-- ITS FALSE NEIGHBOUR: 'it returns false'. Refute it at one input. -/
def fnExactIsOneInsideWrong : ChangeSpec := { name := "fnExactIsOneInside", fn := fun _ => fun
  | [d] => { results := [.lit (.bool false)], args := [d] }
  | _ => none }
def FnExactIsOneInsideWrongFalsely : Prop := fnExactIsOneInsideRow.holds Try.pinned (OpenSpec.ofChange fnExactIsOneInsideWrong)

/-- 'laws.FnExactBackPolygon': WHATEVER THE INPUT: true; the input reads as it did. -/
def fnExactBackPolygonSpec : ChangeSpec := { name := "fnExactBackPolygon", fn := fun _ => fun
  | [d] => { results := [.lit (.bool true)], args := [d] }
  | _ => none }
def fnExactBackPolygonRow : OpenClaim := { program := "ytjkfdcjfoliboaa", sum := "b49bf75e8c4fa8449494eb985ec607223a53600d94fe455079edae2e06d0008a", func := "loop.example/g01259/laws.FnExactBackPolygon", spec := "fnExactBackPolygon", apart := false }
def FnExactBackPolygonSaid : Prop := fnExactBackPolygonRow.holds Try.pinned (OpenSpec.ofChange fnExactBackPolygonSpec)

/-- ITS FALSE NEIGHBOUR: 'it returns false'. Refute it at one input. -/
def fnExactBackPolygonWrong : ChangeSpec := { name := "fnExactBackPolygon", fn := fun _ => fun
  | [d] => { results := [.lit (.bool false)], args := [d] }
  | _ => none }
def FnExactBackPolygonWrongFalsely : Prop := fnExactBackPolygonRow.holds Try.pinned (OpenSpec.ofChange fnExactBackPolygonWrong)

/-- 'laws.FnExactTellFirst': WHATEVER THE INPUT: true; the input reads as it did. -/
def fnExactTellFirstSpec : ChangeSpec := { name := "fnExactTellFirst", fn := fun _ => fun
  | [d] => { results := [.lit (.bool true)], args := [d] }
  | _ => none }
def fnExactTellFirstRow : OpenClaim := { program := "ytjkfdcjfoliboaa", sum := "b49bf75e8c4fa8449494eb985ec607223a53600d94fe455079edae2e06d0008a", func := "loop.example/g01259/laws.FnExactTellFirst", spec := "fnExactTellFirst", unfollowed := true, recurses := true, apart := false }
def FnExactTellFirstSaid : Prop := fnExactTellFirstRow.holds Try.pinned (OpenSpec.ofChange fnExactTellFirstSpec)

/-- ITS FALSE NEIGHBOUR: 'it returns false'. Refute it at one input. -/
def fnExactTellFirstWrong : ChangeSpec := { name := "fnExactTellFirst", fn := fun _ => fun
  | [d] => { results := [.lit (.bool false)], args := [d] }
  | _ => none }
def FnExactTellFirstWrongFalsely : Prop := fnExactTellFirstRow.holds Try.pinned (OpenSpec.ofChange fnExactTellFirstWrong)

/-- 'laws.FnExactAroundOf': WHATEVER THE INPUT: true; the input reads as it did. -/
def fnExactAroundOfSpec : ChangeSpec := { name := "fnExactAroundOf", fn := fun _ => fun
  | [d] => { results := [.lit (.bool true)], args := [d] }
  | _ => none }
def fnExactAroundOfRow : OpenClaim := { program := "ytjkfdcjfoliboaa", sum := "b49bf75e8c4fa8449494eb985ec607223a53600d94fe455079edae2e06d0008a", func := "loop.example/g01259/laws.FnExactAroundOf", spec := "fnExactAroundOf", unfollowed := true, recurses := true, apart := false }
def FnExactAroundOfSaid : Prop := fnExactAroundOfRow.holds Try.pinned (OpenSpec.ofChange fnExactAroundOfSpec)

/-- ITS FALSE NEIGHBOUR: 'it returns false'. Refute it at one input. -/
def fnExactAroundOfWrong : ChangeSpec := { name := "fnExactAroundOf", fn := fun _ => fun
  | [d] => { results := [.lit (.bool false)], args := [d] }
  | _ => none }
def FnExactAroundOfWrongFalsely : Prop := fnExactAroundOfRow.holds Try.pinned (OpenSpec.ofChange fnExactAroundOfWrong)

/-- 'laws.FnExactNumbersAround': WHATEVER THE INPUT: true; the input reads as it did. -/
def fnExactNumbersAroundSpec : ChangeSpec := { name := "fnExactNumbersAround", fn := fun _ => fun
  | [d] => { results := [.lit (.bool true)], args := [d] }
  | _ => none }
def fnExactNumbersAroundRow : OpenClaim := { program := "ytjkfdcjfoliboaa", sum := "b49bf75e8c4fa8449494eb985ec607223a53600d94fe455079edae2e06d0008a", func := "loop.example/g01259/laws.FnExactNumbersAround", spec := "fnExactNumbersAround", unfollowed := true, recurses := true, apart := false }
def FnExactNumbersAroundSaid : Prop := fnExactNumbersAroundRow.holds Try.pinned (OpenSpec.ofChange fnExactNumbersAroundSpec)

/-- ITS FALSE NEIGHBOUR: 'it returns false'. Refute it at one input. -/
def fnExactNumbersAroundWrong : ChangeSpec := { name := "fnExactNumbersAround", fn := fun _ => fun
  | [d] => { results := [.lit (.bool false)], args := [d] }
  | _ => none }
def FnExactNumbersAroundWrongFalsely : Prop := fnExactNumbersAroundRow.holds Try.pinned (OpenSpec.ofChange fnExactNumbersAroundWrong)

/- THE SECOND FORM. 'bulk': how many values and letters a reading holds, each counted each time it is reached (what is shared counts as often as it is met; a slice's spare places count too). A statement '..UptoSaid' is the law's where the arguments, and the package variables that the reading takes, are together of bulk at most 1048576: NARROWER than '..Said'. Prove '..Said' where nothing that the law and all that it calls make is longer than what came in: it says more and counts as full. Else prove '..UptoSaid'. A law counts once. -/
mutual
def uptoBulk {H : Type} : DataW H → Nat
  | .lit (.string bytes) => bytes.length + 1
  | .lit _ => 1
  | .nil => 1
  | .ptr d => uptoBulk d + 1
  | .slice elems spare => uptoBulkAll elems + uptoBulkAll spare + 1
  | .agg parts => uptoBulkAll parts + 1
  | .iface _ d => uptoBulk d + 1
  | .map entries => uptoBulkEntries entries + 1
  | .held _ => 1
def uptoBulkAll {H : Type} : List (DataW H) → Nat
  | [] => 0
  | d :: r => uptoBulk d + uptoBulkAll r
def uptoBulkEntries {H : Type} : List (Lit × DataW H) → Nat
  | [] => 0
  | x :: r => uptoBulkEntry x + uptoBulkEntries r
def uptoBulkEntry {H : Type} : Lit × DataW H → Nat
  | (.string bytes, d) => bytes.length + uptoBulk d + 1
  | (_, d) => uptoBulk d + 1
 end
def uptoSmall : (H : Type) → List (DataW H) → Bool := fun _ ds => decide (uptoBulkAll ds ≤ 1048576)
def OpenSpec.upto (s : _root_.Go.ChangeSpec) : _root_.Go.OpenSpec := { _root_.Go.OpenSpec.ofChange s with cond := some uptoSmall }

/-- 'laws.FnExactIsConvex', WHERE WHAT IT READS IS OF BULK AT MOST 1048576: true; the input reads as it did. -/
def fnExactIsConvexUptoRow : OpenClaim := { program := "ytjkfdcjfoliboaa", sum := "b49bf75e8c4fa8449494eb985ec607223a53600d94fe455079edae2e06d0008a", func := "loop.example/g01259/laws.FnExactIsConvex", spec := "fnExactIsConvex", apart := false, narrowed := true }
def FnExactIsConvexUptoSaid : Prop := fnExactIsConvexUptoRow.holds Try.pinned (OpenSpec.upto fnExactIsConvexSpec)

/-- 'laws.FnExactWhereIs', WHERE WHAT IT READS IS OF BULK AT MOST 1048576: true; the input reads as it did. -/
def fnExactWhereIsUptoRow : OpenClaim := { program := "ytjkfdcjfoliboaa", sum := "b49bf75e8c4fa8449494eb985ec607223a53600d94fe455079edae2e06d0008a", func := "loop.example/g01259/laws.FnExactWhereIs", spec := "fnExactWhereIs", apart := false, narrowed := true }
def FnExactWhereIsUptoSaid : Prop := fnExactWhereIsUptoRow.holds Try.pinned (OpenSpec.upto fnExactWhereIsSpec)

/-- 'laws.FnExactListInside', WHERE WHAT IT READS IS OF BULK AT MOST 1048576: true; the input reads as it did. -/
def fnExactListInsideUptoRow : OpenClaim := { program := "ytjkfdcjfoliboaa", sum := "b49bf75e8c4fa8449494eb985ec607223a53600d94fe455079edae2e06d0008a", func := "loop.example/g01259/laws.FnExactListInside", spec := "fnExactListInside", unfollowed := true, recurses := true, apart := false, narrowed := true }
def FnExactListInsideUptoSaid : Prop := fnExactListInsideUptoRow.holds Try.pinned (OpenSpec.upto fnExactListInsideSpec)

/-- 'laws.FnExactIsOneInside', WHERE WHAT IT READS IS OF BULK AT MOST 1048576: true; the input reads as it did. -/
def fnExactIsOneInsideUptoRow : OpenClaim := { program := "ytjkfdcjfoliboaa", sum := "b49bf75e8c4fa8449494eb985ec607223a53600d94fe455079edae2e06d0008a", func := "loop.example/g01259/laws.FnExactIsOneInside", spec := "fnExactIsOneInside", unfollowed := true, recurses := true, apart := false, narrowed := true }
def FnExactIsOneInsideUptoSaid : Prop := fnExactIsOneInsideUptoRow.holds Try.pinned (OpenSpec.upto fnExactIsOneInsideSpec)

/-- 'laws.FnExactBackPolygon', WHERE WHAT IT READS IS OF BULK AT MOST 1048576: true; the input reads as it did. -/
def fnExactBackPolygonUptoRow : OpenClaim := { program := "ytjkfdcjfoliboaa", sum := "b49bf75e8c4fa8449494eb985ec607223a53600d94fe455079edae2e06d0008a", func := "loop.example/g01259/laws.FnExactBackPolygon", spec := "fnExactBackPolygon", apart := false, narrowed := true }
def FnExactBackPolygonUptoSaid : Prop := fnExactBackPolygonUptoRow.holds Try.pinned (OpenSpec.upto fnExactBackPolygonSpec)

/-- 'laws.FnExactTellFirst', WHERE WHAT IT READS IS OF BULK AT MOST 1048576: true; the input reads as it did. -/
def fnExactTellFirstUptoRow : OpenClaim := { program := "ytjkfdcjfoliboaa", sum := "b49bf75e8c4fa8449494eb985ec607223a53600d94fe455079edae2e06d0008a", func := "loop.example/g01259/laws.FnExactTellFirst", spec := "fnExactTellFirst", unfollowed := true, recurses := true, apart := false, narrowed := true }
def FnExactTellFirstUptoSaid : Prop := fnExactTellFirstUptoRow.holds Try.pinned (OpenSpec.upto fnExactTellFirstSpec)

/-- 'laws.FnExactAroundOf', WHERE WHAT IT READS IS OF BULK AT MOST 1048576: true; the input reads as it did. -/
def fnExactAroundOfUptoRow : OpenClaim := { program := "ytjkfdcjfoliboaa", sum := "b49bf75e8c4fa8449494eb985ec607223a53600d94fe455079edae2e06d0008a", func := "loop.example/g01259/laws.FnExactAroundOf", spec := "fnExactAroundOf", unfollowed := true, recurses := true, apart := false, narrowed := true }
def FnExactAroundOfUptoSaid : Prop := fnExactAroundOfUptoRow.holds Try.pinned (OpenSpec.upto fnExactAroundOfSpec)

/-- 'laws.FnExactNumbersAround', WHERE WHAT IT READS IS OF BULK AT MOST 1048576: true; the input reads as it did. -/
def fnExactNumbersAroundUptoRow : OpenClaim := { program := "ytjkfdcjfoliboaa", sum := "b49bf75e8c4fa8449494eb985ec607223a53600d94fe455079edae2e06d0008a", func := "loop.example/g01259/laws.FnExactNumbersAround", spec := "fnExactNumbersAround", unfollowed := true, recurses := true, apart := false, narrowed := true }
def FnExactNumbersAroundUptoSaid : Prop := fnExactNumbersAroundUptoRow.holds Try.pinned (OpenSpec.upto fnExactNumbersAroundSpec)

end Rows
end Go.Proofs.Ytjkfdcjfoliboaa
