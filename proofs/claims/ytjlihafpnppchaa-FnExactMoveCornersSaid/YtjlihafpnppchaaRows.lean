/-
  No cell of these rows narrows 'for every input' (looked for: loops, veiled, ifaces, maps, wideKeys, modest, calm, conditions, laid).
  DERIVED. THE GIVEN ROWS OF THIS SEAT. 7 by the template 'for every input the law returns true; each argument reads behind the call as it read before'; 0 by the template 'total and deterministic' (their statements: YtjlihafpnppchaaTotals.lean).
  GIVEN WITH THE SEED: the statements are not yours to turn. If you find one false, say at which input.
  Laid BY PROGRAM, IN A SANDBOX (cutbox-rows.mjs): the forced cells as the released guide's own fill.sh prints them over the translation c1991d93b950b5dd… (all of the seat's roots in one cut). By AI agents, Wed Nov 11 2026. No macro, syntax, notation, axiom, sorry.
-/
import Derived.Test.YtjlihafpnppchaaChecked
import GoSem.Claim
import GoSem.ClaimJoined
import GoSem.ClaimMapViews
import Derived.JoinedTies
import Derived.KernelRfl
namespace Go.Proofs.Ytjlihafpnppchaa
/- THE CELL 'sum', in the pinned program and in every row, IS THE sha256 OF THE DUMP (.gsa) THAT YtjlihafpnppchaaProg.lean LOADS. Nothing in Lean hashes anything: it is a label: what it is worth is what the hold of that sum in a sandbox is worth. -/
noncomputable def Try.pinned : Pinned := { name := "ytjlihafpnppchaa", sum := "c1991d93b950b5dd7c86c7c50d7dc47749e489ce8131ab28131550f8149480f9", checked := Try.checked }
namespace Rows
def none {H : Type} : Left H := { results := [], args := [] }

/-- 'laws.FnExactIsMove': WHATEVER THE INPUT: true; the input reads as it did. -/
def fnExactIsMoveSpec : ChangeSpec := { name := "fnExactIsMove", fn := fun _ => fun
  | [d] => { results := [.lit (.bool true)], args := [d] }
  | _ => none }
def fnExactIsMoveRow : OpenClaim := { program := "ytjlihafpnppchaa", sum := "c1991d93b950b5dd7c86c7c50d7dc47749e489ce8131ab28131550f8149480f9", func := "loop.example/g01259/laws.FnExactIsMove", spec := "fnExactIsMove", apart := false }
def FnExactIsMoveSaid : Prop := fnExactIsMoveRow.holds Try.pinned (OpenSpec.ofChange fnExactIsMoveSpec)

/-- ITS FALSE NEIGHBOUR: 'it returns false'. Refute it at one input. -/
def fnExactIsMoveWrong : ChangeSpec := { name := "fnExactIsMove", fn := fun _ => fun
  | [d] => { results := [.lit (.bool false)], args := [d] }
  | _ => none }
def FnExactIsMoveWrongFalsely : Prop := fnExactIsMoveRow.holds Try.pinned (OpenSpec.ofChange fnExactIsMoveWrong)

/-- 'laws.FnExactMovePeg': WHATEVER THE INPUT: true; the input reads as it did. -/
def fnExactMovePegSpec : ChangeSpec := { name := "fnExactMovePeg", fn := fun _ => fun
  | [d1, d2] => { results := [.lit (.bool true)], args := [d1, d2] }
  | _ => none }
def fnExactMovePegRow : OpenClaim := { program := "ytjlihafpnppchaa", sum := "c1991d93b950b5dd7c86c7c50d7dc47749e489ce8131ab28131550f8149480f9", func := "loop.example/g01259/laws.FnExactMovePeg", spec := "fnExactMovePeg", apart := false }
def FnExactMovePegSaid : Prop := fnExactMovePegRow.holds Try.pinned (OpenSpec.ofChange fnExactMovePegSpec)

/-- ITS FALSE NEIGHBOUR: 'it returns false'. Refute it at one input. -/
def fnExactMovePegWrong : ChangeSpec := { name := "fnExactMovePeg", fn := fun _ => fun
  | [d1, d2] => { results := [.lit (.bool false)], args := [d1, d2] }
  | _ => none }
def FnExactMovePegWrongFalsely : Prop := fnExactMovePegRow.holds Try.pinned (OpenSpec.ofChange fnExactMovePegWrong)

/-- 'laws.FnExactSideOfMove': WHATEVER THE INPUT: true; the input reads as it did. -/
def fnExactSideOfMoveSpec : ChangeSpec := { name := "fnExactSideOfMove", fn := fun _ => fun
  | [d] => { results := [.lit (.bool true)], args := [d] }
  | _ => none }
def fnExactSideOfMoveRow : OpenClaim := { program := "ytjlihafpnppchaa", sum := "c1991d93b950b5dd7c86c7c50d7dc47749e489ce8131ab28131550f8149480f9", func := "loop.example/g01259/laws.FnExactSideOfMove", spec := "fnExactSideOfMove", apart := false }
def FnExactSideOfMoveSaid : Prop := fnExactSideOfMoveRow.holds Try.pinned (OpenSpec.ofChange fnExactSideOfMoveSpec)

/-- ITS FALSE NEIGHBOUR: 'it returns false'. Refute it at one input. -/
def fnExactSideOfMoveWrong : ChangeSpec := { name := "fnExactSideOfMove", fn := fun _ => fun
  | [d] => { results := [.lit (.bool false)], args := [d] }
  | _ => none }
def FnExactSideOfMoveWrongFalsely : Prop := fnExactSideOfMoveRow.holds Try.pinned (OpenSpec.ofChange fnExactSideOfMoveWrong)

/-- 'laws.FnExactShearMove': WHATEVER THE INPUT: true; the input reads as it did. -/
def fnExactShearMoveSpec : ChangeSpec := { name := "fnExactShearMove", fn := fun _ => fun
  | [d] => { results := [.lit (.bool true)], args := [d] }
  | _ => none }
def fnExactShearMoveRow : OpenClaim := { program := "ytjlihafpnppchaa", sum := "c1991d93b950b5dd7c86c7c50d7dc47749e489ce8131ab28131550f8149480f9", func := "loop.example/g01259/laws.FnExactShearMove", spec := "fnExactShearMove", apart := false }
def FnExactShearMoveSaid : Prop := fnExactShearMoveRow.holds Try.pinned (OpenSpec.ofChange fnExactShearMoveSpec)

/-- ITS FALSE NEIGHBOUR: 'it returns false'. Refute it at one input. -/
def fnExactShearMoveWrong : ChangeSpec := { name := "fnExactShearMove", fn := fun _ => fun
  | [d] => { results := [.lit (.bool false)], args := [d] }
  | _ => none }
def FnExactShearMoveWrongFalsely : Prop := fnExactShearMoveRow.holds Try.pinned (OpenSpec.ofChange fnExactShearMoveWrong)

/-- 'laws.FnExactJoinMoves': WHATEVER THE INPUT: true; the input reads as it did. -/
def fnExactJoinMovesSpec : ChangeSpec := { name := "fnExactJoinMoves", fn := fun _ => fun
  | [d1, d2] => { results := [.lit (.bool true)], args := [d1, d2] }
  | _ => none }
def fnExactJoinMovesRow : OpenClaim := { program := "ytjlihafpnppchaa", sum := "c1991d93b950b5dd7c86c7c50d7dc47749e489ce8131ab28131550f8149480f9", func := "loop.example/g01259/laws.FnExactJoinMoves", spec := "fnExactJoinMoves", apart := false }
def FnExactJoinMovesSaid : Prop := fnExactJoinMovesRow.holds Try.pinned (OpenSpec.ofChange fnExactJoinMovesSpec)

/-- ITS FALSE NEIGHBOUR: 'it returns false'. Refute it at one input. -/
def fnExactJoinMovesWrong : ChangeSpec := { name := "fnExactJoinMoves", fn := fun _ => fun
  | [d1, d2] => { results := [.lit (.bool false)], args := [d1, d2] }
  | _ => none }
def FnExactJoinMovesWrongFalsely : Prop := fnExactJoinMovesRow.holds Try.pinned (OpenSpec.ofChange fnExactJoinMovesWrong)

/-- 'laws.FnExactBackMove': WHATEVER THE INPUT: true; the input reads as it did. -/
def fnExactBackMoveSpec : ChangeSpec := { name := "fnExactBackMove", fn := fun _ => fun
  | [d] => { results := [.lit (.bool true)], args := [d] }
  | _ => none }
def fnExactBackMoveRow : OpenClaim := { program := "ytjlihafpnppchaa", sum := "c1991d93b950b5dd7c86c7c50d7dc47749e489ce8131ab28131550f8149480f9", func := "loop.example/g01259/laws.FnExactBackMove", spec := "fnExactBackMove", apart := false }
def FnExactBackMoveSaid : Prop := fnExactBackMoveRow.holds Try.pinned (OpenSpec.ofChange fnExactBackMoveSpec)

/-- ITS FALSE NEIGHBOUR: 'it returns false'. Refute it at one input. -/
def fnExactBackMoveWrong : ChangeSpec := { name := "fnExactBackMove", fn := fun _ => fun
  | [d] => { results := [.lit (.bool false)], args := [d] }
  | _ => none }
def FnExactBackMoveWrongFalsely : Prop := fnExactBackMoveRow.holds Try.pinned (OpenSpec.ofChange fnExactBackMoveWrong)

/-- 'laws.FnExactMoveCorners': WHATEVER THE INPUT: true; the input reads as it did. -/
def fnExactMoveCornersSpec : ChangeSpec := { name := "fnExactMoveCorners", fn := fun _ => fun
  | [d1, d2] => { results := [.lit (.bool true)], args := [d1, d2] }
  | _ => none }
def fnExactMoveCornersRow : OpenClaim := { program := "ytjlihafpnppchaa", sum := "c1991d93b950b5dd7c86c7c50d7dc47749e489ce8131ab28131550f8149480f9", func := "loop.example/g01259/laws.FnExactMoveCorners", spec := "fnExactMoveCorners", unfollowed := true, recurses := true, apart := false }
def FnExactMoveCornersSaid : Prop := fnExactMoveCornersRow.holds Try.pinned (OpenSpec.ofChange fnExactMoveCornersSpec)

/-- ITS FALSE NEIGHBOUR: 'it returns false'. Refute it at one input. -/
def fnExactMoveCornersWrong : ChangeSpec := { name := "fnExactMoveCorners", fn := fun _ => fun
  | [d1, d2] => { results := [.lit (.bool false)], args := [d1, d2] }
  | _ => none }
def FnExactMoveCornersWrongFalsely : Prop := fnExactMoveCornersRow.holds Try.pinned (OpenSpec.ofChange fnExactMoveCornersWrong)

/- THE SECOND FORM. 'bulk': how many values and letters a reading holds, each counted each time it is reached (what is shared counts as often as it is met; a slice's spare places count too). A statement '..UptoSaid' is the law's where the arguments, and the package variables that the reading takes, are together of bulk at most 1048576: NARROWER than '..Said'. Prove '..Said' where nothing that the law and all that it calls make is longer than what came in: it says more and counts as full. Else prove '..UptoSaid'. A law counts once. -/
mutual
def uptoBulk {H : Type} : DataW H → Nat
  | .lit (.string bytes) => bytes.length + 1
  | .lit _ => 1
  | .nil => 1
  | .ptr d => uptoBulk d + 1
  | .slice elems spare => uptoBulkAll elems + uptoBulkAll spare + 1
  | .agg parts => uptoBulkAll parts + 1
  | .iface _ d => uptoBulk d + 1
  | .map entries => uptoBulkEntries entries + 1
  | .held _ => 1
def uptoBulkAll {H : Type} : List (DataW H) → Nat
  | [] => 0
  | d :: r => uptoBulk d + uptoBulkAll r
def uptoBulkEntries {H : Type} : List (Lit × DataW H) → Nat
  | [] => 0
  | x :: r => uptoBulkEntry x + uptoBulkEntries r
def uptoBulkEntry {H : Type} : Lit × DataW H → Nat
  | (.string bytes, d) => bytes.length + uptoBulk d + 1
  | (_, d) => uptoBulk d + 1
 end
def uptoSmall : (H : Type) → List (DataW H) → Bool := fun _ ds => decide (uptoBulkAll ds ≤ 1048576)
def OpenSpec.upto (s : _root_.Go.ChangeSpec) : _root_.Go.OpenSpec := { _root_.Go.OpenSpec.ofChange s with cond := some uptoSmall }

/-- 'laws.FnExactIsMove', WHERE WHAT IT READS IS OF BULK AT MOST 1048576: true; the input reads as it did. -/
def fnExactIsMoveUptoRow : OpenClaim := { program := "ytjlihafpnppchaa", sum := "c1991d93b950b5dd7c86c7c50d7dc47749e489ce8131ab28131550f8149480f9", func := "loop.example/g01259/laws.FnExactIsMove", spec := "fnExactIsMove", apart := false, narrowed := true }
def FnExactIsMoveUptoSaid : Prop := fnExactIsMoveUptoRow.holds Try.pinned (OpenSpec.upto fnExactIsMoveSpec)

/-- 'laws.FnExactMovePeg', WHERE WHAT IT READS IS OF BULK AT MOST 1048576: true; the input reads as it did. -/
def fnExactMovePegUptoRow : OpenClaim := { program := "ytjlihafpnppchaa", sum := "c1991d93b950b5dd7c86c7c50d7dc47749e489ce8131ab28131550f8149480f9", func := "loop.example/g01259/laws.FnExactMovePeg", spec := "fnExactMovePeg", apart := false, narrowed := true }
def FnExactMovePegUptoSaid : Prop := fnExactMovePegUptoRow.holds Try.pinned (OpenSpec.upto fnExactMovePegSpec)

/-- 'laws.FnExactSideOfMove', WHERE WHAT IT READS IS OF BULK AT MOST 1048576: true; the input reads as it did. -/
def fnExactSideOfMoveUptoRow : OpenClaim := { program := "ytjlihafpnppchaa", sum := "c1991d93b950b5dd7c86c7c50d7dc47749e489ce8131ab28131550f8149480f9", func := "loop.example/g01259/laws.FnExactSideOfMove", spec := "fnExactSideOfMove", apart := false, narrowed := true }
def FnExactSideOfMoveUptoSaid : Prop := fnExactSideOfMoveUptoRow.holds Try.pinned (OpenSpec.upto fnExactSideOfMoveSpec)

/-- 'laws.FnExactShearMove', WHERE WHAT IT READS IS OF BULK AT MOST 1048576: true; the input reads as it did. -/
def fnExactShearMoveUptoRow : OpenClaim := { program := "ytjlihafpnppchaa", sum := "c1991d93b950b5dd7c86c7c50d7dc47749e489ce8131ab28131550f8149480f9", func := "loop.example/g01259/laws.FnExactShearMove", spec := "fnExactShearMove", apart := false, narrowed := true }
def FnExactShearMoveUptoSaid : Prop := fnExactShearMoveUptoRow.holds Try.pinned (OpenSpec.upto fnExactShearMoveSpec)

/-- 'laws.FnExactJoinMoves', WHERE WHAT IT READS IS OF BULK AT MOST 1048576: true; the input reads as it did. -/
def fnExactJoinMovesUptoRow : OpenClaim := { program := "ytjlihafpnppchaa", sum := "c1991d93b950b5dd7c86c7c50d7dc47749e489ce8131ab28131550f8149480f9", func := "loop.example/g01259/laws.FnExactJoinMoves", spec := "fnExactJoinMoves", apart := false, narrowed := true }
def FnExactJoinMovesUptoSaid : Prop := fnExactJoinMovesUptoRow.holds Try.pinned (OpenSpec.upto fnExactJoinMovesSpec)

/-- 'laws.FnExactBackMove', WHERE WHAT IT READS IS OF BULK AT MOST 1048576: true; the input reads as it did. -/
def fnExactBackMoveUptoRow : OpenClaim := { program := "ytjlihafpnppchaa", sum := "c1991d93b950b5dd7c86c7c50d7dc47749e489ce8131ab28131550f8149480f9", func := "loop.example/g01259/laws.FnExactBackMove", spec := "fnExactBackMove", apart := false, narrowed := true }
def FnExactBackMoveUptoSaid : Prop := fnExactBackMoveUptoRow.holds Try.pinned (OpenSpec.upto fnExactBackMoveSpec)

/-- 'laws.FnExactMoveCorners', WHERE WHAT IT READS IS OF BULK AT MOST 1048576: true; the input reads as it did. -/
def fnExactMoveCornersUptoRow : OpenClaim := { program := "ytjlihafpnppchaa", sum := "c1991d93b950b5dd7c86c7c50d7dc47749e489ce8131ab28131550f8149480f9", func := "loop.example/g01259/laws.FnExactMoveCorners", spec := "fnExactMoveCorners", unfollowed := true, recurses := true, apart := false, narrowed := true }
def FnExactMoveCornersUptoSaid : Prop := fnExactMoveCornersUptoRow.holds Try.pinned (OpenSpec.upto fnExactMoveCornersSpec)

end Rows
end Go.Proofs.Ytjlihafpnppchaa
