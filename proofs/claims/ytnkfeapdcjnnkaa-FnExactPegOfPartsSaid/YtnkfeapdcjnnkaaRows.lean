/-
  No cell of these rows narrows 'for every input' (looked for: loops, veiled, ifaces, maps, wideKeys, modest, calm, conditions, laid).
  DERIVED. THE GIVEN ROWS OF THIS SEAT. 7 by the template 'for every input the law returns true; each argument reads behind the call as it read before'; 0 by the template 'total and deterministic' (their statements: YtnkfeapdcjnnkaaTotals.lean).
  GIVEN WITH THE SEED: the statements are not yours to turn. If you find one false, say at which input.
  Laid BY PROGRAM, IN A SANDBOX (cutbox-rows.mjs): the forced cells as the released guide's own fill.sh prints them over the translation 69f563536a59181b… (all of the seat's roots in one cut). By AI agents, Wed Nov 11 2026. No macro, syntax, notation, axiom, sorry.
-/
import Derived.Test.YtnkfeapdcjnnkaaChecked
import GoSem.Claim
import GoSem.ClaimJoined
import GoSem.ClaimMapViews
import Derived.JoinedTies
import Derived.KernelRfl
namespace Go.Proofs.Ytnkfeapdcjnnkaa
/- THE CELL 'sum', in the pinned program and in every row, IS THE sha256 OF THE DUMP (.gsa) THAT YtnkfeapdcjnnkaaProg.lean LOADS. Nothing in Lean hashes anything: it is a label: what it is worth is what the hold of that sum in a sandbox is worth. -/
noncomputable def Try.pinned : Pinned := { name := "ytnkfeapdcjnnkaa", sum := "69f563536a59181b70af890963dd0946cd87099a2271af3e382b5f2ed898547b", checked := Try.checked }
namespace Rows
def none {H : Type} : Left H := { results := [], args := [] }

/-- 'laws.FnExactHeightsOfThree': WHATEVER THE INPUT: true; the input reads as it did. -/
def fnExactHeightsOfThreeSpec : ChangeSpec := { name := "fnExactHeightsOfThree", fn := fun _ => fun
  | [d] => { results := [.lit (.bool true)], args := [d] }
  | _ => none }
def fnExactHeightsOfThreeRow : OpenClaim := { program := "ytnkfeapdcjnnkaa", sum := "69f563536a59181b70af890963dd0946cd87099a2271af3e382b5f2ed898547b", func := "loop.example/g01259/laws.FnExactHeightsOfThree", spec := "fnExactHeightsOfThree", apart := false }
def FnExactHeightsOfThreeSaid : Prop := fnExactHeightsOfThreeRow.holds Try.pinned (OpenSpec.ofChange fnExactHeightsOfThreeSpec)

/-- ITS FALSE NEIGHBOUR: 'it returns false'. Refute it at one input. -/
def fnExactHeightsOfThreeWrong : ChangeSpec := { name := "fnExactHeightsOfThree", fn := fun _ => fun
  | [d] => { results := [.lit (.bool false)], args := [d] }
  | _ => none }
def FnExactHeightsOfThreeWrongFalsely : Prop := fnExactHeightsOfThreeRow.holds Try.pinned (OpenSpec.ofChange fnExactHeightsOfThreeWrong)

/-- 'laws.FnExactCircleOfThree': WHATEVER THE INPUT: true; the input reads as it did. -/
def fnExactCircleOfThreeSpec : ChangeSpec := { name := "fnExactCircleOfThree", fn := fun _ => fun
  | [d] => { results := [.lit (.bool true)], args := [d] }
  | _ => none }
def fnExactCircleOfThreeRow : OpenClaim := { program := "ytnkfeapdcjnnkaa", sum := "69f563536a59181b70af890963dd0946cd87099a2271af3e382b5f2ed898547b", func := "loop.example/g01259/laws.FnExactCircleOfThree", spec := "fnExactCircleOfThree", apart := false }
def FnExactCircleOfThreeSaid : Prop := fnExactCircleOfThreeRow.holds Try.pinned (OpenSpec.ofChange fnExactCircleOfThreeSpec)

/-- ITS FALSE NEIGHBOUR: 'it returns false'. Refute it at one input. -/
def fnExactCircleOfThreeWrong : ChangeSpec := { name := "fnExactCircleOfThree", fn := fun _ => fun
  | [d] => { results := [.lit (.bool false)], args := [d] }
  | _ => none }
def FnExactCircleOfThreeWrongFalsely : Prop := fnExactCircleOfThreeRow.holds Try.pinned (OpenSpec.ofChange fnExactCircleOfThreeWrong)

/-- 'laws.FnExactInCircle': WHATEVER THE INPUT: true; the input reads as it did. -/
def fnExactInCircleSpec : ChangeSpec := { name := "fnExactInCircle", fn := fun _ => fun
  | [d1, d2] => { results := [.lit (.bool true)], args := [d1, d2] }
  | _ => none }
def fnExactInCircleRow : OpenClaim := { program := "ytnkfeapdcjnnkaa", sum := "69f563536a59181b70af890963dd0946cd87099a2271af3e382b5f2ed898547b", func := "loop.example/g01259/laws.FnExactInCircle", spec := "fnExactInCircle", apart := false }
def FnExactInCircleSaid : Prop := fnExactInCircleRow.holds Try.pinned (OpenSpec.ofChange fnExactInCircleSpec)

/-- ITS FALSE NEIGHBOUR: 'it returns false'. Refute it at one input. -/
def fnExactInCircleWrong : ChangeSpec := { name := "fnExactInCircle", fn := fun _ => fun
  | [d1, d2] => { results := [.lit (.bool false)], args := [d1, d2] }
  | _ => none }
def FnExactInCircleWrongFalsely : Prop := fnExactInCircleRow.holds Try.pinned (OpenSpec.ofChange fnExactInCircleWrong)

/-- 'laws.FnExactPegOfParts': WHATEVER THE INPUT: true; the input reads as it did. -/
def fnExactPegOfPartsSpec : ChangeSpec := { name := "fnExactPegOfParts", fn := fun _ => fun
  | [d1, d2] => { results := [.lit (.bool true)], args := [d1, d2] }
  | _ => none }
def fnExactPegOfPartsRow : OpenClaim := { program := "ytnkfeapdcjnnkaa", sum := "69f563536a59181b70af890963dd0946cd87099a2271af3e382b5f2ed898547b", func := "loop.example/g01259/laws.FnExactPegOfParts", spec := "fnExactPegOfParts", apart := false }
def FnExactPegOfPartsSaid : Prop := fnExactPegOfPartsRow.holds Try.pinned (OpenSpec.ofChange fnExactPegOfPartsSpec)

/-- ITS FALSE NEIGHBOUR: 'it returns false'. Refute it at one input. -/
def fnExactPegOfPartsWrong : ChangeSpec := { name := "fnExactPegOfParts", fn := fun _ => fun
  | [d1, d2] => { results := [.lit (.bool false)], args := [d1, d2] }
  | _ => none }
def FnExactPegOfPartsWrongFalsely : Prop := fnExactPegOfPartsRow.holds Try.pinned (OpenSpec.ofChange fnExactPegOfPartsWrong)

/-- 'laws.FnExactGrowThree': WHATEVER THE INPUT: true; the input reads as it did. -/
def fnExactGrowThreeSpec : ChangeSpec := { name := "fnExactGrowThree", fn := fun _ => fun
  | [d1, d2] => { results := [.lit (.bool true)], args := [d1, d2] }
  | _ => none }
def fnExactGrowThreeRow : OpenClaim := { program := "ytnkfeapdcjnnkaa", sum := "69f563536a59181b70af890963dd0946cd87099a2271af3e382b5f2ed898547b", func := "loop.example/g01259/laws.FnExactGrowThree", spec := "fnExactGrowThree", apart := false }
def FnExactGrowThreeSaid : Prop := fnExactGrowThreeRow.holds Try.pinned (OpenSpec.ofChange fnExactGrowThreeSpec)

/-- ITS FALSE NEIGHBOUR: 'it returns false'. Refute it at one input. -/
def fnExactGrowThreeWrong : ChangeSpec := { name := "fnExactGrowThree", fn := fun _ => fun
  | [d1, d2] => { results := [.lit (.bool false)], args := [d1, d2] }
  | _ => none }
def FnExactGrowThreeWrongFalsely : Prop := fnExactGrowThreeRow.holds Try.pinned (OpenSpec.ofChange fnExactGrowThreeWrong)

/-- 'laws.FnExactPegsOfGrown': WHATEVER THE INPUT: true; the input reads as it did. -/
def fnExactPegsOfGrownSpec : ChangeSpec := { name := "fnExactPegsOfGrown", fn := fun _ => fun
  | [d1, d2] => { results := [.lit (.bool true)], args := [d1, d2] }
  | _ => none }
def fnExactPegsOfGrownRow : OpenClaim := { program := "ytnkfeapdcjnnkaa", sum := "69f563536a59181b70af890963dd0946cd87099a2271af3e382b5f2ed898547b", func := "loop.example/g01259/laws.FnExactPegsOfGrown", spec := "fnExactPegsOfGrown", unfollowed := true, recurses := true, apart := false }
def FnExactPegsOfGrownSaid : Prop := fnExactPegsOfGrownRow.holds Try.pinned (OpenSpec.ofChange fnExactPegsOfGrownSpec)

/-- ITS FALSE NEIGHBOUR: 'it returns false'. Refute it at one input. -/
def fnExactPegsOfGrownWrong : ChangeSpec := { name := "fnExactPegsOfGrown", fn := fun _ => fun
  | [d1, d2] => { results := [.lit (.bool false)], args := [d1, d2] }
  | _ => none }
def FnExactPegsOfGrownWrongFalsely : Prop := fnExactPegsOfGrownRow.holds Try.pinned (OpenSpec.ofChange fnExactPegsOfGrownWrong)

/-- 'laws.FnExactMiddleThree': WHATEVER THE INPUT: true; the input reads as it did. -/
def fnExactMiddleThreeSpec : ChangeSpec := { name := "fnExactMiddleThree", fn := fun _ => fun
  | [d] => { results := [.lit (.bool true)], args := [d] }
  | _ => none }
def fnExactMiddleThreeRow : OpenClaim := { program := "ytnkfeapdcjnnkaa", sum := "69f563536a59181b70af890963dd0946cd87099a2271af3e382b5f2ed898547b", func := "loop.example/g01259/laws.FnExactMiddleThree", spec := "fnExactMiddleThree", apart := false }
def FnExactMiddleThreeSaid : Prop := fnExactMiddleThreeRow.holds Try.pinned (OpenSpec.ofChange fnExactMiddleThreeSpec)

/-- ITS FALSE NEIGHBOUR: 'it returns false'. Refute it at one input. -/
def fnExactMiddleThreeWrong : ChangeSpec := { name := "fnExactMiddleThree", fn := fun _ => fun
  | [d] => { results := [.lit (.bool false)], args := [d] }
  | _ => none }
def FnExactMiddleThreeWrongFalsely : Prop := fnExactMiddleThreeRow.holds Try.pinned (OpenSpec.ofChange fnExactMiddleThreeWrong)

/- THE SECOND FORM. 'bulk': how many values and letters a reading holds, each counted each time it is reached (what is shared counts as often as it is met; a slice's spare places count too). A statement '..UptoSaid' is the law's where the arguments, and the package variables that the reading takes, are together of bulk at most 1048576: NARROWER than '..Said'. Prove '..Said' where nothing that the law and all that it calls make is longer than what came in: it says more and counts as full. Else prove '..UptoSaid'. A law counts once. -/
mutual
def uptoBulk {H : Type} : DataW H → Nat
  | .lit (.string bytes) => bytes.length + 1
  | .lit _ => 1
  | .nil => 1
  | .ptr d => uptoBulk d + 1
  | .slice elems spare => uptoBulkAll elems + uptoBulkAll spare + 1
  | .agg parts => uptoBulkAll parts + 1
  | .iface _ d => uptoBulk d + 1
  | .map entries => uptoBulkEntries entries + 1
  | .held _ => 1
def uptoBulkAll {H : Type} : List (DataW H) → Nat
  | [] => 0
  | d :: r => uptoBulk d + uptoBulkAll r
def uptoBulkEntries {H : Type} : List (Lit × DataW H) → Nat
  | [] => 0
  | x :: r => uptoBulkEntry x + uptoBulkEntries r
def uptoBulkEntry {H : Type} : Lit × DataW H → Nat
  | (.string bytes, d) => bytes.length + uptoBulk d + 1
  | (_, d) => uptoBulk d + 1
 end
def uptoSmall : (H : Type) → List (DataW H) → Bool := fun _ ds => decide (uptoBulkAll ds ≤ 1048576)
def OpenSpec.upto (s : _root_.Go.ChangeSpec) : _root_.Go.OpenSpec := { _root_.Go.OpenSpec.ofChange s with cond := some uptoSmall }

/-- 'laws.FnExactHeightsOfThree', WHERE WHAT IT READS IS OF BULK AT MOST 1048576: true; the input reads as it did. -/
def fnExactHeightsOfThreeUptoRow : OpenClaim := { program := "ytnkfeapdcjnnkaa", sum := "69f563536a59181b70af890963dd0946cd87099a2271af3e382b5f2ed898547b", func := "loop.example/g01259/laws.FnExactHeightsOfThree", spec := "fnExactHeightsOfThree", apart := false, narrowed := true }
def FnExactHeightsOfThreeUptoSaid : Prop := fnExactHeightsOfThreeUptoRow.holds Try.pinned (OpenSpec.upto fnExactHeightsOfThreeSpec)

/-- 'laws.FnExactCircleOfThree', WHERE WHAT IT READS IS OF BULK AT MOST 1048576: true; the input reads as it did. -/
def fnExactCircleOfThreeUptoRow : OpenClaim := { program := "ytnkfeapdcjnnkaa", sum := "69f563536a59181b70af890963dd0946cd87099a2271af3e382b5f2ed898547b", func := "loop.example/g01259/laws.FnExactCircleOfThree", spec := "fnExactCircleOfThree", apart := false, narrowed := true }
def FnExactCircleOfThreeUptoSaid : Prop := fnExactCircleOfThreeUptoRow.holds Try.pinned (OpenSpec.upto fnExactCircleOfThreeSpec)

/-- 'laws.FnExactInCircle', WHERE WHAT IT READS IS OF BULK AT MOST 1048576: true; the input reads as it did. -/
def fnExactInCircleUptoRow : OpenClaim := { program := "ytnkfeapdcjnnkaa", sum := "69f563536a59181b70af890963dd0946cd87099a2271af3e382b5f2ed898547b", func := "loop.example/g01259/laws.FnExactInCircle", spec := "fnExactInCircle", apart := false, narrowed := true }
def FnExactInCircleUptoSaid : Prop := fnExactInCircleUptoRow.holds Try.pinned (OpenSpec.upto fnExactInCircleSpec)

/-- 'laws.FnExactPegOfParts', WHERE WHAT IT READS IS OF BULK AT MOST 1048576: true; the input reads as it did. -/
def fnExactPegOfPartsUptoRow : OpenClaim := { program := "ytnkfeapdcjnnkaa", sum := "69f563536a59181b70af890963dd0946cd87099a2271af3e382b5f2ed898547b", func := "loop.example/g01259/laws.FnExactPegOfParts", spec := "fnExactPegOfParts", apart := false, narrowed := true }
def FnExactPegOfPartsUptoSaid : Prop := fnExactPegOfPartsUptoRow.holds Try.pinned (OpenSpec.upto fnExactPegOfPartsSpec)

/-- 'laws.FnExactGrowThree', WHERE WHAT IT READS IS OF BULK AT MOST 1048576: true; the input reads as it did. -/
def fnExactGrowThreeUptoRow : OpenClaim := { program := "ytnkfeapdcjnnkaa", sum := "69f563536a59181b70af890963dd0946cd87099a2271af3e382b5f2ed898547b", func := "loop.example/g01259/laws.FnExactGrowThree", spec := "fnExactGrowThree", apart := false, narrowed := true }
def FnExactGrowThreeUptoSaid : Prop := fnExactGrowThreeUptoRow.holds Try.pinned (OpenSpec.upto fnExactGrowThreeSpec)

/-- 'laws.FnExactPegsOfGrown', WHERE WHAT IT READS IS OF BULK AT MOST 1048576: true; the input reads as it did. -/
def fnExactPegsOfGrownUptoRow : OpenClaim := { program := "ytnkfeapdcjnnkaa", sum := "69f563536a59181b70af890963dd0946cd87099a2271af3e382b5f2ed898547b", func := "loop.example/g01259/laws.FnExactPegsOfGrown", spec := "fnExactPegsOfGrown", unfollowed := true, recurses := true, apart := false, narrowed := true }
def FnExactPegsOfGrownUptoSaid : Prop := fnExactPegsOfGrownUptoRow.holds Try.pinned (OpenSpec.upto fnExactPegsOfGrownSpec)

/-- 'laws.FnExactMiddleThree', WHERE WHAT IT READS IS OF BULK AT MOST 1048576: true; the input reads as it did. -/
def fnExactMiddleThreeUptoRow : OpenClaim := { program := "ytnkfeapdcjnnkaa", sum := "69f563536a59181b70af890963dd0946cd87099a2271af3e382b5f2ed898547b", func := "loop.example/g01259/laws.FnExactMiddleThree", spec := "fnExactMiddleThree", apart := false, narrowed := true }
def FnExactMiddleThreeUptoSaid : Prop := fnExactMiddleThreeUptoRow.holds Try.pinned (OpenSpec.upto fnExactMiddleThreeSpec)

end Rows
end Go.Proofs.Ytnkfeapdcjnnkaa
