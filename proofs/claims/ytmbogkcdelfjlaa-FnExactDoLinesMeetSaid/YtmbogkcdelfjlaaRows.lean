/-
  No cell of these rows narrows 'for every input' (looked for: loops, veiled, ifaces, maps, wideKeys, modest, calm, conditions, laid).
  DERIVED. THE GIVEN ROWS OF THIS SEAT. 8 by the template 'for every input the law returns true; each argument reads behind the call as it read before'; 0 by the template 'total and deterministic' (their statements: YtmbogkcdelfjlaaTotals.lean).
  GIVEN WITH THE SEED: the statements are not yours to turn. If you find one false, say at which input.
  Laid BY PROGRAM, IN A SANDBOX (cutbox-rows.mjs): the forced cells as the released guide's own fill.sh prints them over the translation b7d48c9e266ca834… (all of the seat's roots in one cut). By AI agents, Wed Nov 11 2026. No macro, syntax, notation, axiom, sorry.
-/
import Derived.Test.YtmbogkcdelfjlaaChecked
import GoSem.Claim
import GoSem.ClaimJoined
import GoSem.ClaimMapViews
import Derived.JoinedTies
import Derived.KernelRfl
namespace Go.Proofs.Ytmbogkcdelfjlaa
/- THE CELL 'sum', in the pinned program and in every row, IS THE sha256 OF THE DUMP (.gsa) THAT YtmbogkcdelfjlaaProg.lean LOADS. Nothing in Lean hashes anything: it is a label: what it is worth is what the hold of that sum in a sandbox is worth. -/
noncomputable def Try.pinned : Pinned := { name := "ytmbogkcdelfjlaa", sum := "b7d48c9e266ca8344d49b81fbc921e1a90f0d7d35c36252b14175c713312b0d4", checked := Try.checked }
namespace Rows
def none {H : Type} : Left H := { results := [], args := [] }

/-- 'laws.FnExactIsPolygon': WHATEVER THE INPUT: true; the input reads as it did. -/
def fnExactIsPolygonSpec : ChangeSpec := { name := "fnExactIsPolygon", fn := fun _ => fun
  | [d] => { results := [.lit (.bool true)], args := [d] }
  | _ => none }
def fnExactIsPolygonRow : OpenClaim := { program := "ytmbogkcdelfjlaa", sum := "b7d48c9e266ca8344d49b81fbc921e1a90f0d7d35c36252b14175c713312b0d4", func := "loop.example/g01259/laws.FnExactIsPolygon", spec := "fnExactIsPolygon", apart := false }
def FnExactIsPolygonSaid : Prop := fnExactIsPolygonRow.holds Try.pinned (OpenSpec.ofChange fnExactIsPolygonSpec)

/-- ITS FALSE NEIGHBOUR: 'it returns false'. Refute it at one input. -/
def fnExactIsPolygonWrong : ChangeSpec := { name := "fnExactIsPolygon", fn := fun _ => fun
  | [d] => { results := [.lit (.bool false)], args := [d] }
  | _ => none }
def FnExactIsPolygonWrongFalsely : Prop := fnExactIsPolygonRow.holds Try.pinned (OpenSpec.ofChange fnExactIsPolygonWrong)

/-- 'laws.FnExactDoLinesMeet': WHATEVER THE INPUT: true; the input reads as it did. -/
def fnExactDoLinesMeetSpec : ChangeSpec := { name := "fnExactDoLinesMeet", fn := fun _ => fun
  | [d1, d2, d3, d4] => { results := [.lit (.bool true)], args := [d1, d2, d3, d4] }
  | _ => none }
def fnExactDoLinesMeetRow : OpenClaim := { program := "ytmbogkcdelfjlaa", sum := "b7d48c9e266ca8344d49b81fbc921e1a90f0d7d35c36252b14175c713312b0d4", func := "loop.example/g01259/laws.FnExactDoLinesMeet", spec := "fnExactDoLinesMeet", apart := false }
def FnExactDoLinesMeetSaid : Prop := fnExactDoLinesMeetRow.holds Try.pinned (OpenSpec.ofChange fnExactDoLinesMeetSpec)

/-- ITS FALSE NEIGHBOUR: 'it returns false'. Refute it at one input. -/
def fnExactDoLinesMeetWrong : ChangeSpec := { name := "fnExactDoLinesMeet", fn := fun _ => fun
  | [d1, d2, d3, d4] => { results := [.lit (.bool false)], args := [d1, d2, d3, d4] }
  | _ => none }
def FnExactDoLinesMeetWrongFalsely : Prop := fnExactDoLinesMeetRow.holds Try.pinned (OpenSpec.ofChange fnExactDoLinesMeetWrong)

/-- 'laws.FnExactTwiceArea': WHATEVER THE INPUT: true; the input reads as it did. -/
def fnExactTwiceAreaSpec : ChangeSpec := { name := "fnExactTwiceArea", fn := fun _ => fun
  | [d] => { results := [.lit (.bool true)], args := [d] }
  | _ => none }
def fnExactTwiceAreaRow : OpenClaim := { program := "ytmbogkcdelfjlaa", sum := "b7d48c9e266ca8344d49b81fbc921e1a90f0d7d35c36252b14175c713312b0d4", func := "loop.example/g01259/laws.FnExactTwiceArea", spec := "fnExactTwiceArea", unfollowed := true, recurses := true, apart := false }
def FnExactTwiceAreaSaid : Prop := fnExactTwiceAreaRow.holds Try.pinned (OpenSpec.ofChange fnExactTwiceAreaSpec)

/-- ITS FALSE NEIGHBOUR: 'it returns false'. Refute it at one input. -/
def fnExactTwiceAreaWrong : ChangeSpec := { name := "fnExactTwiceArea", fn := fun _ => fun
  | [d] => { results := [.lit (.bool false)], args := [d] }
  | _ => none }
def FnExactTwiceAreaWrongFalsely : Prop := fnExactTwiceAreaRow.holds Try.pinned (OpenSpec.ofChange fnExactTwiceAreaWrong)

/-- 'laws.FnExactPegsOn': WHATEVER THE INPUT: true; the input reads as it did. -/
def fnExactPegsOnSpec : ChangeSpec := { name := "fnExactPegsOn", fn := fun _ => fun
  | [d] => { results := [.lit (.bool true)], args := [d] }
  | _ => none }
def fnExactPegsOnRow : OpenClaim := { program := "ytmbogkcdelfjlaa", sum := "b7d48c9e266ca8344d49b81fbc921e1a90f0d7d35c36252b14175c713312b0d4", func := "loop.example/g01259/laws.FnExactPegsOn", spec := "fnExactPegsOn", unfollowed := true, recurses := true, apart := false }
def FnExactPegsOnSaid : Prop := fnExactPegsOnRow.holds Try.pinned (OpenSpec.ofChange fnExactPegsOnSpec)

/-- ITS FALSE NEIGHBOUR: 'it returns false'. Refute it at one input. -/
def fnExactPegsOnWrong : ChangeSpec := { name := "fnExactPegsOn", fn := fun _ => fun
  | [d] => { results := [.lit (.bool false)], args := [d] }
  | _ => none }
def FnExactPegsOnWrongFalsely : Prop := fnExactPegsOnRow.holds Try.pinned (OpenSpec.ofChange fnExactPegsOnWrong)

/-- 'laws.FnExactPegsInside': WHATEVER THE INPUT: true; the input reads as it did. -/
def fnExactPegsInsideSpec : ChangeSpec := { name := "fnExactPegsInside", fn := fun _ => fun
  | [d] => { results := [.lit (.bool true)], args := [d] }
  | _ => none }
def fnExactPegsInsideRow : OpenClaim := { program := "ytmbogkcdelfjlaa", sum := "b7d48c9e266ca8344d49b81fbc921e1a90f0d7d35c36252b14175c713312b0d4", func := "loop.example/g01259/laws.FnExactPegsInside", spec := "fnExactPegsInside", unfollowed := true, recurses := true, apart := false }
def FnExactPegsInsideSaid : Prop := fnExactPegsInsideRow.holds Try.pinned (OpenSpec.ofChange fnExactPegsInsideSpec)

/-- ITS FALSE NEIGHBOUR: 'it returns false'. Refute it at one input. -/
def fnExactPegsInsideWrong : ChangeSpec := { name := "fnExactPegsInside", fn := fun _ => fun
  | [d] => { results := [.lit (.bool false)], args := [d] }
  | _ => none }
def FnExactPegsInsideWrongFalsely : Prop := fnExactPegsInsideRow.holds Try.pinned (OpenSpec.ofChange fnExactPegsInsideWrong)

/-- 'laws.FnExactMirrorPolygon': WHATEVER THE INPUT: true; the input reads as it did. -/
def fnExactMirrorPolygonSpec : ChangeSpec := { name := "fnExactMirrorPolygon", fn := fun _ => fun
  | [d] => { results := [.lit (.bool true)], args := [d] }
  | _ => none }
def fnExactMirrorPolygonRow : OpenClaim := { program := "ytmbogkcdelfjlaa", sum := "b7d48c9e266ca8344d49b81fbc921e1a90f0d7d35c36252b14175c713312b0d4", func := "loop.example/g01259/laws.FnExactMirrorPolygon", spec := "fnExactMirrorPolygon", unfollowed := true, recurses := true, apart := false }
def FnExactMirrorPolygonSaid : Prop := fnExactMirrorPolygonRow.holds Try.pinned (OpenSpec.ofChange fnExactMirrorPolygonSpec)

/-- ITS FALSE NEIGHBOUR: 'it returns false'. Refute it at one input. -/
def fnExactMirrorPolygonWrong : ChangeSpec := { name := "fnExactMirrorPolygon", fn := fun _ => fun
  | [d] => { results := [.lit (.bool false)], args := [d] }
  | _ => none }
def FnExactMirrorPolygonWrongFalsely : Prop := fnExactMirrorPolygonRow.holds Try.pinned (OpenSpec.ofChange fnExactMirrorPolygonWrong)

/-- 'laws.FnExactMovePolygon': WHATEVER THE INPUT: true; the input reads as it did. -/
def fnExactMovePolygonSpec : ChangeSpec := { name := "fnExactMovePolygon", fn := fun _ => fun
  | [d1, d2, d3] => { results := [.lit (.bool true)], args := [d1, d2, d3] }
  | _ => none }
def fnExactMovePolygonRow : OpenClaim := { program := "ytmbogkcdelfjlaa", sum := "b7d48c9e266ca8344d49b81fbc921e1a90f0d7d35c36252b14175c713312b0d4", func := "loop.example/g01259/laws.FnExactMovePolygon", spec := "fnExactMovePolygon", unfollowed := true, recurses := true, apart := false }
def FnExactMovePolygonSaid : Prop := fnExactMovePolygonRow.holds Try.pinned (OpenSpec.ofChange fnExactMovePolygonSpec)

/-- ITS FALSE NEIGHBOUR: 'it returns false'. Refute it at one input. -/
def fnExactMovePolygonWrong : ChangeSpec := { name := "fnExactMovePolygon", fn := fun _ => fun
  | [d1, d2, d3] => { results := [.lit (.bool false)], args := [d1, d2, d3] }
  | _ => none }
def FnExactMovePolygonWrongFalsely : Prop := fnExactMovePolygonRow.holds Try.pinned (OpenSpec.ofChange fnExactMovePolygonWrong)

/-- 'laws.FnExactTurnPolygon': WHATEVER THE INPUT: true; the input reads as it did. -/
def fnExactTurnPolygonSpec : ChangeSpec := { name := "fnExactTurnPolygon", fn := fun _ => fun
  | [d] => { results := [.lit (.bool true)], args := [d] }
  | _ => none }
def fnExactTurnPolygonRow : OpenClaim := { program := "ytmbogkcdelfjlaa", sum := "b7d48c9e266ca8344d49b81fbc921e1a90f0d7d35c36252b14175c713312b0d4", func := "loop.example/g01259/laws.FnExactTurnPolygon", spec := "fnExactTurnPolygon", unfollowed := true, recurses := true, apart := false }
def FnExactTurnPolygonSaid : Prop := fnExactTurnPolygonRow.holds Try.pinned (OpenSpec.ofChange fnExactTurnPolygonSpec)

/-- ITS FALSE NEIGHBOUR: 'it returns false'. Refute it at one input. -/
def fnExactTurnPolygonWrong : ChangeSpec := { name := "fnExactTurnPolygon", fn := fun _ => fun
  | [d] => { results := [.lit (.bool false)], args := [d] }
  | _ => none }
def FnExactTurnPolygonWrongFalsely : Prop := fnExactTurnPolygonRow.holds Try.pinned (OpenSpec.ofChange fnExactTurnPolygonWrong)

/- THE SECOND FORM. 'bulk': how many values and letters a reading holds, each counted each time it is reached (what is shared counts as often as it is met; a slice's spare places count too). A statement '..UptoSaid' is the law's where the arguments, and the package variables that the reading takes, are together of bulk at most 1048576: NARROWER than '..Said'. Prove '..Said' where nothing that the law and all that it calls make is longer than what came in: it says more and counts as full. Else prove '..UptoSaid'. A law counts once. -/
mutual
def uptoBulk {H : Type} : DataW H → Nat
  | .lit (.string bytes) => bytes.length + 1
  | .lit _ => 1
  | .nil => 1
  | .ptr d => uptoBulk d + 1
  | .slice elems spare => uptoBulkAll elems + uptoBulkAll spare + 1
  | .agg parts => uptoBulkAll parts + 1
  | .iface _ d => uptoBulk d + 1
  | .map entries => uptoBulkEntries entries + 1
  | .held _ => 1
def uptoBulkAll {H : Type} : List (DataW H) → Nat
  | [] => 0
  | d :: r => uptoBulk d + uptoBulkAll r
def uptoBulkEntries {H : Type} : List (Lit × DataW H) → Nat
  | [] => 0
  | x :: r => uptoBulkEntry x + uptoBulkEntries r
def uptoBulkEntry {H : Type} : Lit × DataW H → Nat
  | (.string bytes, d) => bytes.length + uptoBulk d + 1
  | (_, d) => uptoBulk d + 1
 end
def uptoSmall : (H : Type) → List (DataW H) → Bool := fun _ ds => decide (uptoBulkAll ds ≤ 1048576)
def OpenSpec.upto (s : _root_.Go.ChangeSpec) : _root_.Go.OpenSpec := { _root_.Go.OpenSpec.ofChange s with cond := some uptoSmall }

/-- 'laws.FnExactIsPolygon', WHERE WHAT IT READS IS OF BULK AT MOST 1048576: true; the input reads as it did. -/
def fnExactIsPolygonUptoRow : OpenClaim := { program := "ytmbogkcdelfjlaa", sum := "b7d48c9e266ca8344d49b81fbc921e1a90f0d7d35c36252b14175c713312b0d4", func := "loop.example/g01259/laws.FnExactIsPolygon", spec := "fnExactIsPolygon", apart := false, narrowed := true }
def FnExactIsPolygonUptoSaid : Prop := fnExactIsPolygonUptoRow.holds Try.pinned (OpenSpec.upto fnExactIsPolygonSpec)

/-- 'laws.FnExactDoLinesMeet', WHERE WHAT IT READS IS OF BULK AT MOST 1048576: true; the input reads as it did. -/
def fnExactDoLinesMeetUptoRow : OpenClaim := { program := "ytmbogkcdelfjlaa", sum := "b7d48c9e266ca8344d49b81fbc921e1a90f0d7d35c36252b14175c713312b0d4", func := "loop.example/g01259/laws.FnExactDoLinesMeet", spec := "fnExactDoLinesMeet", apart := false, narrowed := true }
def FnExactDoLinesMeetUptoSaid : Prop := fnExactDoLinesMeetUptoRow.holds Try.pinned (OpenSpec.upto fnExactDoLinesMeetSpec)

/-- 'laws.FnExactTwiceArea', WHERE WHAT IT READS IS OF BULK AT MOST 1048576: true; the input reads as it did. -/
def fnExactTwiceAreaUptoRow : OpenClaim := { program := "ytmbogkcdelfjlaa", sum := "b7d48c9e266ca8344d49b81fbc921e1a90f0d7d35c36252b14175c713312b0d4", func := "loop.example/g01259/laws.FnExactTwiceArea", spec := "fnExactTwiceArea", unfollowed := true, recurses := true, apart := false, narrowed := true }
def FnExactTwiceAreaUptoSaid : Prop := fnExactTwiceAreaUptoRow.holds Try.pinned (OpenSpec.upto fnExactTwiceAreaSpec)

/-- 'laws.FnExactPegsOn', WHERE WHAT IT READS IS OF BULK AT MOST 1048576: true; the input reads as it did. -/
def fnExactPegsOnUptoRow : OpenClaim := { program := "ytmbogkcdelfjlaa", sum := "b7d48c9e266ca8344d49b81fbc921e1a90f0d7d35c36252b14175c713312b0d4", func := "loop.example/g01259/laws.FnExactPegsOn", spec := "fnExactPegsOn", unfollowed := true, recurses := true, apart := false, narrowed := true }
def FnExactPegsOnUptoSaid : Prop := fnExactPegsOnUptoRow.holds Try.pinned (OpenSpec.upto fnExactPegsOnSpec)

/-- 'laws.FnExactPegsInside', WHERE WHAT IT READS IS OF BULK AT MOST 1048576: true; the input reads as it did. -/
def fnExactPegsInsideUptoRow : OpenClaim := { program := "ytmbogkcdelfjlaa", sum := "b7d48c9e266ca8344d49b81fbc921e1a90f0d7d35c36252b14175c713312b0d4", func := "loop.example/g01259/laws.FnExactPegsInside", spec := "fnExactPegsInside", unfollowed := true, recurses := true, apart := false, narrowed := true }
def FnExactPegsInsideUptoSaid : Prop := fnExactPegsInsideUptoRow.holds Try.pinned (OpenSpec.upto fnExactPegsInsideSpec)

/-- 'laws.FnExactMirrorPolygon', WHERE WHAT IT READS IS OF BULK AT MOST 1048576: true; the input reads as it did. -/
def fnExactMirrorPolygonUptoRow : OpenClaim := { program := "ytmbogkcdelfjlaa", sum := "b7d48c9e266ca8344d49b81fbc921e1a90f0d7d35c36252b14175c713312b0d4", func := "loop.example/g01259/laws.FnExactMirrorPolygon", spec := "fnExactMirrorPolygon", unfollowed := true, recurses := true, apart := false, narrowed := true }
def FnExactMirrorPolygonUptoSaid : Prop := fnExactMirrorPolygonUptoRow.holds Try.pinned (OpenSpec.upto fnExactMirrorPolygonSpec)

/-- 'laws.FnExactMovePolygon', WHERE WHAT IT READS IS OF BULK AT MOST 1048576: true; the input reads as it did. -/
def fnExactMovePolygonUptoRow : OpenClaim := { program := "ytmbogkcdelfjlaa", sum := "b7d48c9e266ca8344d49b81fbc921e1a90f0d7d35c36252b14175c713312b0d4", func := "loop.example/g01259/laws.FnExactMovePolygon", spec := "fnExactMovePolygon", unfollowed := true, recurses := true, apart := false, narrowed := true }
def FnExactMovePolygonUptoSaid : Prop := fnExactMovePolygonUptoRow.holds Try.pinned (OpenSpec.upto fnExactMovePolygonSpec)

/-- 'laws.FnExactTurnPolygon', WHERE WHAT IT READS IS OF BULK AT MOST 1048576: true; the input reads as it did. -/
def fnExactTurnPolygonUptoRow : OpenClaim := { program := "ytmbogkcdelfjlaa", sum := "b7d48c9e266ca8344d49b81fbc921e1a90f0d7d35c36252b14175c713312b0d4", func := "loop.example/g01259/laws.FnExactTurnPolygon", spec := "fnExactTurnPolygon", unfollowed := true, recurses := true, apart := false, narrowed := true }
def FnExactTurnPolygonUptoSaid : Prop := fnExactTurnPolygonUptoRow.holds Try.pinned (OpenSpec.upto fnExactTurnPolygonSpec)

end Rows
end Go.Proofs.Ytmbogkcdelfjlaa
