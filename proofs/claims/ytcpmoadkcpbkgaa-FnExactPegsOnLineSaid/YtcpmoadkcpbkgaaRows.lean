/-
  No cell of these rows narrows 'for every input' (looked for: loops, veiled, ifaces, maps, wideKeys, modest, calm, conditions, laid).
  DERIVED. THE GIVEN ROWS OF THIS SEAT. 4 by the template 'for every input the law returns true; each argument reads behind the call as it read before'; 0 by the template 'total and deterministic' (their statements: YtcpmoadkcpbkgaaTotals.lean).
  GIVEN WITH THE SEED: the statements are not yours to turn. If you find one false, say at which input.
  Laid BY PROGRAM, IN A SANDBOX (cutbox-rows.mjs): the forced cells as the released guide's own fill.sh prints them over the translation 6ca43839ca28a2f1… (all of the seat's roots in one cut). By AI agents, Wed Nov 11 2026. No macro, syntax, notation, axiom, sorry.
-/
import Derived.Test.YtcpmoadkcpbkgaaChecked
import GoSem.Claim
import GoSem.ClaimJoined
import GoSem.ClaimMapViews
import Derived.JoinedTies
import Derived.KernelRfl
namespace Go.Proofs.Ytcpmoadkcpbkgaa
/- THE CELL 'sum', in the pinned program and in every row, IS THE sha256 OF THE DUMP (.gsa) THAT YtcpmoadkcpbkgaaProg.lean LOADS. Nothing in Lean hashes anything: it is a label: what it is worth is what the hold of that sum in a sandbox is worth. -/
noncomputable def Try.pinned : Pinned := { name := "ytcpmoadkcpbkgaa", sum := "6ca43839ca28a2f1a8b876fd9d05cccf8de9ab9fed614754c20bf3d6079bf70c", checked := Try.checked }
namespace Rows
def none {H : Type} : Left H := { results := [], args := [] }

/-- 'laws.FnExactIsPeg': WHATEVER THE INPUT: true; the input reads as it did. -/
def fnExactIsPegSpec : ChangeSpec := { name := "fnExactIsPeg", fn := fun _ => fun
  | [d] => { results := [.lit (.bool true)], args := [d] }
  | _ => none }
def fnExactIsPegRow : OpenClaim := { program := "ytcpmoadkcpbkgaa", sum := "6ca43839ca28a2f1a8b876fd9d05cccf8de9ab9fed614754c20bf3d6079bf70c", func := "loop.example/g01259/laws.FnExactIsPeg", spec := "fnExactIsPeg", apart := false }
def FnExactIsPegSaid : Prop := fnExactIsPegRow.holds Try.pinned (OpenSpec.ofChange fnExactIsPegSpec)

/-- ITS FALSE NEIGHBOUR: 'it returns false'. Refute it at one input. -/
def fnExactIsPegWrong : ChangeSpec := { name := "fnExactIsPeg", fn := fun _ => fun
  | [d] => { results := [.lit (.bool false)], args := [d] }
  | _ => none }
def FnExactIsPegWrongFalsely : Prop := fnExactIsPegRow.holds Try.pinned (OpenSpec.ofChange fnExactIsPegWrong)

/-- 'laws.FnExactPegsOnLine': WHATEVER THE INPUT: true; the input reads as it did. -/
def fnExactPegsOnLineSpec : ChangeSpec := { name := "fnExactPegsOnLine", fn := fun _ => fun
  | [d1, d2] => { results := [.lit (.bool true)], args := [d1, d2] }
  | _ => none }
def fnExactPegsOnLineRow : OpenClaim := { program := "ytcpmoadkcpbkgaa", sum := "6ca43839ca28a2f1a8b876fd9d05cccf8de9ab9fed614754c20bf3d6079bf70c", func := "loop.example/g01259/laws.FnExactPegsOnLine", spec := "fnExactPegsOnLine", apart := false }
def FnExactPegsOnLineSaid : Prop := fnExactPegsOnLineRow.holds Try.pinned (OpenSpec.ofChange fnExactPegsOnLineSpec)

/-- ITS FALSE NEIGHBOUR: 'it returns false'. Refute it at one input. -/
def fnExactPegsOnLineWrong : ChangeSpec := { name := "fnExactPegsOnLine", fn := fun _ => fun
  | [d1, d2] => { results := [.lit (.bool false)], args := [d1, d2] }
  | _ => none }
def FnExactPegsOnLineWrongFalsely : Prop := fnExactPegsOnLineRow.holds Try.pinned (OpenSpec.ofChange fnExactPegsOnLineWrong)

/-- 'laws.FnExactIsOnLine': WHATEVER THE INPUT: true; the input reads as it did. -/
def fnExactIsOnLineSpec : ChangeSpec := { name := "fnExactIsOnLine", fn := fun _ => fun
  | [d1, d2, d3] => { results := [.lit (.bool true)], args := [d1, d2, d3] }
  | _ => none }
def fnExactIsOnLineRow : OpenClaim := { program := "ytcpmoadkcpbkgaa", sum := "6ca43839ca28a2f1a8b876fd9d05cccf8de9ab9fed614754c20bf3d6079bf70c", func := "loop.example/g01259/laws.FnExactIsOnLine", spec := "fnExactIsOnLine", apart := false }
def FnExactIsOnLineSaid : Prop := fnExactIsOnLineRow.holds Try.pinned (OpenSpec.ofChange fnExactIsOnLineSpec)

/-- ITS FALSE NEIGHBOUR: 'it returns false'. Refute it at one input. -/
def fnExactIsOnLineWrong : ChangeSpec := { name := "fnExactIsOnLine", fn := fun _ => fun
  | [d1, d2, d3] => { results := [.lit (.bool false)], args := [d1, d2, d3] }
  | _ => none }
def FnExactIsOnLineWrongFalsely : Prop := fnExactIsOnLineRow.holds Try.pinned (OpenSpec.ofChange fnExactIsOnLineWrong)

/-- 'laws.FnExactDoLinesMeet': WHATEVER THE INPUT: true; the input reads as it did. -/
def fnExactDoLinesMeetSpec : ChangeSpec := { name := "fnExactDoLinesMeet", fn := fun _ => fun
  | [d1, d2, d3, d4] => { results := [.lit (.bool true)], args := [d1, d2, d3, d4] }
  | _ => none }
def fnExactDoLinesMeetRow : OpenClaim := { program := "ytcpmoadkcpbkgaa", sum := "6ca43839ca28a2f1a8b876fd9d05cccf8de9ab9fed614754c20bf3d6079bf70c", func := "loop.example/g01259/laws.FnExactDoLinesMeet", spec := "fnExactDoLinesMeet", apart := false }
def FnExactDoLinesMeetSaid : Prop := fnExactDoLinesMeetRow.holds Try.pinned (OpenSpec.ofChange fnExactDoLinesMeetSpec)

/-- ITS FALSE NEIGHBOUR: 'it returns false'. Refute it at one input. -/
def fnExactDoLinesMeetWrong : ChangeSpec := { name := "fnExactDoLinesMeet", fn := fun _ => fun
  | [d1, d2, d3, d4] => { results := [.lit (.bool false)], args := [d1, d2, d3, d4] }
  | _ => none }
def FnExactDoLinesMeetWrongFalsely : Prop := fnExactDoLinesMeetRow.holds Try.pinned (OpenSpec.ofChange fnExactDoLinesMeetWrong)

/- THE SECOND FORM. 'bulk': how many values and letters a reading holds, each counted each time it is reached (what is shared counts as often as it is met; a slice's spare places count too). A statement '..UptoSaid' is the law's where the arguments, and the package variables that the reading takes, are together of bulk at most 1048576: NARROWER than '..Said'. Prove '..Said' where nothing that the law and all that it calls make is longer than what came in: it says more and counts as full. Else prove '..UptoSaid'. A law counts once. -/
mutual
def uptoBulk {H : Type} : DataW H → Nat
  | .lit (.string bytes) => bytes.length + 1
  | .lit _ => 1
  | .nil => 1
  | .ptr d => uptoBulk d + 1
  | .slice elems spare => uptoBulkAll elems + uptoBulkAll spare + 1
  | .agg parts => uptoBulkAll parts + 1
  | .iface _ d => uptoBulk d + 1
  | .map entries => uptoBulkEntries entries + 1
  | .held _ => 1
def uptoBulkAll {H : Type} : List (DataW H) → Nat
  | [] => 0
  | d :: r => uptoBulk d + uptoBulkAll r
def uptoBulkEntries {H : Type} : List (Lit × DataW H) → Nat
  | [] => 0
  | x :: r => uptoBulkEntry x + uptoBulkEntries r
def uptoBulkEntry {H : Type} : Lit × DataW H → Nat
  | (.string bytes, d) => bytes.length + uptoBulk d + 1
  | (_, d) => uptoBulk d + 1
 end
def uptoSmall : (H : Type) → List (DataW H) → Bool := fun _ ds => decide (uptoBulkAll ds ≤ 1048576)
def OpenSpec.upto (s : _root_.Go.ChangeSpec) : _root_.Go.OpenSpec := { _root_.Go.OpenSpec.ofChange s with cond := some uptoSmall }

/-- 'laws.FnExactIsPeg', WHERE WHAT IT READS IS OF BULK AT MOST 1048576: true; the input reads as it did. -/
def fnExactIsPegUptoRow : OpenClaim := { program := "ytcpmoadkcpbkgaa", sum := "6ca43839ca28a2f1a8b876fd9d05cccf8de9ab9fed614754c20bf3d6079bf70c", func := "loop.example/g01259/laws.FnExactIsPeg", spec := "fnExactIsPeg", apart := false, narrowed := true }
def FnExactIsPegUptoSaid : Prop := fnExactIsPegUptoRow.holds Try.pinned (OpenSpec.upto fnExactIsPegSpec)

/-- 'laws.FnExactPegsOnLine', WHERE WHAT IT READS IS OF BULK AT MOST 1048576: true; the input reads as it did. -/
def fnExactPegsOnLineUptoRow : OpenClaim := { program := "ytcpmoadkcpbkgaa", sum := "6ca43839ca28a2f1a8b876fd9d05cccf8de9ab9fed614754c20bf3d6079bf70c", func := "loop.example/g01259/laws.FnExactPegsOnLine", spec := "fnExactPegsOnLine", apart := false, narrowed := true }
def FnExactPegsOnLineUptoSaid : Prop := fnExactPegsOnLineUptoRow.holds Try.pinned (OpenSpec.upto fnExactPegsOnLineSpec)

/-- 'laws.FnExactIsOnLine', WHERE WHAT IT READS IS OF BULK AT MOST 1048576: true; the input reads as it did. -/
def fnExactIsOnLineUptoRow : OpenClaim := { program := "ytcpmoadkcpbkgaa", sum := "6ca43839ca28a2f1a8b876fd9d05cccf8de9ab9fed614754c20bf3d6079bf70c", func := "loop.example/g01259/laws.FnExactIsOnLine", spec := "fnExactIsOnLine", apart := false, narrowed := true }
def FnExactIsOnLineUptoSaid : Prop := fnExactIsOnLineUptoRow.holds Try.pinned (OpenSpec.upto fnExactIsOnLineSpec)

/-- 'laws.FnExactDoLinesMeet', WHERE WHAT IT READS IS OF BULK AT MOST 1048576: true; the input reads as it did. -/
def fnExactDoLinesMeetUptoRow : OpenClaim := { program := "ytcpmoadkcpbkgaa", sum := "6ca43839ca28a2f1a8b876fd9d05cccf8de9ab9fed614754c20bf3d6079bf70c", func := "loop.example/g01259/laws.FnExactDoLinesMeet", spec := "fnExactDoLinesMeet", apart := false, narrowed := true }
def FnExactDoLinesMeetUptoSaid : Prop := fnExactDoLinesMeetUptoRow.holds Try.pinned (OpenSpec.upto fnExactDoLinesMeetSpec)

end Rows
end Go.Proofs.Ytcpmoadkcpbkgaa
