/- what the laws of functions that give a list of points look at, step by step -/
import Derived.Test.YtakccbbdfcnjeaaLa
import Derived.Test.YtakccbbdfcnjeaaLx
import Derived.Test.YtakccbbdfcnjeaaKh
import Derived.Test.YtakccbbdfcnjeaaO
namespace Go.Proofs.Ytakccbbdfcnjeaa
open Go.ChangeShapes Go.WideShapes Go.ChangeAt Go.RowKit Go.Joins
set_option linter.unusedVariables false
set_option linter.unusedSimpArgs false
set_option maxRecDepth 4000
/-- a call that gives p points F and says whether there are such -/
def RetN (w : World) (p : Nat) (F : Nat → Int × Int) (b : Bool) (e : Ending) (w' : World) : Prop :=
  ∃ A c, e = .returned (.tuple #[.slice A p c, .bool b]) ∧ Below w.heap.size w w' ∧ Rw w' w.heap.size w'.heap.size A p F
theorem retN_of_L {w w' : World} {m : List (Int × Int)} {b : Bool} {e : Ending} (h : RetL w m b e w') : RetN w m.length (pt m) b e w' := by
  obtain ⟨A, c, h1, _, _, h4, h5⟩ := h
  exact ⟨A, c, h1, h4, h5⟩
theorem law_eq (m : List (Int × Int)) (hm : m.length ≤ 1048576) (W : World) (lo B lo' B' c c' : Nat) (A A' : Option Addr) (h : Rw W lo B A m.length (pt m)) (hB : B ≤ W.heap.size) (h' : Rw W lo' B' A' m.length (pt m)) (hB' : B' ≤ W.heap.size) :
    Calls Try.prog 20 #[.slice A m.length c, .slice A' m.length c'] W fun e w' => e = .returned (.bool true) ∧ Below W.heap.size W w' :=
  (eqPegS_any A A' c c' m m W hm hm (rd_more (rw_rd h) hB) (rd_more (rw_rd h') hB')).mono fun e w' hh => ⟨hh.1.trans (ret_bool (by simp)), hh.2⟩
end Go.Proofs.Ytakccbbdfcnjeaa
