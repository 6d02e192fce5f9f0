/- contracts: TwiceArea, PegsOn and PegsInside, on both sides -/
import Derived.Test.YtieimijkkjhegaaSc
import Derived.Test.YtieimijkkjhegaaX
namespace Go.Proofs.Ytieimijkkjhegaa
open Go.ChangeShapes Go.WideShapes Go.ChangeAt Go.RowKit Go.Joins
set_option linter.unusedVariables false
set_option linter.unusedSimpArgs false
set_option maxRecDepth 4000
def gi (b : Bool) (x : Int) : Int := if b = true then x else 0
theorem ret_tup {a b : Int} {c : Bool} (h : a = b) : Ending.returned (.tuple #[.int .i64 a, .bool c]) = .returned (.tuple #[.int .i64 b, .bool c]) := by rw [h]
theorem gi_true (x : Int) : gi true x = x := rfl
theorem gi_false (x : Int) : gi false x = 0 := rfl
theorem sumPegsOn_any (A : Option Addr) (c : Nat) (l : List (Int × Int)) (w : World) (hg : Good l) (hR : Rd w w.heap.size A l) :
    Calls Try.prog 100 #[.slice A l.length c, .func (.func 101) #[] #[]] w fun e w' => e = .returned (.int .i64 (onN l)) ∧ Below w.heap.size w w' :=
  sumAround_any A c l w 101 (fun i => stepN (vx l i).1 (vx l i).2 (vx l (i + 1)).1 (vx l (i + 1)).2) (good_pos hg) hg.few.2 hR Try.call101
    (fun i _ => by have := stepN_bd (a1 := (vx l i).1) (a2 := (vx l i).2) (b1 := (vx l (i + 1)).1) (b2 := (vx l (i + 1)).2) (vx_pg hg.pegs (good_pos hg) i) (vx_pg hg.pegs (good_pos hg) (i + 1)); omega)
    (fun i _ W => steps_any _ _ _ _ W (vx_pg hg.pegs (good_pos hg) i) (vx_pg hg.pegs (good_pos hg) (i + 1)))
end Go.Proofs.Ytieimijkkjhegaa
