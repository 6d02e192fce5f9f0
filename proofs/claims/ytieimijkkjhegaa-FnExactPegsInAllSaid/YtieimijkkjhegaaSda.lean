/- contracts: the program's sum of areas -/
import Derived.Test.YtieimijkkjhegaaSd
import Derived.Test.YtieimijkkjhegaaSca
namespace Go.Proofs.Ytieimijkkjhegaa
open Go.ChangeShapes Go.WideShapes Go.ChangeAt Go.RowKit Go.Joins
set_option linter.unusedVariables false
set_option linter.unusedSimpArgs false
set_option maxRecDepth 4000
theorem sumTwiceArea_any (A : Option Addr) (c : Nat) (l : List (Int × Int)) (w : World) (hg : Good l) (hR : Rd w w.heap.size A l) :
    Calls Try.prog 100 #[.slice A l.length c, .func (.func 111) #[] #[]] w fun e w' => e = .returned (.int .i64 (areaN l)) ∧ Below w.heap.size w w' :=
  sumAround_any A c l w 111 (fun i => cr (vx l i) (vx l (i + 1))) (good_pos hg) hg.few.2 hR Try.call111
    (fun i _ => by have := cr_bd (vx_pg hg.pegs (good_pos hg) i) (vx_pg hg.pegs (good_pos hg) (i + 1)); omega)
    (fun i _ W => areaPart_any _ _ _ _ W (vx_pg hg.pegs (good_pos hg) i) (vx_pg hg.pegs (good_pos hg) (i + 1)))
end Go.Proofs.Ytieimijkkjhegaa
