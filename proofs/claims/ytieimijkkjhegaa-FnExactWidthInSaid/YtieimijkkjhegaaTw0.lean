/- contracts: BoxOfThree, on both sides -/
import Derived.Test.YtieimijkkjhegaaTe
import Derived.Test.YtieimijkkjhegaaRt
import Derived.Test.YtieimijkkjhegaaTwx
import Derived.Test.YtieimijkkjhegaaTwz
import Derived.BigRegion
import Derived.OwnWalk
namespace Go.Proofs.Ytieimijkkjhegaa
open Go.ChangeShapes Go.WideShapes Go.ChangeAt Go.RowKit Go.Joins
set_option linter.unusedVariables false
set_option linter.unusedSimpArgs false
set_option maxRecDepth 4000
/-- what BoxOfThree returns -/
noncomputable def bxS (l : List (Int × Int)) (i : Nat) : Int := if tB l = true then (if i = 0 then (loN l 3).1 else if i = 1 then (loN l 3).2 else if i = 2 then (hiN l 3).1 else (hiN l 3).2) else 0
theorem l1Least_any (a b : Int) (w : World) : Calls Try.prog 113 #[.int .i64 a, .int .i64 b] w fun e w' => e = .returned (.int .i64 (min a b)) ∧ w = w' := by
  by_cases h : a < b
  all_goals
    go_enter Try.func113, Try.ntmps113
    go_wp2
    go_ret
    exact ⟨ret_int (by omega), rfl⟩
end Go.Proofs.Ytieimijkkjhegaa
