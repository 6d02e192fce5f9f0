/- the least and the greatest numbers of corners -/
import Derived.Test.YtieimijkkjhegaaQ
namespace Go.Proofs.Ytieimijkkjhegaa
open Go.ChangeShapes Go.WideShapes Go.ChangeAt Go.RowKit Go.Joins
set_option linter.unusedVariables false
set_option linter.unusedSimpArgs false
set_option maxRecDepth 4000
/-- the least and the greatest numbers of corner 0 and of the first k corners -/
def loN (l : List (Int × Int)) : Nat → Int × Int
  | 0 => vx l 0
  | k + 1 => (min (loN l k).1 (vx l k).1, min (loN l k).2 (vx l k).2)
def hiN (l : List (Int × Int)) : Nat → Int × Int
  | 0 => vx l 0
  | k + 1 => (max (hiN l k).1 (vx l k).1, max (hiN l k).2 (vx l k).2)
end Go.Proofs.Ytieimijkkjhegaa
