/- contract: do two lines meet, the model -/
import Derived.Test.YtmhdbodmpohdnaaG
import Derived.Test.YtmhdbodmpohdnaaEl
namespace Go.Proofs.Ytmhdbodmpohdnaa
open Go.ChangeShapes Go.WideShapes Go.ChangeAt Go.RowKit Go.Joins
set_option linter.unusedVariables false
set_option linter.unusedSimpArgs false
set_option maxRecDepth 4000
end Go.Proofs.Ytmhdbodmpohdnaa
