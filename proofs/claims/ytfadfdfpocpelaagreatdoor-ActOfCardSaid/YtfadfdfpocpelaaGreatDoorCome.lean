/- How the statement's arguments came in; the condition on the variable. Conditions: none. -/
import Derived.Test.YtfadfdfpocpelaaGreatDoorIn
import Derived.Test.YtfadfdfpocpelaaGreatDoorPIn
import Derived.Test.YtfadfdfpocpelaaGreatDoorLawO
namespace Go.Proofs.YtfadfdfpocpelaaGreatDoor
set_option linter.unusedSimpArgs false
set_option linter.unusedVariables false
open Go.RowKit Go.ChangeShapes Go.WideShapes

def lst : List (String × DataW Unit) := P.lst
theorem laid_in {W : World} (h : laidMetH Tryz.prog lst W) : P.Laid W := P.laid_in h
end Go.Proofs.YtfadfdfpocpelaaGreatDoor
