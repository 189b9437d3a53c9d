/- Table: the reference's Get of an environment's value; no condition but sizes. -/
import Derived.Test.YtgdefahnmgonlaaExC
import Derived.Test.YtgdefahnmgonlaaBvB
namespace Go.Proofs.Ytgdefahnmgonlaa
open Go.RowKit
set_option linter.unusedVariables false
structure EL where
  V : List Bool
  F : List (List Int)
  T : List Int
  P : List Int
/-- The environment has the element. -/
def elB (F : List (List Int)) (T : List Int) (h f : Int) : Bool := isX f (vls F T h).length
end Go.Proofs.Ytgdefahnmgonlaa
