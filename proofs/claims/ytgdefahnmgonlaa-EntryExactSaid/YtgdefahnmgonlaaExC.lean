/- Expr: env.Get, whether a field exists; the walk's block, and what its leaves come to; no condition. -/
import Derived.Test.YtgdefahnmgonlaaExB
namespace Go.Proofs.Ytgdefahnmgonlaa
open Go.RowKit
set_option linter.unusedVariables false
end Go.Proofs.Ytgdefahnmgonlaa
