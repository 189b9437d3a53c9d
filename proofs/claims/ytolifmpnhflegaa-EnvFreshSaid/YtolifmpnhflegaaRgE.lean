/- Register: equality of contents on both sides; no condition but sizes. -/
import Derived.Test.YtolifmpnhflegaaRgD
namespace Go.Proofs.Ytolifmpnhflegaa
open Go.RowKit
set_option linter.unusedVariables false

end Go.Proofs.Ytolifmpnhflegaa
