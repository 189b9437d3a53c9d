/- What the functions of package patchbayref01 do: their walks, second part; no condition but that numbers are of their kind. -/
import Derived.Test.YtgknooblnpmloaaBvR
import Derived.Test.YtgknooblnpmloaaBvPureB
namespace Go.Proofs.Ytgknooblnpmloaa
open Go.RowKit

end Go.Proofs.Ytgknooblnpmloaa
