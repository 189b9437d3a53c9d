/- What the functions of package patchbayref01 do: their walks, third part; no condition but that numbers are of their kind. -/
import Derived.Test.YtgknooblnpmloaaBvS
namespace Go.Proofs.Ytgknooblnpmloaa
open Go.RowKit

end Go.Proofs.Ytgknooblnpmloaa
