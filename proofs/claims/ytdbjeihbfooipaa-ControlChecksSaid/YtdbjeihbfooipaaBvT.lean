/- What the functions of package patchbayref01 do: their walks, third part; no condition but that numbers are of their kind. -/
import Derived.Test.YtdbjeihbfooipaaBvS
namespace Go.Proofs.Ytdbjeihbfooipaa
open Go.RowKit

end Go.Proofs.Ytdbjeihbfooipaa
