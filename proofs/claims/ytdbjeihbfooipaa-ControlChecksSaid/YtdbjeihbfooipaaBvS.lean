/- What the functions of package patchbayref01 do: their walks, second part; no condition but that numbers are of their kind. -/
import Derived.Test.YtdbjeihbfooipaaBvR
import Derived.Test.YtdbjeihbfooipaaBvPureB
namespace Go.Proofs.Ytdbjeihbfooipaa
open Go.RowKit

end Go.Proofs.Ytdbjeihbfooipaa
