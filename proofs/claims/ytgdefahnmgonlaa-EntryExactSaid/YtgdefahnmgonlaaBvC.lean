/- What the functions of package bitvec do: their walks, third part: Slice, Concat, PrefixLen; no condition but that a uint32 is one. -/
import Derived.Test.YtgdefahnmgonlaaBvB
namespace Go.Proofs.Ytgdefahnmgonlaa
open Go.RowKit

end Go.Proofs.Ytgdefahnmgonlaa
