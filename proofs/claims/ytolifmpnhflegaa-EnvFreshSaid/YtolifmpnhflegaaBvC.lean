/- What the functions of package bitvec do: their walks, third part: Slice, Concat, PrefixLen; no condition but that a uint32 is one. -/
import Derived.Test.YtolifmpnhflegaaBvB
namespace Go.Proofs.Ytolifmpnhflegaa
open Go.RowKit

end Go.Proofs.Ytolifmpnhflegaa
