/- What the functions of package bitvec do: their walks, third part: Slice, Concat, PrefixLen; no condition but that a uint32 is one. -/
import Derived.Test.YtaiemcpkiegdiaaBvB
namespace Go.Proofs.Ytaiemcpkiegdiaa
open Go.RowKit

end Go.Proofs.Ytaiemcpkiegdiaa
