/- The examples of chapter 1 hold: the walk of awake; and the laws' own arithmetic; no condition but the ranges. -/
import Derived.Test.YtgknooblnpmloaaBvT
namespace Go.Proofs.Ytgknooblnpmloaa
open Go.RowKit

theorem ret_to {v u : Value} {W : World} {e : Ending} {w' : World} (h : v = u) (k : Ret v W e w') : Ret u W e w' := by rw [← h]; exact k
theorem i32_to {a b : Int} (h : a = b) : Value.int .u32 a = .int .u32 b := by rw [h]
theorem ib32_to {k : IntKind} {a b : Int} {c d : Bool} (h : a = b) (g : c = d) : Value.tuple #[.int k a, .bool c] = .tuple #[.int k b, .bool d] := by rw [h, g]

end Go.Proofs.Ytgknooblnpmloaa
