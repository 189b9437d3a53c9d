/- Table: Bits and Key of the reference; no condition but sizes. -/
import Derived.Test.YtgdefahnmgonlaaTbK
import Derived.Test.YtgdefahnmgonlaaBvR
namespace Go.Proofs.Ytgdefahnmgonlaa
open Go.RowKit
set_option linter.unusedVariables false
theorem su_rng {l : List Int} (h : ∀ x ∈ l, 0 ≤ x ∧ x ≤ 32) : ∀ x ∈ l, -9223372036854775808 ≤ x ∧ x ≤ 9223372036854775807 := fun x hx => by have := h x hx; omega
theorem ws_small {P : Pg} (z : szT P) (t : Int) : (wsT P.H P.M (tabV P t).ks).length ≤ 1000 := by rw [ws_len]; exact (tabV_sz z t).2.1
end Go.Proofs.Ytgdefahnmgonlaa
