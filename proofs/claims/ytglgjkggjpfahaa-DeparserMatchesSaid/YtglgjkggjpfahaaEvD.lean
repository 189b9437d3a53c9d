/- Env: the closures of Clone, Set and withHeader, and hasHeader; no condition. -/
import Derived.Test.YtglgjkggjpfahaaEvB
namespace Go.Proofs.Ytglgjkggjpfahaa
open Go.RowKit
set_option linter.unusedVariables false
def setG (rh rf v wd : Int) (h i old : Int) : Int := if h = rh ∧ i = rf then redB v wd else old
def zerG (x : Int) (h i old : Int) : Int := if h = x then 0 else old
def idG (h i old : Int) : Int := old
theorem setG_rng (rh rf v wd : Int) : ∀ h i x, 0 ≤ x → x < 4294967296 → 0 ≤ setG rh rf v wd h i x ∧ setG rh rf v wd h i x < 4294967296 := by
  intro h i x h0 h1
  unfold setG
  have := redB_range v wd
  split <;> omega
theorem zerG_rng (y : Int) : ∀ h i x, 0 ≤ x → x < 4294967296 → 0 ≤ zerG y h i x ∧ zerG y h i x < 4294967296 := by
  intro h i x h0 h1
  unfold zerG
  split <;> omega
theorem idG_rng : ∀ h i x, 0 ≤ x → x < 4294967296 → 0 ≤ idG h i x ∧ idG h i x < 4294967296 := fun h i x h0 h1 => ⟨h0, h1⟩
end Go.Proofs.Ytglgjkggjpfahaa
