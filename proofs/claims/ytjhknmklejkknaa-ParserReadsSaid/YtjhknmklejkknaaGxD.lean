/- Several texts in one: EvH, EvI. -/
import Derived.Test.YtjhknmklejkknaaEvF
import Derived.Test.YtjhknmklejkknaaGxB
import Derived.Test.YtjhknmklejkknaaEvC
section
namespace Go.Proofs.Ytjhknmklejkknaa
open Go.RowKit
set_option linter.unusedVariables false
def sameE (A B : EL) : Prop := A.V = B.V ∧ A.P = B.P ∧ A.T = B.T ∧ A.F = B.F
/-- An environment has the shape of a program. -/
def shP (H : List (ByteArray × List Fld)) (M : List Fld) (L : EL) : Prop := L.V.length = H.length ∧ (dclL H M).length = (L.T :: L.F).length ∧ ∀ i, i < (dclL H M).length → ((dclL H M).getD i []).length = ((L.T :: L.F).getD i []).length
end Go.Proofs.Ytjhknmklejkknaa
end
section
namespace Go.Proofs.Ytjhknmklejkknaa
open Go.RowKit
set_option linter.unusedVariables false
def ftP (D : List (List Fld)) (R : List (List Int)) : Prop := ∀ i, i < D.length → ∀ j, j < (D.getD i []).length → (R.getD i []).getD j 0 ≤ mkB ((D.getD i []).getD j fz).2
def zrP (L : EL) : Prop := ∀ h, h < L.F.length → L.V.getD h false = true ∨ (L.F.getD h []).any (fun v => v != 0) = false
end Go.Proofs.Ytjhknmklejkknaa
end
