/- Env: values of invalid headers, Check; no condition but sizes. -/
import Derived.Test.YtjhknmklejkknaaGxD
namespace Go.Proofs.Ytjhknmklejkknaa
open Go.RowKit
set_option linter.unusedVariables false
/-- What Check answers. -/
def chkE (H : List (ByteArray × List Fld)) (M : List Fld) (L : EL) (e : Int) : Prop := (¬ shP H M L ∧ e = 2) ∨ (shP H M L ∧ ¬ ftP (dclL H M) (L.T :: L.F) ∧ e = 9) ∨ (shP H M L ∧ ftP (dclL H M) (L.T :: L.F) ∧ ¬ zrP L ∧ e = 5) ∨ (shP H M L ∧ ftP (dclL H M) (L.T :: L.F) ∧ zrP L ∧ e = 0)
end Go.Proofs.Ytjhknmklejkknaa
