/- Deparser: small and right; no condition. -/
import Derived.Test.YtjhknmklejkknaaGxL
import Derived.BigQuiet
namespace Go.Proofs.Ytjhknmklejkknaa
open Go.RowKit
set_option linter.unusedVariables false
/-- What a law asks of a program's sizes. -/
structure DZ (hn mn dn : Nat) (H : List (ByteArray × List Fld)) : Prop where
  h : hn ≤ 20
  d : dn ≤ 40
  m : mn ≤ 40
  f : ∀ x ∈ H, x.2.length ≤ 40
/-- What 'right' asks: sizes, and that all is valid. -/
structure RG (hn mn dn pn : Nat) (H : List (ByteArray × List Fld)) (M : List Fld) (D : List Int) (L : EL) : Prop where
  z : DZ hn mn dn H
  p : pn ≤ 2000
  e : envOk H M L
  h : hdsOk H
  d : dcOk hn D
end Go.Proofs.Ytjhknmklejkknaa
