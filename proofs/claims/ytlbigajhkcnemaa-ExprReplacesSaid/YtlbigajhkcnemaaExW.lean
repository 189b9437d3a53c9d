/- Expr: joined lists of nodes, their length under a name of its own; no condition. -/
import Derived.Test.YtlbigajhkcnemaaExT
namespace Go.Proofs.Ytlbigajhkcnemaa
open Go.RowKit
set_option linter.unusedVariables false
theorem join2_any (w : World) (a b d : Option Addr) (n c m e l f : Nat) (A B D : List Nd) (hA : SN w a n c A) (hB : SN w b m e B) (hD : SN w d l f D) (h1 : n ≤ 1000) (h2 : m ≤ 1000) (h3 : l ≤ 1000) :
    Calls Try.prog 11 #[.slice a n c, .slice b m e, .slice d l f] w (fun en w' => ∃ ra rn rc, en = .returned (.slice ra rn rc) ∧ SN w' ra rn rc (A ++ (B ++ D)) ∧ w.grownBy w' none) := by
  refine (join_any w a b d n c m e l f A B D hA hB hD h1 h2 h3).mono ?_
  rintro en w' ⟨ra, rc, h, s, g⟩
  exact ⟨ra, _, rc, h, s, g⟩
end Go.Proofs.Ytlbigajhkcnemaa
