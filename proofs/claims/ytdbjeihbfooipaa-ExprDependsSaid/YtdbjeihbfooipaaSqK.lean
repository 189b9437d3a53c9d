/- Expr: the reference's Fields; no condition but that the nodes are few. -/
import Derived.Test.YtdbjeihbfooipaaSqJ
namespace Go.Proofs.Ytdbjeihbfooipaa
open Go.RowKit
set_option linter.unusedVariables false
theorem aF_len (N : List Nd) : (aF N).length ≤ N.length := Nat.le_trans (allA_len _ _) (by unfold refsL; rw [List.length_map]; exact List.length_filter_le _ _)
theorem aF_yes (N : List Nd) (x : Nd) (h : x.1 = 2) : aF (N ++ [x]) = aR x.2 (aF N) := by
  unfold aF refsL
  rw [List.filter_append, List.map_append]
  simp only [List.filter_cons, List.filter_nil, h, beq_self_eq_true, if_true, List.map_cons, List.map_nil]
  exact allA_snoc _ _ _
theorem aF_no (N : List Nd) (x : Nd) (h : ¬ x.1 = 2) : aF (N ++ [x]) = aF N := by
  unfold aF refsL
  rw [List.filter_append, List.map_append]
  simp [h]
end Go.Proofs.Ytdbjeihbfooipaa
