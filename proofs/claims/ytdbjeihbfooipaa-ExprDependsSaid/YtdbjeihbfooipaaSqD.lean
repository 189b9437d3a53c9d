/- Expr: the reference's Headers and End; no condition but that lists are short. -/
import Derived.Test.YtdbjeihbfooipaaSqC
namespace Go.Proofs.Ytdbjeihbfooipaa
open Go.RowKit
set_option linter.unusedVariables false
/-- The headers that are asked for. -/
def vH (N : List Nd) : List Int := N.filterMap (fun x => if x.1 = 4 then some x.2.1 else none)
def lI (a b : Int) : Prop := a < b
theorem addA_len {α : Type} [DecidableEq α] (lt : α → α → Prop) [DecidableRel lt] (x : α) (l : List α) : (addA lt x l).length ≤ l.length + 1 := by
  induction l with
  | nil => simp [addA]
  | cons a l ih =>
    unfold addA
    split
    · simp; omega
    · split <;> simp
theorem allA_len {α : Type} [DecidableEq α] (lt : α → α → Prop) [DecidableRel lt] (M : List α) : (allA lt M).length ≤ M.length := by
  suffices h : ∀ (R : List α), (M.foldl (fun l x => addA lt x l) R).length ≤ R.length + M.length by have := h []; simpa [allA] using this
  induction M with
  | nil => intro R; simp
  | cons y M ih => intro R; rw [List.foldl_cons]; have h1 := ih (addA lt y R); have h2 := addA_len lt y R; simp; omega
theorem take_nd (N : List Nd) (i : Nat) (h : i < N.length) : N.take (i + 1) = N.take i ++ [N.getD i nz] := by
  rw [List.take_add_one, List.getD_eq_getElem?_getD, List.getElem?_eq_getElem h]; rfl
theorem vH_len (N : List Nd) : (vH N).length ≤ N.length := List.length_filterMap_le _ _
def aHs (N : List Nd) : List Int := allA (fun a b : Int => a < b) (vH N)
theorem aHs_len (N : List Nd) : (aHs N).length ≤ N.length := Nat.le_trans (allA_len _ _) (vH_len N)
theorem aHs_yes (N : List Nd) (x : Nd) (h : x.1 = 4) : aHs (N ++ [x]) = aI x.2.1 (aHs N) := by
  unfold aHs vH
  rw [List.filterMap_append]
  simp only [List.filterMap_cons, List.filterMap_nil, h, if_true]
  exact allA_snoc _ _ _
theorem aHs_no (N : List Nd) (x : Nd) (h : ¬ x.1 = 4) : aHs (N ++ [x]) = aHs N := by
  unfold aHs vH
  rw [List.filterMap_append]
  simp only [List.filterMap_cons, List.filterMap_nil, h, if_false, List.append_nil]
end Go.Proofs.Ytdbjeihbfooipaa
