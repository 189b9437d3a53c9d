/- The reference's order of fields and a field added; no condition but that lists are short. -/
import Derived.Test.YtdbjeihbfooipaaSqI
namespace Go.Proofs.Ytdbjeihbfooipaa
open Go.RowKit
set_option linter.unusedVariables false
theorem drop_f (L : List (Int × Int)) (i : Nat) (h : i < L.length) : L.drop i = L.getD i rz :: L.drop (i + 1) := by
  rw [List.drop_eq_getElem_cons h, List.getD_eq_getElem?_getD, List.getElem?_eq_getElem h]; rfl
def aR (x : Int × Int) (L : List (Int × Int)) : List (Int × Int) := addA ltR x L
theorem aR_nil (x : Int × Int) : aR x [] = [x] := rfl
theorem aR_lt (x y : Int × Int) (l : List (Int × Int)) (h : ltR y x) : aR x (y :: l) = y :: aR x l := by unfold aR; rw [addA, if_pos h]
theorem aR_eq (y : Int × Int) (l : List (Int × Int)) : aR y (y :: l) = y :: l := by unfold aR; rw [addA, if_neg (toR.irr y), if_pos rfl]
theorem aR_gt (x y : Int × Int) (l : List (Int × Int)) (h : ¬ ltR y x) (k : ¬ y = x) : aR x (y :: l) = x :: y :: l := by unfold aR; rw [addA, if_neg h, if_neg k]
def rstR (pl : Bool) (x : Int × Int) (L : List (Int × Int)) : List (Int × Int) := if pl = true then L else aR x L
end Go.Proofs.Ytdbjeihbfooipaa
