/- Expr: the reference's AddInt, Headers, End; no condition but that lists are short. -/
import Derived.Test.YtdbjeihbfooipaaExWo
import Derived.Test.YtdbjeihbfooipaaExV
import Derived.Test.YtdbjeihbfooipaaSqA
import Derived.BigQuiet
namespace Go.Proofs.Ytdbjeihbfooipaa
open Go.RowKit
set_option linter.unusedVariables false
/-- A row of numbers of the call's own is returned. -/
def RetNX (L : List Int) (w : World) (e : Ending) (w' : World) : Prop := ∃ a c, e = .returned (.slice a L.length c) ∧ NL w' w.heap.size (.slice a L.length c) L ∧ w.grownBy w' none
theorem drop_one (L : List Int) (i : Nat) (h : i < L.length) : L.drop i = L.getD i 0 :: L.drop (i + 1) := by
  rw [List.drop_eq_getElem_cons h, List.getD_eq_getElem?_getD, List.getElem?_eq_getElem h]; rfl
def aI (x : Int) (L : List Int) : List Int := addA (fun a b : Int => a < b) x L
theorem aI_nil (x : Int) : aI x [] = [x] := rfl
theorem aI_lt (x y : Int) (l : List Int) (h : y < x) : aI x (y :: l) = y :: aI x l := by unfold aI; rw [addA, if_pos h]
theorem aI_eq (y : Int) (l : List Int) : aI y (y :: l) = y :: l := by unfold aI; rw [addA, if_neg (by omega), if_pos rfl]
theorem aI_gt (x y : Int) (l : List Int) (h : x < y) : aI x (y :: l) = x :: y :: l := by unfold aI; rw [addA, if_neg (by omega), if_neg (by omega)]
/-- What is still to come. -/
def rst (pl : Bool) (x : Int) (L : List Int) : List Int := if pl = true then L else aI x L
end Go.Proofs.Ytdbjeihbfooipaa
