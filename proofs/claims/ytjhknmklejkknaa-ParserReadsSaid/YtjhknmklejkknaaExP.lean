/- Expr: what an expression comes to, as one function of lists: plain facts; no condition. -/
import Derived.Test.YtjhknmklejkknaaGlA
namespace Go.Proofs.Ytjhknmklejkknaa
open Go.RowKit
set_option linter.unusedVariables false
/-- A node: its operator and its two numbers. -/
abbrev Nd := Int × Int × Int
/-- What a subexpression comes to: its width and its value. -/
abbrev Tm := Int × Int
abbrev Fld := ByteArray × Int
def nz : Nd := (0, 0, 0)
def fz : Fld := (⟨#[]⟩, 0)
def hz : ByteArray × List Fld := (⟨#[]⟩, [])
/-- i is an index of n elements. -/
def isX (i : Int) (n : Nat) : Bool := decide (0 ≤ i ∧ i < (n : Int))
/-- The fields of a header, or of the metadata. -/
def dfs (H : List (ByteArray × List Fld)) (M : List Fld) (h : Int) : List Fld := if h = -1 then M else if isX h H.length = true then (H.getD h.toNat hz).2 else []
/-- The values of a header, or of the metadata. -/
def vls (F : List (List Int)) (T : List Int) (h : Int) : List Int := if h = -1 then T else if isX h F.length = true then F.getD h.toNat [] else []
def validB (V : List Bool) (h : Int) : Bool := isX h V.length && V.getD h.toNat false
def openB (V : List Bool) (h : Int) : Bool := decide (h = -1) || validB V h
/-- env.Get. -/
def getE (V : List Bool) (F : List (List Int)) (T : List Int) (h f : Int) : Int := if openB V h = true ∧ isX f (vls F T h).length = true then (vls F T h).getD f.toNat 0 else 0
/-- env.Width. -/
def widE (H : List (ByteArray × List Fld)) (M : List Fld) (h f : Int) : Int :=
  if isX f (dfs H M h).length = true then (if okW ((dfs H M h).getD f.toNat fz).2 = true then ((dfs H M h).getD f.toNat fz).2 else 0) else 0
def tz : Tm := (0, 0)
end Go.Proofs.Ytjhknmklejkknaa
