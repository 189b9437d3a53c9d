/- Env: equality of rows; the declarations and the values as lists of lists; no condition but sizes. -/
import Derived.Test.YtjhknmklejkknaaGxB
import Derived.Deep.Slices
namespace Go.Proofs.Ytjhknmklejkknaa
open Go.RowKit Go.Deep
set_option linter.unusedVariables false
theorem SY.some {w : World} {a : Option Addr} {n c : Nat} {L : List Int} (h : SY w a n c L) (hn : 0 < n) : ∃ ad, a = some ad := by
  cases a with
  | none => have := (h.slr.2.1 rfl).1; omega
  | some ad => exact ⟨ad, rfl⟩
theorem SY.cells {w : World} {a : Option Addr} {n c : Nat} {L : List Int} (h : SY w a n c L) : ∀ ad, a = .some ad → ∀ j, j < n → w.cell? (ad.add j) = .some (.int .u8 (L.getD j 0)) := by
  intro ad e j hj
  subst e
  exact h.slr.cellAt j (by rw [h.len]; exact hj)
/-- A slice of slices of fields. -/
structure SFF (w : World) (a : Option Addr) (n c : Nat) (D : List (List Fld)) : Prop where
  len : D.length = n
  nil : a = none → n = 0 ∧ c = 0
  cap : n ≤ c
  cells : ∀ ad, a = some ad → ∀ j, j < n → ∃ fa fn fc, w.cell? (ad.add j) = some (.slice fa fn fc) ∧ SF w fa fn fc (D.getD j [])
theorem SFF.keep0 {w w2 : World} {a : Option Addr} {n c : Nat} {D : List (List Fld)} (h : SFF w a n c D) (k : w.grownBy w2 none) : SFF w2 a n c D :=
  ⟨h.len, h.nil, h.cap, fun ad e j hj => by obtain ⟨fa, fn, fc, h1, h2⟩ := h.cells ad e j hj; exact ⟨fa, fn, fc, k.cell h1 (by simp), h2.keep0 k⟩⟩
theorem SFF.some {w : World} {a : Option Addr} {n c : Nat} {D : List (List Fld)} (h : SFF w a n c D) (hn : 0 < n) : ∃ ad, a = some ad := by
  cases a with
  | none => have := (h.nil rfl).1; omega
  | some ad => exact ⟨ad, rfl⟩
/-- Heads that lead to fields. -/
def RF (w : World) (Vs : List Value) (D : List (List Fld)) : Prop := Vs.length = D.length ∧ ∀ j, j < D.length → ∃ fa fn fc, Vs.getD j nilV = .slice fa fn fc ∧ SF w fa fn fc (D.getD j [])
theorem RF.add {w : World} {Vs : List Value} {D : List (List Fld)} (h : RF w Vs D) {fa : Option Addr} {fn fc : Nat} {l : List Fld} (s : SF w fa fn fc l) : RF w (Vs ++ [.slice fa fn fc]) (D ++ [l]) := by
  refine ⟨by simp [h.1], fun j hj => ?_⟩
  by_cases e : j < D.length
  · obtain ⟨ga, gn, gc, h1, h2⟩ := h.2 j e
    refine ⟨ga, gn, gc, ?_, ?_⟩
    · rw [List.getD_eq_getElem?_getD, List.getElem?_append_left (by rw [h.1]; exact e), ← List.getD_eq_getElem?_getD]; exact h1
    · rw [List.getD_eq_getElem?_getD, List.getElem?_append_left e, ← List.getD_eq_getElem?_getD]; exact h2
  · simp at hj
    obtain rfl : j = D.length := by omega
    refine ⟨fa, fn, fc, ?_, ?_⟩
    · rw [List.getD_eq_getElem?_getD, List.getElem?_append_right (by rw [h.1]; omega)]; simp [h.1]
    · rw [List.getD_eq_getElem?_getD, List.getElem?_append_right (Nat.le_refl _)]; simpa using s
/-- The declarations of the metadata and of the headers. -/
def dclL (H : List (ByteArray × List Fld)) (M : List Fld) : List (List Fld) := M :: H.map (·.2)
theorem dcl_len (H : List (ByteArray × List Fld)) (M : List Fld) : (dclL H M).length = H.length + 1 := by simp [dclL]
end Go.Proofs.Ytjhknmklejkknaa
