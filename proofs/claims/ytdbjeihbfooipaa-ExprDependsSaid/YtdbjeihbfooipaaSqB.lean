/- What a sort of the library leaves of a row of the call's own; no condition. -/
import Derived.Test.YtdbjeihbfooipaaMem
import Derived.Sort.Grow
namespace Go.Proofs.Ytdbjeihbfooipaa
open Go.RowKit
set_option linter.unusedVariables false
theorem putCells_size (F c : Array Value) : (Go.Sort.putCells id 0 F c).size = c.size := by simp [Go.Sort.putCells]
theorem putCells_take (F c : Array Value) (n : Nat) (hF : F.size = n) (hc : n ≤ c.size) : (Go.Sort.putCells id 0 F c).toList.take n = F.toList := by
  apply List.ext_getElem?
  intro j
  by_cases hj : j < n
  · rw [List.getElem?_take_of_lt hj]
    have h1 : j < c.size := by omega
    have h2 : j < F.size := by omega
    simp [Go.Sort.putCells, h1, hF, hj]
  · rw [List.getElem?_eq_none (by simp; omega), List.getElem?_eq_none (by simp; omega)]
/-- The world behind a sort: the row holds F, the tape is drawn from, blocks lie behind. -/
theorem sort_own {w : World} {base : Nat} {e : TypeId} {k n g cap : Nat} {xs : List Value} (h : w.ownsRow base e k (.slice (some ⟨g, 0, none⟩) n cap) n xs) (F : Array Value) (hF : F.size = n * k) (m : Nat) (os : Array Obj) :
    (Go.Sort.grow (Go.Sort.putRow id (Go.Sort.ahead w m) g 0 F) os).ownsRow base e k (.slice (some ⟨g, 0, none⟩) n cap) n F.toList ∧ w.grownBy (Go.Sort.grow (Go.Sort.putRow id (Go.Sort.ahead w m) g 0 F) os) (some g) := by
  rcases h.2 with ⟨h', _⟩ | ⟨g', cap', cur, h', hb, hg, h1, h2, h3, h4⟩
  · cases h'
  · injection h' with e1 _ e3
    injection e1 with e1
    injection e1 with e1
    subst e1 e3
    have lt : g < w.heap.size := by
      rcases Nat.lt_or_ge g w.heap.size with q | q
      · exact q
      · rw [Array.getElem?_eq_none q] at hg; cases hg
    have hs : n * k ≤ cur.size := by rw [h3]; exact Nat.mul_le_mul_right k h1
    have cell : (Go.Sort.grow (Go.Sort.putRow id (Go.Sort.ahead w m) g 0 F) os).heap[g]? = some (.cells (Go.Sort.putCells id 0 F cur) e (0, 0)) := by
      show (((w.heap.modify g (Go.Sort.onCells (Go.Sort.putCells id 0 F))) ++ os))[g]? = _
      rw [Array.getElem?_append_left (by simpa using lt), Array.getElem?_modify, if_pos rfl, hg]
      rfl
    refine ⟨⟨by simp [hF], .inr ⟨g, cap, _, rfl, hb, cell, h1, h2, by rw [putCells_size]; exact h3, putCells_take F cur _ hF hs⟩⟩, ⟨rfl, rfl, rfl, ?_, ?_⟩⟩
    · show w.heap.size ≤ ((w.heap.modify g _) ++ os).size
      simp
    · intro i hi hne
      show (((w.heap.modify g (Go.Sort.onCells (Go.Sort.putCells id 0 F))) ++ os))[i]? = _
      rw [Array.getElem?_append_left (by simpa using hi), Array.getElem?_modify, if_neg (fun q => hne (by rw [q]))]
end Go.Proofs.Ytdbjeihbfooipaa
