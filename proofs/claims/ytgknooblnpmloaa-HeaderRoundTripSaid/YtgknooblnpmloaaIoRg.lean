/- The walk of patchbayref02's Pack; no condition but sizes. -/
import Derived.Test.YtgknooblnpmloaaIoRe
namespace Go.Proofs.Ytgknooblnpmloaa
open Go.RowKit
set_option linter.unusedVariables false

def bytesR (L : List Bool) : Int × List Int := if L.length % 8 = 0 then (0, packB L) else (10, [])
theorem rbytes_any (w : World) (base : Nat) (a : Option Addr) (c : Nat) (L : List Bool) (h : BRow w base (.slice a L.length c) L) (hn : L.length ≤ 60000) :
    Calls Try.prog 32 #[.agg #[.slice a L.length c]] w (RetE (bytesR L).1 (bytesR L).2 w) := by
  unfold bytesR
  by_cases hm : L.length % 8 = 0
  · rw [if_pos hm]; exact rbytes_even w base a c L h hn hm
  · rw [if_neg hm]; exact rbytes_odd w a c L hm

/-- What the round holds: the writer w in its block, its bits. -/
def PIn (w : World) (wb : Nat) (am : Option Addr) (cm : Nat) (M : List Bool) (w' : World) : Prop :=
  IsB w' wb 57 #[.slice am M.length cm] ∧ BRow w' w.heap.size (.slice am M.length cm) M ∧ w.grownBy w' none
theorem ps_step {w w1 w2 : World} {wb : Nat} {am : Option Addr} {cm : Nat} {M : List Bool} {p q : Addr} {x y z : Value}
    (h : w1.cell? ⟨wb, 0, none⟩ = some x ∧ w1.cell? p = some y ∧ w1.cell? q = some z ∧ PIn w wb am cm M w1) (k : w1.grownBy w2 none) :
    w2.cell? ⟨wb, 0, none⟩ = some x ∧ w2.cell? p = some y ∧ w2.cell? q = some z ∧ PIn w wb am cm M w2 :=
  ⟨cell_grown h.1 k, cell_grown h.2.1 k, cell_grown h.2.2.1 k, h.2.2.2.1.keep0 k, own_keep0 h.2.2.2.2.1 k, gb_trans h.2.2.2.2.2 k⟩
theorem ps_row {w w1 : World} {wb : Nat} {am : Option Addr} {cm : Nat} {M : List Bool} {p1 p2 p3 : Prop} (h : p1 ∧ p2 ∧ p3 ∧ PIn w wb am cm M w1) : BRow w1 w.heap.size (.slice am M.length cm) M := h.2.2.2.2.1
theorem ps_size {w w1 : World} {wb : Nat} {am : Option Addr} {cm : Nat} {M : List Bool} {p1 p2 p3 : Prop} (h : p1 ∧ p2 ∧ p3 ∧ PIn w wb am cm M w1) : w.heap.size ≤ w1.heap.size := h.2.2.2.2.2.size
theorem alloc_one {w w2 : World} {x : Value} {t : TypeId} (g : (w.drew.alloc (.cells #[x] t)).grownBy w2 none) : w2.cell? ⟨w.heap.size, 0, none⟩ = some x ∧ w2.frozen? ⟨w.heap.size, 0, none⟩ = false ∧ IsB w2 w.heap.size t #[x] := by
  have h : IsB w2 w.heap.size t #[x] := (IsB.new w.drew t #[x]).keep0 g
  exact ⟨h.cell 0, h.free 0, h⟩
theorem ps_fin1 {w w1 : World} {wb : Nat} {am : Option Addr} {cm : Nat} {M L1 : List Bool} {v : Value} {o : Obj} {p1 p2 p3 : Prop} (b : BRow w1 w.heap.size v L1) (h : p1 ∧ p2 ∧ p3 ∧ PIn w wb am cm M (w1.alloc o)) : BRow (w1.alloc o) w.heap.size v L1 := own_keep0 b (gb_alloc _ _ _)
theorem ps_fin2 {w w1 : World} {wb g : Nat} {am : Option Addr} {cm : Nat} {M L1 : List Bool} {v u : Value} {cs : Array Value} {p1 p2 p3 : Prop} (b : BRow w1 w.heap.size v L1) (yb : IsB w1 g 57 cs) (h : p1 ∧ p2 ∧ p3 ∧ PIn w wb am cm M (w1.setCell ⟨g, 0, none⟩ u)) : BRow (w1.setCell ⟨g, 0, none⟩ u) w.heap.size v L1 := own_keepS b (gb_set _ _ _ _) yb (by decide)

end Go.Proofs.Ytgknooblnpmloaa
