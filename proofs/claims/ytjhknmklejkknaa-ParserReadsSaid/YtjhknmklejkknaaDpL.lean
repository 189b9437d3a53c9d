/- Deparser: the reference: Emit, Size; no condition but sizes. -/
import Derived.Test.YtjhknmklejkknaaDpE
import Derived.BigQuiet
namespace Go.Proofs.Ytjhknmklejkknaa
open Go.RowKit
set_option linter.unusedVariables false
/-- The state of the reference's loop. -/
structure RmS (W : World) (PC EC : Array Value) (bx b8 base : Nat) (aw : Option Addr) (cw : Nat) (B : List Bool) (w : World) : Prop where
  p : IsB w bx 31 PC
  e : IsB w (bx + 1) 42 EC
  x : IsB w b8 61 #[.slice aw B.length cw]
  o : BRow w base (.slice aw B.length cw) B
  g : W.grownBy w none
  lo : W.heap.size ≤ base
  hi : base ≤ w.heap.size
  l8 : W.heap.size ≤ b8
theorem RmS.keep0 {W : World} {PC EC : Array Value} {bx b8 base cw : Nat} {aw : Option Addr} {B : List Bool} {w w2 : World} (h : RmS W PC EC bx b8 base aw cw B w) (k : w.grownBy w2 none) : RmS W PC EC bx b8 base aw cw B w2 :=
  ⟨h.p.keep0 k, h.e.keep0 k, h.x.keep0 k, own_keep0 h.o k, gb_trans h.g k, h.lo, Nat.le_trans h.hi k.size, h.l8⟩
end Go.Proofs.Ytjhknmklejkknaa
