/- Parser: the reference: run; no condition but sizes. -/
import Derived.Test.YtjhknmklejkknaaGxH
import Derived.Test.YtjhknmklejkknaaGxQ
import Derived.Test.YtjhknmklejkknaaPsF
import Derived.Test.YtjhknmklejkknaaEvO
import Derived.Test.YtjhknmklejkknaaGlC
import Derived.Test.YtjhknmklejkknaaGlA
import Derived.Deep.QuietTactic
import Derived.BigQuiet
import Derived.Deep.RegionWith
import Derived.StillTailTactics
namespace Go.Proofs.Ytjhknmklejkknaa
open Go.RowKit
set_option linter.unusedVariables false
/-- The state of the reference's run. -/
structure RRs (W : World) (b8 b9 : Nat) (ax : Option Addr) (n9 cx : Nat) (bs : List Int) (X : EX) (L : EL) (Vs : List Value) (pos : Nat) (E : Value) (st : List Int) (w : World) : Prop where
  e : IsB w b8 42 #[.slice X.va X.vn X.vc, .slice X.fa X.fn X.fc, .slice X.ta X.tn X.tc, .slice X.pa X.pn X.pc]
  r : IsB w b9 122 #[.slice ax n9 cx, .int .i64 pos]
  pk : OE w W.heap.size X L Vs
  en : NL w W.heap.size E st
  rw : w.ownsRow W.heap.size 5 1 (.slice ax bs.length cx) bs.length (bs.map (Value.int .u8))
  g : W.grownBy w none
  l8 : W.heap.size ≤ b8
  l9 : W.heap.size ≤ b9
theorem RRs.keep0 {W : World} {b8 b9 : Nat} {ax : Option Addr} {n9 cx : Nat} {bs : List Int} {X : EX} {L : EL} {Vs : List Value} {pos : Nat} {E : Value} {st : List Int} {w : World} {w2 : World} (h : RRs W b8 b9 ax n9 cx bs X L Vs pos E st w) (k : w.grownBy w2 none) : RRs W b8 b9 ax n9 cx bs X L Vs pos E st w2 :=
  ⟨h.e.keep0 k, h.r.keep0 k, h.pk.keep0 k, own_keep0 h.en k, own_keep0 h.rw k, gb_trans h.g k, h.l8, h.l9⟩
theorem RRs.push {W : World} {b8 b9 : Nat} {ax : Option Addr} {n9 cx : Nat} {bs : List Int} {X : EX} {L : EL} {Vs : List Value} {pos : Nat} {E : Value} {st : List Int} {w : World} {w2 : World} {E2 : Value} {st2 : List Int} (h : RRs W b8 b9 ax n9 cx bs X L Vs pos E st w) (k : w.grownBy w2 E.ownBlock) (q : NL w2 W.heap.size E2 st2) : RRs W b8 b9 ax n9 cx bs X L Vs pos E2 st2 w2 :=
  ⟨isb_past h.e h.en (by decide) k, isb_past h.r h.en (by decide) k, h.pk.kI h.en k, q, own_beyond h.rw h.en (by decide) k, gb_own2 h.g h.en (Nat.le_refl _) k, h.l8, h.l9⟩
end Go.Proofs.Ytjhknmklejkknaa
