/- Env: Clone, withHeader, Set, AddHeader, RemoveHeader; no condition but sizes. -/
import Derived.Test.YtjhknmklejkknaaEvC
import Derived.Test.YtjhknmklejkknaaGxB
namespace Go.Proofs.Ytjhknmklejkknaa
open Go.RowKit
set_option linter.unusedVariables false
theorem oe_store {w : World} {base b : Nat} {X : EX} {L : EL} {Vs : List Value} {x0 x1 x2 x3 : Value} (h : OE w base X L Vs) (hb : IsB w b 42 #[x0, x1, x2, x3]) :
    ∃ W', W' = ((((w.setCell ⟨b, 0, none⟩ (.slice X.va X.vn X.vc)).setCell ⟨b, 1, none⟩ (.slice X.fa X.fn X.fc)).setCell ⟨b, 2, none⟩ (.slice X.ta X.tn X.tc)).setCell ⟨b, 3, none⟩ (.slice X.pa X.pn X.pc)) ∧ OE W' base X L Vs ∧ IsB W' b 42 #[.slice X.va X.vn X.vc, .slice X.fa X.fn X.fc, .slice X.ta X.tn X.tc, .slice X.pa X.pn X.pc] := by
  refine ⟨_, rfl, ?_, (((hb.set 0 _).set 1 _).set 2 _).set 3 _⟩
  have j1 := hb.set 0 (.slice X.va X.vn X.vc)
  have j2 := j1.set 1 (.slice X.fa X.fn X.fc)
  have j3 := j2.set 2 (.slice X.ta X.tn X.tc)
  have kp : ∀ {e : TypeId} {base : Nat} {v : Value} {n : Nat} {xs : List Value}, w.ownsRow base e 1 v n xs → e ≠ 42 → World.ownsRow ((((w.setCell ⟨b, 0, none⟩ (.slice X.va X.vn X.vc)).setCell ⟨b, 1, none⟩ (.slice X.fa X.fn X.fc)).setCell ⟨b, 2, none⟩ (.slice X.ta X.tn X.tc)).setCell ⟨b, 3, none⟩ (.slice X.pa X.pn X.pc)) base e 1 v n xs := fun h hn =>
    own_keepS (own_keepS (own_keepS (own_keepS h (gb_set _ _ _ _) hb hn) (gb_set _ _ _ _) j1 hn) (gb_set _ _ _ _) j2 hn) (gb_set _ _ _ _) j3 hn
  exact ⟨kp h.v (by decide), ⟨kp h.f.out (by decide), fun x hx => kp (h.f.own x hx) (by decide), h.f.dis, h.f.rng⟩, kp h.t (by decide), kp h.p (by decide), h.vl, h.fl, h.tl, h.pl, h.trng, h.prng, h.dis⟩
end Go.Proofs.Ytjhknmklejkknaa
