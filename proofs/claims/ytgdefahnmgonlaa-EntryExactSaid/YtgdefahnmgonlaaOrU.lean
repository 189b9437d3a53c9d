/- A region that makes and fills two boxes in whatever order, by an invariant; no condition. -/
import Derived.Test.YtgdefahnmgonlaaOrT
namespace Go.Proofs.Ytgdefahnmgonlaa
open Go.RowKit
set_option linter.unusedVariables false
section
variable {P : Program} {ops : Array Oper} {Q : Exit → Act → World → Prop} {md : Region.Mode} {S : World → Prop}
def INV2 (s1 s2 : Nat) (t : TypeId) (r1 r2 z : Array Value) (w0 : World) (a0 : Act) (l : Array Bool) (a : Act) (w : World) : Prop :=
  ∃ (f1 f2 g1 g2 : Bool) (v1 v2 : Value), l = #[true, true, true, true, f1, f2, g1, g2] ∧
    a = (a0.put (some s1) v1).put (some s2) v2 ∧ w0.grownBy w none ∧ CH3 w0 w t f1 g1 v1 r1 z ∧ CH3 w0 w t f2 g2 v2 r2 z ∧
    (f1 = true → f2 = true → v1 ≠ v2) ∧ (f1 = false → g1 = false) ∧ (f2 = false → g2 = false)
theorem wp_two {r1 r2 z : Array Value} {s1 s2 : Nat} {t : TypeId} (w0 : World) (a0 : Act) (w : World)
    (step : ∀ l a w, INV2 s1 s2 t r1 r2 z w0 a0 l a w → ∀ i, i ∈ Region.ready md ops l → wpOp P ops Q i (fun a' w' => S w' ∧ INV2 s1 s2 t r1 r2 z w0 a0 (l.setIfInBounds i true) a' w') a w)
    (fin : ∀ l a w, INV2 s1 s2 t r1 r2 z w0 a0 l a w → Region.ready md ops l = [] → Q .normal a w)
    (g0 : w0.grownBy w none) (h0 : a0 = (a0.put (some s1) (a0.tmps.getD s1 undef)).put (some s2) (a0.tmps.getD s2 undef)) :
    wpAnyH P md ops Q S 4 #[true, true, true, true, false, false, false, false] a0 w :=
  wpAnyH_inv _ step fin 4 _ _ _ ⟨false, false, false, false, _, _, rfl, h0, g0, (fun e => by cases e), (fun e => by cases e), (fun e => by cases e), fun _ => rfl, fun _ => rfl⟩ (by decide)
end
end Go.Proofs.Ytgdefahnmgonlaa
