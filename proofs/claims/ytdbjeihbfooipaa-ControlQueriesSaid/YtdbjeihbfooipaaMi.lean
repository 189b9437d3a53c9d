/- A map whose keys are numbers, each with true: the set of its keys; no condition. -/
import Derived.Test.YtdbjeihbfooipaaMem
import Derived.Maps.OwnSet
import Derived.DeepKeys4
namespace Go.Proofs.Ytdbjeihbfooipaa
open Go.RowKit
set_option linter.unusedVariables false
theorem intLaw : Maps.Keyed Try.prog 3 := Maps.int_keyed Try.underlying3
def Rng (x : Int) : Prop := -9223372036854775808 ≤ x ∧ x ≤ 9223372036854775807
theorem int_key (x : Int) (h : Rng x) : keyOf Try.prog 3 (.int .i64 x) = some (.int .i64 x) := by
  have w : (Lit.int .i64 x).wf = true := by unfold Rng at h; simp [Lit.wf, IntKind.min, IntKind.max, IntKind.bits, IntKind.signed]; omega
  simp [keyOf, Try.underlying3, mapKey, w]
/-- Block b is a map that holds the numbers S, each with true. -/
def MI (w : World) (b : Nat) (S : List Int) : Prop := ∃ (D : DataW Unit) (n : Nat), w.ownsMap Try.prog 3 (plainElem Try.prog 4) b n D ∧ n ≤ S.length ∧
  ∀ p, Rng p → D.atKey (.int .i64 p) (.lit (.bool false)) = .lit (.bool (decide (p ∈ S)))
theorem MI.keep {w w2 : World} {row : Option Nat} {b : Nat} {S : List Int} (h : MI w b S) (k : w.grownBy w2 row) (hn : some b ≠ row) : MI w2 b S := by
  obtain ⟨D, n, h1, h2⟩ := h
  exact ⟨D, n, h1.kept k hn, h2⟩
theorem MI.keep0 {w w2 : World} {b : Nat} {S : List Int} (h : MI w b S) (k : w.grownBy w2 none) : MI w2 b S := h.keep k (by simp)
theorem MI.new (w : World) : MI (w.alloc (.map #[] 0)) w.heap.size [] :=
  ⟨.map [], 0, World.ownsMap_made w _ _ _, Nat.le_refl _, fun p _ => by simp [DataW.atKey]⟩
theorem MI.look {w : World} {b : Nat} {S : List Int} (h : MI w b S) (x : Int) (hx : Rng x) : (Instr.lookup 135 (.map (some b)) (.int .i64 x) false).run Try.prog w = .ok (.bool (decide (x ∈ S))) w := by
  obtain ⟨D, n, o, _, hD⟩ := h
  have hk := int_key x hx
  obtain ⟨y, ps, hr, hy⟩ := o.lookup intLaw Try.underlying135 (z := .bool false) (by kernel_rfl) (plainElem_bool Try.underlying4 false) hk
  rw [hD x hx] at hy
  have : y = .bool (decide (x ∈ S)) := by
    unfold plainElem at hy
    cases y <;> simp [Try.underlying4] at hy
    rw [hy.1]
  subst this
  exact hr
theorem MI.put {w : World} {b : Nat} {S : List Int} (h : MI w b S) (x : Int) (hx : Rng x) (hn : S.length < 100000) : ∃ w', (Instr.mapUpdate 135 (.map (some b)) (.int .i64 x) (.bool true)).run Try.prog w = .ok () w' ∧ MI w' b (S ++ [x]) ∧ w.grownBy w' (some b) := by
  obtain ⟨D, n, o, ho, hD⟩ := h
  have hk := int_key x hx
  obtain ⟨w', hr, o', g⟩ := o.update intLaw Try.underlying135 (by unfold maxLen; omega) hk (plainElem_bool Try.underlying4 true)
  refine ⟨w', hr, ⟨_, n + 1, o', by rw [List.length_append]; simp; omega, fun p hp => ?_⟩, g⟩
  by_cases e : p = x
  · subst e
    rw [Maps.atKey_put_same o.isMap (intLaw.key hk)]
    simp
  · rw [Maps.atKey_put_other (fun q => e (by injection q)), hD p hp]
    simp [e]
end Go.Proofs.Ytdbjeihbfooipaa
