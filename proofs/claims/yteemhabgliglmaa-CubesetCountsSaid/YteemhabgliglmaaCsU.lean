/- Cubeset: a map whose keys are cubes, as the list of the cubes that it holds. -/
import Derived.Test.YteemhabgliglmaaCsT
import Derived.Maps.OwnSet
import Derived.DeepKeys4
namespace Go.Proofs.Yteemhabgliglmaa
open Go.RowKit
set_option linter.unusedVariables false

theorem cubeRow : (49 : TypeId) < Try.prog.types.size := of_decide_eq_true (by kernel_rfl)
theorem cubeWide : (match Try.prog.underlying 49 with | some (.array _ _) | some (.struct _) => true | _ => false) = true := by kernel_rfl
theorem cubeLaw : Maps.Keyed Try.prog 49 := Maps.Keyed.of_law (deep_law_laid laidOutAll (m := 2) (by omega) cubeRow (by kernel_rfl) cubeWide)
theorem cubeKT : Try.prog.keyType 49 = true := by kernel_rfl
theorem cubeSz : Try.prog.cellsOf 49 = 2 := by kernel_rfl
theorem u64Sz : Try.prog.cellsOf 33 = 1 := by kernel_rfl
theorem cubeTS : Try.prog.types.size + 1 = (Try.prog.types.size - 1) + 2 := by kernel_rfl
def cubeK (p : Nat × Nat) : Value := .agg #[.int .u64 p.1, .int .u64 p.2]
theorem cube_key (p : Nat × Nat) (h1 : B64 p.1) (h2 : B64 p.2) : ∃ kl, keyOf Try.prog 49 (cubeK p) = some kl := by
  have w1 : (Lit.int .u64 (p.1 : Int)).wf = true := by unfold B64 at h1; simp [Lit.wf, IntKind.min, IntKind.max, IntKind.bits, IntKind.signed]; omega
  have w2 : (Lit.int .u64 (p.2 : Int)).wf = true := by unfold B64 at h2; simp [Lit.wf, IntKind.min, IntKind.max, IntKind.bits, IntKind.signed]; omega
  obtain ⟨f, hf⟩ : ∃ f, Try.prog.types.size + 1 = f + 2 := ⟨_, cubeTS⟩
  have k0 : ∀ x : Nat, (Lit.int .u64 (x : Int)).wf = true → Try.prog.keyLits (f + 1) 33 [.int .u64 (x : Int)] = some [.int .u64 (x : Int)] := by
    intro x hx
    simp only [Program.keyLits, Try.underlying33, hx, and_self, if_true]
  unfold keyOf cubeK
  simp only [Try.underlying49, cubeKT, Value.formed, cubeSz, hf]
  clear hf
  generalize f = f at *
  simp [Program.keyLits, Try.underlying49, Try.underlying33, cubeSz, u64Sz, Value.cells, w1, w2]
theorem cube_key_inj (p q : Nat × Nat) (kl : Lit) (h1 : keyOf Try.prog 49 (cubeK p) = some kl) (h2 : keyOf Try.prog 49 (cubeK q) = some kl) : p = q := by
  have e := cubeLaw.inj h1 h2
  unfold cubeK at e
  simp at e
  exact Prod.ext (by omega) (by omega)
/-- Block b is a map that holds the cubes S, each with true. -/
def MB (w : World) (b : Nat) (S : List (Nat × Nat)) : Prop := ∃ (D : DataW Unit) (n : Nat), w.ownsMap Try.prog 49 (plainElem Try.prog 4) b n D ∧ n ≤ S.length ∧ Maps.size D = S.length ∧
  ∀ p kl, keyOf Try.prog 49 (cubeK p) = some kl → (Maps.has D kl = decide (p ∈ S)) ∧ D.atKey kl (.lit (.bool false)) = .lit (.bool (decide (p ∈ S)))
theorem MB.keep {w w2 : World} {row : Option Nat} {b : Nat} {S : List (Nat × Nat)} (h : MB w b S) (k : w.grownBy w2 row) (hn : some b ≠ row) : MB w2 b S := by
  obtain ⟨D, n, h1, h2⟩ := h
  exact ⟨D, n, h1.kept k hn, h2⟩
theorem MB.keep0 {w w2 : World} {b : Nat} {S : List (Nat × Nat)} (h : MB w b S) (k : w.grownBy w2 none) : MB w2 b S := h.keep k (by simp)
theorem MB.lt {w : World} {b : Nat} {S : List (Nat × Nat)} (h : MB w b S) : b < w.heap.size := by
  obtain ⟨D, n, h1, h2⟩ := h
  exact h1.lt
theorem MB.new (w : World) : MB (w.alloc (.map #[] 0)) w.heap.size [] :=
  ⟨.map [], 0, World.ownsMap_made w _ _ _, Nat.le_refl _, rfl, fun p kl _ => ⟨by simp [Maps.has], by simp [DataW.atKey]⟩⟩
theorem MB.look {w : World} {b : Nat} {S : List (Nat × Nat)} (h : MB w b S) (v m : Nat) (h1 : B64 v) (h2 : B64 m) : (Instr.lookup 75 (.map (some b)) (.agg #[.int .u64 v, .int .u64 m]) false).run Try.prog w = .ok (.bool (decide ((v, m) ∈ S))) w := by
  obtain ⟨D, n, o, _, _, hD⟩ := h
  obtain ⟨kl, hk⟩ := cube_key (v, m) h1 h2
  obtain ⟨x, ps, hr, hx⟩ := o.lookup cubeLaw Try.underlying75 (z := .bool false) (by kernel_rfl) (plainElem_bool Try.underlying4 false) hk
  rw [(hD _ _ hk).2] at hx
  have : x = .bool (decide ((v, m) ∈ S)) := by
    unfold plainElem at hx
    cases x <;> simp [Try.underlying4] at hx
    rw [hx.1]
  subst this
  exact hr
theorem MB.len {w : World} {b : Nat} {S : List (Nat × Nat)} (h : MB w b S) (ty : TypeId) : (Builtin.len_ #[75] ty #[.map (some b)]).run Try.prog w = .ok (.int .i64 (S.length : Int)) w := by
  obtain ⟨D, n, o, _, hs, _⟩ := h
  have := o.len (ty := ty) Try.underlying75
  rwa [hs] at this
theorem MB.put {w : World} {b : Nat} {S : List (Nat × Nat)} (h : MB w b S) (v m : Nat) (h1 : B64 v) (h2 : B64 m) (hn : S.length < 100000) (hS : (v, m) ∉ S) : ∃ w', (Instr.mapUpdate 75 (.map (some b)) (.agg #[.int .u64 v, .int .u64 m]) (.bool true)).run Try.prog w = .ok () w' ∧ MB w' b (S ++ [(v, m)]) ∧ w.grownBy w' (some b) := by
  obtain ⟨D, n, o, ho, hs, hD⟩ := h
  obtain ⟨kl, hk⟩ := cube_key (v, m) h1 h2
  obtain ⟨w', hr, o', g⟩ := o.update cubeLaw Try.underlying75 (by unfold maxLen; omega) hk (plainElem_bool Try.underlying4 true)
  refine ⟨w', hr, ⟨_, n + 1, o', by rw [List.length_append]; simp; omega, ?_, ?_⟩, g⟩
  · rw [Maps.size_put (o.tidy cubeLaw), (hD _ _ hk).1, List.length_append, hs]
    simp [hS]
  · intro p kp hp
    by_cases e : kp = kl
    · subst e
      have := cube_key_inj _ _ _ hk hp
      subst this
      exact ⟨by rw [Maps.has_put_same o.isMap (cubeLaw.key hk)]; simp, by rw [Maps.atKey_put_same o.isMap (cubeLaw.key hk)]; simp⟩
    · have hne : p ≠ (v, m) := by
        intro q; subst q; rw [hk] at hp; cases hp; exact e rfl
      rw [Maps.has_put_other e, Maps.atKey_put_other e, (hD _ _ hp).1, (hD _ _ hp).2]
      simp [hne]
end Go.Proofs.Yteemhabgliglmaa
