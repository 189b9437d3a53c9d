/- What the order says of the edges. -/
import Derived.Test.YtaikpjnegopelaaDgS
namespace Go.Proofs.Ytaikpjnegopelaa
set_option linter.unusedVariables false

theorem nxt_rdy (g : List (List Int)) (p : List Bool) (r : Nat) : ∀ f x, nxt g p f x = some r → rdy g p r = true := by
  intro f
  induction f with
  | zero => intro x h; simp [nxt] at h
  | succ f ih =>
    intro x h
    unfold nxt at h
    by_cases q : rdy g p x = true
    · rw [if_pos q] at h; injection h with h; subst h; exact q
    · rw [if_neg q] at h; exact ih _ h
/-- All that tell a node stand before it, or bear a mark. -/
theorem topF_before (g : List (List Int)) (f : Nat) : ∀ (p : List Bool) (L : List Int), p.length = g.length → topF g f p = some L → ∀ i, i < L.length →
    ∃ x : Nat, L.getD i 0 = x ∧ x < g.length ∧ p.getD x false = false ∧ (∀ k, k < i → L.getD k 0 ≠ x) ∧ ∀ u, u < g.length → gEdge g u x = true → p.getD u false = true ∨ ∃ k, k < i ∧ L.getD k 0 = (u : Int) := by
  induction f with
  | zero => intro p L hp h i hi; simp [topF] at h; subst h; simp at hi
  | succ f ih =>
    intro p L hp h i hi
    unfold topF at h
    cases hx : nxt g p g.length 0 with
    | none => rw [hx] at h; simp at h
    | some y =>
      rw [hx] at h
      simp only [Option.map_eq_some_iff] at h
      obtain ⟨T, hT, rfl⟩ := h
      have hy := nxt_lt g p g.length 0 y hx
      have hr := nxt_rdy g p y _ _ hx
      unfold rdy at hr
      rw [Bool.and_eq_true, allT_iff] at hr
      have hpy : p.getD y false = false := by simpa using hr.1
      cases i with
      | zero =>
        refine ⟨y, rfl, by omega, hpy, fun k hk => by omega, fun u hu he => ?_⟩
        rcases hr.2 u (by omega) (by omega) with q | q
        · exact .inl q
        · rw [he] at q; cases q
      | succ i =>
        obtain ⟨x, h1, h2, h3, h4, h5⟩ := ih (p.set y true) T (by simp [hp]) hT i (by simp at hi; omega)
        have hxy : x ≠ y := fun e => by
          subst e
          rw [getD_set_at _ _ _ _ (by omega)] at h3; cases h3
        rw [getD_set_off _ _ _ _ _ hxy] at h3
        refine ⟨x, h1, h2, h3, fun k hk => ?_, fun u hu he => ?_⟩
        · cases k with
          | zero => intro e; exact hxy (by have e : (y : Int) = (x : Int) := e; omega)
          | succ k => exact h4 k (by omega)
        · rcases h5 u hu he with q | ⟨k, hk, q⟩
          · by_cases e : u = y
            · subst e; exact .inr ⟨0, by omega, rfl⟩
            · rw [getD_set_off _ _ _ _ _ e] at q; exact .inl q
          · exact .inr ⟨k + 1, by omega, q⟩
theorem topG_before (g : List (List Int)) (L : List Int) (h : topG g = some L) (i : Nat) (hi : i < L.length) :
    ∃ x : Nat, L.getD i 0 = x ∧ x < g.length ∧ (∀ k, k < i → L.getD k 0 ≠ x) ∧ ∀ u, u < g.length → gEdge g u x = true → ∃ k, k < i ∧ L.getD k 0 = (u : Int) := by
  obtain ⟨x, h1, h2, h3, h4, h5⟩ := topF_before g _ _ L (tabB_len _ _) h i hi
  refine ⟨x, h1, h2, h4, fun u hu he => ?_⟩
  rcases h5 u hu he with q | q
  · rw [tabB_at _ _ _ hu] at q; cases q
  · exact q
end Go.Proofs.Ytaikpjnegopelaa
