/- Levels: what the reference makes is good, so both are the same. -/
import Derived.Test.YtaikpjnegopelaaDgX
namespace Go.Proofs.Ytaikpjnegopelaa
set_option linter.unusedVariables false

theorem lvIn_off (g : List (List Int)) (x y : Nat) (o : List Int) (hy : y ≠ x) : ∀ v, (lvIn g x o v).getD y 0 = o.getD y 0 := by
  intro v
  induction v with
  | zero => rfl
  | succ v ih =>
    unfold lvIn
    split
    · rw [getD_set_off _ _ _ _ _ hy, ih]
    · exact ih
theorem lvIn_at (g : List (List Int)) (x : Nat) (o : List Int) (hx : x < o.length) (hs : gEdge g x x = false) (h0 : o.getD x 0 = 0) : ∀ v,
    0 ≤ (lvIn g x o v).getD x 0 ∧ (∀ u : Nat, u < v → gEdge g u x = true → o.getD u 0 + 1 ≤ (lvIn g x o v).getD x 0) ∧ ((lvIn g x o v).getD x 0 = 0 ∨ ∃ u : Nat, u < v ∧ gEdge g u x = true ∧ (lvIn g x o v).getD x 0 = o.getD u 0 + 1) := by
  intro v
  induction v with
  | zero => exact ⟨by show 0 ≤ o.getD x 0; omega, fun u hu => by omega, .inl h0⟩
  | succ v ih =>
    obtain ⟨a1, a2, a3⟩ := ih
    by_cases he : gEdge g v x = true
    · have hv : v ≠ x := fun e => by subst e; rw [hs] at he; cases he
      have S : (lvIn g x o (v + 1)).getD x 0 = max ((lvIn g x o v).getD x 0) (o.getD v 0 + 1) := by
        rw [lvIn, if_pos he, getD_set_at _ _ _ _ (by rw [lvIn_len]; exact hx), lvIn_off g x v o hv]
      rw [S]
      refine ⟨by omega, fun u hu hue => ?_, ?_⟩
      · by_cases e : u = v
        · subst e; omega
        · have := a2 u (by omega) hue; omega
      · by_cases c : o.getD v 0 + 1 ≤ (lvIn g x o v).getD x 0
        · rcases a3 with q | ⟨u, q1, q2, q3⟩
          · left; omega
          · right; exact ⟨u, by omega, q2, by omega⟩
        · right; exact ⟨v, by omega, he, by omega⟩
    · have S : (lvIn g x o (v + 1)).getD x 0 = (lvIn g x o v).getD x 0 := by rw [lvIn, if_neg he]
      rw [S]
      refine ⟨a1, fun u hu hue => ?_, ?_⟩
      · by_cases e : u = v
        · subst e; exact absurd hue he
        · exact a2 u (by omega) hue
      · rcases a3 with q | ⟨u, q1, q2, q3⟩
        · exact .inl q
        · exact .inr ⟨u, by omega, q2, q3⟩
theorem lvL_part (g : List (List Int)) (L : List Int) (h : topG g = some L) : ∀ i, i ≤ L.length →
    (∀ x : Nat, x < g.length → (∀ k, k < i → L.getD k 0 ≠ x) → (lvL g L i).getD x 0 = 0) ∧
    ∀ k, k < i → ∀ x : Nat, L.getD k 0 = x → 0 ≤ (lvL g L i).getD x 0 ∧ (∀ v, v < g.length → gEdge g v x = true → (lvL g L i).getD v 0 + 1 ≤ (lvL g L i).getD x 0) ∧ ((lvL g L i).getD x 0 = 0 ∨ ∃ v, v < g.length ∧ gEdge g v x = true ∧ (lvL g L i).getD x 0 = (lvL g L i).getD v 0 + 1) := by
  intro i
  induction i with
  | zero => intro _; exact ⟨fun x hx _ => tab_at _ _ _ hx, fun k hk => by omega⟩
  | succ i ih =>
    intro hi
    obtain ⟨ih1, ih2⟩ := ih (by omega)
    obtain ⟨x, h1, hxn, h3, h4⟩ := topG_before g L h i (by omega)
    obtain ⟨O, hO⟩ : ∃ O, O = lvL g L i := ⟨_, rfl⟩
    have hl : O.length = g.length := by rw [hO]; exact lvL_len g L i
    rw [← hO] at ih1 ih2
    have E : lvL g L (i + 1) = lvIn g x O g.length := by rw [lvL, h1, Int.toNat_natCast, ← hO]
    have ne : ∀ v : Nat, v < g.length → gEdge g v x = true → v ≠ x := fun v hv he e => by
      obtain ⟨k, hk, q⟩ := h4 v hv he
      exact h3 k hk (by rw [q, e])
    have hs : gEdge g x x = false := by
      cases q : gEdge g x x with
      | false => rfl
      | true => exact absurd rfl (ne x hxn q)
    have A := lvIn_at g x O (by omega) hs (ih1 x hxn h3) g.length
    have B : ∀ y, y ≠ x → (lvL g L (i + 1)).getD y 0 = O.getD y 0 := fun y hy => by rw [E]; exact lvIn_off g x y O hy _
    rw [← E] at A
    refine ⟨fun y hy hk => ?_, fun k hk y hy => ?_⟩
    · have e : y ≠ x := fun e => hk i (by omega) (by rw [h1, e])
      rw [B y e]
      exact ih1 y hy fun k hk2 => hk k (by omega)
    · by_cases e : k = i
      · subst e
        have ey : y = x := by rw [h1] at hy; omega
        subst ey
        refine ⟨A.1, fun v hv he => ?_, ?_⟩
        · rw [B v (ne v hv he)]; exact A.2.1 v hv he
        · rcases A.2.2 with q | ⟨u, q1, q2, q3⟩
          · exact .inl q
          · exact .inr ⟨u, q1, q2, by rw [B u (ne u q1 q2)]; exact q3⟩
      · have hki : k < i := by omega
        have eyx : y ≠ x := fun e => h3 k hki (by rw [hy, e])
        obtain ⟨z, p1, p2, p3, p4⟩ := topG_before g L h k (by omega)
        have ez : z = y := by rw [hy] at p1; omega
        subst ez
        have ne2 : ∀ v : Nat, v < g.length → gEdge g v z = true → v ≠ x := fun v hv he e => by
          obtain ⟨j, hj, q⟩ := p4 v hv he
          exact h3 j (by omega) (by rw [q, e])
        have C := ih2 k hki z hy
        rw [B z eyx]
        refine ⟨C.1, fun v hv he => ?_, ?_⟩
        · rw [B v (ne2 v hv he)]; exact C.2.1 v hv he
        · rcases C.2.2 with q | ⟨u, q1, q2, q3⟩
          · exact .inl q
          · exact .inr ⟨u, q1, q2, by rw [B u (ne2 u q1 q2)]; exact q3⟩
theorem lvL_good (g : List (List Int)) (L : List Int) (h : topG g = some L) : Good g (lvL g L L.length) := by
  intro x hx
  obtain ⟨k, hk, q⟩ := topG_all g L h x hx
  exact (lvL_part g L h L.length (Nat.le_refl _)).2 k hk x q
theorem fwG_eq (g : List (List Int)) : fwG g = levG g := by
  unfold fwG levG
  cases h : topG g with
  | none => rfl
  | some L => exact Good.same h (fwL_good g L h) (lvL_good g L h) (fwL_len g L _) (lvL_len g L _)
end Go.Proofs.Ytaikpjnegopelaa
