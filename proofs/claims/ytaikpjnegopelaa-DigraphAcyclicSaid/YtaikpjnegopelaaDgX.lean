/- Levels: what the program makes is good. -/
import Derived.Test.YtaikpjnegopelaaDgW
import Derived.Test.YtaikpjnegopelaaDgH
namespace Go.Proofs.Ytaikpjnegopelaa
set_option linter.unusedVariables false

theorem fwV_len (g : List (List Int)) (v : Nat) : ∀ (zs O : List Int), (fwV g v zs O).length = O.length := by
  intro zs
  induction zs with
  | nil => intro O; rfl
  | cons z zs ih =>
    intro O
    unfold fwV
    rw [ih]
    split <;> simp
theorem fwV_at (g : List (List Int)) (v : Nat) (x : Nat) (hx : x < g.length) : ∀ (zs O : List Int), O.length = g.length → (v : Int) ∉ zs → (fwV g v zs O).getD x 0 = if (x : Int) ∈ zs then max (O.getD x 0) (O.getD v 0 + 1) else O.getD x 0 := by
  intro zs
  induction zs with
  | nil => intro O _ _; simp [fwV]
  | cons z zs ih =>
    intro O hO hv
    unfold fwV
    have hv1 : (v : Int) ∉ zs := fun q => hv (List.mem_cons.2 (.inr q))
    have hvz : ¬ (v : Int) = z := fun q => hv (List.mem_cons.2 (.inl q))
    by_cases hz : 0 ≤ z ∧ z < (g.length : Int)
    · rw [if_pos hz, ih _ (by simp [hO]) hv1, getD_set_off _ z.toNat v _ _ (by omega)]
      by_cases e : x = z.toNat
      · have ez : (x : Int) = z := by omega
        have hm : (x : Int) ∈ z :: zs := List.mem_cons.2 (.inl ez)
        rw [if_pos hm, ← e, getD_set_at _ _ _ _ (by omega)]
        split <;> omega
      · have ez : ¬ (x : Int) = z := by omega
        rw [getD_set_off _ _ _ _ _ e]
        simp [ez]
    · rw [if_neg hz, ih _ hO hv1]
      have ez : ¬ (x : Int) = z := by omega
      simp [ez]
theorem fwL_len (g : List (List Int)) (L : List Int) : ∀ i, (fwL g L i).length = g.length := by
  intro i
  induction i with
  | zero => exact tab_len _ _
  | succ i ih => unfold fwL; rw [fwV_len, ih]
theorem fwL_part (g : List (List Int)) (L : List Int) (h : topG g = some L) : ∀ i, i ≤ L.length → ∀ x, x < g.length →
    0 ≤ (fwL g L i).getD x 0 ∧ (∀ k u : Nat, k < i → L.getD k 0 = u → gEdge g u x = true → (fwL g L i).getD u 0 + 1 ≤ (fwL g L i).getD x 0) ∧
    ((fwL g L i).getD x 0 = 0 ∨ ∃ k u : Nat, k < i ∧ L.getD k 0 = u ∧ u < g.length ∧ gEdge g u x = true ∧ (fwL g L i).getD x 0 = (fwL g L i).getD u 0 + 1) := by
  intro i
  induction i with
  | zero =>
    intro _ x hx
    have e : (fwL g L 0).getD x 0 = 0 := tab_at _ _ _ hx
    rw [e]
    exact ⟨Int.le_refl _, fun k u hk => by omega, .inl rfl⟩
  | succ i ih =>
    intro hi x hx
    have ih := ih (by omega)
    obtain ⟨v, h1, hvn, h3, h4⟩ := topG_before g L h i (by omega)
    -- a successor of v stands behind v
    have back : ∀ u : Nat, (u : Int) ∈ g.getD v [] → ∀ k, k ≤ i → L.getD k 0 ≠ u := by
      intro u hu k hk e
      obtain ⟨y, q1, q2, q3, q4⟩ := topG_before g L h k (by omega)
      have ey : y = u := by rw [q1] at e; omega
      subst ey
      obtain ⟨j, hj, q⟩ := q4 v hvn ((gEdge_mem g v y hvn q2).2 hu)
      rcases Nat.lt_or_ge j i with w | w
      · exact h3 j w q
      · omega
    have hvz : (v : Int) ∉ g.getD v [] := fun q => back v q i (Nat.le_refl _) h1
    obtain ⟨O, hO⟩ : ∃ O, O = fwL g L i := ⟨_, rfl⟩
    have hl : O.length = g.length := by rw [hO]; exact fwL_len g L i
    have S : ∀ y, y < g.length → (fwL g L (i + 1)).getD y 0 = if (y : Int) ∈ g.getD v [] then max (O.getD y 0) (O.getD v 0 + 1) else O.getD y 0 := by
      intro y hy
      rw [fwL, h1, Int.toNat_natCast, ← hO]
      exact fwV_at g v y hy _ O hl hvz
    rw [← hO] at ih
    have K : ∀ (k u : Nat), k ≤ i → L.getD k 0 = u → u < g.length ∧ (fwL g L (i + 1)).getD u 0 = O.getD u 0 := by
      intro k u hk e
      obtain ⟨y, q1, q2, _⟩ := topG_before g L h k (by omega)
      have ey : y = u := by rw [q1] at e; omega
      subst ey
      exact ⟨q2, by rw [S y q2, if_neg (fun q => back y q k hk e)]⟩
    obtain ⟨a1, a2, a3⟩ := ih x hx
    have b1 := (ih v hvn).1
    have Kv := (K i v (Nat.le_refl _) h1).2
    by_cases hm : (x : Int) ∈ g.getD v []
    · have Sx := S x hx
      rw [if_pos hm] at Sx
      refine ⟨by omega, fun k u hk e he => ?_, ?_⟩
      · rw [(K k u (by omega) e).2]
        rcases Nat.lt_or_ge k i with w | w
        · have := a2 k u w e he; omega
        · have ek : k = i := by omega
          subst ek
          have eu : u = v := by rw [h1] at e; omega
          subst eu; omega
      · by_cases c : O.getD v 0 + 1 ≤ O.getD x 0
        · rcases a3 with q | ⟨k, u, q1, q2, q3, q4, q5⟩
          · left; omega
          · right; exact ⟨k, u, by omega, q2, q3, q4, by rw [(K k u (by omega) q2).2]; omega⟩
        · right; exact ⟨i, v, by omega, h1, hvn, (gEdge_mem g v x hvn hx).2 hm, by rw [Kv]; omega⟩
    · have Sx := S x hx
      rw [if_neg hm] at Sx
      rw [Sx]
      refine ⟨a1, fun k u hk e he => ?_, ?_⟩
      · rw [(K k u (by omega) e).2]
        rcases Nat.lt_or_ge k i with w | w
        · exact a2 k u w e he
        · have ek : k = i := by omega
          subst ek
          have eu : u = v := by rw [h1] at e; omega
          subst eu
          exact absurd ((gEdge_mem g u x hvn hx).1 he) hm
      · rcases a3 with q | ⟨k, u, q1, q2, q3, q4, q5⟩
        · exact .inl q
        · exact .inr ⟨k, u, by omega, q2, q3, q4, by rw [(K k u (by omega) q2).2]; exact q5⟩
theorem fwL_good (g : List (List Int)) (L : List Int) (h : topG g = some L) : Good g (fwL g L L.length) := by
  intro x hx
  obtain ⟨a1, a2, a3⟩ := fwL_part g L h L.length (Nat.le_refl _) x hx
  refine ⟨a1, fun v hv he => ?_, ?_⟩
  · obtain ⟨k, hk, q⟩ := topG_all g L h v hv
    exact a2 k v hk q he
  · rcases a3 with q | ⟨k, u, q1, q2, q3, q4, q5⟩
    · exact .inl q
    · exact .inr ⟨u, q3, q4, q5⟩
end Go.Proofs.Ytaikpjnegopelaa
