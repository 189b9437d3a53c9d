/- The program's ShortestPath: theory and walk. -/
import Derived.Test.YtaikpjnegopelaaDgG
namespace Go.Proofs.Ytaikpjnegopelaa
open Go.RowKit
set_option linter.unusedVariables false

def isR (n : Nat) (rank : List Int) (wanted x : Int) : Prop := 0 ≤ x ∧ x < (n : Int) ∧ rank.getD x.toNat 0 = wanted
theorem smF_fold (n : Nat) (rank : List Int) (wanted : Int) (zs : List Int) : ∀ s, (s = -1 ∨ isR n rank wanted s) →
    (zs.foldl (smF n rank wanted) s = -1 → s = -1 ∧ ∀ x ∈ zs, ¬ isR n rank wanted x) ∧
    (zs.foldl (smF n rank wanted) s ≠ -1 → isR n rank wanted (zs.foldl (smF n rank wanted) s) ∧ (s = -1 ∨ zs.foldl (smF n rank wanted) s ≤ s) ∧ (zs.foldl (smF n rank wanted) s = s ∨ zs.foldl (smF n rank wanted) s ∈ zs) ∧ ∀ x ∈ zs, isR n rank wanted x → zs.foldl (smF n rank wanted) s ≤ x) := by
  induction zs with
  | nil =>
    intro s hs
    refine ⟨fun h => ⟨h, fun x hx => by simp at hx⟩, fun h => ⟨?_, Or.inr (Int.le_refl _), Or.inl rfl, fun x hx => by simp at hx⟩⟩
    rcases hs with e | e
    · exact absurd e h
    · exact e
  | cons x t ih =>
    intro s hs
    have hc : ((0 ≤ x ∧ x < (n : Int) ∧ rank.getD x.toNat 0 = wanted ∧ (s = -1 ∨ x < s)) ∧ smF n rank wanted s x = x) ∨ (¬ (0 ≤ x ∧ x < (n : Int) ∧ rank.getD x.toNat 0 = wanted ∧ (s = -1 ∨ x < s)) ∧ smF n rank wanted s x = s) := by
      unfold smF
      by_cases c : 0 ≤ x ∧ x < (n : Int) ∧ rank.getD x.toNat 0 = wanted ∧ (s = -1 ∨ x < s)
      · rw [if_pos c]; exact Or.inl ⟨c, rfl⟩
      · rw [if_neg c]; exact Or.inr ⟨c, rfl⟩
    have hstep : smF n rank wanted s x = -1 ∨ isR n rank wanted (smF n rank wanted s x) := by
      rcases hc with ⟨c, e⟩ | ⟨c, e⟩
      · rw [e]; exact Or.inr ⟨c.1, c.2.1, c.2.2.1⟩
      · rw [e]; exact hs
    have k := ih (smF n rank wanted s x) hstep
    have e : (x :: t).foldl (smF n rank wanted) s = t.foldl (smF n rank wanted) (smF n rank wanted s x) := rfl
    rw [e]
    clear ih hstep e
    obtain ⟨s2, hs2⟩ : ∃ z, z = smF n rank wanted s x := ⟨_, rfl⟩
    rw [← hs2] at hc k ⊢
    obtain ⟨r, hr⟩ : ∃ z, z = t.foldl (smF n rank wanted) s2 := ⟨_, rfl⟩
    rw [← hr] at k ⊢
    clear hs2 hr
    constructor
    · intro h
      obtain ⟨h1, h2⟩ := k.1 h
      rcases hc with ⟨c, e⟩ | ⟨c, e⟩
      · have := c.1; omega
      · have hs1 : s = -1 := by omega
        refine ⟨hs1, fun y hy => ?_⟩
        rcases List.mem_cons.1 hy with q | q
        · subst q
          intro z
          exact c ⟨z.1, z.2.1, z.2.2, Or.inl hs1⟩
        · exact h2 y q
    · intro h
      obtain ⟨h1, h2, h3, h4⟩ := k.2 h
      refine ⟨h1, ?_, ?_, ?_⟩
      · rcases hc with ⟨c, e⟩ | ⟨c, e⟩
        · have c0 := c.1
          have c3 := c.2.2.2
          omega
        · omega
      · rcases h3 with q | q
        · rcases hc with ⟨c, e⟩ | ⟨c, e⟩
          · right; rw [q, e]; simp
          · left; rw [q, e]
        · right; simp [q]
      · intro y hy z
        rcases List.mem_cons.1 hy with q | q
        · subst q
          have z0 := z.1
          rcases hc with ⟨c, e⟩ | ⟨c, e⟩
          · omega
          · have hns : ¬ (s = -1 ∨ y < s) := fun w => c ⟨z.1, z.2.1, z.2.2, w⟩
            omega
        · exact h4 y q z
theorem firstF_min (g : List (List Int)) (d : List Int) (k : Int) (v f : Nat) : ∀ x y, x ≤ y → y ≤ x + f → okW g d k v y = true → okW g d k v (firstF g d k v f x) = true ∧ firstF g d k v f x ≤ y := by
  induction f with
  | zero =>
    intro x y h1 h2 h3
    have e : x = y := by omega
    subst e
    exact ⟨h3, Nat.le_refl _⟩
  | succ f ih =>
    intro x y h1 h2 h3
    unfold firstF
    by_cases hx : okW g d k v x = true
    · rw [if_pos hx]; exact ⟨hx, h1⟩
    · rw [if_neg hx]
      have hne : x ≠ y := by intro e; subst e; exact hx h3
      exact ih (x + 1) y (by omega) (by omega) h3
theorem gEdge_mem (g : List (List Int)) (v x : Nat) (hv : v < g.length) (hx : x < g.length) : gEdge g (v : Int) (x : Int) = true ↔ (x : Int) ∈ g.getD v [] := by
  unfold gEdge
  rw [Int.toNat_natCast, decide_eq_true_eq]
  constructor
  · exact fun k => k.2.2.2.2
  · exact fun k => ⟨by omega, by omega, by omega, by omega, k⟩
/-- The program's next node is the reference's. -/
theorem next_same (g : List (List Int)) (rank d : List Int) (wanted : Int) (v : Nat) (hv : v < g.length) (hr : ∀ x, x < g.length → (rank.getD x 0 = wanted ↔ d.getD x 0 = wanted)) (y : Nat) (hy : y < g.length) (hyo : okW g d wanted v y = true) :
    smS g rank wanted v = (firstF g d wanted v (g.length - 1) 0 : Nat) ∧ okW g d wanted v (firstF g d wanted v (g.length - 1) 0) = true ∧ firstF g d wanted v (g.length - 1) 0 < g.length := by
  have F := firstF_min g d wanted v (g.length - 1) 0 y (Nat.zero_le _) (by omega) hyo
  have hfl : firstF g d wanted v (g.length - 1) 0 < g.length := by omega
  obtain ⟨u, hu⟩ : ∃ u, u = firstF g d wanted v (g.length - 1) 0 := ⟨_, rfl⟩
  rw [← hu] at F hfl ⊢
  have ok_is : ∀ x, x < g.length → (okW g d wanted v x = true ↔ (x : Int) ∈ g.getD v [] ∧ isR g.length rank wanted (x : Int)) := by
    intro x hx
    unfold okW isR
    rw [Bool.and_eq_true, decide_eq_true_eq, gEdge_mem g v x hv hx, Int.toNat_natCast, hr x hx]
    constructor
    · exact fun h => ⟨h.2, by omega, by omega, h.1⟩
    · exact fun h => ⟨h.2.2.2, h.1⟩
  have S := smF_fold g.length rank wanted (g.getD v []) (-1) (Or.inl rfl)
  have e : smS g rank wanted v = (g.getD v []).foldl (smF g.length rank wanted) (-1) := rfl
  rw [← e] at S
  have hU := (ok_is u hfl).1 F.1
  have hne : smS g rank wanted v ≠ -1 := fun h => (S.1 h).2 _ hU.1 hU.2
  obtain ⟨s1, _, s3, s4⟩ := S.2 hne
  have hle := s4 _ hU.1 hU.2
  have hmem : smS g rank wanted v ∈ g.getD v [] := by
    rcases s3 with q | q
    · exact absurd q hne
    · exact q
  obtain ⟨x, hx⟩ : ∃ x : Nat, smS g rank wanted v = x := ⟨(smS g rank wanted v).toNat, by have := s1.1; omega⟩
  rw [hx] at s1 hmem hle ⊢
  have hxl : x < g.length := by have := s1.2.1; omega
  have hxo := (ok_is x hxl).2 ⟨hmem, s1⟩
  have F2 := firstF_min g d wanted v (g.length - 1) 0 x (Nat.zero_le _) (by omega) hxo
  rw [← hu] at F2
  have e2 : x = u := by omega
  subst e2
  exact ⟨rfl, F.1, hfl⟩
theorem desV_shift (g : List (List Int)) (rank : List Int) (first : Int) (v : Int) (i : Nat) : desV g rank first v (i + 1) = desV g rank (first - 1) (smS g rank first v.toNat) i := by
  induction i with
  | zero => show smS g rank (first - (0 : Nat)) _ = _; simp [desV]
  | succ i ih =>
    show smS g rank (first - ((i + 1 : Nat) : Int)) (desV g rank first v (i + 1)).toNat = smS g rank (first - 1 - (i : Int)) _
    rw [ih]
    have e : first - ((i + 1 : Nat) : Int) = first - 1 - (i : Int) := by omega
    rw [e]
theorem desL_cons (g : List (List Int)) (rank : List Int) (first : Int) (v : Int) (k : Nat) : desL g rank first v (k + 1) = v :: desL g rank (first - 1) (smS g rank first v.toNat) k := by
  unfold desL
  rw [List.range_succ_eq_map, List.map_cons, List.map_map]
  congr 1
  apply List.map_congr_left
  intro i _
  exact desV_shift g rank first v i
/-- The program's way down is the reference's. -/
theorem down_same (g : List (List Int)) (rank d : List Int) (top : Int) (hr : ∀ x, x < g.length → ∀ w, 0 ≤ w → w < top → (rank.getD x 0 = w ↔ d.getD x 0 = w))
    (hp : ∀ (k v : Nat), v < g.length → d.getD v 0 = (k : Int) + 1 → ∃ y, y < g.length ∧ okW g d k v y = true) (k : Nat) : ∀ v : Nat, v < g.length → d.getD v 0 = k → (k : Int) ≤ top →
    desL g rank ((k : Int) - 1) (v : Int) k = (v : Int) :: desF g d k v ∧ ∀ i, i ≤ k → 0 ≤ desV g rank ((k : Int) - 1) (v : Int) i ∧ desV g rank ((k : Int) - 1) (v : Int) i < (g.length : Int) := by
  induction k with
  | zero =>
    intro v hv _ _
    refine ⟨rfl, fun i hi => ?_⟩
    have e : i = 0 := by omega
    subst e
    show 0 ≤ (v : Int) ∧ (v : Int) < _
    omega
  | succ k ih =>
    intro v hv hd ht
    obtain ⟨y, hy, hyo⟩ := hp k v hv (by omega)
    have N := next_same g rank d k v hv (fun x hx => hr x hx k (by omega) (by omega)) y hy hyo
    obtain ⟨u, hu⟩ : ∃ u, u = firstF g d k v (g.length - 1) 0 := ⟨_, rfl⟩
    rw [← hu] at N
    have hdu : d.getD u 0 = k := by
      have := N.2.1
      unfold okW at this
      rw [Bool.and_eq_true, decide_eq_true_eq] at this
      exact this.1
    have I := ih u N.2.2 hdu (by omega)
    have e : ((k + 1 : Nat) : Int) - 1 = (k : Int) := by omega
    rw [e]
    constructor
    · rw [desL_cons, Int.toNat_natCast, N.1, I.1, hu]
      rfl
    · intro i hi
      cases i with
      | zero => show 0 ≤ (v : Int) ∧ (v : Int) < _; omega
      | succ i =>
        rw [desV_shift, Int.toNat_natCast, N.1]
        exact I.2 i (by omega)
end Go.Proofs.Ytaikpjnegopelaa
