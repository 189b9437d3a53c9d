/- Components: reachability, and what a marking search marks. -/
import Derived.Test.YtaikpjnegopelaaDgU
import Derived.Test.YtaikpjnegopelaaDgH
namespace Go.Proofs.Ytaikpjnegopelaa
set_option linter.unusedVariables false

/-- A path leads from u to v. -/
def Rch (g : List (List Int)) (u v : Nat) : Prop := u < g.length ∧ v < g.length ∧ 0 ≤ gD g v g.length u
theorem Rch.refl (g : List (List Int)) (u : Nat) (h : u < g.length) : Rch g u u := ⟨h, h, by rw [gD_zero]; exact Int.le_refl _⟩
theorem Rch.step {g : List (List Int)} {u y v : Nat} (hu : u < g.length) (he : gEdge g u y = true) (h : Rch g y v) : Rch g u v :=
  ⟨hu, h.2.1, (gD_succ g v y u h.1 hu h.2.2 he).1⟩
theorem rch_ind {g : List (List Int)} {v : Nat} (P : Nat → Prop) (h0 : P v) (hs : ∀ u y : Nat, u < g.length → y < g.length → gEdge g u y = true → Rch g y v → P y → P u) : ∀ u, Rch g u v → P u := by
  have key : ∀ m u : Nat, u < g.length → v < g.length → gD g v g.length u = m → P u := by
    intro m
    induction m with
    | zero =>
      intro u hu hv hm
      have e := gD_only g v u g.length (by simpa using hm)
      subst e
      exact h0
    | succ m ih =>
      intro u hu hv hm
      obtain ⟨y, hy, h1, h2⟩ := gD_pred g v u m g.length (by omega)
      have hsm := gD_small g v u hu
      have h3 : gD g v g.length y = m := by
        have := gD_stay g v m y (by omega) (g.length - m)
        rw [show m + (g.length - m) = g.length by omega, h1] at this
        exact this
      exact hs u y hu hy h2 ⟨hy, hv, by omega⟩ (ih y hy hv h3)
  intro u h
  obtain ⟨m, hm⟩ : ∃ m : Nat, gD g v g.length u = m := ⟨(gD g v g.length u).toNat, by have := h.2.2; omega⟩
  exact key m u h.1 h.2.1 hm
theorem Rch.trans {g : List (List Int)} {u y v : Nat} (h : Rch g u y) (k : Rch g y v) : Rch g u v :=
  rch_ind (fun x => Rch g x v) k (fun u y hu hy he _ r => r.step hu he) u h
theorem Rch.edge {g : List (List Int)} {u v : Nat} (hu : u < g.length) (hv : v < g.length) (he : gEdge g u v = true) : Rch g u v := (Rch.refl g v hv).step hu he

/-- What a search that marks with r holds. -/
structure CI (n r : Nat) (S0 : List Int) (P : Nat → Prop) (S Q : List Int) : Prop where
  sq : SQ n S Q
  old : ∀ x, x < n → S.getD x 0 = S0.getD x 0 ∨ (S0.getD x 0 = -1 ∧ S.getD x 0 = (r : Int) ∧ (x : Int) ∈ Q)
  pq : ∀ q ∈ Q, P q.toNat
theorem getD_set_on (S : List Int) (x : Nat) (v : Int) (h : x < S.length) : (S.set x v).getD x 0 = v := by simp [h]
theorem getD_set_ne (S : List Int) (x y : Nat) (v : Int) (h : y ≠ x) : (S.set x v).getD y 0 = S.getD y 0 := by simp [List.getD_eq_getElem?_getD, List.getElem?_set_ne (Ne.symm h)]
theorem CI.push {n r : Nat} {S0 : List Int} {P : Nat → Prop} {S Q : List Int} (h : CI n r S0 P S Q) {x : Nat} (hx : x < n) (hs : S.getD x 0 = -1) (hp : P x) : S0.getD x 0 = -1 ∧ CI n r S0 P (S.set x (r : Int)) (Q ++ [(x : Int)]) := by
  have h0 : S0.getD x 0 = -1 := by
    rcases h.old x hx with e | e
    · omega
    · exact e.1
  have hl : x < S.length := by rw [h.sq.len]; exact hx
  have k := h.sq.push (x := (x : Int)) (v := (r : Int)) (by omega) (by omega) (by simpa using hs) (by omega)
  rw [Int.toNat_natCast] at k
  refine ⟨h0, k, fun y hy => ?_, fun q hq => ?_⟩
  · by_cases e : y = x
    · subst e
      exact .inr ⟨h0, getD_set_on _ _ _ hl, by simp⟩
    · rw [getD_set_ne _ _ _ _ e]
      rcases h.old y hy with q | q
      · exact .inl q
      · exact .inr ⟨q.1, q.2.1, by simp [q.2.2]⟩
  · rcases List.mem_append.1 hq with q1 | q1
    · exact h.pq q q1
    · simp at q1; subst q1; simpa using hp
theorem CI.inner {n r v : Nat} {S0 : List Int} {P : Nat → Prop} (zs : List Int) : ∀ S Q : List Int, CI n r S0 P S Q → (∀ x : Nat, x < n → (x : Int) ∈ zs → S0.getD x 0 = -1 → P x) →
    (innerB n (-1) (fun _ _ => (r : Int)) v zs S Q).2.2 = false ∧ CI n r S0 P (innerB n (-1) (fun _ _ => (r : Int)) v zs S Q).1 (innerB n (-1) (fun _ _ => (r : Int)) v zs S Q).2.1 ∧
    (∀ x, x < n → S.getD x 0 ≠ -1 → (innerB n (-1) (fun _ _ => (r : Int)) v zs S Q).1.getD x 0 ≠ -1) ∧ (∃ T, (innerB n (-1) (fun _ _ => (r : Int)) v zs S Q).2.1 = Q ++ T) ∧
    (∀ x : Nat, x < n → (x : Int) ∈ zs → (innerB n (-1) (fun _ _ => (r : Int)) v zs S Q).1.getD x 0 ≠ -1) := by
  induction zs with
  | nil => intro S Q h _; exact ⟨rfl, h, fun x _ k => k, ⟨[], by simp [innerB]⟩, fun x _ k => by simp at k⟩
  | cons z t ih =>
    intro S Q h hp
    have hpt : ∀ x : Nat, x < n → (x : Int) ∈ t → S0.getD x 0 = -1 → P x := fun x hx hm => hp x hx (List.mem_cons_of_mem _ hm)
    rw [innerB_cons]
    by_cases hz : 0 ≤ z ∧ z < (n : Int)
    · rw [if_pos hz]
      obtain ⟨x, rfl⟩ : ∃ x : Nat, z = (x : Int) := ⟨z.toNat, by omega⟩
      rw [Int.toNat_natCast]
      have hx : x < n := by omega
      by_cases hs : S.getD x 0 = -1
      · rw [if_pos hs, if_neg (show ¬ (x : Int) = -1 by omega)]
        have h0 : S0.getD x 0 = -1 := by
          rcases h.old x hx with e | e
          · omega
          · exact e.1
        have hpx := hp x hx (by simp) h0
        obtain ⟨a1, a2, a3, ⟨T, a4⟩, a5⟩ := ih _ _ (h.push hx hs hpx).2 hpt
        have hl : x < S.length := by rw [h.sq.len]; exact hx
        have son : (S.set x (r : Int)).getD x 0 ≠ -1 := by rw [getD_set_on _ _ _ hl]; omega
        refine ⟨a1, a2, fun y hy k => a3 y hy ?_, ⟨(x : Int) :: T, by rw [a4]; simp⟩, fun y hy k => ?_⟩
        · by_cases e : y = x
          · subst e; exact son
          · rw [getD_set_ne _ _ _ _ e]; exact k
        · rcases List.mem_cons.1 k with e | e
          · have e2 : y = x := by omega
            subst e2
            exact a3 y hy son
          · exact a5 y hy e
      · rw [if_neg hs]
        obtain ⟨a1, a2, a3, a4, a5⟩ := ih S Q h hpt
        refine ⟨a1, a2, a3, a4, fun y hy k => ?_⟩
        rcases List.mem_cons.1 k with e | e
        · have e2 : y = x := by omega
          subst e2
          exact a3 y hy hs
        · exact a5 y hy e
    · rw [if_neg hz]
      obtain ⟨a1, a2, a3, a4, a5⟩ := ih S Q h hpt
      refine ⟨a1, a2, a3, a4, fun y hy k => ?_⟩
      rcases List.mem_cons.1 k with e | e
      · exact absurd ⟨by omega, by omega⟩ hz
      · exact a5 y hy e
theorem CI.outer {h : List (List Int)} {r : Nat} {S0 : List Int} {P : Nat → Prop} (hP : ∀ y x : Nat, y < h.length → x < h.length → P y → gEdge h y x = true → S0.getD x 0 = -1 → P x) (k : Nat) : ∀ (i : Nat) (S Q : List Int), CI h.length r S0 P S Q → i ≤ Q.length → h.length + 1 ≤ k + i →
    (∀ a, a < i → ∀ x : Nat, x < h.length → gEdge h ((Q.getD a 0).toNat : Nat) x = true → S.getD x 0 ≠ -1) →
    ∃ Q2, CI h.length r S0 P (outerB h (-1) (fun _ _ => (r : Int)) k i S Q) Q2 ∧ (∃ T, Q2 = Q ++ T) ∧ ∀ a, a < Q2.length → ∀ x : Nat, x < h.length → gEdge h ((Q2.getD a 0).toNat : Nat) x = true → (outerB h (-1) (fun _ _ => (r : Int)) k i S Q).getD x 0 ≠ -1 := by
  induction k with
  | zero =>
    intro i S Q hc hi hk _
    have := hc.sq.cnt
    omega
  | succ k ih =>
    intro i S Q hc hi hk hcl
    by_cases hlt : i < Q.length
    · have hnode := hc.sq.node _ (getD_mem hlt)
      obtain ⟨v, hv⟩ : ∃ v : Nat, Q.getD i 0 = v := ⟨(Q.getD i 0).toNat, by omega⟩
      rw [hv] at hnode
      have hvn : v < h.length := by omega
      have hpv : P v := by have := hc.pq _ (getD_mem hlt); rw [hv] at this; simpa using this
      obtain ⟨a1, a2, a3, ⟨T, a4⟩, a5⟩ := CI.inner (v := v) (h.getD v []) S Q hc (fun x hx hm h0 => hP v x hvn hx hpv ((gEdge_mem h v x hvn hx).2 hm) h0)
      have e : outerB h (-1) (fun _ _ => (r : Int)) (k + 1) i S Q = outerB h (-1) (fun _ _ => (r : Int)) k (i + 1) (innerB h.length (-1) (fun _ _ => (r : Int)) v (h.getD v []) S Q).1 (innerB h.length (-1) (fun _ _ => (r : Int)) v (h.getD v []) S Q).2.1 := by
        show (if _ then _ else _) = _
        rw [if_pos hlt, hv, Int.toNat_natCast, a1, if_neg (by simp)]
      have hgo : ∀ R2 Q3 : List Int, R2 = (innerB h.length (-1) (fun _ _ => (r : Int)) v (h.getD v []) S Q).1 → Q3 = (innerB h.length (-1) (fun _ _ => (r : Int)) v (h.getD v []) S Q).2.1 →
          ∃ Q2, CI h.length r S0 P (outerB h (-1) (fun _ _ => (r : Int)) k (i + 1) R2 Q3) Q2 ∧ (∃ T, Q2 = Q ++ T) ∧ ∀ a, a < Q2.length → ∀ x : Nat, x < h.length → gEdge h ((Q2.getD a 0).toNat : Nat) x = true → (outerB h (-1) (fun _ _ => (r : Int)) k (i + 1) R2 Q3).getD x 0 ≠ -1 := by
        intro R2 Q3 e1 e2
        rw [← e1] at a2 a3 a5
        rw [← e2] at a2 a4
        obtain ⟨Q2, b1, ⟨T2, b2⟩, b3⟩ := ih (i + 1) R2 Q3 a2 (by rw [a4, List.length_append]; omega) (by omega) (fun a ha x hx he => by
          have e4 : Q3.getD a 0 = Q.getD a 0 := by rw [a4]; simp [List.getD_eq_getElem?_getD, List.getElem?_append_left (show a < Q.length by omega)]
          rw [e4] at he
          by_cases ea : a = i
          · subst ea
            rw [hv, Int.toNat_natCast] at he
            exact a5 x hx ((gEdge_mem h v x hvn hx).1 he)
          · exact a3 x hx (hcl a (by omega) x hx he))
        exact ⟨Q2, b1, ⟨T ++ T2, by rw [b2, a4, List.append_assoc]⟩, b3⟩
      have := hgo _ _ rfl rfl
      rw [← e] at this
      exact this
    · have e : outerB h (-1) (fun _ _ => (r : Int)) (k + 1) i S Q = S := by
        show (if _ then _ else _) = _
        rw [if_neg hlt]
      have : ∃ Q2, CI h.length r S0 P S Q2 ∧ (∃ T, Q2 = Q ++ T) ∧ ∀ a, a < Q2.length → ∀ x : Nat, x < h.length → gEdge h ((Q2.getD a 0).toNat : Nat) x = true → S.getD x 0 ≠ -1 :=
        ⟨Q, hc, ⟨[], by simp⟩, fun a ha => hcl a (by omega)⟩
      rw [← e] at this
      exact this
end Go.Proofs.Ytaikpjnegopelaa
