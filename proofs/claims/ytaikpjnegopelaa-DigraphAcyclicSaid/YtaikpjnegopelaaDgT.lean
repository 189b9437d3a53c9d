/- The search by distance finds the distances: theory. -/
import Derived.Test.YtaikpjnegopelaaDgF
namespace Go.Proofs.Ytaikpjnegopelaa
open Go.RowKit
set_option linter.unusedVariables false

/-- The distances from s in h. -/
structure DistOf (h : List (List Int)) (s : Nat) (D : Nat → Int) : Prop where
  src : s < h.length
  zero : D s = 0
  only : ∀ u, u < h.length → D u = 0 → u = s
  pred : ∀ u, u < h.length → ∀ m : Nat, D u = (m : Int) + 1 → ∃ y, y < h.length ∧ D y = m ∧ gEdge h y u = true
  succ : ∀ y u, y < h.length → u < h.length → 0 ≤ D y → gEdge h y u = true → 0 ≤ D u ∧ D u ≤ D y + 1
  low : ∀ u, -1 ≤ D u
/-- What holds while the search runs; the first i nodes of the queue are through. -/
structure BI (h : List (List Int)) (s : Nat) (D : Nat → Int) (S Q : List Int) (i : Nat) : Prop where
  len : S.length = h.length
  ok : ∀ u, u < h.length → S.getD u 0 = -1 ∨ (S.getD u 0 = D u ∧ 0 ≤ D u)
  src : S.getD s 0 ≠ -1
  inQ : ∀ u, u < h.length → S.getD u 0 ≠ -1 → (u : Int) ∈ Q
  node : ∀ x ∈ Q, 0 ≤ x ∧ x < (h.length : Int) ∧ S.getD x.toNat 0 ≠ -1
  sorted : ∀ a b, a ≤ b → b < Q.length → D (Q.getD a 0).toNat ≤ D (Q.getD b 0).toNat
  near : i < Q.length → ∀ b, b < Q.length → D (Q.getD b 0).toNat ≤ D (Q.getD i 0).toNat + 1
  done : ∀ a, a < i → a < Q.length → ∀ u, u < h.length → gEdge h (Q.getD a 0).toNat u = true → S.getD u 0 ≠ -1
  cnt : Q.length + S.count (-1) ≤ h.length
theorem BI.level {h : List (List Int)} {s : Nat} {D : Nat → Int} {S Q : List Int} {i : Nat} (B : BI h s D S Q i) (d : DistOf h s D) (top : Int) (hq : ∀ a, a < Q.length → D (Q.getD a 0).toNat < top → a < i) :
    ∀ (m : Nat) (u : Nat), u < h.length → D u = m → (m : Int) ≤ top → S.getD u 0 ≠ -1 := by
  intro m
  induction m with
  | zero =>
    intro u hu hm _
    have := d.only u hu (by omega)
    subst this
    exact B.src
  | succ m ih =>
    intro u hu hm ht
    obtain ⟨y, hy, h1, h2⟩ := d.pred u hu m (by omega)
    have hs := ih y hy h1 (by omega)
    have hin := B.inQ y hy hs
    obtain ⟨a, ha, e⟩ := List.mem_iff_getElem.1 hin
    have e2 : Q.getD a 0 = (y : Int) := by simp [ha, e]
    have hai := hq a ha (by rw [e2, Int.toNat_natCast]; omega)
    refine B.done a hai ha u hu ?_
    rw [e2, Int.toNat_natCast]
    exact h2
theorem BI.val {h : List (List Int)} {s : Nat} {D : Nat → Int} {S Q : List Int} {i : Nat} (B : BI h s D S Q i) {u : Nat} (hu : u < h.length) (hs : S.getD u 0 ≠ -1) : S.getD u 0 = D u ∧ 0 ≤ D u := by
  rcases B.ok u hu with e | e
  · exact absurd e hs
  · exact e
theorem getD_app_l (Q : List Int) (x : Int) (a : Nat) (ha : a < Q.length) : (Q ++ [x]).getD a 0 = Q.getD a 0 := by simp [List.getD_eq_getElem?_getD, List.getElem?_append_left ha]
theorem getD_app_r (Q : List Int) (x : Int) : (Q ++ [x]).getD Q.length 0 = x := by simp
/-- What is left of the search when it ends. -/
def PD (h : List (List Int)) (D : Nat → Int) (goal : Int) (S : List Int) : Prop :=
  S.length = h.length ∧ (∀ u, u < h.length → S.getD u 0 = -1 ∨ S.getD u 0 = D u) ∧
  ((∀ u, u < h.length → S.getD u 0 = D u) ∨ (0 ≤ goal ∧ goal < (h.length : Int) ∧ 0 ≤ D goal.toNat ∧ S.getD goal.toNat 0 = D goal.toNat ∧ ∀ u, u < h.length → 0 ≤ D u → D u < D goal.toNat → S.getD u 0 = D u))
theorem inner_ok {h : List (List Int)} {s : Nat} {D : Nat → Int} (d : DistOf h s D) (goal : Int) (i : Nat) (v : Nat) (zs : List Int) : ∀ (pre S Q : List Int), BI h s D S Q i → i < Q.length → Q.getD i 0 = (v : Int) → h.getD v [] = pre ++ zs → (∀ u, u < h.length → (u : Int) ∈ pre → S.getD u 0 ≠ -1) →
    ((innerB h.length goal dval v zs S Q).2.2 = true → PD h D goal (innerB h.length goal dval v zs S Q).1) ∧
    ((innerB h.length goal dval v zs S Q).2.2 = false → BI h s D (innerB h.length goal dval v zs S Q).1 (innerB h.length goal dval v zs S Q).2.1 (i + 1) ∧ i + 1 ≤ (innerB h.length goal dval v zs S Q).2.1.length) := by
  induction zs with
  | nil =>
    intro pre S Q B hi hv hz hp
    refine ⟨fun e => (by cases e), fun _ => ⟨?_, hi⟩⟩
    show BI h s D S Q (i + 1)
    refine ⟨B.len, B.ok, B.src, B.inQ, B.node, B.sorted, ?_, ?_, B.cnt⟩
    · intro h1 b hb
      have := B.near hi b hb
      have := B.sorted i (i + 1) (by omega) h1
      omega
    · intro a ha haQ u hu he
      rcases (show a < i ∨ a = i by omega) with q | rfl
      · exact B.done a q haQ u hu he
      · rw [hv, Int.toNat_natCast] at he
        refine hp u hu ?_
        unfold gEdge at he
        have := of_decide_eq_true he
        have k := this.2.2.2.2
        rw [Int.toNat_natCast, hz, List.append_nil] at k
        exact k
  | cons x t ih =>
    intro pre S Q B hi hv hz hp
    have hz2 : h.getD v [] = (pre ++ [x]) ++ t := by rw [hz]; simp
    rw [innerB_cons]
    have hvn := B.node _ (getD_mem hi)
    rw [hv, Int.toNat_natCast] at hvn
    have hvl : v < h.length := by omega
    have hSv := B.val hvl hvn.2.2
    by_cases hx : 0 ≤ x ∧ x < (h.length : Int)
    · rw [if_pos hx]
      obtain ⟨xn, rfl⟩ : ∃ xn : Nat, x = (xn : Int) := ⟨x.toNat, by omega⟩
      have hxl : xn < h.length := by omega
      rw [Int.toNat_natCast]
      by_cases hm : S.getD xn 0 = -1
      · rw [if_pos hm]
        have he : gEdge h v xn = true := by
          unfold gEdge
          rw [Int.toNat_natCast]
          exact decide_eq_true ⟨by omega, by omega, by omega, by omega, by rw [hz]; simp⟩
        have hs := d.succ v xn hvl hxl hSv.2 he
        have hlev : ∀ u, u < h.length → 0 ≤ D u → D u ≤ D v → S.getD u 0 ≠ -1 := fun u hu h0 h1 =>
          B.level d (D v) (fun a ha hlt => by
            rcases Nat.lt_or_ge a i with q | q
            · exact q
            · have := B.sorted i a q ha
              rw [hv, Int.toNat_natCast] at this
              omega) (D u).toNat u hu (by omega) (by omega)
        have hD : D xn = D v + 1 := by
          rcases (show D v < D xn ∨ D xn ≤ D v by omega) with q | q
          · omega
          · exact absurd hm (hlev xn hxl hs.1 q)
        have hval : dval S v = D xn := by unfold dval; rw [hSv.1, hD]
        have hne : D xn ≠ -1 := by omega
        have hl : xn < S.length := by rw [B.len]; exact hxl
        have hat : ∀ u, (S.set xn (dval S v)).getD u 0 = if u = xn then D xn else S.getD u 0 := fun u => by
          by_cases e : u = xn
          · subst e; rw [if_pos rfl, getD_set_at _ _ _ _ hl, hval]
          · rw [if_neg e, getD_set_off _ _ _ _ _ e]
        have hok : ∀ u, u < h.length → (S.set xn (dval S v)).getD u 0 = -1 ∨ ((S.set xn (dval S v)).getD u 0 = D u ∧ 0 ≤ D u) := fun u hu => by
          rw [hat]
          split
          · rename_i e; subst e; exact Or.inr ⟨rfl, hs.1⟩
          · exact B.ok u hu
        have hkeep : ∀ u, S.getD u 0 ≠ -1 → (S.set xn (dval S v)).getD u 0 ≠ -1 := fun u hu => by
          rw [hat]
          split
          · exact hne
          · exact hu
        by_cases hg : (xn : Int) = goal
        · rw [if_pos hg]
          refine ⟨fun _ => ⟨by simp [B.len], fun u hu => ?_, Or.inr ?_⟩, fun e => (by cases e)⟩
          · rcases hok u hu with q | q
            · exact Or.inl q
            · exact Or.inr q.1
          · subst hg
            rw [Int.toNat_natCast]
            refine ⟨by omega, by omega, hs.1, by rw [hat, if_pos rfl], fun u hu h0 h1 => ?_⟩
            have k := hkeep u (hlev u hu h0 (by omega))
            rcases hok u hu with q | q
            · exact absurd q k
            · exact q.1
        · rw [if_neg hg]
          have hqa := getD_app_l Q (xn : Int)
          have hqr := getD_app_r Q (xn : Int)
          refine ih (pre ++ [(xn : Int)]) (S.set xn (dval S v)) (Q ++ [(xn : Int)]) ⟨by simp [B.len], hok, hkeep _ B.src, ?_, ?_, ?_, ?_, ?_, ?_⟩ (by simp; omega) (by rw [hqa i hi]; exact hv) hz2 ?_
          · intro u hu hsu
            rw [hat] at hsu
            by_cases e : u = xn
            · subst e; simp
            · rw [if_neg e] at hsu
              exact List.mem_append_left _ (B.inQ u hu hsu)
          · intro y hy
            rcases List.mem_append.1 hy with q | q
            · have k := B.node y q
              exact ⟨k.1, k.2.1, hkeep _ k.2.2⟩
            · simp at q
              subst q
              exact ⟨hx.1, hx.2, by rw [Int.toNat_natCast, hat, if_pos rfl]; exact hne⟩
          · intro a b hab hb
            rw [List.length_append, List.length_singleton] at hb
            rcases Nat.lt_or_ge b Q.length with q | q
            · rw [hqa a (by omega), hqa b q]; exact B.sorted a b hab q
            · have e : b = Q.length := by omega
              subst e
              rw [hqr, Int.toNat_natCast]
              rcases Nat.lt_or_ge a Q.length with q2 | q2
              · rw [hqa a q2]
                have := B.near hi a q2
                rw [hv, Int.toNat_natCast] at this
                omega
              · have e : a = Q.length := by omega
                subst e
                rw [hqr, Int.toNat_natCast]; omega
          · intro _ b hb
            rw [List.length_append, List.length_singleton] at hb
            rw [hqa i hi, hv, Int.toNat_natCast]
            rcases Nat.lt_or_ge b Q.length with q | q
            · rw [hqa b q]
              have := B.near hi b q
              rw [hv, Int.toNat_natCast] at this
              exact this
            · have e : b = Q.length := by omega
              subst e
              rw [hqr, Int.toNat_natCast]; omega
          · intro a ha _ u hu hed
            rw [hqa a (by omega)] at hed
            exact hkeep u (B.done a ha (by omega) u hu hed)
          · have k := cnt_set S xn (dval S v) hl hm (by rw [hval]; exact hne)
            have c := B.cnt
            rw [List.length_append, List.length_singleton]
            omega
          · intro u hu hm2
            rcases List.mem_append.1 hm2 with q | q
            · exact hkeep u (hp u hu q)
            · simp at q
              have e : u = xn := by omega
              subst e
              rw [hat, if_pos rfl]; exact hne
      · rw [if_neg hm]
        refine ih (pre ++ [(xn : Int)]) S Q B hi hv hz2 ?_
        intro u hu hm2
        rcases List.mem_append.1 hm2 with q | q
        · exact hp u hu q
        · simp at q
          have e : u = xn := by omega
          subst e
          exact hm
    · rw [if_neg hx]
      refine ih (pre ++ [x]) S Q B hi hv hz2 ?_
      intro u hu hm2
      rcases List.mem_append.1 hm2 with q | q
      · exact hp u hu q
      · simp at q
        exact absurd ⟨by omega, by omega⟩ hx
theorem outer_ok {h : List (List Int)} {s : Nat} {D : Nat → Int} (d : DistOf h s D) (goal : Int) (k : Nat) : ∀ (i : Nat) (S Q : List Int), BI h s D S Q i → i ≤ Q.length → h.length + 1 ≤ k + i → PD h D goal (outerB h goal dval k i S Q) := by
  induction k with
  | zero =>
    intro i S Q B hi hk
    have := B.cnt
    omega
  | succ k ih =>
    intro i S Q B hi hk
    show PD h D goal (if _ then _ else _)
    by_cases hlt : i < Q.length
    · rw [if_pos hlt]
      have hn := B.node _ (getD_mem hlt)
      obtain ⟨v, hv⟩ : ∃ v : Nat, Q.getD i 0 = v := ⟨(Q.getD i 0).toNat, by omega⟩
      rw [hv, Int.toNat_natCast]
      have q := inner_ok d goal i v (h.getD v []) [] S Q B hlt hv (by simp) (fun u _ hm => by simp at hm)
      by_cases e : (innerB h.length goal dval v (h.getD v []) S Q).2.2 = true
      · rw [if_pos e]; exact q.1 e
      · rw [if_neg e]
        have r := q.2 (by simpa using e)
        exact ih _ _ _ r.1 r.2 (by omega)
    · rw [if_neg hlt]
      have all : ∀ u, u < h.length → 0 ≤ D u → S.getD u 0 ≠ -1 := fun u hu h0 =>
        B.level d (D u) (fun a ha _ => by omega) (D u).toNat u hu (by omega) (by omega)
      refine ⟨B.len, fun u hu => ?_, Or.inl fun u hu => ?_⟩
      · rcases B.ok u hu with q | q
        · exact Or.inl q
        · exact Or.inr q.1
      · rcases B.ok u hu with q | q
        · have l := d.low u
          rcases (show D u < 0 ∨ 0 ≤ D u by omega) with r | r
          · omega
          · exact absurd q (all u hu r)
        · exact q.1
theorem pdist_ok {h : List (List Int)} {s : Nat} {D : Nat → Int} (d : DistOf h s D) (goal : Int) : PD h D goal (pdist h (s : Int) goal) := by
  have hs := d.src
  unfold pdist
  rw [if_pos ⟨by omega, by omega⟩, Int.toNat_natCast]
  have hl : s < (tab h.length fun _ => (-1 : Int)).length := by rw [tab_len]; exact hs
  have hat : ∀ u, u < h.length → ((tab h.length fun _ => (-1 : Int)).set s 0).getD u 0 = if u = s then 0 else -1 := fun u hu => by
    by_cases e : u = s
    · subst e; rw [if_pos rfl, getD_set_at _ _ _ _ hl]
    · rw [if_neg e, getD_set_off _ _ _ _ _ e, tab_at _ _ _ hu]
  have hc := cnt_set (tab h.length fun _ => (-1 : Int)) s 0 hl (by rw [tab_at _ _ _ hs]) (by decide)
  rw [count_tab] at hc
  refine outer_ok d goal (h.length + 1) 0 _ [(s : Int)] ⟨by simp [tab_len], ?_, ?_, ?_, ?_, ?_, ?_, ?_, ?_⟩ (by simp) (by omega)
  · intro u hu
    rw [hat u hu]
    split
    · rename_i e; subst e; exact Or.inr ⟨d.zero.symm, by rw [d.zero]; exact Int.le_refl _⟩
    · exact Or.inl rfl
  · rw [hat s hs, if_pos rfl]; decide
  · intro u hu hm
    rw [hat u hu] at hm
    by_cases e : u = s
    · subst e; simp
    · rw [if_neg e] at hm; exact absurd rfl hm
  · intro x hx
    simp at hx
    subst hx
    exact ⟨by omega, by omega, by rw [Int.toNat_natCast, hat s hs, if_pos rfl]; decide⟩
  · intro a b hab hb
    simp at hb
    subst hb
    have e : a = 0 := by omega
    subst e
    exact Int.le_refl _
  · intro _ b hb
    simp at hb
    subst hb
    omega
  · intro a ha; omega
  · simp only [List.length_singleton]; omega
end Go.Proofs.Ytaikpjnegopelaa
