/- The reference's distances are distances; reversed graphs: theory. -/
import Derived.Test.YtaikpjnegopelaaDgT
namespace Go.Proofs.Ytaikpjnegopelaa
open Go.RowKit
set_option linter.unusedVariables false

theorem gD_stay (g : List (List Int)) (to k v : Nat) (h : 0 ≤ gD g to k v) : ∀ m, gD g to (k + m) v = gD g to k v := by
  intro m
  induction m with
  | zero => rfl
  | succ m ih =>
    have e : k + (m + 1) = (k + m) + 1 := by omega
    rw [e, gD_old g to (k + m) v (by rw [ih]; exact h), ih]
theorem gD_from (g : List (List Int)) (to v : Nat) (j : Nat) : ∀ k, gD g to k v = j → gD g to j v = j := by
  intro k
  induction k with
  | zero =>
    intro h
    have e : j = 0 := by
      have := gD_range g to 0 v
      omega
    subst e; exact h
  | succ k ih =>
    intro h
    by_cases h0 : 0 ≤ gD g to k v
    · rw [gD_old g to k v h0] at h
      exact ih h
    · have hr := gD_range g to (k + 1) v
      have h1 := h
      rw [gD, if_neg h0] at h1
      split at h1
      · have e : j = k + 1 := by omega
        subst e; exact h
      · omega
theorem gD_zero (g : List (List Int)) (to : Nat) (k : Nat) : gD g to k to = 0 := by
  have h0 : gD g to 0 to = 0 := by unfold gD; rw [if_pos rfl]
  have := gD_stay g to 0 to (by rw [h0]; exact Int.le_refl _) k
  rw [Nat.zero_add] at this
  rw [this, h0]
theorem gD_only (g : List (List Int)) (to v k : Nat) (h : gD g to k v = 0) : v = to := by
  have q := gD_from g to v 0 k (by simpa using h)
  unfold gD at q
  by_cases e : v = to
  · exact e
  · rw [if_neg e] at q; simp at q
theorem gD_pred (g : List (List Int)) (to v m k : Nat) (h : gD g to k v = (m : Int) + 1) : ∃ y, y < g.length ∧ gD g to m y = m ∧ gEdge g v y = true := by
  have q := gD_from g to v (m + 1) k (by rw [h]; omega)
  have hr := gD_range g to m v
  have h0 : ¬ 0 ≤ gD g to m v := by
    intro h0
    have := gD_old g to m v h0
    rw [q] at this
    omega
  rw [gD, if_neg h0] at q
  split at q
  · rename_i ha
    rw [List.any_eq_true] at ha
    obtain ⟨y, hy, hh⟩ := ha
    simp at hy hh
    exact ⟨y, hy, hh.1, hh.2⟩
  · omega
/-- How many nodes are at most j away. -/
def cntTo (g : List (List Int)) (to k j : Nat) : Nat := (List.range g.length).countP fun u => decide (0 ≤ gD g to k u ∧ gD g to k u ≤ j)
theorem countP_more {α : Type} (l : List α) (p q : α → Bool) (h : ∀ x ∈ l, p x = true → q x = true) (y : α) (hy : y ∈ l) (h1 : q y = true) (h2 : p y = false) : l.countP p + 1 ≤ l.countP q := by
  induction l with
  | nil => simp at hy
  | cons x t ih =>
    have hm : t.countP p ≤ t.countP q := List.countP_mono_left fun z hz => h z (by simp [hz])
    rcases List.mem_cons.1 hy with e | e
    · subst e
      rw [List.countP_cons_of_pos h1, List.countP_cons_of_neg (by rw [h2]; simp)]
      omega
    · have k := ih (fun z hz => h z (by simp [hz])) e
      by_cases hx : p x = true
      · rw [List.countP_cons_of_pos hx, List.countP_cons_of_pos (h x (by simp) hx)]
        omega
      · rw [List.countP_cons_of_neg hx]
        by_cases hq : q x = true
        · rw [List.countP_cons_of_pos hq]; omega
        · rw [List.countP_cons_of_neg hq]; exact k
theorem cntTo_many (g : List (List Int)) (to k : Nat) : ∀ (m : Nat) (v : Nat), v < g.length → gD g to k v = m → m ≤ k → m + 1 ≤ cntTo g to k m := by
  intro m
  induction m with
  | zero =>
    intro v hv h _
    have q := countP_more (List.range g.length) (fun _ => false) (fun u => decide (0 ≤ gD g to k u ∧ gD g to k u ≤ (0 : Nat))) (fun x _ hx => by cases hx) v (List.mem_range.2 hv) (decide_eq_true ⟨by omega, by omega⟩) rfl
    unfold cntTo
    omega
  | succ m ih =>
    intro v hv h hk
    obtain ⟨y, hy, h1, h2⟩ := gD_pred g to v m k (by rw [h]; omega)
    have h3 : gD g to k y = m := by
      have := gD_stay g to m y (by omega) (k - m)
      rw [show m + (k - m) = k by omega, h1] at this
      exact this
    have q := ih y hy h3 (by omega)
    have r := countP_more (List.range g.length) (fun u => decide (0 ≤ gD g to k u ∧ gD g to k u ≤ (m : Nat))) (fun u => decide (0 ≤ gD g to k u ∧ gD g to k u ≤ ((m + 1 : Nat) : Int)))
      (fun x _ hx => by have := of_decide_eq_true hx; exact decide_eq_true ⟨this.1, by omega⟩) v (List.mem_range.2 hv) (decide_eq_true ⟨by omega, by omega⟩) (decide_eq_false (by omega))
    unfold cntTo at q ⊢
    omega
theorem gD_small (g : List (List Int)) (to v : Nat) (hv : v < g.length) : gD g to g.length v < g.length := by
  have hr := gD_range g to g.length v
  rcases (show gD g to g.length v < 0 ∨ 0 ≤ gD g to g.length v by omega) with h | h
  · omega
  · obtain ⟨m, hm⟩ : ∃ m : Nat, gD g to g.length v = m := ⟨(gD g to g.length v).toNat, by omega⟩
    have q := cntTo_many g to g.length m v hv hm (by omega)
    have r : cntTo g to g.length m ≤ g.length := by
      unfold cntTo
      have := List.countP_le_length (p := fun u => decide (0 ≤ gD g to g.length u ∧ gD g to g.length u ≤ (m : Nat))) (l := List.range g.length)
      simpa using this
    omega
theorem gD_succ (g : List (List Int)) (to y u : Nat) (hy : y < g.length) (hu : u < g.length) (h : 0 ≤ gD g to g.length y) (he : gEdge g u y = true) : 0 ≤ gD g to g.length u ∧ gD g to g.length u ≤ gD g to g.length y + 1 := by
  have hs := gD_small g to y hy
  obtain ⟨m, hm⟩ : ∃ m : Nat, gD g to g.length y = m := ⟨(gD g to g.length y).toNat, by omega⟩
  have q := gD_from g to y m g.length hm
  by_cases h0 : 0 ≤ gD g to m u
  · have := gD_stay g to m u h0 (g.length - m)
    rw [show m + (g.length - m) = g.length by omega] at this
    have := gD_range g to m u
    omega
  · have k := gD_new g to m u y (by omega) hy q he
    have := gD_stay g to (m + 1) u (by rw [k]; omega) (g.length - (m + 1))
    rw [show m + 1 + (g.length - (m + 1)) = g.length by omega] at this
    omega
/-- The distances to s in R are the distances from s in h, if R is h reversed. -/
theorem dist_of (R h : List (List Int)) (s : Nat) (hl : R.length = h.length) (hs : s < h.length) (he : ∀ y u : Nat, y < h.length → u < h.length → gEdge h y u = gEdge R u y) : DistOf h s (gD R s R.length) := by
  refine ⟨hs, gD_zero _ _ _, fun u _ h => gD_only _ _ _ _ h, ?_, ?_, fun u => (gD_range _ _ _ _).1⟩
  · intro u hu m hm
    obtain ⟨y, hy, h1, h2⟩ := gD_pred R s u m R.length hm
    have hr := gD_range R s R.length u
    have h3 : gD R s R.length y = m := by
      have := gD_stay R s m y (by omega) (R.length - m)
      rw [show m + (R.length - m) = R.length by omega, h1] at this
      exact this
    exact ⟨y, by omega, h3, by rw [he y u (by omega) hu]; exact h2⟩
  · intro y u hy hu h0 hed
    rw [he y u hy hu] at hed
    exact gD_succ R s y u (by omega) (by omega) h0 hed
theorem revG_len (g : List (List Int)) : (revG g).length = g.length := by simp [revG]
theorem revG_at (g : List (List Int)) (x : Nat) (hx : x < g.length) : (revG g).getD x [] = revUp g x g.length := by simp [revG, hx]
theorem gEdge_rev (g : List (List Int)) (y u : Nat) : gEdge (revG g) (y : Int) (u : Int) = gEdge g (u : Int) (y : Int) := by
  rw [Bool.eq_iff_iff]
  constructor
  · intro h
    unfold gEdge at h
    have h := of_decide_eq_true h
    rw [revG_len, Int.toNat_natCast] at h
    rw [revG_at g y (by omega)] at h
    obtain ⟨_, _, _, _, h5⟩ := h
    simp only [revUp, List.mem_map, List.mem_filter, List.mem_range] at h5
    obtain ⟨v, ⟨_, h6⟩, h7⟩ := h5
    have e : v = u := by omega
    subst e
    exact h6
  · intro h
    have hh := h
    unfold gEdge at hh
    have hh := of_decide_eq_true hh
    unfold gEdge
    refine decide_eq_true ?_
    rw [revG_len, Int.toNat_natCast, revG_at g y (by omega)]
    refine ⟨hh.2.2.1, hh.2.2.2.1, hh.1, hh.2.1, ?_⟩
    simp only [revUp, List.mem_map, List.mem_filter, List.mem_range]
    exact ⟨u, ⟨by omega, h⟩, rfl⟩
theorem gD_congr (g h : List (List Int)) (to : Nat) (hl : g.length = h.length) (he : ∀ y u : Nat, gEdge g y u = gEdge h y u) : ∀ k u, gD g to k u = gD h to k u := by
  intro k
  induction k with
  | zero => intro u; rfl
  | succ k ih =>
    intro u
    show (if _ then _ else if _ then _ else _ : Int) = (if _ then _ else if _ then _ else _ : Int)
    rw [ih u, hl]
    congr 1
    congr 1
    rw [eq_iff_iff]
    apply Eq.to_iff
    congr 2
    funext y
    rw [ih y, he u y]
/-- The search by distance, all through, finds the reference's distances in the reversed graph. -/
theorem pdist_full (g : List (List Int)) (s : Int) : pdist g s (-1) = distL (revG g) s := by
  by_cases hin : 0 ≤ s ∧ s < (g.length : Int)
  · obtain ⟨t, rfl⟩ : ∃ t : Nat, s = (t : Int) := ⟨s.toNat, by omega⟩
    have d := dist_of (revG g) g t (revG_len g) (by omega) (fun y u _ _ => (gEdge_rev g u y).symm)
    have p := pdist_ok d (-1)
    unfold distL
    rw [if_pos (by rw [revG_len]; exact hin), Int.toNat_natCast]
    apply eq_of_getD (by rw [p.1, tab_len, revG_len])
    intro j hj
    rw [p.1] at hj
    rw [tab_at _ _ _ (by rw [revG_len]; exact hj)]
    rcases p.2.2 with q | q
    · exact q j hj
    · omega
  · unfold pdist distL
    rw [if_neg hin, if_neg (by rw [revG_len]; exact hin), revG_len]
end Go.Proofs.Ytaikpjnegopelaa
