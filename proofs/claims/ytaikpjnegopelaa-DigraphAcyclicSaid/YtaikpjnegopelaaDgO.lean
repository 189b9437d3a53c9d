/- The order by a heap: what holds between its steps. -/
import Derived.Test.YtaikpjnegopelaaDgN
import Derived.Test.YtaikpjnegopelaaGrI
namespace Go.Proofs.Ytaikpjnegopelaa
set_option linter.unusedVariables false

/-- How often the first nodes that bear no mark tell x. -/
def sumO (g : List (List Int)) (p : List Bool) : Nat → Int → Nat
  | 0, _ => 0
  | v + 1, x => sumO g p v x + (if p.getD v false = true then 0 else (g.getD v []).count x)
theorem sumO_none (g : List (List Int)) (p : List Bool) (x : Int) : ∀ n, (∀ v, v < n → p.getD v false = false) → sumO g p n x = inN g n x := by
  intro n
  induction n with
  | zero => intro _; rfl
  | succ n ih =>
    intro h
    unfold sumO inN
    rw [ih (fun v hv => h v (by omega)), h n (by omega)]
    simp
theorem sumO_set (g : List (List Int)) (p : List Bool) (x : Int) (v : Nat) (hv : v < p.length) (hp : p.getD v false = false) : ∀ n, sumO g p n x = sumO g (p.set v true) n x + (if v < n then (g.getD v []).count x else 0) := by
  intro n
  induction n with
  | zero => simp [sumO]
  | succ n ih =>
    unfold sumO
    rw [ih]
    by_cases e : n = v
    · subst e
      rw [hp, getD_set_at _ _ _ _ hv]
      simp
    · rw [getD_set_off _ _ _ _ _ e]
      by_cases h : v < n
      · rw [if_pos h, if_pos (show v < n + 1 by omega)]; omega
      · rw [if_neg h, if_neg (show ¬ v < n + 1 by omega)]; omega
theorem sumO_zero (g : List (List Int)) (p : List Bool) (x : Int) : ∀ n, sumO g p n x = 0 ↔ ∀ v, v < n → p.getD v false = true ∨ (g.getD v []).count x = 0 := by
  intro n
  induction n with
  | zero => simp [sumO]
  | succ n ih =>
    unfold sumO
    constructor
    · intro h v hv
      by_cases e : v = n
      · subst e
        by_cases hp : p.getD v false = true
        · exact .inl hp
        · rw [if_neg hp] at h; exact .inr (by omega)
      · exact ih.1 (by omega) v (by omega)
    · intro h
      rw [ih.2 (fun v hv => h v (by omega))]
      rcases h n (by omega) with q | q
      · rw [if_pos q]
      · rw [q]; simp
theorem allT_iff (g : List (List Int)) (p : List Bool) (x : Nat) : ∀ f v, allT g p x f v = true ↔ ∀ u, v ≤ u → u < v + f → p.getD u false = true ∨ gEdge g u x = false := by
  intro f
  induction f with
  | zero => intro v; exact ⟨fun _ u h1 h2 => by omega, fun _ => rfl⟩
  | succ f ih =>
    intro v
    unfold allT
    rw [Bool.and_eq_true, Bool.or_eq_true, ih]
    constructor
    · rintro ⟨h1, h2⟩ u hu hu2
      by_cases e : u = v
      · subst e; simpa using h1
      · exact h2 u (by omega) (by omega)
    · intro h
      refine ⟨?_, fun u h1 h2 => h u (by omega) (by omega)⟩
      have := h v (by omega) (by omega)
      simpa using this
theorem rdy_iff (g : List (List Int)) (p : List Bool) (x : Nat) (hx : x < g.length) : rdy g p x = true ↔ p.getD x false = false ∧ sumO g p g.length x = 0 := by
  unfold rdy
  rw [Bool.and_eq_true, allT_iff, sumO_zero]
  have e : ∀ u, u < g.length → (gEdge g u x = false ↔ (g.getD u []).count (x : Int) = 0) := by
    intro u hu
    unfold gEdge
    rw [decide_eq_false_iff_not, List.count_eq_zero]
    constructor
    · intro h k
      exact h ⟨by omega, by omega, by omega, by omega, by simpa using k⟩
    · rintro h ⟨_, _, _, _, k⟩
      exact h (by simpa using k)
  constructor
  · rintro ⟨h1, h2⟩
    exact ⟨by simpa using h1, fun v hv => (h2 v (by omega) (by omega)).imp id (e v hv).1⟩
  · rintro ⟨h1, h2⟩
    exact ⟨by simp only [h1]; rfl, fun v _ hv => (h2 v (by omega)).imp id (e v (by omega)).2⟩
theorem nxt_none (g : List (List Int)) (p : List Bool) : ∀ f x, (∀ y, x ≤ y → y < x + f → rdy g p y = false) → nxt g p f x = none := by
  intro f
  induction f with
  | zero => intro x _; rfl
  | succ f ih =>
    intro x h
    unfold nxt
    rw [h x (by omega) (by omega)]
    exact ih (x + 1) fun y h1 h2 => h y (by omega) (by omega)
theorem nxt_some (g : List (List Int)) (p : List Bool) (r : Nat) (hr : rdy g p r = true) : ∀ f x, x ≤ r → r < x + f → (∀ y, x ≤ y → y < r → rdy g p y = false) → nxt g p f x = some r := by
  intro f
  induction f with
  | zero => intro x h1 h2; omega
  | succ f ih =>
    intro x h1 h2 h
    unfold nxt
    by_cases e : x = r
    · subst e; rw [hr]; rfl
    · rw [h x (by omega) (by omega)]
      exact ih (x + 1) (by omega) (by omega) fun y h3 h4 => h y (by omega) h4

/-- Between the steps: what each node waits for, and which lie in the heap. -/
structure KI (g : List (List Int)) (p : List Bool) (rest W H : List Int) : Prop where
  len : p.length = g.length
  lw : W.length = g.length
  ww : ∀ x, x < g.length → W.getD x 0 = ((sumO g p g.length x + rest.count (x : Int) : Nat) : Int)
  hh : ∀ x : Nat, x < g.length → H.count (x : Int) = if p.getD x false = false ∧ sumO g p g.length x + rest.count (x : Int) = 0 then 1 else 0
  nn : ∀ y ∈ H, ∃ x : Nat, y = x ∧ x < g.length
  ord : Ordd H
  dn : ∀ x : Nat, x < g.length → p.getD x false = true → sumO g p g.length x + rest.count (x : Int) = 0
theorem pushL_mem (H : List Int) (v y : Int) (h : y ∈ pushL H v) : y ∈ H ∨ y = v := by
  have h1 := List.count_pos_iff.2 h
  rw [pushL_count] at h1
  by_cases e : v = y
  · exact .inr e.symm
  · rw [if_neg e] at h1; exact .inl (List.count_pos_iff.1 (by omega))
theorem KI.off {g : List (List Int)} {p : List Bool} {rest W H : List Int} {x : Int} (h : KI g p (x :: rest) W H) (hx : ¬ (0 ≤ x ∧ x < g.length)) : KI g p rest W H := by
  have e : ∀ y : Nat, y < g.length → (x :: rest).count (y : Int) = rest.count (y : Int) := by
    intro y hy
    rw [List.count_cons]
    have : ¬ x = (y : Int) := by omega
    simp [this]
  refine ⟨h.len, h.lw, fun y hy => ?_, fun y hy => ?_, h.nn, h.ord, fun y hy hp => ?_⟩
  · rw [← e y hy]; exact h.ww y hy
  · rw [← e y hy]; exact h.hh y hy
  · rw [← e y hy]; exact h.dn y hy hp
theorem KI.rel {g : List (List Int)} {p : List Bool} {rest W H : List Int} {x : Nat} (h : KI g p ((x : Int) :: rest) W H) (hx : x < g.length) :
    1 ≤ W.getD x 0 ∧ KI g p rest (W.set x (W.getD x 0 - 1)) (if W.getD x 0 - 1 = 0 then pushL H x else H) := by
  have e1 : ((x : Int) :: rest).count (x : Int) = rest.count (x : Int) + 1 := by rw [List.count_cons]; simp
  have e : ∀ y : Nat, y ≠ x → ((x : Int) :: rest).count (y : Int) = rest.count (y : Int) := by
    intro y hy
    rw [List.count_cons]
    have : ¬ (x : Int) = (y : Int) := by omega
    simp [this]
  have hw := h.ww x hx
  rw [e1] at hw
  have hpx : p.getD x false = false := by
    cases q : p.getD x false with
    | false => rfl
    | true => have := h.dn x hx q; omega
  have hcx := h.hh x hx
  rw [e1, if_neg (by omega)] at hcx
  refine ⟨by omega, h.len, by simp [h.lw], fun y hy => ?_, fun y hy => ?_, ?_, ?_, fun y hy hp => ?_⟩
  · by_cases q : y = x
    · subst q
      rw [getD_set_at _ _ _ _ (by rw [h.lw]; exact hy)]; omega
    · rw [getD_set_off _ _ _ _ _ q, h.ww y hy, e y q]
  · by_cases q : y = x
    · subst q
      by_cases z : W.getD y 0 - 1 = 0
      · rw [if_pos z, pushL_count, if_pos rfl, hcx, if_pos ⟨hpx, by omega⟩]
      · rw [if_neg z, hcx, if_neg (by omega)]
    · have r := h.hh y hy
      rw [e y q] at r
      by_cases z : W.getD x 0 - 1 = 0
      · rw [if_pos z, pushL_count, if_neg (by omega), r]; rfl
      · rw [if_neg z, r]
  · intro y hy
    by_cases z : W.getD x 0 - 1 = 0
    · rw [if_pos z] at hy
      rcases pushL_mem _ _ _ hy with q | q
      · exact h.nn y q
      · exact ⟨x, q, hx⟩
    · rw [if_neg z] at hy; exact h.nn y hy
  · by_cases z : W.getD x 0 - 1 = 0
    · rw [if_pos z]; exact pushL_ord _ _ h.ord
    · rw [if_neg z]; exact h.ord
  · have r := h.dn y hy hp
    have q : y ≠ x := fun q => by subst q; rw [hpx] at hp; cases hp
    rw [e y q] at r; exact r
theorem KI.empty {g : List (List Int)} {p : List Bool} {W : List Int} (h : KI g p [] W []) : nxt g p g.length 0 = none := by
  refine nxt_none g p _ _ fun y _ hy => ?_
  cases q : rdy g p y with
  | false => rfl
  | true =>
    have r := (rdy_iff g p y (by omega)).1 q
    have s := h.hh y (by omega)
    rw [if_pos ⟨r.1, by simp [r.2]⟩] at s
    simp at s
theorem KI.pop {g : List (List Int)} {p : List Bool} {W H : List Int} (h : KI g p [] W H) (h1 : 1 ≤ H.length) :
    ∃ v : Nat, H.getD 0 0 = v ∧ v < g.length ∧ p.getD v false = false ∧ nxt g p g.length 0 = some v ∧ KI g (p.set v true) (g.getD v []) W (popL H) := by
  have hm : H.getD 0 0 ∈ H := by
    have : H.getD 0 0 = H[0] := by simp [show 0 < H.length by omega]
    rw [this]; exact List.getElem_mem _
  obtain ⟨v, hv, hvn⟩ := h.nn _ hm
  have hc : 0 < H.count (v : Int) := List.count_pos_iff.2 (hv ▸ hm)
  have r := h.hh v hvn
  have hr : p.getD v false = false ∧ sumO g p g.length v + ([] : List Int).count (v : Int) = 0 := by
    by_cases q : p.getD v false = false ∧ sumO g p g.length v + ([] : List Int).count (v : Int) = 0
    · exact q
    · rw [if_neg q] at r; omega
  rw [if_pos hr] at r
  have hp := hr.1
  have hs : sumO g p g.length v = 0 := by have := hr.2; omega
  have S : ∀ x : Int, sumO g p g.length x = sumO g (p.set v true) g.length x + (g.getD v []).count x := by
    intro x
    rw [sumO_set g p x v (by rw [h.len]; exact hvn) hp, if_pos hvn]
  have hvp : v < p.length := by rw [h.len]; exact hvn
  refine ⟨v, hv, hvn, hp, nxt_some g p v ((rdy_iff g p v hvn).2 ⟨hp, hs⟩) _ _ (Nat.zero_le _) (by omega) ?_, by simp [h.len], h.lw, fun x hx => ?_, fun x hx => ?_, fun y hy => ?_, popL_ord _ h.ord h1, fun x hx hpx => ?_⟩
  · intro y _ hy
    cases q : rdy g p y with
    | false => rfl
    | true =>
      have r2 := (rdy_iff g p y (by omega)).1 q
      have s := h.hh y (by omega)
      rw [if_pos ⟨r2.1, by simp [r2.2]⟩] at s
      have l := h.ord.least y (List.count_pos_iff.1 (by omega))
      omega
  · rw [h.ww x hx, S x]; simp
  · have c := popL_count H x h1
    rw [hv] at c
    by_cases e : x = v
    · subst e
      rw [if_pos rfl, r] at c
      rw [getD_set_at _ _ _ _ hvp, if_neg (by simp)]
      omega
    · rw [if_neg (by omega), h.hh x hx] at c
      rw [getD_set_off _ _ _ _ _ e, ← S x]
      simpa using c
  · have c := popL_count H y h1
    have : 0 < (popL H).count y := List.count_pos_iff.2 hy
    exact h.nn y (List.count_pos_iff.1 (by omega))
  · rw [← S x]
    by_cases e : x = v
    · subst e; exact hs
    · rw [getD_set_off _ _ _ _ _ e] at hpx
      have := h.dn x hx hpx
      simpa using this
end Go.Proofs.Ytaikpjnegopelaa
