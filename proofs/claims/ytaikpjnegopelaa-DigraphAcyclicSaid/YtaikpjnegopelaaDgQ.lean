/- The order by a heap: bounds, and the heap's beginning. -/
import Derived.Test.YtaikpjnegopelaaDgP
namespace Go.Proofs.Ytaikpjnegopelaa
open Go.RowKit
set_option linter.unusedVariables false

theorem few (n : Nat) : ∀ H : List Int, (∀ y ∈ H, ∃ x : Nat, y = x ∧ x < n) → (∀ x : Nat, x < n → H.count (x : Int) ≤ 1) → H.length ≤ n := by
  induction n with
  | zero =>
    intro H h _
    cases H with
    | nil => exact Nat.le_refl _
    | cons y t => obtain ⟨x, _, hx⟩ := h y (by simp); omega
  | succ n ih =>
    intro H h hc
    have l := List.length_eq_countP_add_countP (fun y => y == (n : Int)) (l := H)
    have c1 : H.countP (fun y => y == (n : Int)) ≤ 1 := hc n (by omega)
    have i := ih (H.filter fun y => decide ¬ (y == (n : Int)) = true) (fun y hy => by
      obtain ⟨h1, h2⟩ := List.mem_filter.1 hy
      obtain ⟨x, rfl, hx⟩ := h y h1
      refine ⟨x, rfl, ?_⟩
      have : ¬ x = n := fun e => by subst e; simp at h2
      omega) (fun x hx => by
      rw [List.count_filter (by simp; omega)]
      exact hc x (by omega))
    rw [← List.countP_eq_length_filter] at i
    omega
theorem KI.few {g : List (List Int)} {p : List Bool} {rest W H : List Int} (h : KI g p rest W H) : H.length ≤ g.length := by
  refine Go.Proofs.Ytaikpjnegopelaa.few g.length H h.nn fun x hx => ?_
  rw [h.hh x hx]
  by_cases q : p.getD x false = false ∧ sumO g p g.length x + rest.count (x : Int) = 0
  · rw [if_pos q]; omega
  · rw [if_neg q]; omega
theorem sumO_le (g : List (List Int)) (p : List Bool) (m : Nat) (x : Int) (hb : ∀ v, v < g.length → (g.getD v []).length ≤ m) : ∀ v, v ≤ g.length → sumO g p v x ≤ v * m := by
  intro v
  induction v with
  | zero => intro _; simp [sumO]
  | succ v ih =>
    intro hv
    have i := ih (by omega)
    have c := List.count_le_length (a := x) (l := g.getD v [])
    have b := hb v (by omega)
    unfold sumO
    rw [Nat.succ_mul]
    by_cases q : p.getD v false = true
    · rw [if_pos q]; omega
    · rw [if_neg q]; omega
/-- The heap's beginning: of the first i nodes those that wait for none. -/
structure K0 (g : List (List Int)) (i : Nat) (H : List Int) : Prop where
  hh : ∀ x : Nat, H.count (x : Int) = if x < i ∧ inN g g.length x = 0 then 1 else 0
  nn : ∀ y ∈ H, ∃ x : Nat, y = x ∧ x < i
  ord : Ordd H
theorem K0.few {g : List (List Int)} {i : Nat} {H : List Int} (h : K0 g i H) : H.length ≤ i := by
  refine Go.Proofs.Ytaikpjnegopelaa.few i H h.nn fun x hx => ?_
  rw [h.hh x]
  by_cases q : x < i ∧ inN g g.length x = 0
  · rw [if_pos q]; omega
  · rw [if_neg q]; omega
theorem K0.nil (g : List (List Int)) : K0 g 0 [] := ⟨fun x => by simp, fun y hy => by simp at hy, fun j _ hj => by simp at hj⟩
theorem K0.off {g : List (List Int)} {i : Nat} {H : List Int} (h : K0 g i H) (hi : inN g g.length i ≠ 0) : K0 g (i + 1) H := by
  refine ⟨fun x => ?_, fun y hy => ?_, h.ord⟩
  · rw [h.hh x]
    by_cases e : x = i
    · subst e; rw [if_neg (by omega), if_neg (by omega)]
    · by_cases q : x < i ∧ inN g g.length x = 0
      · rw [if_pos q, if_pos ⟨by omega, q.2⟩]
      · rw [if_neg q, if_neg (by omega)]
  · obtain ⟨x, e, hx⟩ := h.nn y hy
    exact ⟨x, e, by omega⟩
theorem K0.on {g : List (List Int)} {i : Nat} {H : List Int} (h : K0 g i H) (hi : inN g g.length i = 0) : K0 g (i + 1) (pushL H i) := by
  refine ⟨fun x => ?_, fun y hy => ?_, pushL_ord _ _ h.ord⟩
  · rw [pushL_count, h.hh x]
    by_cases e : x = i
    · subst e; rw [if_neg (by omega), if_pos rfl, if_pos ⟨by omega, hi⟩]
    · rw [if_neg (show ¬ (i : Int) = (x : Int) by omega)]
      by_cases q : x < i ∧ inN g g.length x = 0
      · rw [if_pos q, if_pos ⟨by omega, q.2⟩]
      · rw [if_neg q, if_neg (by omega)]
  · rcases pushL_mem _ _ _ hy with q | q
    · obtain ⟨x, e, hx⟩ := h.nn y q
      exact ⟨x, e, by omega⟩
    · exact ⟨i, q, by omega⟩
theorem K0.start {g : List (List Int)} {H : List Int} (h : K0 g g.length H) : KI g (tabB g.length fun _ => false) [] (tab g.length fun x => (inN g g.length x : Int)) H := by
  have hp : ∀ v, v < g.length → (tabB g.length fun _ => false).getD v false = false := fun v hv => tabB_at _ _ _ hv
  have hs : ∀ x : Int, sumO g (tabB g.length fun _ => false) g.length x = inN g g.length x := fun x => sumO_none _ _ _ _ hp
  refine ⟨tabB_len _ _, tab_len _ _, fun x hx => ?_, fun x hx => ?_, h.nn, h.ord, fun x hx e => ?_⟩
  · rw [tab_at _ _ _ hx, hs]; simp
  · rw [h.hh x, hs]
    by_cases q : inN g g.length x = 0
    · rw [if_pos ⟨hx, q⟩, if_pos ⟨hp x hx, by simp [q]⟩]
    · rw [if_neg (by omega), if_neg (by omega)]
  · rw [hp x hx] at e; cases e
/-- When all are marked, none is left in the heap. -/
theorem KI.full {g : List (List Int)} {p : List Bool} {rest W H : List Int} (h : KI g p rest W H) (hc : p.count true = g.length) (v : Nat) (hv : v < g.length) (hp : p.getD v false = false) : False := by
  rw [← h.len] at hc hv
  have := List.count_eq_length.1 hc p[v] (List.getElem_mem hv)
  rw [show p.getD v false = p[v] by simp [hv]] at hp
  rw [hp] at this; cases this
theorem mark_count (p : List Bool) (v : Nat) (hv : v < p.length) (hp : p.getD v false = false) : (p.set v true).count true = p.count true + 1 := by
  have e : p[v] = false := by rw [← hp]; simp [hv]
  rw [List.count_set hv, e]; simp
end Go.Proofs.Ytaikpjnegopelaa
