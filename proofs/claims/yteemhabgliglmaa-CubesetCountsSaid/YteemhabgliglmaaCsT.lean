/- Cubeset: to simplify by free bits is to simplify: plain facts on lists of cubes; no condition but the cubes' range. -/
import Derived.Test.YteemhabgliglmaaCsC
import Derived.Test.YteemhabgliglmaaTeT
import Derived.Test.YteemhabgliglmaaTeD
namespace Go.Proofs.Yteemhabgliglmaa
open Go.RowKit
set_option linter.unusedVariables false

def Wf (L : List (Nat × Nat)) : Prop := ∀ p ∈ L, B64 p.1 ∧ B64 p.2
theorem Wf.at_ {L : List (Nat × Nat)} (h : Wf L) (i : Nat) (hi : i < L.length) : B64 (L.getD i (0, 0)).1 ∧ B64 (L.getD i (0, 0)).2 := by
  refine h _ ?_
  rw [List.getD_eq_getElem?_getD, List.getElem?_eq_getElem hi]
  exact List.getElem_mem _
theorem popTo_sub (a b : Nat) : ∀ k, (∀ i, i < k → a.testBit i = true → b.testBit i = true) → popTo k a ≤ popTo k b ∧ (popTo k a = popTo k b → ∀ i, i < k → a.testBit i = b.testBit i) := by
  intro k
  induction k with
  | zero => intro h; exact ⟨Nat.le_refl _, fun _ i hi => absurd hi (Nat.not_lt_zero _)⟩
  | succ k ih =>
    intro h
    obtain ⟨h1, h2⟩ := ih (fun i hi => h i (by omega))
    have hk := h k (by omega)
    rw [Nat.testBit_eq_decide_div_mod_eq, Nat.testBit_eq_decide_div_mod_eq, decide_eq_true_eq, decide_eq_true_eq] at hk
    unfold popTo
    have m1 := Nat.mod_lt (a / 2 ^ k) (show 0 < 2 by decide)
    have m2 := Nat.mod_lt (b / 2 ^ k) (show 0 < 2 by decide)
    refine ⟨by omega, fun e i hi => ?_⟩
    rcases (show i < k ∨ i = k by omega) with q | rfl
    · exact h2 (by omega) i q
    · rw [Nat.testBit_eq_decide_div_mod_eq, Nat.testBit_eq_decide_div_mod_eq]
      congr 1
      apply propext
      omega
/-- How many bits a cube leaves free. -/
def frN (p : Nat × Nat) : Nat := 64 - popTo 64 p.2
theorem frN_le (p : Nat × Nat) : frN p ≤ 64 := by unfold frN; omega
theorem sub_bits (p q : Nat × Nat) (hp : B64 p.2) (hq : B64 q.2) : subP p q = true ↔ (∀ i, q.2.testBit i = true → p.2.testBit i = true) ∧ ∀ i, q.2.testBit i = true → p.1.testBit i = q.1.testBit i := subN_iff _ _ _ _ hp hq
theorem sub_trans (p q r : Nat × Nat) (hp : B64 p.2) (hq : B64 q.2) (hr : B64 r.2) (h1 : subP p q = true) (h2 : subP q r = true) : subP p r = true := by
  rw [sub_bits _ _ hp hq] at h1
  rw [sub_bits _ _ hq hr] at h2
  rw [sub_bits _ _ hp hr]
  exact ⟨fun i hi => h1.1 i (h2.1 i hi), fun i hi => (h1.2 i (h2.1 i hi)).trans (h2.2 i hi)⟩
/-- A larger cube has at least as many free bits; and where it has no more, the two are one. -/
theorem sub_free (p q : Nat × Nat) (hp : B64 p.2) (hq : B64 q.2) (h : subP p q = true) : frN p ≤ frN q ∧ (frN p = frN q → subP q p = true) := by
  have h' := (sub_bits _ _ hp hq).1 h
  obtain ⟨k1, k2⟩ := popTo_sub q.2 p.2 64 (fun i _ => h'.1 i)
  have l1 := popTo_le 64 p.2
  have l2 := popTo_le 64 q.2
  refine ⟨by unfold frN; omega, fun e => ?_⟩
  have e2 := k2 (by unfold frN at e; omega)
  rw [sub_bits _ _ hq hp]
  have e3 : ∀ i, p.2.testBit i = true → q.2.testBit i = true := by
    intro i hi
    by_cases h64 : i < 64
    · rw [e2 i h64]; exact hi
    · rw [tb_big p.2 i hp (by omega)] at hi; cases hi
  exact ⟨e3, fun i hi => (h'.2 i (e3 i hi)).symm⟩
/-- Cube j is asked before cube i. -/
def bef (L : List (Nat × Nat)) (j i : Nat) : Bool := decide (frN (L.getD i (0, 0)) < frN (L.getD j (0, 0)) ∨ (frN (L.getD i (0, 0)) = frN (L.getD j (0, 0)) ∧ j < i))
theorem bef_iff (L : List (Nat × Nat)) (j i : Nat) : bef L j i = true ↔ (frN (L.getD i (0, 0)) < frN (L.getD j (0, 0)) ∨ (frN (L.getD i (0, 0)) = frN (L.getD j (0, 0)) ∧ j < i)) := by unfold bef; exact decide_eq_true_iff
theorem red_iff (L : List (Nat × Nat)) (wf : Wf L) (i k : Nat) (hi : i < L.length) (hk : k < L.length) : redAt L i k = true ↔ (subP (L.getD i (0, 0)) (L.getD k (0, 0)) = true ∧ bef L k i = true) := by
  have wi := (wf.at_ i hi).2
  have wk := (wf.at_ k hk).2
  rw [bef_iff]
  unfold redAt
  simp only [Bool.and_eq_true, Bool.or_eq_true, decide_eq_true_eq, Bool.not_eq_true', ne_eq]
  constructor
  · rintro ⟨h1, h2, h3⟩
    refine ⟨h2, ?_⟩
    obtain ⟨f1, f2⟩ := sub_free _ _ wi wk h2
    rcases Nat.lt_or_eq_of_le f1 with q | q
    · exact .inl q
    · rcases h3 with h3 | h3
      · exact .inr ⟨q, h3⟩
      · rw [f2 q] at h3; cases h3
  · rintro ⟨h1, h2⟩
    refine ⟨fun e => by subst e; omega, h1, ?_⟩
    rcases h2 with h2 | ⟨_, h2⟩
    · right
      cases hh : subP (L.getD k (0, 0)) (L.getD i (0, 0)) with
      | false => rfl
      | true => have := (sub_free _ _ wk wi hh).1; omega
    · exact .inl h2
theorem redN_iff (L : List (Nat × Nat)) (wf : Wf L) (i : Nat) (hi : i < L.length) : redN L i = true ↔ ∃ k, k < L.length ∧ subP (L.getD i (0, 0)) (L.getD k (0, 0)) = true ∧ bef L k i = true := by
  unfold redN redT
  rw [List.any_eq_true]
  constructor
  · rintro ⟨k, hk, h⟩
    have hk := List.mem_range.1 hk
    exact ⟨k, hk, (red_iff L wf i k hi hk).1 h⟩
  · rintro ⟨k, hk, h⟩
    exact ⟨k, List.mem_range.2 hk, (red_iff L wf i k hi hk).2 h⟩
/-- A cube is redundant just if one that stays and was asked before holds it. -/
theorem kept_iff (L : List (Nat × Nat)) (wf : Wf L) (i : Nat) (hi : i < L.length) : redN L i = true ↔ ∃ k, k < L.length ∧ bef L k i = true ∧ redN L k = false ∧ subP (L.getD i (0, 0)) (L.getD k (0, 0)) = true := by
  constructor
  · suffices H : ∀ r i, i < L.length → (64 - frN (L.getD i (0, 0))) * L.length + i = r → redN L i = true → ∃ k, k < L.length ∧ bef L k i = true ∧ redN L k = false ∧ subP (L.getD i (0, 0)) (L.getD k (0, 0)) = true from H _ i hi rfl
    intro r
    induction r using Nat.strongRecOn with
    | ind r ih =>
      intro i hi hr h
      obtain ⟨k, hk, h1, h2⟩ := (redN_iff L wf i hi).1 h
      cases hrk : redN L k with
      | false => exact ⟨k, hk, h2, hrk, h1⟩
      | true =>
        have hb := (bef_iff L k i).1 h2
        have fi := frN_le (L.getD i (0, 0))
        have fk := frN_le (L.getD k (0, 0))
        have hlt : (64 - frN (L.getD k (0, 0))) * L.length + k < r := by
          rw [← hr]
          rcases hb with q | ⟨q1, q2⟩
          · have : (64 - frN (L.getD k (0, 0)) + 1) * L.length ≤ (64 - frN (L.getD i (0, 0))) * L.length := Nat.mul_le_mul_right _ (by omega)
            rw [Nat.add_mul, Nat.one_mul] at this
            omega
          · rw [q1]; omega
        obtain ⟨j, hj, b1, b2, b3⟩ := ih _ hlt k hk rfl hrk
        refine ⟨j, hj, ?_, b2, sub_trans _ _ _ (wf.at_ i hi).2 (wf.at_ k hk).2 (wf.at_ j hj).2 h1 b3⟩
        have hb2 := (bef_iff L j k).1 b1
        rw [bef_iff]
        omega
  · rintro ⟨k, hk, h1, h2, h3⟩
    exact (redN_iff L wf i hi).2 ⟨k, hk, h3, h1⟩
/-- Two equal cubes do not both stay. -/
theorem stays_once (L : List (Nat × Nat)) (wf : Wf L) (i j : Nat) (hi : i < L.length) (hj : j < L.length) (h1 : redN L i = false) (h2 : redN L j = false) (e : L.getD i (0, 0) = L.getD j (0, 0)) : i = j := by
  have hs : subP (L.getD i (0, 0)) (L.getD i (0, 0)) = true := by rw [sub_bits _ _ (wf.at_ i hi).2 (wf.at_ i hi).2]; exact ⟨fun _ h => h, fun _ _ => rfl⟩
  rcases (show i = j ∨ i < j ∨ j < i by omega) with q | q | q
  · exact q
  · have := (redN_iff L wf j hj).2 ⟨i, hi, by rw [← e]; exact hs, (bef_iff L i j).2 (.inr ⟨by rw [e], q⟩)⟩
    rw [this] at h2; cases h2
  · have := (redN_iff L wf i hi).2 ⟨j, hj, by rw [← e]; exact hs, (bef_iff L j i).2 (.inr ⟨by rw [e], q⟩)⟩
    rw [this] at h1; cases h1
/-- What the first bits of a cube's value leave: canonical cubes are as redundant as the cubes. -/
theorem can_at (L : List (Nat × Nat)) (i : Nat) : (L.map canP).getD i (0, 0) = canP (L.getD i (0, 0)) := by
  by_cases h : i < L.length
  · simp [h]
  · simp [h, canP]
theorem can_sub (p q : Nat × Nat) (hp : B64 p.2) (hq : B64 q.2) : subP (canP p) (canP q) = subP p q := by
  rw [Bool.eq_iff_iff, sub_bits _ _ (by exact hp) (by exact hq), sub_bits _ _ hp hq]
  unfold canP
  simp only [Nat.testBit_and]
  constructor
  · rintro ⟨h1, h2⟩
    refine ⟨h1, fun i hi => ?_⟩
    have := h2 i hi
    rw [hi, h1 i hi] at this
    simpa using this
  · rintro ⟨h1, h2⟩
    refine ⟨h1, fun i hi => ?_⟩
    rw [hi, h1 i hi, h2 i hi]
theorem can_red (L : List (Nat × Nat)) (wf : Wf L) (i : Nat) (hi : i < L.length) : redN (L.map canP) i = redN L i := by
  have e : ∀ k, k < L.length → redAt (L.map canP) i k = redAt L i k := by
    intro k hk
    unfold redAt
    rw [can_at, can_at, can_sub _ _ (wf.at_ i hi).2 (wf.at_ k hk).2, can_sub _ _ (wf.at_ k hk).2 (wf.at_ i hi).2]
  unfold redN redT
  rw [List.length_map, Bool.eq_iff_iff, List.any_eq_true, List.any_eq_true]
  constructor
  · rintro ⟨k, hk, h⟩; exact ⟨k, hk, by rw [← e k (List.mem_range.1 hk)]; exact h⟩
  · rintro ⟨k, hk, h⟩; exact ⟨k, hk, by rw [e k (List.mem_range.1 hk)]; exact h⟩
theorem can_wf (L : List (Nat × Nat)) (wf : Wf L) : Wf (L.map canP) := by
  intro p hp
  obtain ⟨q, hq, rfl⟩ := List.mem_map.1 hp
  exact ⟨Nat.lt_of_le_of_lt Nat.and_le_left (wf q hq).1, (wf q hq).2⟩
/-- The places that stay among those asked. -/
def keepN (L : List (Nat × Nat)) (P : Nat → Bool) : List Nat := (List.range L.length).filter fun i => P i && !redN L i
theorem keepN_mem (L : List (Nat × Nat)) (P : Nat → Bool) (i : Nat) : i ∈ keepN L P ↔ i < L.length ∧ P i = true ∧ redN L i = false := by
  unfold keepN
  rw [List.mem_filter, List.mem_range]
  simp
theorem simpL_keep (L : List (Nat × Nat)) (wf : Wf L) : simpL L = (keepN (L.map canP) fun _ => true).map fun i => (L.map canP).getD i (0, 0) := by
  unfold simpL keptT keepN
  rw [List.length_map]
  have e : ((List.range L.length).filter fun i => !redN L i) = (List.range L.length).filter fun i => true && !redN (L.map canP) i := by
    apply List.filter_congr
    intro i hi
    rw [can_red L wf i (List.mem_range.1 hi)]
    simp
  rw [e]
  apply List.map_congr_left
  intro i hi
  rw [can_at]
end Go.Proofs.Yteemhabgliglmaa
