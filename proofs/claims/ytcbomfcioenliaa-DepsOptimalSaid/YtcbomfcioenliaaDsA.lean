/- Dependencies as numbers: what an element counts as, the earliest stages reckoned row by row and column by column, what satisfies a matrix; theory; no condition. -/
import Derived.Test.YtcbomfcioenliaaGrC
namespace Go.Proofs.Ytcbomfcioenliaa
set_option linter.unusedVariables false

/-- What an element of the matrix counts as. -/
def dp (g : List (List Int)) (i j : Nat) : Int := if i < j ∧ j < g.length ∧ ((g.getD i []).getD j 0 = 1 ∨ (g.getD i []).getD j 0 = 2) then (g.getD i []).getD j 0 else 0
theorem dp_vals (g : List (List Int)) (i j : Nat) : dp g i j = 0 ∨ dp g i j = 1 ∨ dp g i j = 2 := by
  unfold dp
  split
  · rename_i h; rcases h.2.2 with e | e <;> rw [e] <;> simp
  · exact .inl rfl
theorem dp_lt {g : List (List Int)} {i j : Nat} (h : dp g i j ≠ 0) : i < j ∧ j < g.length := by
  unfold dp at h
  split at h
  · rename_i k; exact ⟨k.1, k.2.1⟩
  · exact absurd rfl h
theorem dp_off {g : List (List Int)} {i j : Nat} (h : ¬ (i < j ∧ j < g.length)) : dp g i j = 0 := by
  unfold dp; rw [if_neg (fun k => h ⟨k.1, k.2.1⟩)]
theorem dp_far {g : List (List Int)} {i j : Nat} (h : (g.getD i []).length ≤ j) : dp g i j = 0 := by
  unfold dp
  have e : (g.getD i []).getD j 0 = 0 := by
    rw [List.getD_eq_getElem?_getD (l := g.getD i []), List.getElem?_eq_none h]; rfl
  rw [e]; simp
theorem dp_is {g : List (List Int)} {i j : Nat} (h : i < j ∧ j < g.length) (z : Int) (hz : (g.getD i []).getD j 0 = z) (h2 : z = 1 ∨ z = 2) : dp g i j = z := by
  subst hz; unfold dp; rw [if_pos ⟨h.1, h.2, h2⟩]
theorem dp_none {g : List (List Int)} {i j : Nat} (h2 : ¬ ((g.getD i []).getD j 0 = 1 ∨ (g.getD i []).getD j 0 = 2)) : dp g i j = 0 := by
  unfold dp; rw [if_neg (fun k => h2 k.2.2)]

/-- The stage of j, once the first k units have been asked. -/
def st (g : List (List Int)) : Nat → Nat → Int
  | 0, _ => 0
  | k + 1, j => if dp g k j = 2 then max (st g k j) (st g k k + 1) else if dp g k j = 1 then max (st g k j) (st g k k) else st g k j
theorem st_zero (g : List (List Int)) (j : Nat) : st g 0 j = 0 := rfl
theorem st_none {g : List (List Int)} {k j : Nat} (h : dp g k j = 0) : st g (k + 1) j = st g k j := by
  rw [st, h]; simp
theorem st_same {g : List (List Int)} {k j : Nat} (h : dp g k j = 1) : st g (k + 1) j = max (st g k j) (st g k k) := by
  rw [st, h]; simp
theorem st_later {g : List (List Int)} {k j : Nat} (h : dp g k j = 2) : st g (k + 1) j = max (st g k j) (st g k k + 1) := by
  rw [st, h]; simp
theorem st_more (g : List (List Int)) (j d : Nat) : st g (j + d) j = st g j j := by
  induction d with
  | zero => rfl
  | succ d ih => rw [← Nat.add_assoc, st_none (dp_off (by omega)), ih]
theorem st_range (g : List (List Int)) (k : Nat) : ∀ j, 0 ≤ st g k j ∧ st g k j ≤ k := by
  induction k with
  | zero => intro j; simp [st]
  | succ k ih =>
    intro j
    have h1 := ih j
    have h2 := ih k
    rcases dp_vals g k j with e | e | e
    · rw [st_none e]; omega
    · rw [st_same e]; omega
    · rw [st_later e]; omega
def stL (g : List (List Int)) : List Int := tab g.length fun j => st g j j
theorem stL_len (g : List (List Int)) : (stL g).length = g.length := tab_len _ _
theorem stL_at (g : List (List Int)) (j : Nat) (h : j < g.length) : (stL g).getD j 0 = st g j j := tab_at _ _ _ h

/-- The program's row in the round of unit i, element j. -/
def pm (g : List (List Int)) (i j : Nat) : List Int := tab g.length fun u => if u < j then st g (i + 1) u else st g i u
theorem pm_len (g : List (List Int)) (i j : Nat) : (pm g i j).length = g.length := tab_len _ _
theorem pm_zero (g : List (List Int)) (i : Nat) : pm g i 0 = tab g.length (st g i) := by unfold pm; simp
theorem pm_start (g : List (List Int)) : tab g.length (st g 0) = List.replicate g.length 0 := by
  rw [show tab g.length (st g 0) = tab g.length fun _ => 0 from rfl, tab_const]
theorem pm_full (g : List (List Int)) (i : Nat) : pm g i (g.getD i []).length = tab g.length (st g (i + 1)) := tab_congr fun u hu => by
  by_cases h : u < (g.getD i []).length
  · rw [if_pos h]
  · rw [if_neg h, st_none (dp_far (by omega))]
theorem pm_end (g : List (List Int)) : tab g.length (st g g.length) = stL g := tab_congr fun u hu => by
  have e := st_more g u (g.length - u)
  rw [show u + (g.length - u) = g.length by omega] at e
  exact e
theorem pm_skip {g : List (List Int)} {i j : Nat} (h : dp g i j = 0) : pm g i (j + 1) = pm g i j := tab_congr fun u hu => by
  by_cases e : u < j
  · rw [if_pos e, if_pos (by omega)]
  · rw [if_neg e]
    by_cases e2 : u = j
    · subst e2; rw [if_pos (by omega), st_none h]
    · rw [if_neg (by omega)]
theorem pm_set {g : List (List Int)} {i j : Nat} (x : Int) (h : st g (i + 1) j = x) : (pm g i j).set j x = pm g i (j + 1) := by
  unfold pm
  rw [tab_set]
  refine tab_congr fun u hu => ?_
  by_cases e2 : u = j
  · subst e2; rw [if_pos rfl, if_pos (by omega), h]
  · rw [if_neg e2]
    by_cases e : u < j
    · rw [if_pos e, if_pos (by omega)]
    · rw [if_neg e, if_neg (by omega)]
theorem pm_own {g : List (List Int)} {i j : Nat} (h : i < g.length) : (pm g i j).getD i 0 = st g i i := by
  unfold pm
  rw [tab_at _ _ _ h]
  split
  · exact st_none (dp_off (by omega))
  · rfl
theorem pm_at {g : List (List Int)} {i j : Nat} (h : j < g.length) : (pm g i j).getD j 0 = st g i j := by
  unfold pm
  rw [tab_at _ _ _ h, if_neg (Nat.lt_irrefl j)]

/-- The reference's row in column j, row i. -/
def rl (g : List (List Int)) (j i : Nat) : List Int := tab g.length fun u => if u < j then st g u u else if u = j then st g i u else 0
theorem rl_len (g : List (List Int)) (i j : Nat) : (rl g j i).length = g.length := tab_len _ _
theorem rl_start (g : List (List Int)) : rl g 0 0 = List.replicate g.length 0 := by
  rw [← tab_const]
  refine tab_congr fun u hu => ?_
  rw [if_neg (Nat.not_lt_zero _)]
  split
  · rename_i h; subst h; rfl
  · rfl
theorem rl_next (g : List (List Int)) (j : Nat) : rl g j j = rl g (j + 1) 0 := tab_congr fun u hu => by
  by_cases e : u < j
  · rw [if_pos e, if_pos (by omega)]
  · rw [if_neg e]
    by_cases e2 : u = j
    · subst e2; rw [if_pos rfl, if_pos (by omega)]
    · rw [if_neg e2, if_neg (by omega)]
      split
      · rfl
      · rfl
theorem rl_end (g : List (List Int)) : rl g g.length 0 = stL g := tab_congr fun u hu => by rw [if_pos hu]
theorem rl_skip {g : List (List Int)} {i j : Nat} (h : dp g i j = 0) : rl g j (i + 1) = rl g j i := tab_congr fun u hu => by
  by_cases e : u < j
  · rw [if_pos e, if_pos e]
  · rw [if_neg e, if_neg e]
    by_cases e2 : u = j
    · subst e2; rw [if_pos rfl, if_pos rfl, st_none h]
    · rw [if_neg e2, if_neg e2]
theorem rl_set {g : List (List Int)} {i j : Nat} (x : Int) (h : st g (i + 1) j = x) : (rl g j i).set j x = rl g j (i + 1) := by
  unfold rl
  rw [tab_set]
  refine tab_congr fun u hu => ?_
  by_cases e2 : u = j
  · subst e2; rw [if_pos rfl, if_neg (Nat.lt_irrefl _), if_pos rfl, h]
  · rw [if_neg e2]
    by_cases e : u < j
    · rw [if_pos e, if_pos e]
    · rw [if_neg e, if_neg e, if_neg e2, if_neg e2]
theorem rl_own {g : List (List Int)} {i j : Nat} (h : i < j) (hj : j < g.length) : (rl g j i).getD i 0 = st g i i := by
  unfold rl
  rw [tab_at _ _ _ (by omega), if_pos h]
theorem rl_at {g : List (List Int)} {i j : Nat} (h : j < g.length) : (rl g j i).getD j 0 = st g i j := by
  unfold rl
  rw [tab_at _ _ _ h, if_neg (Nat.lt_irrefl j), if_pos rfl]

/-- Stages that keep the dependency of j on i. -/
def PairOk (g : List (List Int)) (s : List Int) (i j : Nat) : Prop := (dp g i j = 2 → s.getD i 0 < s.getD j 0) ∧ (dp g i j = 1 → s.getD i 0 ≤ s.getD j 0)
theorem pair_none {g : List (List Int)} {s : List Int} {i j : Nat} (h : dp g i j = 0) : PairOk g s i j := ⟨fun e => by omega, fun e => by omega⟩
def SatP (g : List (List Int)) (s : List Int) : Prop := s.length = g.length ∧ ∀ i, i < g.length → ∀ j, j < g.length → PairOk g s i j
instance (g : List (List Int)) (s : List Int) (i j : Nat) : Decidable (PairOk g s i j) := by unfold PairOk; infer_instance
instance (g : List (List Int)) (s : List Int) : Decidable (SatP g s) := by unfold SatP; infer_instance
theorem st_mono (g : List (List Int)) (j k d : Nat) : st g k j ≤ st g (k + d) j := by
  induction d with
  | zero => exact Int.le_refl _
  | succ d ih =>
    rw [← Nat.add_assoc]
    rcases dp_vals g (k + d) j with e | e | e
    · rw [st_none e]; exact ih
    · rw [st_same e]; omega
    · rw [st_later e]; omega
theorem st_edge1 {g : List (List Int)} {i j : Nat} (h : dp g i j = 1) : st g i i ≤ st g j j := by
  have hl := (dp_lt (g := g) (i := i) (j := j) (by omega)).1
  have e := st_mono g j (i + 1) (j - (i + 1))
  rw [show i + 1 + (j - (i + 1)) = j by omega, st_same h] at e
  omega
theorem st_edge2 {g : List (List Int)} {i j : Nat} (h : dp g i j = 2) : st g i i + 1 ≤ st g j j := by
  have hl := (dp_lt (g := g) (i := i) (j := j) (by omega)).1
  have e := st_mono g j (i + 1) (j - (i + 1))
  rw [show i + 1 + (j - (i + 1)) = j by omega, st_later h] at e
  omega
theorem stL_sat (g : List (List Int)) : SatP g (stL g) := by
  refine ⟨stL_len g, fun i hi j hj => ⟨fun e => ?_, fun e => ?_⟩⟩
  · rw [stL_at g i hi, stL_at g j hj]; have := st_edge2 e; omega
  · rw [stL_at g i hi, stL_at g j hj]; exact st_edge1 e
/-- A stage is 0, or some unit asks for it. -/
theorem st_from (g : List (List Int)) (k j : Nat) : st g k j = 0 ∨ ∃ i, i < k ∧ ((dp g i j = 1 ∧ st g k j = st g i i) ∨ (dp g i j = 2 ∧ st g k j = st g i i + 1)) := by
  induction k with
  | zero => exact .inl rfl
  | succ k ih =>
    have old : st g (k + 1) j = st g k j → st g (k + 1) j = 0 ∨ ∃ i, i < k + 1 ∧ ((dp g i j = 1 ∧ st g (k + 1) j = st g i i) ∨ (dp g i j = 2 ∧ st g (k + 1) j = st g i i + 1)) := by
      intro e
      rcases ih with q | ⟨i, hi, q⟩
      · exact .inl (by rw [e]; exact q)
      · exact .inr ⟨i, by omega, by rw [e]; exact q⟩
    rcases dp_vals g k j with e | e | e
    · exact old (st_none e)
    · have q := st_same e
      by_cases h : st g k k ≤ st g k j
      · exact old (by rw [q]; omega)
      · exact .inr ⟨k, by omega, .inl ⟨e, by rw [q]; omega⟩⟩
    · have q := st_later e
      by_cases h : st g k k + 1 ≤ st g k j
      · exact old (by rw [q]; omega)
      · exact .inr ⟨k, by omega, .inr ⟨e, by rw [q]; omega⟩⟩
/-- No stages that satisfy the matrix and are not negative are smaller. -/
theorem st_least {g : List (List Int)} {s : List Int} (h : SatP g s) (h0 : ∀ i, i < g.length → 0 ≤ s.getD i 0) : ∀ j, j < g.length → st g j j ≤ s.getD j 0 := by
  intro j
  induction j using Nat.strongRecOn with
  | ind j ih =>
    intro hj
    rcases st_from g j j with e | ⟨i, hi, ⟨e, q⟩ | ⟨e, q⟩⟩
    · rw [e]; exact h0 j hj
    · have := ih i hi (by omega); have := (h.2 i (by omega) j hj).2 e; omega
    · have := ih i hi (by omega); have := (h.2 i (by omega) j hj).1 e; omega
end Go.Proofs.Ytcbomfcioenliaa
