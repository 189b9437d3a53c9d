/- Cubeset: what simplified holds while it goes over the cubes by free bits: plain facts. -/
import Derived.Test.YteemhabgliglmaaCsX
namespace Go.Proofs.Yteemhabgliglmaa
open Go.RowKit
set_option linter.unusedVariables false

/-- Behind the places P: the cubes kept, and the marks. -/
structure SI (C : List (Nat × Nat)) (P : Nat → Bool) (S : List (Nat × Nat)) (B : List Bool) : Prop where
  mem : ∀ p, p ∈ S ↔ ∃ i, i < C.length ∧ P i = true ∧ redN C i = false ∧ C.getD i (0, 0) = p
  len : S.length = (keepN C P).length
  bl : B.length = C.length
  bit : ∀ i, i < C.length → B.getD i false = (P i && !redN C i)
theorem keepN_congr (C : List (Nat × Nat)) (P Q : Nat → Bool) (h : ∀ i, i < C.length → P i = Q i) : keepN C P = keepN C Q := by
  unfold keepN
  apply List.filter_congr
  intro i hi
  rw [h i (List.mem_range.1 hi)]
theorem keepN_mono (C : List (Nat × Nat)) (P Q : Nat → Bool) (h : ∀ i, P i = true → Q i = true) : (keepN C P).length ≤ (keepN C Q).length := by
  unfold keepN
  rw [← List.countP_eq_length_filter, ← List.countP_eq_length_filter]
  apply List.countP_mono_left
  intro i _ hi
  rw [Bool.and_eq_true] at hi ⊢
  exact ⟨h i hi.1, hi.2⟩
theorem filter_one (P : Nat → Bool) (R : Nat → Bool) (i : Nat) (hP : P i = false) : ∀ n, ((List.range n).filter fun j => (P j || j == i) && R j).length = ((List.range n).filter fun j => P j && R j).length + (if i < n ∧ R i = true then 1 else 0) := by
  intro n
  induction n with
  | zero => simp
  | succ n ih =>
    rw [List.range_succ, List.filter_append, List.filter_append, List.length_append, List.length_append, ih]
    by_cases e : n = i
    · subst e
      rw [if_neg (by omega)]
      cases hr : R n <;> simp [hP, hr]
    · have e2 : (n == i) = false := by rw [beq_eq_false_iff_ne]; exact e
      have e3 : (i < n + 1 ∧ R i = true) ↔ (i < n ∧ R i = true) := by constructor <;> (rintro ⟨a, b⟩; exact ⟨by omega, b⟩)
      simp only [e3, List.filter_cons, List.filter_nil, e2, Bool.or_false]
      omega
theorem SI.start (C : List (Nat × Nat)) : SI C (fun _ => false) [] (List.replicate C.length false) := by
  refine ⟨fun p => ?_, ?_, by simp, fun i hi => ?_⟩
  · constructor
    · intro h; cases h
    · rintro ⟨i, _, h, _⟩; cases h
  · unfold keepN
    simp only [Bool.false_and]
    rw [List.filter_eq_nil_iff.2 (fun _ _ h => by cases h)]
    rfl
  · rw [List.getD_eq_getElem?_getD, List.getElem?_replicate]
    simp [hi]
theorem SI.congr {C : List (Nat × Nat)} {P Q : Nat → Bool} {S : List (Nat × Nat)} {B : List Bool} (h : SI C P S B) (e : ∀ i, i < C.length → P i = Q i) : SI C Q S B := by
  refine ⟨fun p => ?_, ?_, h.bl, fun i hi => ?_⟩
  · rw [h.mem p]
    constructor
    · rintro ⟨i, a, b, c⟩; exact ⟨i, a, by rw [← e i a]; exact b, c⟩
    · rintro ⟨i, a, b, c⟩; exact ⟨i, a, by rw [e i a]; exact b, c⟩
  · rw [h.len, keepN_congr C P Q e]
  · rw [h.bit i hi, e i hi]
theorem SI.skip {C : List (Nat × Nat)} {P : Nat → Bool} {S : List (Nat × Nat)} {B : List Bool} (h : SI C P S B) (i : Nat) (hP : P i = false) (hr : redN C i = true) : SI C (fun j => P j || j == i) S B := by
  refine ⟨fun p => ?_, ?_, h.bl, fun j hj => ?_⟩
  · rw [h.mem p]
    constructor
    · rintro ⟨j, a, b, c⟩; exact ⟨j, a, by rw [b]; rfl, c⟩
    · rintro ⟨j, a, b, c, d⟩
      rw [Bool.or_eq_true, beq_iff_eq] at b
      rcases b with b | b
      · exact ⟨j, a, b, c, d⟩
      · subst b; rw [hr] at c; cases c
  · have := filter_one P (fun j => !redN C j) i hP C.length
    rw [if_neg (by rw [hr]; simp)] at this
    rw [h.len]
    exact this.symm
  · rw [h.bit j hj]
    by_cases e : j = i
    · subst e; rw [hr]; simp
    · have : (j == i) = false := by rw [beq_eq_false_iff_ne]; exact e
      rw [this, Bool.or_false]
theorem getB_set (B : List Bool) (i j : Nat) (hi : i < B.length) : (B.set i true).getD j false = if j = i then true else B.getD j false := by
  rw [List.getD_eq_getElem?_getD, List.getD_eq_getElem?_getD, List.getElem?_set]
  by_cases h : i = j
  · subst h; simp [hi]
  · rw [if_neg h, if_neg (Ne.symm h)]
theorem SI.add {C : List (Nat × Nat)} {P : Nat → Bool} {S : List (Nat × Nat)} {B : List Bool} (h : SI C P S B) (i : Nat) (hi : i < C.length) (hP : P i = false) (hr : redN C i = false) : SI C (fun j => P j || j == i) (S ++ [C.getD i (0, 0)]) (B.set i true) := by
  refine ⟨fun p => ?_, ?_, by rw [List.length_set]; exact h.bl, fun j hj => ?_⟩
  · rw [List.mem_append, h.mem p, List.mem_singleton]
    constructor
    · rintro (⟨j, a, b, c⟩ | e)
      · exact ⟨j, a, by rw [b]; rfl, c⟩
      · exact ⟨i, hi, by simp, hr, e.symm⟩
    · rintro ⟨j, a, b, c, d⟩
      rw [Bool.or_eq_true, beq_iff_eq] at b
      rcases b with b | b
      · exact .inl ⟨j, a, b, c, d⟩
      · subst b; exact .inr d.symm
  · have := filter_one P (fun j => !redN C j) i hP C.length
    rw [if_pos ⟨hi, by rw [hr]; rfl⟩] at this
    rw [List.length_append, h.len]
    exact this.symm
  · rw [getB_set B i j (by rw [h.bl]; exact hi), h.bit j hj]
    by_cases e : j = i
    · subst e; rw [if_pos rfl, hr]; simp
    · have : (j == i) = false := by rw [beq_eq_false_iff_ne]; exact e
      rw [if_neg e, this, Bool.or_false]
theorem SI.fresh {C : List (Nat × Nat)} {P : Nat → Bool} {S : List (Nat × Nat)} {B : List Bool} (h : SI C P S B) (wf : Wf C) (i : Nat) (hi : i < C.length) (hP : P i = false) (hr : redN C i = false) : C.getD i (0, 0) ∉ S := by
  intro hm
  obtain ⟨j, a, b, c, d⟩ := (h.mem _).1 hm
  have := stays_once C wf j i a hi c hr d
  subst this
  rw [hP] at b; cases b
/-- The cubes of a list have no bit outside their masks. -/
def Cn (C : List (Nat × Nat)) : Prop := ∀ p ∈ C, p.1 &&& p.2 = p.1
theorem incl_iff (M : List Nat) (S : List (Nat × Nat)) (hM : ∀ p ∈ S, p.2 ∈ M) (cn : ∀ p ∈ S, p.1 &&& p.2 = p.1) (w64 : ∀ p ∈ S, B64 p.2) (v m : Nat) (hm : B64 m) : incl M S v m = true ↔ ∃ p ∈ S, subP (v, m) p = true := by
  unfold incl
  rw [List.any_eq_true]
  constructor
  · rintro ⟨x, hx, h⟩
    unfold incT at h
    rw [Bool.and_eq_true, decide_eq_true_eq, decide_eq_true_eq] at h
    refine ⟨_, h.2, ?_⟩
    have e1 := (andN_zero x m (w64 _ h.2) hm).1 h.1
    rw [sub_bits _ _ hm (w64 _ h.2)]
    refine ⟨fun i hi => ?_, fun i hi => ?_⟩
    · have := congrArg (fun z => Nat.testBit z i) e1
      simp only [Nat.testBit_and] at this
      have hi : x.testBit i = true := hi
      rw [hi] at this
      simpa using this
    · show v.testBit i = (v &&& x).testBit i
      have hi : x.testBit i = true := hi
      rw [Nat.testBit_and, hi, Bool.and_true]
  · rintro ⟨p, hp, h⟩
    have h' := (sub_bits _ _ hm (w64 _ hp)).1 h
    refine ⟨p.2, hM p hp, ?_⟩
    unfold incT
    rw [Bool.and_eq_true, decide_eq_true_eq, decide_eq_true_eq]
    constructor
    · rw [andN_zero _ _ (w64 _ hp) hm]
      apply Nat.eq_of_testBit_eq
      intro i
      rw [Nat.testBit_and]
      cases hb : p.2.testBit i with
      | false => simp
      | true => rw [show m.testBit i = true from h'.1 i hb]; rfl
    · have e : (v &&& p.2, p.2) = p := by
        refine Prod.ext ?_ rfl
        show v &&& p.2 = p.1
        rw [← cn p hp]
        apply Nat.eq_of_testBit_eq
        intro i
        rw [Nat.testBit_and, Nat.testBit_and]
        cases hb : p.2.testBit i with
        | false => simp
        | true => rw [show v.testBit i = p.1.testBit i from h'.2 i hb]
      rw [e]; exact hp
/-- A cube is in the cover just if it is redundant, where the places asked are those before it. -/
theorem red_incl (C : List (Nat × Nat)) (wf : Wf C) (cn : Cn C) (P : Nat → Bool) (S : List (Nat × Nat)) (B : List Bool) (M : List Nat) (h : SI C P S B) (hM : ∀ p ∈ S, p.2 ∈ M) (i : Nat) (hi : i < C.length) (hP : ∀ j, j < C.length → P j = bef C j i) :
    incl M S (C.getD i (0, 0)).1 (C.getD i (0, 0)).2 = redN C i := by
  have cm : ∀ p ∈ S, p ∈ C := by
    intro p hp
    obtain ⟨j, a, _, _, d⟩ := (h.mem p).1 hp
    rw [← d, List.getD_eq_getElem?_getD, List.getElem?_eq_getElem a]
    exact List.getElem_mem _
  rw [Bool.eq_iff_iff, incl_iff M S hM (fun p hp => cn p (cm p hp)) (fun p hp => (wf p (cm p hp)).2) _ _ (wf.at_ i hi).2, kept_iff C wf i hi]
  constructor
  · rintro ⟨p, hp, hs⟩
    obtain ⟨j, a, b, c, d⟩ := (h.mem p).1 hp
    exact ⟨j, a, by rw [← hP j a]; exact b, c, by rw [d]; exact hs⟩
  · rintro ⟨j, a, b, c, d⟩
    exact ⟨_, (h.mem _).2 ⟨j, a, by rw [hP j a]; exact b, c, rfl⟩, d⟩
/-- The places asked: those with more than k free bits, and the first u of those with k. -/
def PI (C : List (Nat × Nat)) (k u j : Nat) : Bool := decide (k < frN (C.getD j (0, 0))) || (decide (frN (C.getD j (0, 0)) = k) && decide (j ∈ (plc C k C.length).take u))
theorem plc_mem (C : List (Nat × Nat)) (k m j : Nat) : j ∈ plc C k m ↔ j < m ∧ frN (C.getD j (0, 0)) = k := by
  unfold plc
  rw [List.mem_filter, List.mem_range, beq_iff_eq]
theorem plc_sorted (C : List (Nat × Nat)) (k m : Nat) : (plc C k m).Pairwise (· < ·) := by
  unfold plc
  exact List.Pairwise.filter _ List.pairwise_lt_range
theorem PI_top (C : List (Nat × Nat)) (j : Nat) : PI C 64 0 j = false := by
  unfold PI
  have := frN_le (C.getD j (0, 0))
  rw [List.take_zero]
  generalize frN (C.getD j (0, 0)) = f at *
  simp; omega
theorem PI_down (C : List (Nat × Nat)) (k j : Nat) (hj : j < C.length) : PI C (k + 1) (plc C (k + 1) C.length).length j = PI C k 0 j := by
  unfold PI
  rw [List.take_length, List.take_zero]
  have hm := (plc_mem C (k + 1) C.length j).2
  generalize frN (C.getD j (0, 0)) = f at *
  by_cases h : f = k + 1
  · have := hm ⟨hj, h⟩
    rw [h]
    simp [this]
  · simp [h]
    omega
theorem PI_end (C : List (Nat × Nat)) (j : Nat) (hj : j < C.length) : PI C 0 (plc C 0 C.length).length j = true := by
  unfold PI
  rw [List.take_length]
  have hm := (plc_mem C 0 C.length j).2
  generalize frN (C.getD j (0, 0)) = f at *
  by_cases h : f = 0
  · have := hm ⟨hj, h⟩
    rw [h]; simp [this]
  · simp
    left; omega
theorem PI_step (C : List (Nat × Nat)) (k u j : Nat) (hu : u < (plc C k C.length).length) : PI C k (u + 1) j = (PI C k u j || j == (plc C k C.length).getD u 0) := by
  have e : (plc C k C.length).take (u + 1) = (plc C k C.length).take u ++ [(plc C k C.length).getD u 0] := take_one _ 0 u hu
  have hm : (plc C k C.length).getD u 0 ∈ plc C k C.length := by rw [List.getD_eq_getElem?_getD, List.getElem?_eq_getElem hu]; exact List.getElem_mem _
  have hf := ((plc_mem _ _ _ _).1 hm).2
  unfold PI
  rw [e]
  generalize (plc C k C.length).getD u 0 = i at *
  by_cases h : j = i
  · subst h
    rw [hf]; simp
  · have : (j == i) = false := by rw [beq_eq_false_iff_ne]; exact h
    rw [this, Bool.or_false]
    congr 2
    simp [h]
/-- The places asked ahead of the u-th with k free bits are those before it. -/
theorem PI_bef (C : List (Nat × Nat)) (k u j : Nat) (hu : u < (plc C k C.length).length) (hj : j < C.length) : PI C k u j = bef C j ((plc C k C.length).getD u 0) := by
  have hg : (plc C k C.length).getD u 0 = (plc C k C.length)[u] := by rw [List.getD_eq_getElem?_getD, List.getElem?_eq_getElem hu]; rfl
  have hm : (plc C k C.length).getD u 0 ∈ plc C k C.length := by rw [hg]; exact List.getElem_mem _
  have hf := ((plc_mem _ _ _ _).1 hm).2
  rw [Bool.eq_iff_iff, bef_iff, hf]
  unfold PI
  rw [Bool.or_eq_true, Bool.and_eq_true, decide_eq_true_eq, decide_eq_true_eq, decide_eq_true_eq]
  have hs := List.pairwise_iff_getElem.1 (plc_sorted C k C.length)
  constructor
  · rintro (h | ⟨h1, h2⟩)
    · exact .inl h
    · refine .inr ⟨h1.symm, ?_⟩
      obtain ⟨t, ht, e⟩ := List.mem_iff_getElem.1 h2
      rw [List.length_take] at ht
      rw [List.getElem_take] at e
      rw [← e, hg]
      exact hs t u (by omega) hu (by omega)
  · rintro (h | ⟨h1, h2⟩)
    · exact .inl h
    · refine .inr ⟨h1.symm, ?_⟩
      obtain ⟨t, ht, e⟩ := List.mem_iff_getElem.1 ((plc_mem C k C.length j).2 ⟨hj, h1.symm⟩)
      have : t < u := by
        rcases Nat.lt_or_ge t u with q | q
        · exact q
        · rcases Nat.lt_or_eq_of_le q with q | q
          · have := hs u t hu ht q
            rw [e, ← hg] at this
            omega
          · subst q
            rw [hg, e] at h2
            exact absurd h2 (Nat.lt_irrefl _)
      rw [← e, List.mem_iff_getElem]
      exact ⟨t, by rw [List.length_take]; omega, by rw [List.getElem_take]⟩
theorem PI_not (C : List (Nat × Nat)) (k u : Nat) (hu : u < (plc C k C.length).length) : PI C k u ((plc C k C.length).getD u 0) = false := by
  have hm : (plc C k C.length).getD u 0 ∈ plc C k C.length := by rw [List.getD_eq_getElem?_getD, List.getElem?_eq_getElem hu]; exact List.getElem_mem _
  have hj := ((plc_mem _ _ _ _).1 hm).1
  rw [PI_bef C k u _ hu hj]
  cases h : bef C ((plc C k C.length).getD u 0) ((plc C k C.length).getD u 0) with
  | false => rfl
  | true => rw [bef_iff] at h; omega
/-- The kept cubes of the first j. -/
def resT (C : List (Nat × Nat)) (j : Nat) : List (Nat × Nat) := ((List.range j).filter fun i => !redN C i).map fun i => C.getD i (0, 0)
theorem resT_succ (C : List (Nat × Nat)) (j : Nat) : resT C (j + 1) = if redN C j = true then resT C j else resT C j ++ [C.getD j (0, 0)] := by
  unfold resT
  rw [List.range_succ, List.filter_append, List.map_append]
  cases h : redN C j <;> simp [h]
theorem resT_simp (L : List (Nat × Nat)) (wf : Wf L) : simpL L = resT (L.map canP) (L.map canP).length := by
  rw [simpL_keep L wf]
  unfold resT keepN
  simp only [Bool.true_and]
theorem simp_len (L : List (Nat × Nat)) (wf : Wf L) : (simpL L).length = (keepN (L.map canP) fun _ => true).length := by
  rw [simpL_keep L wf, List.length_map]
theorem resT_len (C : List (Nat × Nat)) (j : Nat) : (resT C j).length ≤ j := by
  unfold resT
  rw [List.length_map]
  have := List.length_filter_le (fun i => !redN C i) (List.range j)
  simpa using this
theorem can_cn (L : List (Nat × Nat)) : Cn (L.map canP) := by
  intro p hp
  obtain ⟨q, _, rfl⟩ := List.mem_map.1 hp
  unfold canP
  apply Nat.eq_of_testBit_eq
  intro i
  simp only [Nat.testBit_and]
  cases q.1.testBit i <;> cases q.2.testBit i <;> rfl
end Go.Proofs.Yteemhabgliglmaa
