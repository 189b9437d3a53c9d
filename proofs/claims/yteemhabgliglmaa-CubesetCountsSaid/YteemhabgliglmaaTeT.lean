/- Ternary: the theory of cubes: membership, the difference, the order. -/
import Derived.Test.YteemhabgliglmaaTeQ
namespace Go.Proofs.Yteemhabgliglmaa
set_option linter.unusedVariables false

/-- The cube holds the number, bit by bit. -/
def Has (v m n : Nat) : Prop := ∀ i, m.testBit i = true → v.testBit i = n.testBit i
theorem hasN_iff (v m n : Nat) : hasN v m n = true ↔ Has v m n := by
  unfold hasN iAgree Has
  rw [decide_eq_true_eq, tb_zero]
  constructor
  · intro h i hi
    have k := h i
    rw [Nat.testBit_and, Nat.testBit_xor, hi] at k
    revert k
    cases v.testBit i <;> cases n.testBit i <;> simp
  · intro h i
    rw [Nat.testBit_and, Nat.testBit_xor]
    have k := h i
    revert k
    cases m.testBit i <;> cases v.testBit i <;> cases n.testBit i <;> simp
theorem meetN_iff (v m v2 m2 : Nat) : meetN v m v2 m2 = true ↔ ∀ i, m.testBit i = true → m2.testBit i = true → v.testBit i = v2.testBit i := by
  have h := hasN_iff v (m &&& m2) v2
  unfold hasN at h
  unfold meetN
  rw [h]
  unfold Has
  constructor
  · intro g i h1 h2
    exact g i (by rw [Nat.testBit_and, h1, h2]; rfl)
  · intro g i h1
    rw [Nat.testBit_and, Bool.and_eq_true] at h1
    exact g i h1.1 h1.2
theorem subN_iff (v m v2 m2 : Nat) (hm : B64 m) (hm2 : B64 m2) : subN v m v2 m2 = true ↔ (∀ i, m2.testBit i = true → m.testBit i = true) ∧ ∀ i, m2.testBit i = true → v.testBit i = v2.testBit i := by
  have h := hasN_iff v m2 v2
  unfold hasN at h
  unfold subN
  rw [Bool.and_eq_true, h, decide_eq_true_eq, tb_zero]
  refine and_congr ?_ Iff.rfl
  constructor
  · intro g i hi
    have k := g i
    rw [tb_andN _ _ _ hm2 hm, hi] at k
    simpa using k
  · intro g i
    rw [tb_andN _ _ _ hm2 hm]
    have k := g i
    revert k
    cases m2.testBit i <;> cases m.testBit i <;> simp
/-- No bit outside the mask. -/
def Canon (v m : Nat) : Prop := ∀ i, v.testBit i = true → m.testBit i = true
theorem canon_iff (v m : Nat) (hv : B64 v) (hm : B64 m) : andN v m = 0 ↔ Canon v m := by
  rw [tb_zero]
  unfold Canon
  refine forall_congr' fun i => ?_
  rw [tb_andN _ _ _ hv hm]
  cases v.testBit i <;> cases m.testBit i <;> simp
/-- The head's cube at bit i. -/
theorem has_head (xv xm yv i N : Nat) (hy : B64 yv) (hi : i < 64) (hc : Canon xv xm) (hx : xm.testBit i = false) : Has (xv ||| andN (2 ^ i) yv) (xm ||| 2 ^ i) N ↔ Has xv xm N ∧ yv.testBit i ≠ N.testBit i := by
  have hxv : xv.testBit i = false := by
    cases h : xv.testBit i
    · rfl
    · rw [hc i h] at hx; cases hx
  have e1 : ∀ j, (xv ||| andN (2 ^ i) yv).testBit j = (xv.testBit j || (decide (i = j) && !yv.testBit j)) := fun j => by
    rw [Nat.testBit_or, tb_andN _ _ _ (one_lt i hi) hy, bit_one]
  have e2 : ∀ j, (xm ||| 2 ^ i).testBit j = (xm.testBit j || decide (i = j)) := fun j => by rw [Nat.testBit_or, bit_one]
  unfold Has
  constructor
  · intro h
    refine ⟨fun j hj => ?_, ?_⟩
    · have k := h j (by rw [e2, hj]; rfl)
      have hne : ¬ i = j := by intro e; subst e; rw [hx] at hj; cases hj
      rw [e1, decide_eq_false hne] at k
      simpa using k
    · have k := h i (by rw [e2]; simp)
      rw [e1, hxv] at k
      revert k
      simp only [decide_true, Bool.true_and, Bool.false_or]
      cases yv.testBit i <;> cases N.testBit i <;> simp
  · rintro ⟨h, hne⟩ j hj
    rw [e2] at hj
    rw [e1]
    by_cases e : i = j
    · subst e
      rw [hxv]
      revert hne
      simp only [decide_true, Bool.true_and, Bool.false_or]
      cases yv.testBit i <;> cases N.testBit i <;> simp
    · rw [decide_eq_false e] at hj ⊢
      simp only [Bool.or_false, Bool.false_and] at hj ⊢
      exact h j hj
/-- What is left behind bit i. -/
theorem has_tail (xv xm yv i N : Nat) (hi : i < 64) (hc : Canon xv xm) (hx : xm.testBit i = false) : Has (xv ||| (2 ^ i &&& yv)) (xm ||| 2 ^ i) N ↔ Has xv xm N ∧ yv.testBit i = N.testBit i := by
  have hxv : xv.testBit i = false := by
    cases h : xv.testBit i
    · rfl
    · rw [hc i h] at hx; cases hx
  have e1 : ∀ j, (xv ||| (2 ^ i &&& yv)).testBit j = (xv.testBit j || (decide (i = j) && yv.testBit j)) := fun j => by
    rw [Nat.testBit_or, Nat.testBit_and, bit_one]
  have e2 : ∀ j, (xm ||| 2 ^ i).testBit j = (xm.testBit j || decide (i = j)) := fun j => by rw [Nat.testBit_or, bit_one]
  unfold Has
  constructor
  · intro h
    refine ⟨fun j hj => ?_, ?_⟩
    · have k := h j (by rw [e2, hj]; rfl)
      have hne : ¬ i = j := by intro e; subst e; rw [hx] at hj; cases hj
      rw [e1, decide_eq_false hne] at k
      simpa using k
    · have k := h i (by rw [e2]; simp)
      rw [e1, hxv] at k
      simpa using k
  · rintro ⟨h, hne⟩ j hj
    rw [e2] at hj
    rw [e1]
    by_cases e : i = j
    · subst e
      rw [hxv]
      simpa using hne
    · rw [decide_eq_false e] at hj ⊢
      simp only [Bool.or_false, Bool.false_and] at hj ⊢
      exact h j hj
theorem canon_head (xv xm yv i : Nat) (hy : B64 yv) (hi : i < 64) (hc : Canon xv xm) : Canon (xv ||| andN (2 ^ i) yv) (xm ||| 2 ^ i) := by
  intro j hj
  rw [Nat.testBit_or, tb_andN _ _ _ (one_lt i hi) hy, bit_one] at hj
  rw [Nat.testBit_or, bit_one]
  have k := hc j
  revert hj k
  cases xv.testBit j <;> cases xm.testBit j <;> simp
  intro a b
  exact a
theorem canon_tail (xv xm yv i : Nat) (hc : Canon xv xm) : Canon (xv ||| (2 ^ i &&& yv)) (xm ||| 2 ^ i) := by
  intro j hj
  rw [Nat.testBit_or, Nat.testBit_and, bit_one] at hj
  rw [Nat.testBit_or, bit_one]
  have k := hc j
  revert hj k
  cases xv.testBit j <;> cases xm.testBit j <;> simp
  intro a b
  exact a
/-- How many of them hold the number. -/
def cntN (L : List (Nat × Nat)) (N : Nat) : Nat := L.countP fun p => hasN p.1 p.2 N
open Classical in
theorem subR_cnt (yv F N : Nat) (hy : B64 yv) (n : Nat) (hn : n ≤ 64) : ∀ xv xm, Canon xv xm → (∀ j, j < n → F.testBit j = true → xm.testBit j = false) →
    cntN (subR yv F n xv xm) N = if Has xv xm N ∧ ∃ j, j < n ∧ F.testBit j = true ∧ yv.testBit j ≠ N.testBit j then 1 else 0 := by
  induction n with
  | zero =>
    intro xv xm _ _
    rw [if_neg (by rintro ⟨_, j, hj, _⟩; omega)]
    rfl
  | succ i ih =>
    intro xv xm hc hF
    unfold subR
    by_cases hb : F.testBit i = true
    · have hx := hF i (by omega) hb
      rw [if_pos hb]
      unfold cntN
      rw [List.countP_cons]
      have T := ih (by omega) (xv ||| (2 ^ i &&& yv)) (xm ||| 2 ^ i) (canon_tail xv xm yv i hc) (fun j hj hFj => by
        rw [Nat.testBit_or, bit_one, hF j (by omega) hFj, decide_eq_false (by omega)]; rfl)
      unfold cntN at T
      rw [T]
      have H : (hasN (xv ||| andN (2 ^ i) yv) (xm ||| 2 ^ i) N = true) ↔ _ := (hasN_iff _ _ _).trans (has_head xv xm yv i N hy (by omega) hc hx)
      have G := has_tail xv xm yv i N (by omega) hc hx
      simp only [H, G]
      by_cases h1 : Has xv xm N
      · by_cases h2 : yv.testBit i = N.testBit i
        · rw [if_neg (show ¬ (Has xv xm N ∧ yv.testBit i ≠ N.testBit i) from fun h => h.2 h2)]
          by_cases h3 : ∃ j, j < i ∧ F.testBit j = true ∧ yv.testBit j ≠ N.testBit j
          · rw [if_pos ⟨⟨h1, h2⟩, h3⟩, if_pos ⟨h1, by obtain ⟨j, a, b, c⟩ := h3; exact ⟨j, by omega, b, c⟩⟩]
          · rw [if_neg (fun h => h3 h.2), if_neg]
            rintro ⟨_, j, a, b, c⟩
            by_cases e : j = i
            · subst e; exact c h2
            · exact h3 ⟨j, by omega, b, c⟩
        · rw [if_pos (show Has xv xm N ∧ yv.testBit i ≠ N.testBit i from ⟨h1, h2⟩), if_neg (fun h => h2 h.1.2), if_pos ⟨h1, i, by omega, hb, h2⟩]
      · rw [if_neg (fun h => h1 h.1.1), if_neg (fun h => h1 h.1), if_neg (fun h => h1 h.1)]
    · rw [if_neg hb, ih (by omega) xv xm hc (fun j hj => hF j (by omega))]
      congr 1
      rw [eq_iff_iff]
      refine and_congr Iff.rfl ⟨?_, ?_⟩
      · rintro ⟨j, a, b, c⟩; exact ⟨j, by omega, b, c⟩
      · rintro ⟨j, a, b, c⟩
        refine ⟨j, ?_, b, c⟩
        by_cases e : j = i
        · subst e; exact absurd b hb
        · omega
theorem subR_canon (yv F k : Nat) (hy : B64 yv) (hk : k ≤ 64) (n : Nat) (hn : n ≤ k) : ∀ xv xm, Canon xv xm → (∀ j, xm.testBit j = true → j < k) → ∀ q ∈ subR yv F n xv xm, Canon q.1 q.2 ∧ ∀ j, q.2.testBit j = true → j < k := by
  induction n with
  | zero => intro xv xm _ _ q hq; cases hq
  | succ i ih =>
    intro xv xm hc hm q hq
    have hm2 : ∀ j, (xm ||| 2 ^ i).testBit j = true → j < k := fun j hj => by
      rw [Nat.testBit_or, bit_one, Bool.or_eq_true, decide_eq_true_eq] at hj
      rcases hj with hj | hj
      · exact hm j hj
      · omega
    unfold subR at hq
    split at hq
    · rcases List.mem_cons.mp hq with rfl | hq
      · exact ⟨canon_head xv xm yv i hy (by omega) hc, hm2⟩
      · exact ih (by omega) _ _ (canon_tail xv xm yv i hc) hm2 q hq
    · exact ih (by omega) _ _ hc hm q hq
theorem subR_keeps (yv F n : Nat) : ∀ xv xm, (∀ j, j < n → F.testBit j = true → xm.testBit j = false) → ∀ q ∈ subR yv F n xv xm, ∀ j, xm.testBit j = true → B64 yv → n ≤ 64 → q.2.testBit j = true ∧ q.1.testBit j = xv.testBit j := by
  induction n with
  | zero => intro xv xm _ q hq; cases hq
  | succ i ih =>
    intro xv xm hF q hq j hj hy hn
    unfold subR at hq
    split at hq
    · rename_i hb
      have hx := hF i (by omega) hb
      have hne : ¬ i = j := by intro e; subst e; rw [hx] at hj; cases hj
      rcases List.mem_cons.mp hq with rfl | hq
      · constructor
        · rw [Nat.testBit_or, hj]; rfl
        · rw [Nat.testBit_or, tb_andN _ _ _ (one_lt i (by omega)) hy, bit_one, decide_eq_false hne]; simp
      · have k := ih (xv ||| (2 ^ i &&& yv)) (xm ||| 2 ^ i) (fun t ht hFt => by
          rw [Nat.testBit_or, bit_one, hF t (by omega) hFt, decide_eq_false (by omega)]; rfl) q hq j (by rw [Nat.testBit_or, hj]; rfl) hy (by omega)
        refine ⟨k.1, ?_⟩
        rw [k.2, Nat.testBit_or, Nat.testBit_and, bit_one, decide_eq_false hne]; simp
    · exact ih xv xm (fun t ht => hF t (by omega)) q hq j hj hy (by omega)
theorem subR_apart (yv F n : Nat) (hy : B64 yv) (hn : n ≤ 64) : ∀ xv xm, Canon xv xm → (∀ j, j < n → F.testBit j = true → xm.testBit j = false) → (subR yv F n xv xm).Pairwise fun p q => meetN p.1 p.2 q.1 q.2 = false := by
  induction n with
  | zero => intro xv xm _ _; exact List.Pairwise.nil
  | succ i ih =>
    intro xv xm hc hF
    unfold subR
    split
    · rename_i hb
      have hx := hF i (by omega) hb
      have hxv : xv.testBit i = false := by
        cases h : xv.testBit i
        · rfl
        · rw [hc i h] at hx; cases hx
      have hF2 : ∀ t, t < i → F.testBit t = true → (xm ||| 2 ^ i).testBit t = false := fun t ht hFt => by
        rw [Nat.testBit_or, bit_one, hF t (by omega) hFt, decide_eq_false (by omega)]; rfl
      refine List.Pairwise.cons (fun q hq => ?_) (ih (by omega) _ _ (canon_tail xv xm yv i hc) hF2)
      have k := subR_keeps yv F i _ _ hF2 q hq i (by rw [Nat.testBit_or, bit_one]; simp) hy (by omega)
      rw [Nat.testBit_or, Nat.testBit_and, bit_one, hxv] at k
      cases h : meetN (xv ||| andN (2 ^ i) yv) (xm ||| 2 ^ i) q.1 q.2
      · rfl
      · have g := (meetN_iff _ _ _ _).mp h i (by rw [Nat.testBit_or, bit_one]; simp) k.1
        rw [k.2, Nat.testBit_or, tb_andN _ _ _ (one_lt i (by omega)) hy, bit_one, hxv] at g
        revert g
        cases yv.testBit i <;> simp
    · exact ih (by omega) xv xm hc (fun t ht => hF t (by omega))
theorem canon_cut (v m k : Nat) : Canon (cutV v m k) (cutM m k) ∧ ∀ j, (cutM m k).testBit j = true → j < k := by
  constructor
  · intro i hi
    unfold cutV at hi
    rw [Nat.testBit_and, Bool.and_eq_true] at hi
    exact hi.2
  · intro j hj
    unfold cutM at hj
    rw [Nat.testBit_and, tb_low, Bool.and_eq_true, decide_eq_true_eq] at hj
    exact hj.2
open Classical in
theorem subC_cnt (xv xm yv ym k N : Nat) (hk : k ≤ 64) (hxm : B64 xm) (hyv : B64 yv) (hym : B64 ym) (hc : Canon xv xm) (hy : ∀ j, ym.testBit j = true → j < k) : cntN (subC xv xm yv ym k) N = if Has xv xm N ∧ ¬ Has yv ym N then 1 else 0 := by
  unfold subC
  split
  · rename_i hm
    rw [subR_cnt yv _ N hyv k hk xv xm hc (fun j _ hj => by
      rw [tb_andN _ _ _ hym hxm, Bool.and_eq_true] at hj
      simpa using hj.2)]
    congr 1
    rw [eq_iff_iff]
    constructor
    · rintro ⟨h, j, hj, hF, hne⟩
      refine ⟨h, fun g => hne (g j ?_)⟩
      rw [tb_andN _ _ _ hym hxm, Bool.and_eq_true] at hF
      exact hF.1
    · rintro ⟨h, g⟩
      refine ⟨h, ?_⟩
      refine Classical.byContradiction fun ne => g fun i hi => ?_
      refine Classical.byContradiction fun hn => ?_
      by_cases hx : xm.testBit i = true
      · exact hn (((meetN_iff _ _ _ _).mp hm i hx hi).symm.trans (h i hx))
      · refine ne ⟨i, hy i hi, ?_, hn⟩
        rw [tb_andN _ _ _ hym hxm, hi]
        simpa using hx
  · rename_i hm
    unfold cntN
    rw [List.countP_cons, List.countP_nil]
    simp only [hasN_iff]
    by_cases h : Has xv xm N
    · have g : ¬ Has yv ym N := fun g => hm ((meetN_iff _ _ _ _).mpr fun i h1 h2 => (h i h1).trans (g i h2).symm)
      rw [if_pos h, if_pos ⟨h, g⟩]
    · rw [if_neg h, if_neg (fun g => h g.1)]
theorem has_cut (v m k N : Nat) : Has (cutV v m k) (cutM m k) N ↔ Has v (m &&& lowN k) N := by
  have e : cutM m k = m &&& lowN k := rfl
  unfold cutV
  rw [e]
  unfold Has
  refine forall_congr' fun i => ?_
  constructor
  · intro h hi
    have := h hi
    rw [Nat.testBit_and, hi, Bool.and_true] at this
    exact this
  · intro h hi
    rw [Nat.testBit_and, hi, Bool.and_true]
    exact h hi
theorem ite_iff {a b : Prop} {_ : Decidable a} {_ : Decidable b} (h : a ↔ b) : (if a then 1 else 0 : Nat) = if b then 1 else 0 := by
  by_cases x : a
  · rw [if_pos x, if_pos (h.mp x)]
  · rw [if_neg x, if_neg (fun y => x (h.mpr y))]
theorem subL_cnt (v m v2 m2 k N : Nat) (h1 : 1 ≤ k) (hk : k ≤ 64) (hv : B64 v) (hm : B64 m) (hv2 : B64 v2) (hm2 : B64 m2) : cntN (subL v m v2 m2 (k : Int)) N = if hasN v (m &&& lowN k) N = true ∧ hasN v2 (m2 &&& lowN k) N = false then 1 else 0 := by
  unfold subL
  rw [if_pos (by omega), Int.toNat_natCast]
  obtain ⟨lx1, lx2⟩ := cut_lt v m k hv hm
  obtain ⟨ly1, ly2⟩ := cut_lt v2 m2 k hv2 hm2
  rw [subC_cnt _ _ _ _ _ N hk lx2 ly1 ly2 (canon_cut v m k).1 (canon_cut v2 m2 k).2]
  have e1 := (hasN_iff v (m &&& lowN k) N).trans (has_cut v m k N).symm
  have e2 := (hasN_iff v2 (m2 &&& lowN k) N).trans (has_cut v2 m2 k N).symm
  exact ite_iff (and_congr e1.symm (by rw [← e2, Bool.not_eq_true]))
theorem lt_of_bits (x k : Nat) (h : ∀ j, x.testBit j = true → j < k) : x < 2 ^ k := by
  refine Nat.lt_of_not_le fun hx => ?_
  obtain ⟨i, hi, hb⟩ := Nat.exists_ge_and_testBit_of_ge_two_pow hx
  exact absurd (h i hb) (by omega)
theorem b64_of_bits (x k : Nat) (hk : k ≤ 64) (h : ∀ j, x.testBit j = true → j < k) : B64 x := by
  have := lt_of_bits x k h
  have := Nat.pow_le_pow_right (n := 2) (by decide) hk
  unfold B64
  omega
theorem chk_canon (v m k : Nat) (h1 : 1 ≤ k) (hk : k ≤ 64) (hc : Canon v m) (hm : ∀ j, m.testBit j = true → j < k) : B64 v ∧ B64 m ∧ chkN v m (k : Int) = 0 := by
  have bm := b64_of_bits m k hk hm
  have bv := b64_of_bits v k hk fun j hj => hm j (hc j hj)
  refine ⟨bv, bm, ?_⟩
  unfold chkN
  rw [if_pos (by omega), if_pos, if_pos ((canon_iff v m bv bm).mpr hc)]
  rw [Int.toNat_natCast, canon_iff _ _ bm (lowN_lt k hk)]
  intro j hj
  rw [tb_low, decide_eq_true_eq]
  exact hm j hj
theorem subC_canon (xv xm yv ym k : Nat) (hk : k ≤ 64) (hyv : B64 yv) (hc : Canon xv xm) (hm : ∀ j, xm.testBit j = true → j < k) : ∀ q ∈ subC xv xm yv ym k, Canon q.1 q.2 ∧ ∀ j, q.2.testBit j = true → j < k := by
  intro q hq
  unfold subC at hq
  split at hq
  · exact subR_canon yv _ k hyv hk k (Nat.le_refl _) xv xm hc hm q hq
  · rw [List.mem_singleton] at hq
    subst hq
    exact ⟨hc, hm⟩
theorem subL_chk (v m v2 m2 k : Nat) (h1 : 1 ≤ k) (hk : k ≤ 64) (hv : B64 v) (hm : B64 m) (hv2 : B64 v2) (hm2 : B64 m2) : ∀ q ∈ subL v m v2 m2 (k : Int), B64 q.1 ∧ B64 q.2 ∧ chkN q.1 q.2 (k : Int) = 0 := by
  intro q hq
  unfold subL at hq
  rw [if_pos (by omega), Int.toNat_natCast] at hq
  obtain ⟨ly1, ly2⟩ := cut_lt v2 m2 k hv2 hm2
  have k2 := subC_canon _ _ _ _ k hk ly1 (canon_cut v m k).1 (canon_cut v m k).2 q hq
  exact chk_canon _ _ k h1 hk k2.1 k2.2
theorem subL_apart (v m v2 m2 : Nat) (x : Int) (hv : B64 v) (hm : B64 m) (hv2 : B64 v2) (hm2 : B64 m2) : (subL v m v2 m2 x).Pairwise fun p q => meetN p.1 p.2 q.1 q.2 = false := by
  unfold subL
  split
  · rename_i hw
    obtain ⟨lx1, lx2⟩ := cut_lt v m x.toNat hv hm
    obtain ⟨ly1, ly2⟩ := cut_lt v2 m2 x.toNat hv2 hm2
    unfold subC
    split
    · exact subR_apart _ _ _ ly1 (by omega) _ _ (canon_cut v m x.toNat).1 fun j _ hj => by
        rw [tb_andN _ _ _ ly2 lx2, Bool.and_eq_true] at hj
        simpa using hj.2
    · exact List.pairwise_singleton _ _
  · exact List.Pairwise.nil
end Go.Proofs.Yteemhabgliglmaa
