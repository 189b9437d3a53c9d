/- Cubeset: how many numbers of k bits a list of cubes holds: plain facts. -/
import Derived.Test.YteemhabgliglmaaCtM
namespace Go.Proofs.Yteemhabgliglmaa
open Go.RowKit
set_option linter.unusedVariables false
/-- How many numbers below 2^k the predicate holds of. -/
def numN (k : Nat) (f : Nat → Bool) : Nat := (List.range (2 ^ k)).countP f
theorem num_le (k : Nat) (f : Nat → Bool) : numN k f ≤ 2 ^ k := by
  unfold numN
  have := List.countP_le_length (p := f) (l := List.range (2 ^ k))
  rwa [List.length_range] at this
theorem num_congr {k : Nat} {f g : Nat → Bool} (h : ∀ x, x < 2 ^ k → f x = g x) : numN k f = numN k g := by
  unfold numN
  exact List.countP_congr (fun x hx => by rw [h x (List.mem_range.1 hx)])
theorem num_zero {k : Nat} {f : Nat → Bool} (h : ∀ x, x < 2 ^ k → f x = false) : numN k f = 0 := by
  unfold numN
  rw [List.countP_eq_zero]
  intro x hx
  rw [h x (List.mem_range.1 hx)]
  decide
theorem countP_or (f g : Nat → Bool) : ∀ l : List Nat, (∀ x ∈ l, f x = true → g x = false) → l.countP (fun x => f x || g x) = l.countP f + l.countP g := by
  intro l
  induction l with
  | nil => intro _; rfl
  | cons a l ih =>
    intro h
    have h0 := h a (by simp)
    rw [List.countP_cons, List.countP_cons, List.countP_cons, ih (fun x hx => h x (by simp [hx]))]
    revert h0
    cases f a <;> cases g a <;> simp <;> omega
theorem num_or {k : Nat} {f g : Nat → Bool} (h : ∀ x, x < 2 ^ k → f x = true → g x = false) : numN k (fun x => f x || g x) = numN k f + numN k g :=
  countP_or f g _ fun x hx => h x (List.mem_range.1 hx)
theorem num_half (k : Nat) (f : Nat → Bool) : numN (k + 1) f = numN k f + numN k (fun x => f (2 ^ k + x)) := by
  unfold numN
  rw [show 2 ^ (k + 1) = 2 ^ k + 2 ^ k by rw [Nat.pow_succ]; omega, List.range_add, List.countP_append, List.countP_map]
  rfl
/-- The number agrees with the cube in the first k bits. -/
def agr (k v m x : Nat) : Bool := decide (∀ i, i < k → m.testBit i = true → v.testBit i = x.testBit i)
theorem agr_iff (k v m x : Nat) : agr k v m x = true ↔ ∀ i, i < k → m.testBit i = true → v.testBit i = x.testBit i := by unfold agr; exact decide_eq_true_iff
theorem agr_low (k v m x : Nat) (hx : x < 2 ^ k) : agr (k + 1) v m x = (agr k v m x && !(m.testBit k && v.testBit k)) := by
  have hk : x.testBit k = false := Nat.testBit_lt_two_pow hx
  rw [Bool.eq_iff_iff, Bool.and_eq_true, agr_iff, agr_iff]
  constructor
  · intro h
    refine ⟨fun i hi => h i (by omega), ?_⟩
    have := h k (by omega)
    rw [hk] at this
    revert this
    cases m.testBit k <;> cases v.testBit k <;> simp
  · rintro ⟨h1, h2⟩ i hi hm
    by_cases e : i = k
    · subst e
      rw [hm] at h2
      rw [hk]
      simpa using h2
    · exact h1 i (by omega) hm
theorem agr_high (k v m x : Nat) (hx : x < 2 ^ k) : agr (k + 1) v m (2 ^ k + x) = (agr k v m x && !(m.testBit k && !v.testBit k)) := by
  have hk : (2 ^ k + x).testBit k = true := by rw [Nat.testBit_two_pow_add_eq, Nat.testBit_lt_two_pow hx]; rfl
  have hl : ∀ i, i < k → (2 ^ k + x).testBit i = x.testBit i := fun i hi => Nat.testBit_two_pow_add_gt hi x
  rw [Bool.eq_iff_iff, Bool.and_eq_true, agr_iff, agr_iff]
  constructor
  · intro h
    refine ⟨fun i hi hm => by rw [h i (by omega) hm, hl i hi], ?_⟩
    have := h k (by omega)
    rw [hk] at this
    revert this
    cases m.testBit k <;> cases v.testBit k <;> simp
  · rintro ⟨h1, h2⟩ i hi hm
    by_cases e : i = k
    · subst e
      rw [hm] at h2
      rw [hk]
      simpa using h2
    · rw [hl i (by omega)]; exact h1 i (by omega) hm
theorem num_agr (v m : Nat) : ∀ k, numN k (agr k v m) = 2 ^ (k - popTo k m) := by
  intro k
  induction k with
  | zero =>
    have : agr 0 v m 0 = true := (agr_iff _ _ _ _).2 fun i hi => absurd hi (Nat.not_lt_zero _)
    unfold numN
    rw [show List.range (2 ^ 0) = [0] from rfl, List.countP_cons, List.countP_nil, this]
    rfl
  | succ k ih =>
    have hp := popTo_le k m
    have mb := Nat.testBit_eq_decide_div_mod_eq (x := m) (i := k)
    have e1 : popTo (k + 1) m = popTo k m + m / 2 ^ k % 2 := rfl
    rw [num_half, num_congr (fun x hx => agr_low k v m x hx), num_congr (fun x hx => agr_high k v m x hx)]
    cases hm : m.testBit k with
    | false =>
      rw [hm] at mb
      have : m / 2 ^ k % 2 = 0 := by
        have := of_decide_eq_false mb.symm
        omega
      simp only [Bool.false_and, Bool.not_false, Bool.and_true]
      rw [show (fun x => agr k v m x) = agr k v m from rfl, ih, e1, this, show k + 1 - (popTo k m + 0) = (k - popTo k m) + 1 by omega, Nat.pow_succ]
      omega
    | true =>
      rw [hm] at mb
      have : m / 2 ^ k % 2 = 1 := of_decide_eq_true mb.symm
      rw [e1, this, show k + 1 - (popTo k m + 1) = k - popTo k m by omega, ← ih]
      cases hv : v.testBit k with
      | false =>
        simp only [Bool.and_true, Bool.and_false, Bool.not_false, Bool.not_true]
        rw [num_zero (f := fun _ => false) (fun _ _ => rfl)]
        rfl
      | true =>
        simp only [Bool.and_true, Bool.and_false, Bool.not_false, Bool.not_true]
        rw [num_zero (f := fun _ => false) (fun _ _ => rfl), Nat.zero_add]
theorem num_one {k : Nat} {p : Nat × Nat} (h : Gd k p) : numN k (hasP p) = 2 ^ fbN k p := by
  unfold fbN
  rw [← num_agr p.1 p.2 k]
  refine num_congr fun x _ => ?_
  have e : hasP p x = true ↔ Has p.1 p.2 x := hasN_iff _ _ _
  rw [Bool.eq_iff_iff, e, agr_iff]
  exact ⟨fun g i _ => g i, fun g i hi => g i (h.2.2.2 i hi) hi⟩
theorem any_cons' (p : Nat × Nat) (l : List (Nat × Nat)) (x : Nat) : anyN (p :: l) x = (hasP p x || anyN l x) := by unfold anyN; rw [List.any_cons]
def szL' (k : Nat) (l : List (Nat × Nat)) : Nat := (l.map fun p => 2 ^ fbN k p).sum
theorem num_dis {k : Nat} : ∀ l : List (Nat × Nat), (∀ p ∈ l, Gd k p) → Dis l → numN k (anyN l) = szL' k l := by
  intro l
  induction l with
  | nil => intro _ _; exact num_zero fun _ _ => rfl
  | cons p l ih =>
    intro hg hd
    have hd' := List.pairwise_cons.1 hd
    rw [num_congr (fun x _ => any_cons' p l x), num_or (fun x _ hx => ?_), num_one (hg p (by simp)), ih (fun q hq => hg q (by simp [hq])) hd'.2]
    · unfold szL'; rw [List.map_cons, List.sum_cons]
    · cases ha : anyN l x with
      | false => rfl
      | true =>
        obtain ⟨q, hq, hx2⟩ := (any_iff l x).1 ha
        have := has_meet p q x ((hasN_iff _ _ _).1 hx) hx2
        rw [hd'.1 q hq] at this; cases this
theorem sz_len (k : Nat) (l : List (Nat × Nat)) : l.length ≤ szL' k l := by
  induction l with
  | nil => exact Nat.le_refl _
  | cons p l ih =>
    have e : szL' k (p :: l) = 2 ^ fbN k p + szL' k l := by unfold szL'; rw [List.map_cons, List.sum_cons]
    have := Nat.two_pow_pos (fbN k p)
    rw [e, List.length_cons]
    omega
theorem dis_len {k : Nat} (l : List (Nat × Nat)) (hg : ∀ p ∈ l, Gd k p) (hd : Dis l) : l.length ≤ 2 ^ k := by
  have := sz_len k l
  rw [← num_dis l hg hd] at this
  exact Nat.le_trans this (num_le _ _)
theorem fold_add (k : Nat) : ∀ (l : List (Nat × Nat)) (c : Nat), c + szL' k l < 18446744073709551616 → l.foldl (addF k) c = c + szL' k l := by
  intro l
  induction l with
  | nil => intro c _; rfl
  | cons p l ih =>
    intro c h
    have e : szL' k (p :: l) = 2 ^ fbN k p + szL' k l := by unfold szL'; rw [List.map_cons, List.sum_cons]
    rw [e] at h ⊢
    rw [List.foldl_cons]
    have : addF k c p = c + 2 ^ fbN k p := by unfold addF; exact Nat.mod_eq_of_lt (by omega)
    rw [this, ih _ (by omega)]
    omega
/-- What one cube leaves: disjoint pieces; no more of them than numbers. -/
theorem psG_one {k : Nat} (h1 : 1 ≤ k) (hk : k ≤ 64) : ∀ (M l : List (Nat × Nat)), Wf M → (∀ p ∈ l, Gd k p) → Dis l → (∀ p ∈ (psG k true M l).1, Gd k p) ∧ Dis (psG k true M l).1 ∧ ((psG k true M l).2 = 0 ∨ (1024 < 2 ^ k ∧ (psG k true M l).2 = 12)) := by
  intro M
  induction M with
  | nil => intro l _ hg hd; exact ⟨hg, hd, .inl rfl⟩
  | cons x M ih =>
    intro l hM hg hd
    have hx := hM x (by simp)
    have g2 := wRow_gd h1 hk x hx l hg
    have d2 := wRow_dis h1 hk x hx l hg hd
    unfold psG
    rw [if_neg (by simp)]
    split
    · rename_i hb
      exact ⟨(fun p hp => by cases hp), List.Pairwise.nil, .inr ⟨by have := dis_len _ g2 d2; omega, rfl⟩⟩
    · exact ih _ (fun p hp => hM p (by simp [hp])) g2 d2
theorem simp_one (p : Nat × Nat) : simpL [p] = [canP p] := by
  have h : redN [p] 0 = false := by
    unfold redN redT
    rw [show List.range [p].length = [0] from rfl, List.any_cons, List.any_nil]
    unfold redAt
    simp
  unfold simpL keptT
  rw [show List.range [p].length = [0] from rfl, List.filter_cons, h]
  rfl
theorem psL_one {k : Nat} (h1 : 1 ≤ k) (hk : k ≤ 64) (q : Nat × Nat) (hq : B64 q.1 ∧ B64 q.2) (M : List (Nat × Nat)) (hM : Wf M) : (∀ p ∈ (psL k [q] M).1, Gd k p) ∧ Dis (psL k [q] M).1 ∧ ((psL k [q] M).2 = 0 ∨ (1024 < 2 ^ k ∧ (psL k [q] M).2 = 12)) := by
  have wf : Wf [q] := fun p hp => by rw [List.mem_singleton.1 hp]; exact hq
  have G := res_gd hk [q] wf
  unfold psL
  rw [List.map_cons, List.map_nil, simp_one] at G ⊢
  rw [if_neg (show ¬ 1024 < [canP (resP k q)].length from by rw [List.length_singleton]; decide), show decide (([canP (resP k q)] : List (Nat × Nat)).length = 1) = true from rfl]
  exact psG_one h1 hk M _ hM G (List.pairwise_singleton _ _)
theorem psL_any {k : Nat} (h1 : 1 ≤ k) (hk : k ≤ 64) (L M : List (Nat × Nat)) (hL : Wf L) (hM : Wf M) (x : Nat) (he : (psL k L M).2 = 0) : anyN (psL k L M).1 x = (rstN k L x && !rstN k M x) := by
  have e : subsX (k : Int) L M = psL k L M := by rw [psL_eq h1 hk L M hL hM]; unfold subsX; rw [if_pos (by omega), Int.toNat_natCast]
  rw [← e] at he ⊢
  exact any_subs h1 hk L M hL hM x he
theorem rst_app (k : Nat) (L M : List (Nat × Nat)) (x : Nat) : rstN k (L ++ M) x = (rstN k L x || rstN k M x) := by unfold rstN; rw [List.any_append]
theorem rst_mem {k : Nat} {L : List (Nat × Nat)} {q : Nat × Nat} (h : q ∈ L) (x : Nat) (hx : rstN k [q] x = true) : rstN k L x = true := by
  unfold rstN at hx ⊢
  rw [List.any_cons, List.any_nil, Bool.or_false] at hx
  exact List.any_eq_true.2 ⟨q, h, hx⟩
theorem pcG_err {k : Nat} (h1 : 1 ≤ k) (hk : k ≤ 62) (L : List (Nat × Nat)) (wf : Wf L) : ∀ (r c : Nat), r ≤ L.length → (pcG k L r c).2 = 0 ∨ (1024 < 2 ^ k ∧ (pcG k L r c).2 = 12) := by
  intro r
  induction r with
  | zero => intro c _; exact .inl rfl
  | succ r ih =>
    intro c hr
    have P := psL_one h1 (by omega) _ (wf.at_ (L.length - (r + 1)) (by omega)) (L.take (L.length - (r + 1))) (fun p hp => wf p (List.mem_of_mem_take hp))
    unfold pcG
    rcases P.2.2 with h | ⟨h, h'⟩
    · rw [if_pos h]; exact ih _ (by omega)
    · rw [if_neg (by rw [h']; decide)]; exact .inr ⟨h, h'⟩
theorem pcG_num {k : Nat} (h1 : 1 ≤ k) (hk : k ≤ 62) (L : List (Nat × Nat)) (wf : Wf L) : ∀ (r c : Nat), r ≤ L.length → c + numN k (fun x => rstN k L x && !rstN k (L.take (L.length - r)) x) < 18446744073709551616 → (pcG k L r c).2 = 0 → (pcG k L r c).1 = c + numN k (fun x => rstN k L x && !rstN k (L.take (L.length - r)) x) := by
  intro r
  induction r with
  | zero =>
    intro c _ _ _
    rw [num_zero]
    · rfl
    · intro x _
      rw [Nat.sub_zero, List.take_length]
      cases rstN k L x <;> rfl
  | succ r ih =>
    intro c hr hb he
    obtain ⟨j, hj⟩ : ∃ j, j = L.length - (r + 1) := ⟨_, rfl⟩
    have hjl : j < L.length := by omega
    have wj := wf.at_ j hjl
    have wt : Wf (L.take j) := fun p hp => wf p (List.mem_of_mem_take hp)
    have P := psL_one h1 (by omega) _ wj (L.take j) wt
    unfold pcG at he ⊢
    rw [← hj] at he hb ⊢
    have he0 : (psL k [L.getD j (0, 0)] (L.take j)).2 = 0 := by
      rcases P.2.2 with h | ⟨_, h⟩
      · exact h
      · rw [if_neg (by rw [h]; decide), h] at he; exact absurd he (by decide)
    rw [if_pos he0] at he ⊢
    have mem : L.getD j (0, 0) ∈ L := by rw [List.getD_eq_getElem?_getD, List.getElem?_eq_getElem hjl]; exact List.getElem_mem _
    have sp : ∀ x, (rstN k L x && !rstN k (L.take j) x) = ((rstN k [L.getD j (0, 0)] x && !rstN k (L.take j) x) || (rstN k L x && !rstN k (L.take (L.length - r)) x)) := by
      intro x
      have m := rst_mem (k := k) mem x
      rw [show L.length - r = j + 1 by omega, take_one L (0, 0) j hjl, rst_app]
      revert m
      cases rstN k [L.getD j (0, 0)] x <;> cases rstN k L x <;> cases rstN k (L.take j) x <;> simp
    have n1 : numN k (fun x => rstN k L x && !rstN k (L.take j) x) = szL' k (psL k [L.getD j (0, 0)] (L.take j)).1 + numN k (fun x => rstN k L x && !rstN k (L.take (L.length - r)) x) := by
      rw [num_congr (fun x _ => sp x), num_or (fun x _ hx => ?_), ← num_dis _ P.1 P.2.1]
      · congr 1
        exact num_congr fun x _ => (psL_any h1 (by omega) _ _ (fun p hp => by rw [List.mem_singleton.1 hp]; exact wj) wt x he0).symm
      · rw [show L.length - r = j + 1 by omega, take_one L (0, 0) j hjl, rst_app]
        rw [Bool.and_eq_true] at hx
        rw [hx.1]
        simp
    rw [n1] at hb ⊢
    rw [fold_add k _ c (by omega)] at he ⊢
    rw [ih _ (by omega) (by omega) he]
    omega
theorem pcL_err {k : Nat} (h1 : 1 ≤ k) (hk : k ≤ 62) (L : List (Nat × Nat)) (wf : Wf L) : (pcL (k : Int) L).2 = 0 ∨ (1024 < 2 ^ k ∧ (pcL (k : Int) L).2 = 12) := by
  unfold pcL
  rw [if_pos (by omega), Int.toNat_natCast]
  exact pcG_err h1 hk L wf _ _ (Nat.le_refl _)
theorem pow_lt {k : Nat} (hk : k ≤ 62) : 2 ^ k < 18446744073709551616 := Nat.lt_of_le_of_lt (Nat.pow_le_pow_right (by decide) hk) (by decide)
/-- What Count answers where it answers: how many numbers of k bits the set holds. -/
theorem pcL_num {k : Nat} (h1 : 1 ≤ k) (hk : k ≤ 62) (L : List (Nat × Nat)) (wf : Wf L) (he : (pcL (k : Int) L).2 = 0) : (pcL (k : Int) L).1 = numN k (rstN k L) := by
  unfold pcL at he ⊢
  rw [if_pos (by omega), Int.toNat_natCast] at he ⊢
  have e : numN k (fun x => rstN k L x && !rstN k (L.take (L.length - L.length)) x) = numN k (rstN k L) := by
    refine num_congr fun x _ => ?_
    rw [Nat.sub_self, List.take_zero]
    show (rstN k L x && !false) = _
    simp
  have := pcG_num h1 hk L wf L.length 0 (Nat.le_refl _) (by have := num_le k (fun x => rstN k L x && !rstN k (L.take (L.length - L.length)) x); have := pow_lt hk; omega) he
  rw [this, e, Nat.zero_add]
/-- A list that holds no number is empty: a cube holds its value. -/
theorem any_nil_of {L : List (Nat × Nat)} (h : ∀ x, anyN L x = false) : L = [] := by
  cases L with
  | nil => rfl
  | cons p L =>
    have := h p.1
    rw [any_cons', Bool.or_eq_false_iff] at this
    have t : hasP p p.1 = true := (hasN_iff _ _ _).2 fun i _ => rfl
    rw [t] at this; cases this.1
theorem rst_gd {k : Nat} (hk : k ≤ 64) (L : List (Nat × Nat)) (h : ∀ p ∈ L, Gd k p) (x : Nat) : rstN k L x = anyN L x := by
  unfold rstN anyN
  rw [Bool.eq_iff_iff, List.any_eq_true, List.any_eq_true]
  constructor
  · rintro ⟨p, hp, g⟩; exact ⟨p, hp, by rw [gd_low hk (h p hp)] at g; exact g⟩
  · rintro ⟨p, hp, g⟩; exact ⟨p, hp, by rw [gd_low hk (h p hp)]; exact g⟩
end Go.Proofs.Yteemhabgliglmaa
