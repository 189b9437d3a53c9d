/- Ternary: the theory of the order and of the texts. -/
import Derived.Test.YtphejamjognmpaaTeT
namespace Go.Proofs.Ytphejamjognmpaa
set_option linter.unusedVariables false

theorem sub_refl (v m : Nat) (hm : B64 m) : subN v m v m = true := (subN_iff v m v m hm hm).mpr ⟨fun _ h => h, fun _ _ => rfl⟩
theorem sub_trans (v m v2 m2 v3 m3 : Nat) (hm : B64 m) (hm2 : B64 m2) (hm3 : B64 m3) (h : subN v m v2 m2 = true) (g : subN v2 m2 v3 m3 = true) : subN v m v3 m3 = true := by
  rw [subN_iff _ _ _ _ hm hm2] at h
  rw [subN_iff _ _ _ _ hm2 hm3] at g
  rw [subN_iff _ _ _ _ hm hm3]
  exact ⟨fun i hi => h.1 i (g.1 i hi), fun i hi => (h.2 i (g.1 i hi)).trans (g.2 i hi)⟩
theorem sub_min (v m v2 m2 : Nat) (hm : B64 m) (hm2 : B64 m2) (h : subN v m v2 m2 = true) : hasN v2 m2 (minN v m) = true := by
  rw [subN_iff _ _ _ _ hm hm2] at h
  rw [hasN_iff]
  intro i hi
  unfold minN
  rw [Nat.testBit_and, h.1 i hi, Bool.and_true]
  exact (h.2 i hi).symm
theorem apart_min (v m v2 m2 : Nat) (h : meetN v m v2 m2 = false) : hasN v2 m2 (minN v m) = false := by
  rw [← Bool.not_eq_true] at h ⊢
  intro g
  rw [hasN_iff] at g
  refine h ((meetN_iff _ _ _ _).mpr fun i h1 h2 => ?_)
  have k := g i h2
  unfold minN at k
  rw [Nat.testBit_and, h1, Bool.and_true] at k
  exact k.symm
theorem meet_comm (v m v2 m2 : Nat) : meetN v m v2 m2 = meetN v2 m2 v m := by
  have a := meetN_iff v m v2 m2
  have b := meetN_iff v2 m2 v m
  have e : (meetN v m v2 m2 = true) ↔ (meetN v2 m2 v m = true) := by
    rw [a, b]
    exact ⟨fun h i x y => (h i y x).symm, fun h i x y => (h i y x).symm⟩
  exact Bool.eq_iff_iff.mpr e
theorem intV_bit (v m v2 m2 i : Nat) (h : meetN v m v2 m2 = true) : (intV v m v2 m2).testBit i = (v.testBit i && m.testBit i || v2.testBit i && m2.testBit i) := by
  unfold intV; rw [if_pos h, Nat.testBit_or, Nat.testBit_and, Nat.testBit_and]
theorem intM_bit (v m v2 m2 i : Nat) (h : meetN v m v2 m2 = true) : (intM v m v2 m2).testBit i = (m.testBit i || m2.testBit i) := by
  unfold intM; rw [if_pos h, Nat.testBit_or]
theorem int_sub (v m v2 m2 : Nat) (hv : B64 v) (hm : B64 m) (hv2 : B64 v2) (hm2 : B64 m2) (h : meetN v m v2 m2 = true) : subN (intV v m v2 m2) (intM v m v2 m2) v m = true ∧ subN (intV v m v2 m2) (intM v m v2 m2) v2 m2 = true := by
  have g := (meetN_iff _ _ _ _).mp h
  constructor
  · refine (subN_iff _ _ _ _ (intM_lt v m v2 m2 hm hm2) hm).mpr ⟨fun i hi => ?_, fun i hi => ?_⟩
    · rw [intM_bit _ _ _ _ _ h, hi]; rfl
    · rw [intV_bit _ _ _ _ _ h, hi]
      have k := g i hi
      revert k
      cases v.testBit i <;> cases v2.testBit i <;> cases m2.testBit i <;> simp
  · refine (subN_iff _ _ _ _ (intM_lt v m v2 m2 hm hm2) hm2).mpr ⟨fun i hi => ?_, fun i hi => ?_⟩
    · rw [intM_bit _ _ _ _ _ h, hi]; simp
    · rw [intV_bit _ _ _ _ _ h, hi]
      have k := fun hj => g i hj hi
      revert k
      cases v.testBit i <;> cases v2.testBit i <;> cases m.testBit i <;> simp
theorem int_min (v m v2 m2 : Nat) (hv : B64 v) (hm : B64 m) (hv2 : B64 v2) (hm2 : B64 m2) (h : meetN v m v2 m2 = true) : hasN v m (minN (intV v m v2 m2) (intM v m v2 m2)) = true ∧ hasN v2 m2 (minN (intV v m v2 m2) (intM v m v2 m2)) = true := by
  have k := int_sub v m v2 m2 hv hm hv2 hm2 h
  have b := intM_lt v m v2 m2 hm hm2
  exact ⟨sub_min _ _ _ _ b hm k.1, sub_min _ _ _ _ b hm2 k.2⟩
theorem int_canon (v m v2 m2 : Nat) : intV v m v2 m2 &&& intM v m v2 m2 = intV v m v2 m2 := by
  apply Nat.eq_of_testBit_eq
  intro i
  rw [Nat.testBit_and]
  cases h : meetN v m v2 m2
  · unfold intV; rw [h]; simp
  · rw [intV_bit _ _ _ _ _ h, intM_bit _ _ _ _ _ h]
    cases v.testBit i <;> cases v2.testBit i <;> cases m.testBit i <;> cases m2.testBit i <;> rfl
theorem int_none (v m v2 m2 : Nat) (h : meetN v m v2 m2 = false) : intV v m v2 m2 = 0 ∧ intM v m v2 m2 = 0 := by
  unfold intV intM
  rw [h]
  exact ⟨rfl, rfl⟩

theorem fmtL_get (v m k n i : Nat) (h : i < n) : (fmtL v m k n).getD i 0 = chr v m (k - 1 - i) := by
  unfold fmtL
  simp [h]
theorem div_snoc (a b j : Nat) (hb : b ≤ 1) : (2 * a + b) / 2 ^ (j + 1) = a / 2 ^ j := by
  rw [Nat.pow_succ, Nat.mul_comm (2 ^ j) 2, ← Nat.div_div_eq_div_mul]
  congr 1
  omega
theorem oneV_le (c : Int) : oneV c ≤ 1 := by unfold oneV; split <;> omega
theorem oneM_le (c : Int) : oneM c ≤ 1 := by unfold oneM; split <;> omega
theorem chr_snoc (L : List Int) (c : Int) (j : Nat) : chr (pvF (L ++ [c])) (pmF (L ++ [c])) (j + 1) = chr (pvF L) (pmF L) j := by
  unfold chr
  rw [pvF_snoc, pmF_snoc, div_snoc _ _ _ (oneV_le c), div_snoc _ _ _ (oneM_le c)]
theorem chr_last (L : List Int) (c : Int) (h : okC c = true) : chr (pvF (L ++ [c])) (pmF (L ++ [c])) 0 = c := by
  have h := of_decide_eq_true h
  unfold chr
  rw [pvF_snoc, pmF_snoc, Nat.pow_zero, Nat.div_one, Nat.div_one]
  rcases h with rfl | rfl | rfl
  · have e1 : oneM 48 = 1 := rfl
    have e2 : oneV 48 = 0 := rfl
    rw [e1, e2, if_neg (by omega), if_pos (by omega)]
  · have e1 : oneM 49 = 1 := rfl
    have e2 : oneV 49 = 1 := rfl
    rw [e1, e2, if_neg (by omega), if_neg (by omega)]
  · have e1 : oneM 120 = 0 := rfl
    rw [e1, if_pos (by omega)]
theorem rev_rec {P : List Int → Prop} (h0 : P []) (hs : ∀ L c, P L → P (L ++ [c])) : ∀ n L, L.length = n → P L := by
  intro n
  induction n with
  | zero => intro L h; rw [List.length_eq_zero_iff.mp h]; exact h0
  | succ n ih =>
    intro L h
    have hne : L ≠ [] := by intro e; rw [e] at h; cases h
    rw [← List.dropLast_concat_getLast hne]
    exact hs _ _ (ih _ (by rw [List.length_dropLast, h]; rfl))
/-- A text is what its cube is written as. -/
theorem fmt_of_text : ∀ L : List Int, L.all okC = true → fmtL (pvF L) (pmF L) L.length L.length = L := by
  intro L
  refine rev_rec (P := fun L => L.all okC = true → fmtL (pvF L) (pmF L) L.length L.length = L) (fun _ => rfl) ?_ L.length L rfl
  intro L c ih h
  rw [List.all_append, Bool.and_eq_true] at h
  have hc : okC c = true := by simpa using h.2
  have e : (L ++ [c]).length = L.length + 1 := by simp
  rw [e, fmtL_succ]
  have e2 : L.length + 1 - 1 - L.length = 0 := by omega
  rw [e2, chr_last L c hc]
  congr 1
  refine Eq.trans ?_ (ih h.1)
  unfold fmtL
  refine List.map_congr_left fun i hi => ?_
  rw [List.mem_range] at hi
  rw [show L.length + 1 - 1 - i = (L.length - 1 - i) + 1 by omega, chr_snoc]
theorem text_canon : ∀ L : List Int, Canon (pvF L) (pmF L) := by
  intro L
  refine rev_rec (P := fun L => Canon (pvF L) (pmF L)) (fun i h => h) ?_ L.length L rfl
  intro L c ih i hi
  rw [pvF_snoc] at hi
  rw [pmF_snoc]
  cases i with
  | zero =>
    rw [Nat.testBit_zero, decide_eq_true_eq] at hi ⊢
    have k : oneV c = 1 → oneM c = 1 := by
      unfold oneV oneM
      split
      · rename_i h; intro _; rw [if_pos (Or.inr h)]
      · intro h; cases h
    have a := oneV_le c
    have b : oneV c = 1 := by omega
    have := k b
    omega
  | succ i =>
    rw [Nat.testBit_succ] at hi ⊢
    rw [show (2 * pvF L + oneV c) / 2 = pvF L by have := oneV_le c; omega] at hi
    rw [show (2 * pmF L + oneM c) / 2 = pmF L by have := oneM_le c; omega]
    exact ih i hi
theorem prs_ok {L : List Int} (h : prsE L = 0) : 1 ≤ L.length ∧ L.length ≤ 64 ∧ L.all okC = true := by
  unfold prsE at h
  split at h
  · cases h
  · split at h
    · cases h
    · split at h
      · rename_i a b c; exact ⟨by omega, by omega, c⟩
      · cases h
theorem chk_text {L : List Int} (h : prsE L = 0) : chkN (prsV L) (prsM L) (prsW L : Nat) = 0 := by
  obtain ⟨h1, h2, h3⟩ := prs_ok h
  unfold prsV prsM prsW
  rw [if_pos h, if_pos h, if_pos h]
  refine (chk_canon _ _ L.length h1 h2 (text_canon L) fun j hj => ?_).2.2
  refine Nat.lt_of_not_le fun hn => ?_
  have := Nat.testBit_lt_two_pow (Nat.lt_of_lt_of_le (pmF_lt L) (Nat.pow_le_pow_right (n := 2) (by decide) hn))
  rw [this] at hj
  cases hj
theorem fmt_text {L : List Int} (h : prsE L = 0) : fmtS (prsV L) (prsM L) (prsW L : Nat) = L := by
  unfold fmtS
  rw [if_pos (chk_text h)]
  obtain ⟨h1, h2, h3⟩ := prs_ok h
  unfold prsV prsM prsW
  rw [if_pos h, if_pos h, if_pos h, Int.toNat_natCast]
  exact fmt_of_text L h3
theorem chr_ok (v m i : Nat) : okC (chr v m i) = true := by unfold okC chr; (repeat' split) <;> decide
theorem fmtL_ok (v m k n : Nat) : (fmtL v m k n).all okC = true := by
  unfold fmtL
  rw [List.all_eq_true]
  intro x hx
  obtain ⟨i, _, rfl⟩ := List.mem_map.mp hx
  exact chr_ok _ _ _
theorem div_step (m s : Nat) : m / 2 ^ s = 2 * (m / 2 ^ (s + 1)) + m / 2 ^ s % 2 := by
  rw [Nat.pow_succ, ← Nat.div_div_eq_div_mul]
  omega
theorem pm_fmt (v m k : Nat) (hm : m < 2 ^ k) : ∀ j, j ≤ k → pmF (fmtL v m k j) = m / 2 ^ (k - j) := by
  intro j
  induction j with
  | zero => intro _; rw [Nat.sub_zero, Nat.div_eq_of_lt hm]; rfl
  | succ j ih =>
    intro hj
    rw [fmtL_succ, pmF_snoc, ih (by omega), div_step m (k - (j + 1)), show k - (j + 1) + 1 = k - j by omega, show k - 1 - j = k - (j + 1) by omega]
    congr 1
    unfold chr oneM
    have := Nat.mod_two_eq_zero_or_one (m / 2 ^ (k - (j + 1)))
    split
    · rename_i h; rw [h]; decide
    · rename_i h
      have h1 : m / 2 ^ (k - (j + 1)) % 2 = 1 := by omega
      rw [h1]
      split <;> decide
theorem pv_fmt (v m k : Nat) (hv : v < 2 ^ k) (hc : Canon v m) : ∀ j, j ≤ k → pvF (fmtL v m k j) = v / 2 ^ (k - j) := by
  intro j
  induction j with
  | zero => intro _; rw [Nat.sub_zero, Nat.div_eq_of_lt hv]; rfl
  | succ j ih =>
    intro hj
    rw [fmtL_succ, pvF_snoc, ih (by omega), div_step v (k - (j + 1)), show k - (j + 1) + 1 = k - j by omega, show k - 1 - j = k - (j + 1) by omega]
    congr 1
    unfold chr oneV
    have c := hc (k - (j + 1))
    rw [Nat.testBit_eq_decide_div_mod_eq, Nat.testBit_eq_decide_div_mod_eq, decide_eq_true_eq, decide_eq_true_eq] at c
    have := Nat.mod_two_eq_zero_or_one (v / 2 ^ (k - (j + 1)))
    split
    · rename_i h
      have h1 : v / 2 ^ (k - (j + 1)) % 2 = 0 := by
        rcases this with e | e
        · exact e
        · have := c e; omega
      rw [h1]; decide
    · split
      · rename_i h; rw [h]; decide
      · have h1 : v / 2 ^ (k - (j + 1)) % 2 = 1 := by omega
        rw [h1]; decide
theorem chk_zero {v m : Nat} {w : Int} (hv : B64 v) (hm : B64 m) (h : chkN v m w = 0) : ∃ k : Nat, w = (k : Int) ∧ 1 ≤ k ∧ k ≤ 64 ∧ Canon v m ∧ (∀ j, m.testBit j = true → j < k) := by
  unfold chkN at h
  split at h
  · rename_i hw
    split at h
    · rename_i hl
      split at h
      · rename_i hc
        refine ⟨w.toNat, by omega, by omega, by omega, (canon_iff v m hv hm).mp hc, fun j hj => ?_⟩
        have := (canon_iff m _ hm (lowN_lt w.toNat (by omega))).mp hl j hj
        rw [tb_low, decide_eq_true_eq] at this
        exact this
      · cases h
    · cases h
  · cases h
/-- A cube is recovered from its text. -/
theorem text_of_cube {v m : Nat} {w : Int} (hv : B64 v) (hm : B64 m) (h : chkN v m w = 0) : prsE (fmtS v m w) = 0 ∧ prsV (fmtS v m w) = v ∧ prsM (fmtS v m w) = m ∧ ((prsW (fmtS v m w) : Nat) : Int) = w ∧ ((fmtS v m w).length : Int) = w := by
  have e : fmtS v m w = fmtL v m w.toNat w.toNat := by unfold fmtS; rw [if_pos h]
  rw [e]
  obtain ⟨k, rfl, h1, h2, hc, hb⟩ := chk_zero hv hm h
  rw [Int.toNat_natCast]
  have p : prsE (fmtL v m k k) = 0 := by
    unfold prsE
    rw [fmtL_len, if_neg (by omega), if_neg (by omega), if_pos (fmtL_ok v m k k)]
  have lm := lt_of_bits m k hb
  have lv := lt_of_bits v k fun j hj => hb j (hc j hj)
  refine ⟨p, ?_, ?_, ?_, ?_⟩
  · unfold prsV; rw [if_pos p, pv_fmt v m k lv hc k (Nat.le_refl _), Nat.sub_self, Nat.pow_zero, Nat.div_one]
  · unfold prsM; rw [if_pos p, pm_fmt v m k lm k (Nat.le_refl _), Nat.sub_self, Nat.pow_zero, Nat.div_one]
  · unfold prsW; rw [if_pos p, fmtL_len]
  · rw [fmtL_len]
end Go.Proofs.Ytphejamjognmpaa
