/- Entries: the theory of the law Exact; no condition. -/
import Derived.Test.YtgdefahnmgonlaaEnJ
namespace Go.Proofs.Ytgdefahnmgonlaa
open Go.RowKit
set_option linter.unusedVariables false
theorem fstV_zero {g : Nat → Int} {n : Nat} (h : fstV g n = 0) : ∀ i, i < n → g i = 0 := by
  unfold fstV at h
  cases e : fstE g n with
  | none =>
    unfold fstE at e
    rw [List.find?_eq_none] at e
    intro i hi
    have := e i (List.mem_range.2 hi)
    simpa using this
  | some j =>
    rw [e] at h
    unfold fstE at e
    have := List.find?_some e
    simp at this
    exact absurd h this
theorem chk_parts {P : Pg} {t : Int} {x : En} (h : chkN P t x = 0) : okT P t = true ∧ ckL (tabV P t).ks (wsT P.H P.M (tabV P t).ks) x.ks = 0 ∧ prE x.pr (kindT P t) = 0 := by
  by_cases h1 : (chkT P t).2 = 0
  · refine ⟨by simp [okT, h1], ?_⟩
    by_cases h2 : ckL (tabV P t).ks (wsT P.H P.M (tabV P t).ks) x.ks = 0
    · refine ⟨h2, ?_⟩
      by_cases h3 : prE x.pr (kindT P t) = 0
      · exact h3
      · exact absurd (chkN_pr h1 h2 h3 ▸ h) h3
    · exact absurd (chkN_key h1 h2 ▸ h) h2
  · exact absurd (chkN_bad h1 ▸ h) h1
theorem ckL_parts {ks : List TKy} {ws : List Int} {xs : List Km} (h : ckL ks ws xs = 0) : xs.length = ks.length ∧ ∀ i, i < xs.length → ckE (xs.getD i kmz) (ks.getD i tkz).k (ws.getD i 0) = 0 := by
  unfold ckL at h
  by_cases e : xs.length = ks.length
  · rw [if_pos e] at h
    exact ⟨e, fstV_zero h⟩
  · rw [if_neg e] at h
    cases h
theorem ckE_exact {x : Km} {w : Int} (h : ckE x 1 w = 0) : (bits .andNot .u32 x.v x.m == 0) = true ∧ x.m = mkB w := by
  unfold ckE ckR at h
  cases h1 : fitsB x.v w <;> cases h2 : fitsB x.m w <;> cases h3 : (bits .andNot .u32 x.v x.m == 0) <;> cases h4 : (x.m == mkB w) <;> simp [h1, h2, h3, h4] at h
  exact ⟨rfl, by simpa using h4⟩
theorem nat_xor_and (a b m : Nat) (h : (a ^^^ b) &&& m = 0) : a &&& m = b &&& m := by
  refine Nat.eq_of_testBit_eq fun i => ?_
  have k := congrArg (fun x => x.testBit i) h
  simp only [Nat.testBit_and, Nat.testBit_xor, Nat.zero_testBit] at k
  rw [Nat.testBit_and, Nat.testBit_and]
  cases h1 : a.testBit i <;> cases h2 : b.testBit i <;> cases h3 : m.testBit i <;> simp_all
/-- A number that a match takes is the match's value under the mask. -/
theorem mat_and {x : Km} {v : Int} (v0 : 0 ≤ v) (v1 : v < 4294967296) (a0 : 0 ≤ x.v) (a1 : x.v < 4294967296) (m0 : 0 ≤ x.m) (m1 : x.m < 4294967296) (h : matB x v = true) : bits .and .u32 v x.m = bits .and .u32 x.v x.m := by
  have hx := u32_xor v x.v v0 v1 a0 a1
  have h : bits .and .u32 (bits .xor .u32 v x.v) x.m = 0 := by simpa [matB] using h
  have hlt : v.toNat ^^^ x.v.toNat < 4294967296 := Nat.xor_lt_two_pow (n := 32) (by omega) (by omega)
  rw [hx, u32_and _ _ (by omega) (by omega) m0 m1, Int.toNat_natCast] at h
  rw [u32_and _ _ v0 v1 m0 m1, u32_and _ _ a0 a1 m0 m1, nat_xor_and v.toNat x.v.toNat x.m.toNat (by exact_mod_cast h)]
theorem ck_val {x : Km} {w v : Int} (v0 : 0 ≤ v) (v1 : v < 4294967296) (a0 : 0 ≤ x.v) (a1 : x.v < 4294967296) (m0 : 0 ≤ x.m) (m1 : x.m < 4294967296) (h : ckE x 1 w = 0) (k : matB x v = true) : x.m = mkB w ∧ x.v = bits .and .u32 v (mkB w) := by
  obtain ⟨h1, h2⟩ := ckE_exact h
  have h1 : bits .andNot .u32 x.v x.m = 0 := by simpa using h1
  rw [not_iff_and a0 a1 m0 m1] at h1
  have := mat_and v0 v1 a0 a1 m0 m1 k
  rw [h1, h2] at this
  exact ⟨h2, this.symm⟩
theorem cnt_exact {ks : List TKy} (h : ∀ i, i < ks.length → (ks.getD i tkz).k = 1) (k : Int) (hk : k ≠ 1) : cntK k ks = 0 := by
  unfold cntK
  rw [List.countP_eq_zero]
  intro x hx
  obtain ⟨i, hi, rfl⟩ := List.getElem_of_mem hx
  have := h i hi
  rw [List.getD_eq_getElem?_getD, List.getElem?_eq_getElem hi] at this
  simp only [Option.getD_some] at this
  simp [this, Ne.symm hk]
theorem kind_exact {P : Pg} {t : Int} (ok : okT P t = true) (h : ∀ i, i < (tabV P t).ks.length → ((tabV P t).ks.getD i tkz).k = 1) : kindT P t = 1 := by
  unfold kindT
  rw [if_pos ok, cnt_exact h 3 (by decide), cnt_exact h 2 (by decide)]
  rfl
theorem pr_exact {p : Int} (h : prE p 1 = 0) : p = 0 := by
  unfold prE at h
  by_cases e : p = 0
  · exact e
  · split at h
    · cases h
    · rw [if_pos ⟨e, by decide⟩] at h; cases h
theorem mat_parts {ks : List Km} {key : List Int} (h : matE ks key = true) : key.length = ks.length ∧ ∀ i, i < ks.length → matB (ks.getD i kmz) (key.getD i 0) = true := by
  unfold matE at h
  rw [Bool.and_eq_true, decide_eq_true_iff, List.all_eq_true] at h
  exact ⟨h.1, fun i hi => h.2 i (List.mem_range.2 hi)⟩
def KmR (ks : List Km) : Prop := ∀ i, (0 ≤ (ks.getD i kmz).v ∧ (ks.getD i kmz).v < 4294967296) ∧ (0 ≤ (ks.getD i kmz).m ∧ (ks.getD i kmz).m < 4294967296)
theorem exact_same {P : Pg} {t : Int} {a b : En} {key : List Int} (hk : ∀ i, 0 ≤ key.getD i 0 ∧ key.getD i 0 < 4294967296) (ra : KmR a.ks) (rb : KmR b.ks) (ca : chkN P t a = 0) (cb : chkN P t b = 0)
    (h : ∀ i, i < (tabV P t).ks.length → ((tabV P t).ks.getD i tkz).k = 1) (ma : matE a.ks key = true) (mb : matE b.ks key = true) : samE a b = true := by
  obtain ⟨ok, ka, pa⟩ := chk_parts ca
  obtain ⟨_, kb, pb⟩ := chk_parts cb
  rw [kind_exact ok h] at pa pb
  obtain ⟨la, fa⟩ := ckL_parts ka
  obtain ⟨lb, fb⟩ := ckL_parts kb
  obtain ⟨_, ga⟩ := mat_parts ma
  obtain ⟨_, gb⟩ := mat_parts mb
  have sk : samK a.ks b.ks = true := by
    refine samK_yes (by rw [la, lb]) (fun i hi => ?_)
    have e1 := fa i hi
    have e2 := fb i (by omega)
    rw [h i (by omega)] at e1 e2
    obtain ⟨p1, p2⟩ := ck_val (hk i).1 (hk i).2 (ra i).1.1 (ra i).1.2 (ra i).2.1 (ra i).2.2 e1 (ga i hi)
    obtain ⟨q1, q2⟩ := ck_val (hk i).1 (hk i).2 (rb i).1.1 (rb i).1.2 (rb i).2.1 (rb i).2.2 e2 (gb i (by omega))
    unfold kmB
    exact decide_eq_true ⟨by rw [p2, q2], by rw [p1, q1]⟩
  unfold samE
  rw [sk, pr_exact pa, pr_exact pb]
  rfl
theorem km_rng {w : World} {a : Option Addr} {n c : Nat} {L : List Km} (h : SKm w a n c L) : KmR L := fun i => by
  by_cases hi : i < n
  · obtain ⟨ad, hd⟩ := h.some (by omega)
    obtain ⟨⟨_, h1⟩, ⟨_, h2⟩⟩ := h.cells ad hd i hi
    exact ⟨h1, h2⟩
  · have := h.len
    rw [List.getD_eq_getElem?_getD, List.getElem?_eq_none (by omega)]
    decide
/-- A list with one place set: it matches as that place does. -/
theorem mat_set {ks : List Km} {key : List Int} {i : Nat} {v : Int} (h : matE ks key = true) (hi : i < ks.length) : matE ks (key.set i v) = matB (ks.getD i kmz) v := by
  obtain ⟨hl, hm⟩ := mat_parts h
  have hs : (key.set i v).getD i 0 = v := by rw [List.getD_eq_getElem?_getD, List.getElem?_set_self (by omega)]; rfl
  cases e : matB (ks.getD i kmz) v with
  | false => exact mat_no hi (by rw [hs]; exact e)
  | true =>
    refine mat_yes (by rw [List.length_set]; exact hl) fun j hj => ?_
    by_cases hji : j = i
    · subst hji; rw [hs]; exact e
    · have e2 : (key.set i v).getD j 0 = key.getD j 0 := by rw [List.getD_eq_getElem?_getD, List.getD_eq_getElem?_getD, List.getElem?_set_ne (by omega)]
      rw [e2]; exact hm j hj
theorem nat_bit (a b m k : Nat) (h : (a ^^^ b) &&& m = 0) : (((a ^^^ 2 ^ k) ^^^ b) &&& m = 0) ↔ (m / 2 ^ k % 2 = 0) := by
  have ht : m.testBit k = decide (m / 2 ^ k % 2 = 1) := by rw [Nat.testBit_eq_decide_div_mod_eq]
  have hb : ∀ i, ((a ^^^ b) &&& m).testBit i = false := fun i => by rw [h, Nat.zero_testBit]
  constructor
  · intro q
    have q1 := congrArg (fun x => x.testBit k) q
    have q2 := hb k
    simp only [Nat.testBit_and, Nat.testBit_xor, Nat.zero_testBit, Nat.testBit_two_pow_self] at q1 q2
    have : m.testBit k = false := by
      cases h1 : a.testBit k <;> cases h2 : b.testBit k <;> cases h3 : m.testBit k <;> simp_all
    rw [ht] at this
    have := of_decide_eq_false this
    omega
  · intro q
    refine Nat.eq_of_testBit_eq fun i => ?_
    have q2 := hb i
    simp only [Nat.testBit_and, Nat.testBit_xor, Nat.zero_testBit, Nat.testBit_two_pow] at q2 ⊢
    by_cases e : k = i
    · subst e
      have : m.testBit k = false := by rw [ht]; exact decide_eq_false (by omega)
      simp [this]
    · simp only [e, decide_false, Bool.xor_false]
      exact q2
/-- One bit of a key turned: it matches still where the mask's bit is 0. -/
theorem mat_bit {x : Km} {v : Int} (v0 : 0 ≤ v) (v1 : v < 4294967296) (a0 : 0 ≤ x.v) (a1 : x.v < 4294967296) (m0 : 0 ≤ x.m) (m1 : x.m < 4294967296) (h : matB x v = true) (k : Nat) (hk : k < 32) :
    matB x (bits .xor .u32 v (2 ^ k)) = (Int.tmod (x.m / 2 ^ k) 2 == 0) := by
  have pk : (2 : Nat) ^ k < 4294967296 := Nat.pow_lt_pow_right (by decide) (show k < 32 from hk)
  have pi : ((2 : Int) ^ k) = (((2 : Nat) ^ k : Nat) : Int) := by norm_cast
  obtain ⟨a, rfl⟩ : ∃ a : Nat, v = a := ⟨v.toNat, by omega⟩
  obtain ⟨xv, xm⟩ := x
  dsimp only at a0 a1 m0 m1 ⊢
  obtain ⟨b, rfl⟩ : ∃ b : Nat, xv = b := ⟨xv.toNat, by omega⟩
  obtain ⟨m, rfl⟩ : ∃ m : Nat, xm = m := ⟨xm.toNat, by omega⟩
  have l1 : a ^^^ b < 4294967296 := Nat.xor_lt_two_pow (n := 32) (by omega) (by omega)
  have h : bits .and .u32 (bits .xor .u32 (a : Int) b) m = 0 := by simpa [matB] using h
  have g1 : bits .xor .u32 (a : Int) (b : Int) = ((a ^^^ b : Nat) : Int) := by
    rw [u32_xor _ _ v0 v1 a0 a1, Int.toNat_natCast, Int.toNat_natCast]
  have g2 : bits .and .u32 ((a ^^^ b : Nat) : Int) (m : Int) = (((a ^^^ b) &&& m : Nat) : Int) := by
    rw [u32_and _ _ (Int.natCast_nonneg _) (by omega) m0 m1, Int.toNat_natCast, Int.toNat_natCast]
  rw [g1, g2] at h
  have key := nat_bit a b m k (Int.natCast_eq_zero.1 h)
  rw [pi]
  generalize (2 : Nat) ^ k = q at *
  have e2 : Int.tmod ((m : Int) / (q : Int)) 2 = ((m / q % 2 : Nat) : Int) := by
    rw [← Int.natCast_ediv, Int.tmod_eq_emod_of_nonneg (Int.natCast_nonneg _)]; rfl
  rw [e2]
  have l2 : a ^^^ q < 4294967296 := Nat.xor_lt_two_pow (n := 32) (by omega) (by omega)
  have l3 : (a ^^^ q) ^^^ b < 4294967296 := Nat.xor_lt_two_pow (n := 32) (by omega) (by omega)
  have f1 : bits .xor .u32 (a : Int) (q : Int) = ((a ^^^ q : Nat) : Int) := by
    rw [u32_xor _ _ v0 v1 (Int.natCast_nonneg _) (by omega), Int.toNat_natCast, Int.toNat_natCast]
  have f2 : bits .xor .u32 ((a ^^^ q : Nat) : Int) (b : Int) = (((a ^^^ q) ^^^ b : Nat) : Int) := by
    rw [u32_xor _ _ (Int.natCast_nonneg _) (by omega) a0 a1, Int.toNat_natCast, Int.toNat_natCast]
  have f3 : bits .and .u32 (((a ^^^ q) ^^^ b : Nat) : Int) (m : Int) = ((((a ^^^ q) ^^^ b) &&& m : Nat) : Int) := by
    rw [u32_and _ _ (Int.natCast_nonneg _) (by omega) m0 m1, Int.toNat_natCast, Int.toNat_natCast]
  unfold matB
  dsimp only
  rw [f1, f2, f3]
  by_cases z : m / q % 2 = 0
  · rw [key.2 z, z]
  · have z2 : ¬ (((a ^^^ q) ^^^ b) &&& m = 0) := fun y => z (key.1 y)
    rw [beq_eq_false_iff_ne.2 (fun y => z2 (Int.natCast_eq_zero.1 y)), beq_eq_false_iff_ne.2 (fun y => z (Int.natCast_eq_zero.1 y))]
theorem xor_rng {v : Int} (v0 : 0 ≤ v) (v1 : v < 4294967296) (k : Nat) (hk : k < 32) : 0 ≤ bits .xor .u32 v (2 ^ k) ∧ bits .xor .u32 v (2 ^ k) < 4294967296 := by
  have pk : (2 : Nat) ^ k < 4294967296 := Nat.pow_lt_pow_right (by decide) (show k < 32 from hk)
  have pi : ((2 : Int) ^ k) = (((2 : Nat) ^ k : Nat) : Int) := by norm_cast
  rw [pi]
  generalize (2 : Nat) ^ k = q at *
  have l : v.toNat ^^^ q < 4294967296 := Nat.xor_lt_two_pow (n := 32) (by omega) (by omega)
  rw [u32_xor _ _ v0 v1 (Int.natCast_nonneg _) (by omega), Int.toNat_natCast]
  omega
theorem wrap_pow (k : Nat) (hk : k < 32) : IntKind.u32.wrap ((2 : Int) ^ k) = 2 ^ k := by
  have pk : (2 : Nat) ^ k < 4294967296 := Nat.pow_lt_pow_right (by decide) (show k < 32 from hk)
  have pi : ((2 : Int) ^ k) = (((2 : Nat) ^ k : Nat) : Int) := by norm_cast
  rw [pi, wrap32_u]
  generalize (2 : Nat) ^ k = q at *
  omega
theorem set_rng23 {l : List Int} (h : ∀ x ∈ l, 0 ≤ x ∧ x < 4294967296) (j : Nat) (v : Int) (h0 : 0 ≤ v) (h1 : v < 4294967296) : ∀ x ∈ l.set j v, 0 ≤ x ∧ x < 4294967296 := by
  intro x hx
  rcases List.mem_or_eq_of_mem_set hx with q | rfl
  · exact h x q
  · exact ⟨h0, h1⟩
end Go.Proofs.Ytgdefahnmgonlaa
