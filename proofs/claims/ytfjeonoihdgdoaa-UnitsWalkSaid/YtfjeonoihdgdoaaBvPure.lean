/- Plain arithmetic of widths from 1 to 32: what the functions of package bitvec come to, over Int; no condition. -/
import Derived.WalkKit
namespace Go.Proofs.Ytfjeonoihdgdoaa
open Go.RowKit

def okW (w : Int) : Bool := decide (1 ≤ w ∧ w ≤ 32)
def redB (a w : Int) : Int := if 1 ≤ w ∧ w ≤ 32 then a % 2 ^ w.toNat else 0
def mkB (w : Int) : Int := if 1 ≤ w ∧ w ≤ 32 then 2 ^ w.toNat - 1 else 0
def fitsB (v w : Int) : Bool := decide (1 ≤ w ∧ w ≤ 32 ∧ v < 2 ^ w.toNat)
def addB (a b w : Int) : Int := redB (a + b) w
def subB (a b w : Int) : Int := redB (a - b) w
def notB (a w : Int) : Int := redB (-1 - a) w
def shlB (a n w : Int) : Int := redB (a * 2 ^ min n.toNat 32) w
def shrB (a n w : Int) : Int := redB a w / 2 ^ min n.toNat 32
def sliceB (a lo w : Int) : Int := if (1 ≤ w ∧ w ≤ 32) ∧ 0 ≤ lo ∧ lo ≤ 32 - w then redB (a / 2 ^ lo.toNat) w else 0
def catOk (wa wb : Int) : Bool := decide ((1 ≤ wa ∧ wa ≤ 32) ∧ (1 ≤ wb ∧ wb ≤ 32) ∧ wa + wb ≤ 32)
def catB (a wa b wb : Int) : Int := if (1 ≤ wa ∧ wa ≤ 32) ∧ (1 ≤ wb ∧ wb ≤ 32) ∧ wa + wb ≤ 32 then redB a wa * 2 ^ wb.toNat + redB b wb else 0
def onesTo : Nat → Int → Int
  | 0, _ => 0
  | k + 1, a => onesTo k a + a / 2 ^ k % 2
def onesB (a : Int) : Int := onesTo 32 a
def clampB (n w : Int) : Int := min (max n 0) w
def pmB (n w : Int) : Int := if 1 ≤ w ∧ w ≤ 32 then 2 ^ w.toNat - 2 ^ (w - clampB n w).toNat else 0
def plOk (m w : Int) : Bool := decide ((1 ≤ w ∧ w ≤ 32) ∧ m = pmB (onesB m) w)
def plB (m w : Int) : Int := if (1 ≤ w ∧ w ≤ 32) ∧ m = pmB (onesB m) w then onesB m else 0

/-- A number from 1 to 32 is one of them. -/
theorem width_cases (P : Int → Prop) (h : ∀ k : Fin 32, P ((k.val : Int) + 1)) (w : Int) (h1 : 1 ≤ w) (h2 : w ≤ 32) : P w := by
  have e : w = (((w - 1).toNat : Int) + 1) := by omega
  rw [e]
  exact h ⟨(w - 1).toNat, by omega⟩

theorem pow_pos' (n : Nat) : (0 : Int) < 2 ^ n := Int.pow_pos (by decide)
theorem pow_mono (a b : Nat) (h : a ≤ b) : (2 : Int) ^ a ≤ 2 ^ b := by
  have := Nat.pow_le_pow_right (n := 2) (by decide) h
  exact_mod_cast this
theorem pow_le32 (w : Int) (h2 : w ≤ 32) : (2 : Int) ^ w.toNat ≤ 4294967296 := by
  have h := pow_mono w.toNat 32 (by omega)
  simpa using h
theorem pow_ge2 (w : Int) (h1 : 1 ≤ w) : (2 : Int) ≤ 2 ^ w.toNat := by
  have h := pow_mono 1 w.toNat (by omega)
  simpa using h

theorem redB_range (a w : Int) : 0 ≤ redB a w ∧ redB a w ≤ 4294967295 := by
  unfold redB
  split
  · rename_i h
    have hp := pow_pos' w.toNat
    have := Int.emod_nonneg a (Int.ne_of_gt hp)
    have := Int.emod_lt_of_pos a hp
    have := pow_le32 w h.2
    omega
  · omega
theorem mkB_range (w : Int) : 0 ≤ mkB w ∧ mkB w ≤ 4294967295 := by
  unfold mkB
  split
  · rename_i h
    have := pow_pos' w.toNat
    have := pow_le32 w h.2
    omega
  · omega
theorem mkB_in (w : Int) (h : 1 ≤ w ∧ w ≤ 32) : mkB w = 2 ^ w.toNat - 1 := by simp [mkB, h]
theorem mkB_out (w : Int) (h : ¬ (1 ≤ w ∧ w ≤ 32)) : mkB w = 0 := by unfold mkB; rw [if_neg h]
theorem redB_in (a w : Int) (h : 1 ≤ w ∧ w ≤ 32) : redB a w = a % 2 ^ w.toNat := by simp [redB, h]
theorem redB_out (a w : Int) (h : ¬ (1 ≤ w ∧ w ≤ 32)) : redB a w = 0 := by unfold redB; rw [if_neg h]

theorem pow_dvd32 (w : Int) (h : w ≤ 32) : ((2 : Int) ^ w.toNat) ∣ 4294967296 :=
  ⟨2 ^ (32 - w.toNat), by rw [← Int.pow_add, show w.toNat + (32 - w.toNat) = 32 by omega]; rfl⟩
/-- What is reduced to 32 bits first reduces alike. -/
theorem redB_wrap (a w : Int) : redB (a % 4294967296) w = redB a w := by
  unfold redB
  split
  · rename_i h; exact Int.emod_emod_of_dvd a (pow_dvd32 w h.2)
  · rfl
theorem wrap32_u (a : Int) : IntKind.u32.wrap a = a % 4294967296 := by simp [IntKind.wrap, IntKind.bits, IntKind.signed]
theorem wraps_u32 (n : Int) (h₀ : 0 ≤ n) (h₁ : n < 2 ^ 32) : IntKind.u32.wrap n = n := by
  rw [wrap32_u]; simp at h₁; omega
/-- The bits under a mask: the remainder. -/
theorem and_mask (a w : Int) (h0 : 0 ≤ a) (h1 : a < 4294967296) : bits .and .u32 a (mkB w) = redB a w := by
  by_cases h : 1 ≤ w ∧ w ≤ 32
  · rw [mkB_in w h, redB_in a w h]
    exact bits_mask .u32 32 (by decide) wraps_u32 w.toNat (by omega) a h0 (by simpa using h1)
  · rw [mkB_out w h, redB_out a w h, u32_and a 0 h0 h1 (by decide) (by decide)]
    simp
theorem and_mask' (a w : Int) : bits .and .u32 (IntKind.u32.wrap a) (mkB w) = redB a w := by
  rw [wrap32_u, and_mask _ w (Int.emod_nonneg _ (by decide)) (Int.emod_lt_of_pos _ (by decide)), redB_wrap]

/-- The mask as the code makes it: all ones, shifted right. -/
theorem mask_shr (w : Int) (h : 1 ≤ w ∧ w ≤ 32) : (4294967295 : Int) / 2 ^ (32 - w).toNat = mkB w := by
  refine width_cases (fun w => (4294967295 : Int) / 2 ^ (32 - w).toNat = mkB w) ?_ w h.1 h.2
  decide +kernel

theorem redB_small (a w : Int) (h : 1 ≤ w ∧ w ≤ 32) (h0 : 0 ≤ a) (h1 : a < 2 ^ w.toNat) : redB a w = a := by
  rw [redB_in a w h]; exact Int.emod_eq_of_lt h0 h1
theorem redB_idem (a w : Int) : redB (redB a w) w = redB a w := by
  unfold redB
  split
  · exact Int.emod_emod_of_dvd _ (Int.dvd_refl _)
  · rfl
theorem redB_add_left (a b w : Int) : redB (redB a w + b) w = redB (a + b) w := by
  unfold redB; split
  · simp
  · rfl
theorem redB_sub_left (a b w : Int) : redB (redB a w - b) w = redB (a - b) w := by
  unfold redB; split
  · simp
  · rfl
theorem redB_sub_right (a b w : Int) : redB (a - redB b w) w = redB (a - b) w := by
  unfold redB; split
  · simp
  · rfl
theorem redB_add_right (a b w : Int) : redB (a + redB b w) w = redB (a + b) w := by
  unfold redB; split
  · simp
  · rfl

theorem fits_in (v w : Int) (h : 1 ≤ w ∧ w ≤ 32) : decide (v ≤ mkB w) = fitsB v w := by
  rw [mkB_in w h]; unfold fitsB; rw [decide_eq_decide]; omega
theorem fits_out (v w : Int) (h : ¬ (1 ≤ w ∧ w ≤ 32)) : false = fitsB v w := by
  unfold fitsB; symm; rw [decide_eq_false_iff_not]; omega
theorem bit_range (a : Int) (k : Nat) : 0 ≤ a / 2 ^ k % 2 ∧ a / 2 ^ k % 2 ≤ 1 := by omega
theorem onesTo_range (k : Nat) (a : Int) : 0 ≤ onesTo k a ∧ onesTo k a ≤ k := by
  induction k with
  | zero => simp [onesTo]
  | succ k ih =>
    have := bit_range a k
    simp only [onesTo]; omega

theorem fin2 (P : Nat → Nat → Prop) (h : ∀ a b : Fin 33, b.val ≤ a.val → P a.val b.val) (a b : Nat) (ha : a ≤ 32) (hb : b ≤ a) : P a b :=
  h ⟨a, by omega⟩ ⟨b, by omega⟩ hb
theorem nat_andNot (a b : Nat) (ha : a ≤ 32) (hb : b ≤ a) : (2 ^ a - 1) &&& (4294967295 - (2 ^ b - 1)) = 2 ^ a - 2 ^ b := by
  refine fin2 (fun a b => (2 ^ a - 1) &&& (4294967295 - (2 ^ b - 1)) = 2 ^ a - 2 ^ b) ?_ a b ha hb
  decide +kernel
theorem mkB_nat (w : Int) (h0 : 0 ≤ w) (h : w ≤ 32) : mkB w = ((2 ^ w.toNat - 1 : Nat) : Int) := by
  by_cases h1 : 1 ≤ w
  · rw [mkB_in w ⟨h1, h⟩, Int.natCast_sub (Nat.two_pow_pos _)]; simp
  · obtain rfl : w = 0 := by omega
    simp [mkB]
theorem andNot_mk (w k : Int) (hk : 0 ≤ k) (hkw : k ≤ w) (hw : w ≤ 32) : bits .andNot .u32 (mkB w) (mkB k) = 2 ^ w.toNat - 2 ^ k.toNat := by
  have r1 := mkB_range w
  have r2 := mkB_range k
  rw [u32_andNot _ _ r1.1 (by omega) r2.1 (by omega), mkB_nat w (by omega) hw, mkB_nat k hk (by omega), Int.toNat_natCast, Int.toNat_natCast,
    nat_andNot w.toNat k.toNat (by omega) (by omega), Int.natCast_sub (Nat.pow_le_pow_right (by decide) (by omega))]
  simp
theorem andNot_zero (k : Int) : bits .andNot .u32 0 (mkB k) = 0 := by
  have r2 := mkB_range k
  rw [u32_andNot _ _ (by decide) (by decide) r2.1 (by omega)]
  simp
theorem pm_neg (n w : Int) (h1 : 1 ≤ w) (h2 : w ≤ 32) (hn : n < 0) : bits .andNot .u32 (mkB w) (mkB w) = pmB n w := by
  rw [andNot_mk w w (by omega) (by omega) h2]
  have e : clampB n w = 0 := by unfold clampB; omega
  unfold pmB; rw [if_pos ⟨h1, h2⟩, e]; simp
theorem pm_big (n w : Int) (h1 : 1 ≤ w) (h2 : w ≤ 32) (hn : w < n) : bits .andNot .u32 (mkB w) (mkB 0) = pmB n w := by
  rw [andNot_mk w 0 (by omega) (by omega) h2]
  have e : clampB n w = w := by unfold clampB; omega
  unfold pmB; rw [if_pos ⟨h1, h2⟩, e]; simp
theorem pm_mid (n w : Int) (h1 : 1 ≤ w) (h2 : w ≤ 32) (hn : 0 ≤ n) (hw : n ≤ w) : bits .andNot .u32 (mkB w) (mkB (w - n)) = pmB n w := by
  rw [andNot_mk w (w - n) (by omega) (by omega) h2]
  have e : clampB n w = n := by unfold clampB; omega
  unfold pmB; rw [if_pos ⟨h1, h2⟩, e]
theorem pm_out (n w x : Int) (h : ¬ (1 ≤ w ∧ w ≤ 32)) : bits .andNot .u32 (mkB w) (mkB x) = pmB n w := by
  rw [mkB_out w h, andNot_zero]; unfold pmB; rw [if_neg h]
theorem one_bit (x : Int) (h0 : 0 ≤ x) (h1 : x < 4294967296) : bits .and .u32 x 1 = x % 2 := by
  have := bits_mask .u32 32 (by decide) wraps_u32 1 (by decide) x h0 (by simpa using h1)
  simpa using this
theorem shr_range (a : Int) (k : Nat) (h0 : 0 ≤ a) (h1 : a < 4294967296) : 0 ≤ a / 2 ^ k ∧ a / 2 ^ k < 4294967296 := by
  have hp := pow_pos' k
  have := Int.ediv_nonneg h0 (Int.le_of_lt hp)
  have := Int.ediv_le_self (2 ^ k) h0
  omega
theorem ones_step (a : Int) (k : Nat) (hk : k < 32) (h0 : 0 ≤ a) (h1 : a < 4294967296) :
    wrap64 (onesTo k a + wrap64 (bits .and .u32 (a / 2 ^ k) 1)) = onesTo (k + 1) a := by
  have r := shr_range a k h0 h1
  have b := bit_range a k
  have o := onesTo_range k a
  rw [one_bit _ r.1 r.2, IntWalk.wrap64_in (a / 2 ^ k % 2) (by omega), IntWalk.wrap64_in _ (by omega)]
  rfl
theorem not_mask (a w : Int) (h0 : 0 ≤ a) (h1 : a < 4294967296) : bits .and .u32 (bits .xor .u32 IntKind.u32.max a) (mkB w) = notB a w := by
  have e : IntKind.u32.max = 4294967295 := by decide
  have x : bits .xor .u32 4294967295 a = 4294967295 - a := by
    obtain ⟨n, rfl⟩ := Int.eq_ofNat_of_zero_le h0
    have hn : n < 4294967296 := by omega
    have q := u32_xor_nat 4294967295 n (by decide) hn
    have z : 4294967295 ^^^ n = 4294967295 - n := by
      have hx := congrArg BitVec.toNat (BitVec.allOnes_xor (x := BitVec.ofNat 32 n))
      rw [BitVec.toNat_xor, BitVec.toNat_allOnes, BitVec.toNat_not, BitVec.toNat_ofNat, Nat.mod_eq_of_lt (by simpa using hn)] at hx
      simpa using hx
    rw [z] at q
    rw [show ((4294967295 : Int)) = ((4294967295 : Nat) : Int) from rfl, q]
    omega
  rw [e, x, and_mask _ w (by omega) (by omega)]
  unfold notB
  rw [← redB_wrap (-1 - a)]
  congr 1
  omega
theorem shl_neg (a n w : Int) (hn : n < 0) : bits .and .u32 (IntKind.u32.wrap a) (mkB w) = shlB a n w := by
  rw [and_mask' a w]; unfold shlB
  rw [show n.toNat = 0 by omega]; simp
theorem shl_pos (a n w : Int) : bits .and .u32 (IntKind.u32.wrap (a * 2 ^ min n.toNat 32)) (mkB w) = shlB a n w := by
  rw [and_mask' _ w]; rfl
theorem shr_neg (a n w : Int) (h0 : 0 ≤ a) (h1 : a < 4294967296) (hn : n < 0) : bits .and .u32 a (mkB w) = shrB a n w := by
  rw [and_mask a w h0 h1]; unfold shrB
  rw [show n.toNat = 0 by omega]; simp
theorem shr_pos (a n w : Int) (h0 : 0 ≤ a) (h1 : a < 4294967296) : bits .and .u32 a (mkB w) / 2 ^ min n.toNat 32 = shrB a n w := by
  rw [and_mask a w h0 h1]; rfl

theorem slice_out (a lo w : Int) (h : ¬ ((1 ≤ w ∧ w ≤ 32) ∧ 0 ≤ lo ∧ lo ≤ 32 - w)) : 0 = sliceB a lo w := by unfold sliceB; rw [if_neg h]
theorem slice_in (a lo w : Int) (h0 : 0 ≤ a) (h1 : a < 4294967296) (hw1 : 1 ≤ w) (hw2 : w ≤ 32) (hl0 : 0 ≤ lo) (hl : lo ≤ 32 - w) :
    bits .and .u32 (a / 2 ^ lo.toNat) (mkB w) = sliceB a lo w := by
  have r := shr_range a lo.toNat h0 h1
  rw [and_mask _ w r.1 r.2]
  unfold sliceB; rw [if_pos ⟨⟨hw1, hw2⟩, hl0, hl⟩]
theorem cat_out (a wa b wb : Int) (h : ¬ ((1 ≤ wa ∧ wa ≤ 32) ∧ (1 ≤ wb ∧ wb ≤ 32) ∧ wa + wb ≤ 32)) : 0 = catB a wa b wb := by unfold catB; rw [if_neg h]
theorem catOk_out (wa wb : Int) (h : ¬ ((1 ≤ wa ∧ wa ≤ 32) ∧ (1 ≤ wb ∧ wb ≤ 32) ∧ wa + wb ≤ 32)) : false = catOk wa wb := by unfold catOk; symm; exact decide_eq_false h
theorem catOk_in (wa wb : Int) (ha1 : 1 ≤ wa) (ha2 : wa ≤ 32) (hb1 : 1 ≤ wb) (hb2 : wb ≤ 32) (hs : wa + wb ≤ 32) : true = catOk wa wb := by
  unfold catOk; symm; exact decide_eq_true ⟨⟨ha1, ha2⟩, ⟨hb1, hb2⟩, hs⟩
theorem cat_not (wa wb : Int) (h : ¬ ((1 ≤ wa ∧ wa ≤ 32) ∧ (1 ≤ wb ∧ wb ≤ 32) ∧ wa + wb ≤ 32)) : (okW wa && (okW wb && okW (wrap64 (wa + wb)))) = false := by
  unfold okW
  by_cases ha : 1 ≤ wa ∧ wa ≤ 32
  · by_cases hb : 1 ≤ wb ∧ wb ≤ 32
    · rw [IntWalk.wrap64_in _ (by omega)]
      have : ¬ (1 ≤ wa + wb ∧ wa + wb ≤ 32) := by omega
      simp only [this, decide_false, Bool.and_false]
    · simp only [hb, decide_false, Bool.false_and, Bool.and_false]
  · simp only [ha, decide_false, Bool.false_and]
theorem cat_yes (wa wb : Int) (ha1 : 1 ≤ wa) (ha2 : wa ≤ 32) (hb1 : 1 ≤ wb) (hb2 : wb ≤ 32) (hs : wa + wb ≤ 32) : (okW wa && (okW wb && okW (wa + wb))) = true := by
  unfold okW
  simp [ha1, ha2, hb1, hb2, hs]; omega
theorem redB_lt (a w : Int) (h : 1 ≤ w ∧ w ≤ 32) : 0 ≤ redB a w ∧ redB a w < 2 ^ w.toNat := by
  rw [redB_in a w h]
  exact ⟨Int.emod_nonneg _ (Int.ne_of_gt (pow_pos' _)), Int.emod_lt_of_pos _ (pow_pos' _)⟩
theorem mul_pow_lt (x : Int) (p q : Nat) (h0 : 0 ≤ x) (hx : x < 2 ^ p) (hpq : p + q ≤ 32) : 0 ≤ x * 2 ^ q ∧ x * 2 ^ q ≤ 4294967296 - 2 ^ q := by
  have hq := pow_pos' q
  have h2 := pow_mono (p + q) 32 hpq
  rw [Int.pow_add] at h2
  have h3 : (x + 1) * 2 ^ q ≤ 2 ^ p * 2 ^ q := Int.mul_le_mul_of_nonneg_right (by omega) (Int.le_of_lt hq)
  have h4 := Int.mul_nonneg h0 (Int.le_of_lt hq)
  rw [Int.add_mul] at h3
  simp at h2
  omega
theorem cat_in (a wa b wb : Int) (h0 : 0 ≤ a) (h1 : a < 4294967296) (k0 : 0 ≤ b) (k1 : b < 4294967296) (ha1 : 1 ≤ wa) (ha2 : wa ≤ 32) (hb1 : 1 ≤ wb) (hb2 : wb ≤ 32) (hs : wa + wb ≤ 32) :
    bits .or .u32 (IntKind.u32.wrap (bits .and .u32 a (mkB wa) * 2 ^ wb.toNat)) (bits .and .u32 b (mkB wb)) = catB a wa b wb := by
  rw [and_mask a wa h0 h1, and_mask b wb k0 k1]
  have ra := redB_lt a wa ⟨ha1, ha2⟩
  have rb := redB_lt b wb ⟨hb1, hb2⟩
  have m := mul_pow_lt (redB a wa) wa.toNat wb.toNat ra.1 ra.2 (by omega)
  have hp := pow_pos' wb.toNat
  have hq := pow_le32 wb hb2
  rw [wrap32_u, Int.emod_eq_of_lt m.1 (by omega)]
  unfold catB
  rw [if_pos ⟨⟨ha1, ha2⟩, ⟨hb1, hb2⟩, hs⟩]
  exact bits_join .u32 32 (by decide) wraps_u32 wb.toNat _ _ m.1 (by simp) (by simp; omega) rb.1 rb.2 (by simp; omega)
theorem pl_in (m w : Int) (h : 1 ≤ w ∧ w ≤ 32) (hp : m = pmB (onesB m) w) : onesB m = plB m w ∧ true = plOk m w := by
  unfold plB plOk
  rw [if_pos ⟨h, hp⟩]
  exact ⟨rfl, (decide_eq_true ⟨h, hp⟩).symm⟩
theorem pl_out (m w : Int) (h : ¬ ((1 ≤ w ∧ w ≤ 32) ∧ m = pmB (onesB m) w)) : 0 = plB m w ∧ false = plOk m w := by
  unfold plB plOk
  rw [if_neg h]
  exact ⟨rfl, (decide_eq_false h).symm⟩

/-- Powers of two, behind a name. -/
def pw (n : Nat) : Int := 2 ^ n
theorem pw_pos (n : Nat) : 1 ≤ pw n := by have := pow_pos' n; unfold pw; omega
theorem pw_succ (n : Nat) : 2 * pw n = pw (n + 1) := by unfold pw; rw [Int.pow_succ]; omega
theorem pw_le62 (n : Nat) (h : n ≤ 62) : pw n ≤ 4611686018427387904 := by
  have := pow_mono n 62 h
  unfold pw; simpa using this
theorem pw_le32 (w : Int) (h : w ≤ 32) : pw w.toNat ≤ 4294967296 := pow_le32 w h
end Go.Proofs.Ytfjeonoihdgdoaa
