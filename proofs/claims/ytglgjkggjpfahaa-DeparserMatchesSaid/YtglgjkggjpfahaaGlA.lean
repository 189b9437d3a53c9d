/- Several texts in one: BvPure, Mem, BvA, BvB, BvC, BvPureB, BvR, BvS, BvT, BvU, BvV, BvW. -/
import Derived.WalkKit
import Derived.Test.YtglgjkggjpfahaaProg
import Derived.Test.YtglgjkggjpfahaaFrame
import Derived.Outline
import Derived.Lib.Hide
import Derived.Deep.QuietTactic
import Derived.BigQuiet
import Derived.Laws.AppendOwnNone
import Derived.WalkLawsBesides
import Derived.StillTailTactics
import Derived.Deep.RegionWith
import Derived.Deep.RegionHeld3
section
namespace Go.Proofs.Ytglgjkggjpfahaa
open Go.RowKit

def okW (w : Int) : Bool := decide (1 ≤ w ∧ w ≤ 32)
def redB (a w : Int) : Int := if 1 ≤ w ∧ w ≤ 32 then a % 2 ^ w.toNat else 0
def mkB (w : Int) : Int := if 1 ≤ w ∧ w ≤ 32 then 2 ^ w.toNat - 1 else 0
def fitsB (v w : Int) : Bool := decide (1 ≤ w ∧ w ≤ 32 ∧ v < 2 ^ w.toNat)
def addB (a b w : Int) : Int := redB (a + b) w
def subB (a b w : Int) : Int := redB (a - b) w
def notB (a w : Int) : Int := redB (-1 - a) w
def shlB (a n w : Int) : Int := redB (a * 2 ^ min n.toNat 32) w
def shrB (a n w : Int) : Int := redB a w / 2 ^ min n.toNat 32
def sliceB (a lo w : Int) : Int := if (1 ≤ w ∧ w ≤ 32) ∧ 0 ≤ lo ∧ lo ≤ 32 - w then redB (a / 2 ^ lo.toNat) w else 0
def catOk (wa wb : Int) : Bool := decide ((1 ≤ wa ∧ wa ≤ 32) ∧ (1 ≤ wb ∧ wb ≤ 32) ∧ wa + wb ≤ 32)
def catB (a wa b wb : Int) : Int := if (1 ≤ wa ∧ wa ≤ 32) ∧ (1 ≤ wb ∧ wb ≤ 32) ∧ wa + wb ≤ 32 then redB a wa * 2 ^ wb.toNat + redB b wb else 0
def onesTo : Nat → Int → Int
  | 0, _ => 0
  | k + 1, a => onesTo k a + a / 2 ^ k % 2
def onesB (a : Int) : Int := onesTo 32 a
def clampB (n w : Int) : Int := min (max n 0) w
def pmB (n w : Int) : Int := if 1 ≤ w ∧ w ≤ 32 then 2 ^ w.toNat - 2 ^ (w - clampB n w).toNat else 0
def plOk (m w : Int) : Bool := decide ((1 ≤ w ∧ w ≤ 32) ∧ m = pmB (onesB m) w)
def plB (m w : Int) : Int := if (1 ≤ w ∧ w ≤ 32) ∧ m = pmB (onesB m) w then onesB m else 0

/-- A number from 1 to 32 is one of them. -/
theorem width_cases (P : Int → Prop) (h : ∀ k : Fin 32, P ((k.val : Int) + 1)) (w : Int) (h1 : 1 ≤ w) (h2 : w ≤ 32) : P w := by
  have e : w = (((w - 1).toNat : Int) + 1) := by omega
  rw [e]
  exact h ⟨(w - 1).toNat, by omega⟩

theorem pow_pos' (n : Nat) : (0 : Int) < 2 ^ n := Int.pow_pos (by decide)
theorem pow_mono (a b : Nat) (h : a ≤ b) : (2 : Int) ^ a ≤ 2 ^ b := by
  have := Nat.pow_le_pow_right (n := 2) (by decide) h
  exact_mod_cast this
theorem pow_le32 (w : Int) (h2 : w ≤ 32) : (2 : Int) ^ w.toNat ≤ 4294967296 := by
  have h := pow_mono w.toNat 32 (by omega)
  simpa using h
theorem pow_ge2 (w : Int) (h1 : 1 ≤ w) : (2 : Int) ≤ 2 ^ w.toNat := by
  have h := pow_mono 1 w.toNat (by omega)
  simpa using h

theorem redB_range (a w : Int) : 0 ≤ redB a w ∧ redB a w ≤ 4294967295 := by
  unfold redB
  split
  · rename_i h
    have hp := pow_pos' w.toNat
    have := Int.emod_nonneg a (Int.ne_of_gt hp)
    have := Int.emod_lt_of_pos a hp
    have := pow_le32 w h.2
    omega
  · omega
theorem mkB_range (w : Int) : 0 ≤ mkB w ∧ mkB w ≤ 4294967295 := by
  unfold mkB
  split
  · rename_i h
    have := pow_pos' w.toNat
    have := pow_le32 w h.2
    omega
  · omega
theorem mkB_in (w : Int) (h : 1 ≤ w ∧ w ≤ 32) : mkB w = 2 ^ w.toNat - 1 := by simp [mkB, h]
theorem mkB_out (w : Int) (h : ¬ (1 ≤ w ∧ w ≤ 32)) : mkB w = 0 := by unfold mkB; rw [if_neg h]
theorem redB_in (a w : Int) (h : 1 ≤ w ∧ w ≤ 32) : redB a w = a % 2 ^ w.toNat := by simp [redB, h]
theorem redB_out (a w : Int) (h : ¬ (1 ≤ w ∧ w ≤ 32)) : redB a w = 0 := by unfold redB; rw [if_neg h]

theorem pow_dvd32 (w : Int) (h : w ≤ 32) : ((2 : Int) ^ w.toNat) ∣ 4294967296 :=
  ⟨2 ^ (32 - w.toNat), by rw [← Int.pow_add, show w.toNat + (32 - w.toNat) = 32 by omega]; rfl⟩
/-- What is reduced to 32 bits first reduces alike. -/
theorem redB_wrap (a w : Int) : redB (a % 4294967296) w = redB a w := by
  unfold redB
  split
  · rename_i h; exact Int.emod_emod_of_dvd a (pow_dvd32 w h.2)
  · rfl
theorem wrap32_u (a : Int) : IntKind.u32.wrap a = a % 4294967296 := by simp [IntKind.wrap, IntKind.bits, IntKind.signed]
theorem wraps_u32 (n : Int) (h₀ : 0 ≤ n) (h₁ : n < 2 ^ 32) : IntKind.u32.wrap n = n := by
  rw [wrap32_u]; simp at h₁; omega
/-- The bits under a mask: the remainder. -/
theorem and_mask (a w : Int) (h0 : 0 ≤ a) (h1 : a < 4294967296) : bits .and .u32 a (mkB w) = redB a w := by
  by_cases h : 1 ≤ w ∧ w ≤ 32
  · rw [mkB_in w h, redB_in a w h]
    exact bits_mask .u32 32 (by decide) wraps_u32 w.toNat (by omega) a h0 (by simpa using h1)
  · rw [mkB_out w h, redB_out a w h, u32_and a 0 h0 h1 (by decide) (by decide)]
    simp
theorem and_mask' (a w : Int) : bits .and .u32 (IntKind.u32.wrap a) (mkB w) = redB a w := by
  rw [wrap32_u, and_mask _ w (Int.emod_nonneg _ (by decide)) (Int.emod_lt_of_pos _ (by decide)), redB_wrap]

/-- The mask as the code makes it: all ones, shifted right. -/
theorem mask_shr (w : Int) (h : 1 ≤ w ∧ w ≤ 32) : (4294967295 : Int) / 2 ^ (32 - w).toNat = mkB w := by
  refine width_cases (fun w => (4294967295 : Int) / 2 ^ (32 - w).toNat = mkB w) ?_ w h.1 h.2
  decide +kernel

theorem redB_small (a w : Int) (h : 1 ≤ w ∧ w ≤ 32) (h0 : 0 ≤ a) (h1 : a < 2 ^ w.toNat) : redB a w = a := by
  rw [redB_in a w h]; exact Int.emod_eq_of_lt h0 h1
theorem redB_idem (a w : Int) : redB (redB a w) w = redB a w := by
  unfold redB
  split
  · exact Int.emod_emod_of_dvd _ (Int.dvd_refl _)
  · rfl
theorem redB_add_left (a b w : Int) : redB (redB a w + b) w = redB (a + b) w := by
  unfold redB; split
  · simp
  · rfl
theorem redB_sub_left (a b w : Int) : redB (redB a w - b) w = redB (a - b) w := by
  unfold redB; split
  · simp
  · rfl
theorem redB_sub_right (a b w : Int) : redB (a - redB b w) w = redB (a - b) w := by
  unfold redB; split
  · simp
  · rfl
theorem redB_add_right (a b w : Int) : redB (a + redB b w) w = redB (a + b) w := by
  unfold redB; split
  · simp
  · rfl

theorem fits_in (v w : Int) (h : 1 ≤ w ∧ w ≤ 32) : decide (v ≤ mkB w) = fitsB v w := by
  rw [mkB_in w h]; unfold fitsB; rw [decide_eq_decide]; omega
theorem fits_out (v w : Int) (h : ¬ (1 ≤ w ∧ w ≤ 32)) : false = fitsB v w := by
  unfold fitsB; symm; rw [decide_eq_false_iff_not]; omega
theorem bit_range (a : Int) (k : Nat) : 0 ≤ a / 2 ^ k % 2 ∧ a / 2 ^ k % 2 ≤ 1 := by omega
theorem onesTo_range (k : Nat) (a : Int) : 0 ≤ onesTo k a ∧ onesTo k a ≤ k := by
  induction k with
  | zero => simp [onesTo]
  | succ k ih =>
    have := bit_range a k
    simp only [onesTo]; omega

theorem fin2 (P : Nat → Nat → Prop) (h : ∀ a b : Fin 33, b.val ≤ a.val → P a.val b.val) (a b : Nat) (ha : a ≤ 32) (hb : b ≤ a) : P a b :=
  h ⟨a, by omega⟩ ⟨b, by omega⟩ hb
theorem nat_andNot (a b : Nat) (ha : a ≤ 32) (hb : b ≤ a) : (2 ^ a - 1) &&& (4294967295 - (2 ^ b - 1)) = 2 ^ a - 2 ^ b := by
  refine fin2 (fun a b => (2 ^ a - 1) &&& (4294967295 - (2 ^ b - 1)) = 2 ^ a - 2 ^ b) ?_ a b ha hb
  decide +kernel
theorem mkB_nat (w : Int) (h0 : 0 ≤ w) (h : w ≤ 32) : mkB w = ((2 ^ w.toNat - 1 : Nat) : Int) := by
  by_cases h1 : 1 ≤ w
  · rw [mkB_in w ⟨h1, h⟩, Int.natCast_sub (Nat.two_pow_pos _)]; simp
  · obtain rfl : w = 0 := by omega
    simp [mkB]
theorem andNot_mk (w k : Int) (hk : 0 ≤ k) (hkw : k ≤ w) (hw : w ≤ 32) : bits .andNot .u32 (mkB w) (mkB k) = 2 ^ w.toNat - 2 ^ k.toNat := by
  have r1 := mkB_range w
  have r2 := mkB_range k
  rw [u32_andNot _ _ r1.1 (by omega) r2.1 (by omega), mkB_nat w (by omega) hw, mkB_nat k hk (by omega), Int.toNat_natCast, Int.toNat_natCast,
    nat_andNot w.toNat k.toNat (by omega) (by omega), Int.natCast_sub (Nat.pow_le_pow_right (by decide) (by omega))]
  simp
theorem andNot_zero (k : Int) : bits .andNot .u32 0 (mkB k) = 0 := by
  have r2 := mkB_range k
  rw [u32_andNot _ _ (by decide) (by decide) r2.1 (by omega)]
  simp
theorem pm_neg (n w : Int) (h1 : 1 ≤ w) (h2 : w ≤ 32) (hn : n < 0) : bits .andNot .u32 (mkB w) (mkB w) = pmB n w := by
  rw [andNot_mk w w (by omega) (by omega) h2]
  have e : clampB n w = 0 := by unfold clampB; omega
  unfold pmB; rw [if_pos ⟨h1, h2⟩, e]; simp
theorem pm_big (n w : Int) (h1 : 1 ≤ w) (h2 : w ≤ 32) (hn : w < n) : bits .andNot .u32 (mkB w) (mkB 0) = pmB n w := by
  rw [andNot_mk w 0 (by omega) (by omega) h2]
  have e : clampB n w = w := by unfold clampB; omega
  unfold pmB; rw [if_pos ⟨h1, h2⟩, e]; simp
theorem pm_mid (n w : Int) (h1 : 1 ≤ w) (h2 : w ≤ 32) (hn : 0 ≤ n) (hw : n ≤ w) : bits .andNot .u32 (mkB w) (mkB (w - n)) = pmB n w := by
  rw [andNot_mk w (w - n) (by omega) (by omega) h2]
  have e : clampB n w = n := by unfold clampB; omega
  unfold pmB; rw [if_pos ⟨h1, h2⟩, e]
theorem pm_out (n w x : Int) (h : ¬ (1 ≤ w ∧ w ≤ 32)) : bits .andNot .u32 (mkB w) (mkB x) = pmB n w := by
  rw [mkB_out w h, andNot_zero]; unfold pmB; rw [if_neg h]
theorem one_bit (x : Int) (h0 : 0 ≤ x) (h1 : x < 4294967296) : bits .and .u32 x 1 = x % 2 := by
  have := bits_mask .u32 32 (by decide) wraps_u32 1 (by decide) x h0 (by simpa using h1)
  simpa using this
theorem shr_range (a : Int) (k : Nat) (h0 : 0 ≤ a) (h1 : a < 4294967296) : 0 ≤ a / 2 ^ k ∧ a / 2 ^ k < 4294967296 := by
  have hp := pow_pos' k
  have := Int.ediv_nonneg h0 (Int.le_of_lt hp)
  have := Int.ediv_le_self (2 ^ k) h0
  omega
theorem ones_step (a : Int) (k : Nat) (hk : k < 32) (h0 : 0 ≤ a) (h1 : a < 4294967296) :
    wrap64 (onesTo k a + wrap64 (bits .and .u32 (a / 2 ^ k) 1)) = onesTo (k + 1) a := by
  have r := shr_range a k h0 h1
  have b := bit_range a k
  have o := onesTo_range k a
  rw [one_bit _ r.1 r.2, IntWalk.wrap64_in (a / 2 ^ k % 2) (by omega), IntWalk.wrap64_in _ (by omega)]
  rfl
theorem not_mask (a w : Int) (h0 : 0 ≤ a) (h1 : a < 4294967296) : bits .and .u32 (bits .xor .u32 IntKind.u32.max a) (mkB w) = notB a w := by
  have e : IntKind.u32.max = 4294967295 := by decide
  have x : bits .xor .u32 4294967295 a = 4294967295 - a := by
    obtain ⟨n, rfl⟩ := Int.eq_ofNat_of_zero_le h0
    have hn : n < 4294967296 := by omega
    have q := u32_xor_nat 4294967295 n (by decide) hn
    have z : 4294967295 ^^^ n = 4294967295 - n := by
      have hx := congrArg BitVec.toNat (BitVec.allOnes_xor (x := BitVec.ofNat 32 n))
      rw [BitVec.toNat_xor, BitVec.toNat_allOnes, BitVec.toNat_not, BitVec.toNat_ofNat, Nat.mod_eq_of_lt (by simpa using hn)] at hx
      simpa using hx
    rw [z] at q
    rw [show ((4294967295 : Int)) = ((4294967295 : Nat) : Int) from rfl, q]
    omega
  rw [e, x, and_mask _ w (by omega) (by omega)]
  unfold notB
  rw [← redB_wrap (-1 - a)]
  congr 1
  omega
theorem shl_neg (a n w : Int) (hn : n < 0) : bits .and .u32 (IntKind.u32.wrap a) (mkB w) = shlB a n w := by
  rw [and_mask' a w]; unfold shlB
  rw [show n.toNat = 0 by omega]; simp
theorem shl_pos (a n w : Int) : bits .and .u32 (IntKind.u32.wrap (a * 2 ^ min n.toNat 32)) (mkB w) = shlB a n w := by
  rw [and_mask' _ w]; rfl
theorem shr_neg (a n w : Int) (h0 : 0 ≤ a) (h1 : a < 4294967296) (hn : n < 0) : bits .and .u32 a (mkB w) = shrB a n w := by
  rw [and_mask a w h0 h1]; unfold shrB
  rw [show n.toNat = 0 by omega]; simp
theorem shr_pos (a n w : Int) (h0 : 0 ≤ a) (h1 : a < 4294967296) : bits .and .u32 a (mkB w) / 2 ^ min n.toNat 32 = shrB a n w := by
  rw [and_mask a w h0 h1]; rfl

theorem slice_out (a lo w : Int) (h : ¬ ((1 ≤ w ∧ w ≤ 32) ∧ 0 ≤ lo ∧ lo ≤ 32 - w)) : 0 = sliceB a lo w := by unfold sliceB; rw [if_neg h]
theorem slice_in (a lo w : Int) (h0 : 0 ≤ a) (h1 : a < 4294967296) (hw1 : 1 ≤ w) (hw2 : w ≤ 32) (hl0 : 0 ≤ lo) (hl : lo ≤ 32 - w) :
    bits .and .u32 (a / 2 ^ lo.toNat) (mkB w) = sliceB a lo w := by
  have r := shr_range a lo.toNat h0 h1
  rw [and_mask _ w r.1 r.2]
  unfold sliceB; rw [if_pos ⟨⟨hw1, hw2⟩, hl0, hl⟩]
theorem cat_out (a wa b wb : Int) (h : ¬ ((1 ≤ wa ∧ wa ≤ 32) ∧ (1 ≤ wb ∧ wb ≤ 32) ∧ wa + wb ≤ 32)) : 0 = catB a wa b wb := by unfold catB; rw [if_neg h]
theorem catOk_out (wa wb : Int) (h : ¬ ((1 ≤ wa ∧ wa ≤ 32) ∧ (1 ≤ wb ∧ wb ≤ 32) ∧ wa + wb ≤ 32)) : false = catOk wa wb := by unfold catOk; symm; exact decide_eq_false h
theorem catOk_in (wa wb : Int) (ha1 : 1 ≤ wa) (ha2 : wa ≤ 32) (hb1 : 1 ≤ wb) (hb2 : wb ≤ 32) (hs : wa + wb ≤ 32) : true = catOk wa wb := by
  unfold catOk; symm; exact decide_eq_true ⟨⟨ha1, ha2⟩, ⟨hb1, hb2⟩, hs⟩
theorem cat_not (wa wb : Int) (h : ¬ ((1 ≤ wa ∧ wa ≤ 32) ∧ (1 ≤ wb ∧ wb ≤ 32) ∧ wa + wb ≤ 32)) : (okW wa && (okW wb && okW (wrap64 (wa + wb)))) = false := by
  unfold okW
  by_cases ha : 1 ≤ wa ∧ wa ≤ 32
  · by_cases hb : 1 ≤ wb ∧ wb ≤ 32
    · rw [IntWalk.wrap64_in _ (by omega)]
      have : ¬ (1 ≤ wa + wb ∧ wa + wb ≤ 32) := by omega
      simp only [this, decide_false, Bool.and_false]
    · simp only [hb, decide_false, Bool.false_and, Bool.and_false]
  · simp only [ha, decide_false, Bool.false_and]
theorem cat_yes (wa wb : Int) (ha1 : 1 ≤ wa) (ha2 : wa ≤ 32) (hb1 : 1 ≤ wb) (hb2 : wb ≤ 32) (hs : wa + wb ≤ 32) : (okW wa && (okW wb && okW (wa + wb))) = true := by
  unfold okW
  simp [ha1, ha2, hb1, hb2, hs]; omega
theorem redB_lt (a w : Int) (h : 1 ≤ w ∧ w ≤ 32) : 0 ≤ redB a w ∧ redB a w < 2 ^ w.toNat := by
  rw [redB_in a w h]
  exact ⟨Int.emod_nonneg _ (Int.ne_of_gt (pow_pos' _)), Int.emod_lt_of_pos _ (pow_pos' _)⟩
theorem mul_pow_lt (x : Int) (p q : Nat) (h0 : 0 ≤ x) (hx : x < 2 ^ p) (hpq : p + q ≤ 32) : 0 ≤ x * 2 ^ q ∧ x * 2 ^ q ≤ 4294967296 - 2 ^ q := by
  have hq := pow_pos' q
  have h2 := pow_mono (p + q) 32 hpq
  rw [Int.pow_add] at h2
  have h3 : (x + 1) * 2 ^ q ≤ 2 ^ p * 2 ^ q := Int.mul_le_mul_of_nonneg_right (by omega) (Int.le_of_lt hq)
  have h4 := Int.mul_nonneg h0 (Int.le_of_lt hq)
  rw [Int.add_mul] at h3
  simp at h2
  omega
theorem cat_in (a wa b wb : Int) (h0 : 0 ≤ a) (h1 : a < 4294967296) (k0 : 0 ≤ b) (k1 : b < 4294967296) (ha1 : 1 ≤ wa) (ha2 : wa ≤ 32) (hb1 : 1 ≤ wb) (hb2 : wb ≤ 32) (hs : wa + wb ≤ 32) :
    bits .or .u32 (IntKind.u32.wrap (bits .and .u32 a (mkB wa) * 2 ^ wb.toNat)) (bits .and .u32 b (mkB wb)) = catB a wa b wb := by
  rw [and_mask a wa h0 h1, and_mask b wb k0 k1]
  have ra := redB_lt a wa ⟨ha1, ha2⟩
  have rb := redB_lt b wb ⟨hb1, hb2⟩
  have m := mul_pow_lt (redB a wa) wa.toNat wb.toNat ra.1 ra.2 (by omega)
  have hp := pow_pos' wb.toNat
  have hq := pow_le32 wb hb2
  rw [wrap32_u, Int.emod_eq_of_lt m.1 (by omega)]
  unfold catB
  rw [if_pos ⟨⟨ha1, ha2⟩, ⟨hb1, hb2⟩, hs⟩]
  exact bits_join .u32 32 (by decide) wraps_u32 wb.toNat _ _ m.1 (by simp) (by simp; omega) rb.1 rb.2 (by simp; omega)
theorem pl_in (m w : Int) (h : 1 ≤ w ∧ w ≤ 32) (hp : m = pmB (onesB m) w) : onesB m = plB m w ∧ true = plOk m w := by
  unfold plB plOk
  rw [if_pos ⟨h, hp⟩]
  exact ⟨rfl, (decide_eq_true ⟨h, hp⟩).symm⟩
theorem pl_out (m w : Int) (h : ¬ ((1 ≤ w ∧ w ≤ 32) ∧ m = pmB (onesB m) w)) : 0 = plB m w ∧ false = plOk m w := by
  unfold plB plOk
  rw [if_neg h]
  exact ⟨rfl, (decide_eq_false h).symm⟩

/-- Powers of two, behind a name. -/
def pw (n : Nat) : Int := 2 ^ n
theorem pw_pos (n : Nat) : 1 ≤ pw n := by have := pow_pos' n; unfold pw; omega
theorem pw_succ (n : Nat) : 2 * pw n = pw (n + 1) := by unfold pw; rw [Int.pow_succ]; omega
theorem pw_le62 (n : Nat) (h : n ≤ 62) : pw n ≤ 4611686018427387904 := by
  have := pow_mono n 62 h
  unfold pw; simpa using this
theorem pw_le32 (w : Int) (h : w ≤ 32) : pw w.toNat ≤ 4294967296 := pow_le32 w h
end Go.Proofs.Ytglgjkggjpfahaa
end
section
namespace Go.Proofs.Ytglgjkggjpfahaa
open Go.RowKit
set_option linter.unusedVariables false

/-- The world has at most new blocks, and draws; what was there stands as it stood. -/
def Gr (W W' : World) : Prop := W'.os = W.os ∧ W'.tape = W.tape ∧ W'.output = W.output ∧ W.heap.size ≤ W'.heap.size ∧ ∀ k, k < W.heap.size → W'.heap[k]? = W.heap[k]?
theorem Gr.refl (W : World) : Gr W W := ⟨rfl, rfl, rfl, Nat.le_refl _, fun _ _ => rfl⟩
theorem Gr.below {W W' : World} (h : Gr W W') : Below W.heap.size W W' := ⟨h.1, h.2.1, h.2.2.1, h.2.2.2.1, h.2.2.2.2⟩
theorem gr_of_below {W W' : World} (h : Below W.heap.size W W') : Gr W W' := ⟨h.os, h.tape, h.output, h.size, h.block⟩
theorem grown_trans {a b c : World} (h : Gr a b) (k : Gr b c) : Gr a c := gr_of_below (h.below.trans (k.below.mono h.below.size))
theorem Gr.alloc {W w' : World} (h : Gr W w') (c : Array Value) (t : TypeId) : Gr W (w'.alloc (.cells c t)) := gr_of_below (h.below.alloc h.below.size _)
theorem ret_b {a b : Bool} (h : a = b) : Ending.returned (.bool a) = .returned (.bool b) := by rw [h]
theorem ret_i {k : IntKind} {a b : Int} (h : a = b) : Ending.returned (.int k a) = .returned (.int k b) := by rw [h]
theorem ret_ib {k : IntKind} {a b : Int} {c d : Bool} (h : a = b) (g : c = d) : Ending.returned (.tuple #[.int k a, .bool c]) = .returned (.tuple #[.int k b, .bool d]) := by rw [h, g]
theorem ret_ii {k k2 : IntKind} {a b c d : Int} (h : a = b) (g : c = d) : Ending.returned (.tuple #[.int k a, .int k2 c]) = .returned (.tuple #[.int k b, .int k2 d]) := by rw [h, g]
/-- Block g holds exactly these cells, of element type t; none is frozen. -/
def IsB (w : World) (g : Nat) (t : TypeId) (cs : Array Value) : Prop := w.heap[g]? = some (.cells cs t (0, 0))
theorem IsB.lt {w : World} {g : Nat} {t : TypeId} {cs : Array Value} (h : IsB w g t cs) : g < w.heap.size := by
  rcases Nat.lt_or_ge g w.heap.size with hl | hl
  · exact hl
  · unfold IsB at h; rw [Array.getElem?_eq_none hl] at h; simp at h
theorem IsB.cell {w : World} {g : Nat} {t : TypeId} {cs : Array Value} (h : IsB w g t cs) (i : Nat) : w.cell? ⟨g, i, none⟩ = cs[i]? := by
  unfold IsB at h; simp [World.cell?, h]
theorem IsB.free {w : World} {g : Nat} {t : TypeId} {cs : Array Value} (h : IsB w g t cs) (i : Nat) : w.frozen? ⟨g, i, none⟩ = false := by
  unfold IsB at h; simp [World.frozen?, h]
theorem IsB.ne {w : World} {g g2 : Nat} {t t2 : TypeId} {cs cs2 : Array Value} (h : IsB w g t cs) (h2 : IsB w g2 t2 cs2) (hn : t ≠ t2) : g ≠ g2 := by
  intro e; subst e
  unfold IsB at h h2; rw [h] at h2; simp at h2; exact hn h2.2
theorem IsB.keep {w w2 : World} {row : Option Nat} {g : Nat} {t : TypeId} {cs : Array Value} (h : IsB w g t cs) (k : w.grownBy w2 row) (hn : some g ≠ row) : IsB w2 g t cs :=
  (k.block g h.lt hn).trans h
theorem IsB.keep0 {w w2 : World} {g : Nat} {t : TypeId} {cs : Array Value} (h : IsB w g t cs) (k : w.grownBy w2 none) : IsB w2 g t cs := h.keep k (by simp)
theorem IsB.keepS {w w2 : World} {s g : Nat} {t t2 : TypeId} {cs cs2 : Array Value} (h : IsB w g t cs) (k : w.grownBy w2 (some s)) (hs : IsB w s t2 cs2) (hn : t ≠ t2) : IsB w2 g t cs :=
  h.keep k (by intro e; injection e with e; exact h.ne hs hn e)
theorem IsB.new (w : World) (t : TypeId) (cs : Array Value) : IsB (w.alloc (.cells cs t)) w.heap.size t cs := by
  show (w.heap.push _)[w.heap.size]? = _; simp
theorem IsB.alloc {w : World} {g : Nat} {t : TypeId} {cs : Array Value} (h : IsB w g t cs) (o : Obj) : IsB (w.alloc o) g t cs := h.keep0 (World.grownBy_alloc w o none)
theorem IsB.set {w : World} {g : Nat} {t : TypeId} {cs : Array Value} (h : IsB w g t cs) (i : Nat) (u : Value) : IsB (w.setCell ⟨g, i, none⟩ u) g t (cs.setIfInBounds i u) := by
  unfold IsB at h ⊢; simp [World.setCell, Array.getElem?_modify, h]
theorem IsB.set_far {w : World} {g g2 : Nat} {t : TypeId} {cs : Array Value} (h : IsB w g t cs) (hn : g ≠ g2) (i : Nat) (u : Value) : IsB (w.setCell ⟨g2, i, none⟩ u) g t cs :=
  (Below.heap_setCell w ⟨g2, i, none⟩ u g hn).trans h
theorem gb_refl (w : World) (row : Option Nat) : w.grownBy w row := World.grownBy.refl w row
theorem gb_trans {a b c : World} {row : Option Nat} (h : a.grownBy b row) (k : b.grownBy c row) : a.grownBy c row :=
  ⟨k.os.trans h.os, k.tape.trans h.tape, k.output.trans h.output, Nat.le_trans h.size k.size, fun i hi hn => (k.block i (Nat.lt_of_lt_of_le hi h.size) hn).trans (h.block i hi hn)⟩
theorem gb_any {a b : World} {row : Option Nat} (h : a.grownBy b none) : a.grownBy b row := ⟨h.os, h.tape, h.output, h.size, fun i hi _ => h.block i hi (by simp)⟩
theorem gb_alloc (w : World) (o : Obj) (row : Option Nat) : w.grownBy (w.alloc o) row := World.grownBy_alloc w o row
theorem gb_set (w : World) (g i : Nat) (u : Value) : w.grownBy (w.setCell ⟨g, i, none⟩ u) (some g) :=
  ⟨rfl, rfl, rfl, by simp [World.setCell], fun k _ hn => Below.heap_setCell _ _ _ _ (fun e => hn (by rw [e]))⟩
theorem gb_new {w w2 : World} {g : Nat} (h : w.grownBy w2 (some g)) (hg : w.heap.size ≤ g) : w.grownBy w2 none :=
  ⟨h.os, h.tape, h.output, h.size, fun i hi _ => h.block i hi (by intro e; injection e with e; omega)⟩
theorem gb_drew (w : World) (row : Option Nat) : w.grownBy w.drew row := ⟨rfl, rfl, rfl, Nat.le_refl _, fun _ _ _ => rfl⟩
theorem gb_drewN (w : World) (n : Nat) (row : Option Nat) : w.grownBy (w.drewN n) row := ⟨rfl, rfl, rfl, Nat.le_refl _, fun _ _ _ => rfl⟩
theorem gb_gr {a b : World} (h : Gr a b) (row : Option Nat) : a.grownBy b row := ⟨h.1, h.2.1, h.2.2.1, h.2.2.2.1, fun i hi _ => h.2.2.2.2 i hi⟩
theorem gr_gb {a b : World} (h : a.grownBy b none) : Gr a b := ⟨h.os, h.tape, h.output, h.size, fun i hi => h.block i hi (by simp)⟩
theorem gb_below {B : Nat} {a b c : World} {row : Option Nat} (h : Below B a b) (k : b.grownBy c row) (hB : B ≤ b.heap.size) (hr : ∀ g, row = some g → B ≤ g) : Below B a c := h.grown k hB hr
theorem own_ne {w : World} {base g : Nat} {e t : TypeId} {size n : Nat} {v : Value} {xs : List Value} {cs : Array Value} (h : w.ownsRow base e size v n xs) (hb : IsB w g t cs) (hn : e ≠ t) : v.ownBlock ≠ some g := by
  rcases h.2 with ⟨rfl, _⟩ | ⟨g1, cap, cur, rfl, _, hh, _⟩
  · simp [Value.ownBlock]
  · intro he
    have e1 : g1 = g := by simpa [Value.ownBlock] using he
    subst e1
    exact IsB.ne (t := e) hh hb hn rfl
theorem own_keep0 {w w2 : World} {base : Nat} {e : TypeId} {size n : Nat} {v : Value} {xs : List Value} (h : w.ownsRow base e size v n xs) (k : w.grownBy w2 none) : w2.ownsRow base e size v n xs := by
  refine h.kept k ?_
  cases v.ownBlock with
  | none => exact .inl rfl
  | some g => exact .inr (by simp)
theorem own_keepS {w w2 : World} {s : Nat} {base : Nat} {e t : TypeId} {size n : Nat} {v : Value} {xs : List Value} {cs : Array Value} (h : w.ownsRow base e size v n xs) (k : w.grownBy w2 (some s)) (hs : IsB w s t cs) (hn : e ≠ t) : w2.ownsRow base e size v n xs :=
  h.kept k (.inr (own_ne h hs hn))
/-- The call returns v, the world grows but for block row, and what it leaves is as Q says. -/
def RetQ (v : Value) (w : World) (row : Option Nat) (Q : World → Prop) (e : Ending) (w' : World) : Prop := e = .returned v ∧ w.grownBy w' row ∧ Q w'
theorem own_shape {w : World} {base : Nat} {e : TypeId} {size n : Nat} {v : Value} {xs : List Value} (h : w.ownsRow base e size v n xs) : ∃ a c, v = .slice a n c := by
  rcases h.2 with ⟨rfl, rfl⟩ | ⟨g, cap, cur, rfl, _⟩
  · exact ⟨_, _, rfl⟩
  · exact ⟨_, _, rfl⟩
theorem own_head {w : World} {base : Nat} {e : TypeId} {size n : Nat} {v : Value} {xs : List Value} (h : w.ownsRow base e size v n xs) (hn : 0 < n) : ∃ g c, v = .slice (some ⟨g, 0, none⟩) n c := by
  rcases h.2 with ⟨rfl, rfl⟩ | ⟨g, cap, cur, rfl, _⟩
  · omega
  · exact ⟨_, _, rfl⟩
theorem own_cell {w : World} {base : Nat} {e : TypeId} {k : IntKind} {g c : Nat} {bs : List Int} (h : w.ownsRow base e 1 (.slice (some ⟨g, 0, none⟩) bs.length c) bs.length (bs.map (Value.int k))) (j : Nat) (hj : j < bs.length) : w.cell? ⟨g, j, none⟩ = some (.int k (bs.getD j 0)) := by
  rw [h.cellAt j (by omega)]
  simp [hj]
theorem infoU8 : (Try.prog.info? 5).map (fun i => (i.zero, i.size, i.bytes)) = some (some (.int .u8 0), 1, 1) := by kernel_rfl
/-- What is known of a slice that is only read: its length, and its cells where it has an address. -/
def SlR (w : World) (a : Option Addr) (n c : Nat) (xs : List Value) : Prop :=
  xs.length = n ∧ (a = none → n = 0 ∧ c = 0) ∧ ∀ ad, a = some ad → ∀ j u, xs[j]? = some u → w.cell? (ad.add j) = some u
theorem SlR.keep0 {w w2 : World} {a : Option Addr} {n c : Nat} {xs : List Value} (h : SlR w a n c xs) (k : w.grownBy w2 none) : SlR w2 a n c xs :=
  ⟨h.1, h.2.1, fun ad e j u hu => k.cell (h.2.2 ad e j u hu) (by simp)⟩
theorem ints_one (k : IntKind) (zs : List Int) : ∀ u ∈ zs.map (Value.int k), u.oneCell' = true := by
  intro u hu; obtain ⟨z, _, rfl⟩ := List.mem_map.1 hu; rfl
theorem own_cap {w : World} {base : Nat} {e : TypeId} {size n c : Nat} {a : Option Addr} {xs : List Value} (h : w.ownsRow base e size (.slice a n c) n xs) : n ≤ c := by
  rcases h.2 with ⟨h1, rfl⟩ | ⟨g, cap, cur, h1, _, _, h2, _⟩
  · omega
  · injection h1 with _ _ hc; omega
theorem cut_cells {w : World} {base : Nat} {e : TypeId} {k : IntKind} {g c q : Nat} {bs : List Int} (h : w.ownsRow base e 1 (.slice (some ⟨g, 0, none⟩) bs.length c) bs.length (bs.map (Value.int k))) :
    ∀ j u, ((bs.drop q).map (Value.int k))[j]? = some u → w.cell? ((if c = q then (⟨g, 0, none⟩ : Addr) else ⟨g, q, none⟩).add j) = some u := by
  intro j u hu
  have hcap := own_cap h
  have hj : j < bs.length - q := by
    have := (List.getElem?_eq_some_iff.1 hu).1
    simpa using this
  have hne : c ≠ q := by omega
  rw [if_neg hne]
  have e1 : ((⟨g, q, none⟩ : Addr).add j) = ⟨g, q + j, none⟩ := by unfold Addr.add; split <;> simp_all
  rw [e1, own_cell h (q + j) (by omega)]
  have hjq : q + j < bs.length := by omega
  rw [← hu, List.getElem?_map, List.getElem?_drop, List.getElem?_eq_getElem hjq]
  simp [hjq]
theorem SlR.below {w w2 : World} {a : Option Addr} {n c : Nat} {xs : List Value} (h : SlR w a n c xs) (k : Below w.heap.size w w2) : SlR w2 a n c xs :=
  ⟨h.1, h.2.1, fun ad e j u hu => by
    have hc := h.2.2 ad e j u hu
    have hlt := World.block_lt_of_cell? w _ hc
    exact (k.cell (p := ad.add j) hlt).trans hc⟩
theorem SlR.cellAt {w : World} {k : IntKind} {ad : Addr} {n c : Nat} {zs : List Int} (h : SlR w (some ad) n c (zs.map (Value.int k))) (j : Nat) (hj : j < zs.length) : w.cell? (ad.add j) = some (.int k (zs.getD j 0)) := by
  refine h.2.2 ad rfl j _ ?_
  simp [hj]
theorem own_low {w : World} {base base2 : Nat} {e : TypeId} {size n : Nat} {v : Value} {xs : List Value} (h : w.ownsRow base e size v n xs) (hb : base2 ≤ base) : w.ownsRow base2 e size v n xs := by
  refine ⟨h.1, ?_⟩
  rcases h.2 with k | ⟨g, cap, cur, k1, k2, k3⟩
  · exact .inl k
  · exact .inr ⟨g, cap, cur, k1, Nat.le_trans hb k2, k3⟩
theorem row_slr {k : IntKind} {w : World} {a : Option Addr} {len cap : Nat} {zs : List Int} (h : IsRow k w a len cap zs) : SlR w a len cap ((zs.take len).map (Value.int k)) := by
  rcases h with ⟨rfl, rfl, rfl, rfl⟩ | ⟨x, rfl, hl, hm, hz, hc, hw⟩
  · exact ⟨rfl, fun _ => ⟨rfl, rfl⟩, by simp⟩
  · refine ⟨by simp; omega, by simp, ?_⟩
    intro ad ha j u hu
    injection ha with ha; subst ha
    have hj : j < len := by
      have := (List.getElem?_eq_some_iff.1 hu).1
      simp at this; omega
    rw [hc j (by omega), ← hu]
    simp [hj, show j < zs.length by omega]
theorem own_blk {w : World} {base : Nat} {e : TypeId} {size n g c : Nat} {xs : List Value} (h : w.ownsRow base e size (.slice (some ⟨g, 0, none⟩) n c) n xs) : ∃ cs, IsB w g e cs := by
  rcases h.2 with ⟨h1, _⟩ | ⟨g2, cap, cur, h1, _, hh, _⟩
  · injection h1 with h1; cases h1
  · injection h1 with h1; injection h1 with h1; injection h1 with h1; subst h1; exact ⟨cur, hh⟩
theorem own_far {w : World} {base : Nat} {e : TypeId} {size n g : Nat} {v : Value} {xs : List Value} (h : w.ownsRow base e size v n xs) (hg : g < base) : v.ownBlock ≠ some g := by
  intro e1
  have := (h.lt g e1).1
  omega
theorem own_slr {w : World} {base : Nat} {e : TypeId} {a : Option Addr} {n c : Nat} {xs : List Value} (h : w.ownsRow base e 1 (.slice a n c) n xs) : SlR w a n c xs := by
  refine ⟨by simpa using h.1, ?_, ?_⟩
  · intro ha; subst ha
    rcases h.2 with ⟨k, rfl⟩ | ⟨g, cap, cur, k, _⟩
    · injection k with _ _ kc; exact ⟨rfl, kc⟩
    · injection k with k; cases k
  · intro ad ha j u hu; subst ha
    rcases h.2 with ⟨k, rfl⟩ | ⟨g, cap, cur, k, _⟩
    · injection k with k; cases k
    · injection k with k; injection k with k; subst k
      exact h.cells (g := g) rfl j u hu
/-- The string that bytes make. -/
def strOf (bs : List Int) : ByteArray := bs.foldl (fun r n => r.push (UInt8.ofNat n.toNat)) ByteArray.empty
theorem slr_new (w : World) (k : IntKind) (zs : List Int) (t : TypeId) : SlR (w.alloc (.cells (zs.map (Value.int k)).toArray t)) (some ⟨w.heap.size, 0, none⟩) zs.length zs.length (zs.map (Value.int k)) := by
  refine ⟨by simp, by simp, ?_⟩
  intro ad ha j u hu
  injection ha with ha; subst ha
  have e : ((⟨w.heap.size, 0, none⟩ : Addr).add j) = ⟨w.heap.size, j, none⟩ := by unfold Addr.add; split <;> simp_all
  rw [e, (IsB.new w t _).cell j]
  simpa using hu
theorem SlR.alloc {w : World} {a : Option Addr} {n c : Nat} {xs : List Value} (h : SlR w a n c xs) (o : Obj) : SlR (w.alloc o) a n c xs := h.keep0 (gb_alloc w o none)
theorem slr_two (w : World) (k : IntKind) (x y : Int) (t : TypeId) (g : Nat) (hg : g = w.heap.size) : SlR (w.alloc (.cells #[.int k x, .int k y] t)) (some ⟨g, 0, none⟩) 2 2 ([x, y].map (Value.int k)) := by
  subst hg; exact slr_new w k [x, y] t
theorem gb_of_below {w w2 : World} (k : Below w.heap.size w w2) : w.grownBy w2 none := ⟨k.os, k.tape, k.output, k.size, fun i hi _ => k.block i hi⟩
theorem below_step {B : Nat} {a b c : World} (h : Below B a b) (hB : B ≤ b.heap.size) (k : Below b.heap.size b c) : Below B a c := h.trans (k.mono hB)
theorem made_zero (z : Value) (n : Nat) : (madeCells #[z] n).toList = List.replicate n z := by
  apply List.ext_getElem (by simp [madeCells])
  intro j h1 h2
  simp [madeCells, Nat.mod_one]
theorem own_cell2 {w : World} {base : Nat} {e : TypeId} {k : IntKind} {g c n : Nat} {bs : List Int} (h : w.ownsRow base e 1 (.slice (some ⟨g, 0, none⟩) n c) n (bs.map (Value.int k))) (hl : bs.length = n) (j : Nat) (hj : j < n) : w.cell? ⟨g, j, none⟩ = some (.int k (bs.getD j 0)) := by
  subst hl; exact own_cell h j hj
theorem one_cell (w : World) (t : TypeId) (x : Value) (n : Nat) (hn : n = w.heap.size) : ∀ (j : Nat) (u : Value), ([x] : List Value)[j]? = some u → (w.alloc (.cells #[x] t)).cell? ((⟨n, 0, none⟩ : Addr).add j) = some u := by
  intro j u hj
  subst hn
  match j, hj with
  | 0, hj => simp at hj; subst hj; simp [Addr.add]
theorem one_one (x : Value) (h : x.oneCell' = true) : ∀ u ∈ [x], u.oneCell' = true := by
  intro u hu; simp at hu; subst hu; exact h
theorem alloc_isb {w w2 : World} {cs : Array Value} {t : TypeId} (g : (w.drew.alloc (.cells cs t)).grownBy w2 none) : IsB w2 w.heap.size t cs := (IsB.new w.drew t cs).keep0 g
theorem own_below {w w2 : World} {base : Nat} {e : TypeId} {size n : Nat} {v : Value} {xs : List Value} (h : w.ownsRow base e size v n xs) (k : Below w.heap.size w w2) : w2.ownsRow base e size v n xs := by
  refine ⟨h.1, ?_⟩
  rcases h.2 with q | ⟨g, cap, cur, q1, q2, q3, q4⟩
  · exact .inl q
  · exact .inr ⟨g, cap, cur, q1, q2, (k.block g (IsB.lt (show IsB w g e cur from q3))).trans q3, q4⟩
theorem cell_below {W w : World} {a : Addr} {v : Value} (h : W.cell? a = some v) (k : Below W.heap.size W w) : w.cell? a = some v := by
  have hl := World.block_lt_of_cell? W _ h
  have e := k.block a.block hl
  unfold World.cell? at h ⊢
  rw [e]; exact h
theorem row_wf {k : IntKind} {w : World} {a : Option Addr} {len cap : Nat} {zs : List Int} (h : IsRow k w a len cap zs) : ∀ n ∈ zs.take len, (Lit.int k n).wf = true := by
  intro n hn
  have hn := List.mem_of_mem_take hn
  rcases h with ⟨rfl, rfl, rfl, rfl⟩ | ⟨x, rfl, hl, hm, hz, hc, hw⟩
  · simp at hn
  · exact hw n hn
theorem row_len {k : IntKind} {w : World} {a : Option Addr} {len cap : Nat} {zs : List Int} (h : IsRow k w a len cap zs) : (zs.take len).length = len := by
  rcases h with ⟨rfl, rfl, rfl, rfl⟩ | ⟨x, rfl, hl, hm, hz, hc, hw⟩
  · rfl
  · simp; omega
theorem u8_bd {a : Int} (h : (Lit.int .u8 a).wf = true) : 0 ≤ a ∧ a ≤ 255 := by
  have := bounds_u8 h
  omega
end Go.Proofs.Ytglgjkggjpfahaa
end
section
namespace Go.Proofs.Ytglgjkggjpfahaa
open Go.RowKit

/-- The call returns v; the world has at most new blocks. -/
def Ret (v : Value) (W : World) (e : Ending) (w' : World) : Prop := e = .returned v ∧ Gr W w'
theorem below_ret {P : Program} {n : FuncId} {args : Array Value} {v : Value} {W : World} (h : Calls P n args W (Ret v W)) : Calls P n args W fun e w' => e = .returned v ∧ Below W.heap.size W w' :=
  h.mono fun _ _ k => ⟨k.1, k.2.below⟩
theorem Ret.mk' {v : Value} {W : World} {e : Ending} {w' : World} (h : e = .returned v) (g : Gr W w') : Ret v W e w' := ⟨h, g⟩

theorem valid_no (ws : List Int) (k : Nat) (x : Int) (hk : k < ws.length) (hx : ws.getD k 0 = x) (h : ¬ (1 ≤ x ∧ x ≤ 32)) : ws.all okW = false := by
  rw [List.all_eq_false]
  refine ⟨ws[k], List.getElem_mem hk, ?_⟩
  have e : ws[k] = x := by rw [← hx]; simp [hk]
  rw [e]; simp [okW]; omega
theorem valid_step (ws : List Int) (k : Nat) (x : Int) (hx : ws.getD k 0 = x) (h : 1 ≤ x ∧ x ≤ 32) (ha : ∀ j : Nat, j < k → okW (ws.getD j 0) = true) :
    ∀ j : Nat, j < k + 1 → okW (ws.getD j 0) = true := by
  intro j hj
  by_cases e : j = k
  · rw [e, hx]; simp [okW, h]
  · exact ha j (by omega)
theorem valid_yes (ws : List Int) (k : Nat) (hk : ws.length ≤ k) (ha : ∀ j : Nat, j < k → okW (ws.getD j 0) = true) : ws.all okW = true := by
  rw [List.all_eq_true]
  intro x hx
  obtain ⟨j, hj, rfl⟩ := List.mem_iff_getElem.1 hx
  have := ha j (by omega)
  simpa [hj] using this

theorem valid_any (ws : List Int) (b : Nat) (w : World) (hlen : ws.length ≤ 1000)
    (hc : ∀ i : Nat, i < ws.length → w.cell? ⟨b, i, none⟩ = some (.int .i64 (ws.getD i 0))) :
    Calls Try.prog 128 #[.slice (some ⟨b, 0, none⟩) ws.length ws.length] w fun e w' => e = .returned (.bool (ws.all okW)) ∧ w = w' := by
  go_enter Try.func128, Try.ntmps128
  go_wp2
  go_loop [7] (fun i => ∃ k : Nat, k ≤ ws.length ∧ (∀ j : Nat, j < k → okW (ws.getD j 0) = true) ∧ i = .int .i64 k) (fun i => ws.length - (intOf i).toNat)
  case atStart => exact ⟨0, Nat.zero_le _, fun j hj => absurd hj (Nat.not_lt_zero _), rfl⟩
  case round =>
    obtain ⟨k, hk, hall, rfl⟩ := hrel
    have Hall := Lib.hid hall
    clear hall
    have Hc := Lib.hid hc
    clear hc
    by_cases hlt : k < ws.length
    · obtain ⟨x, hx⟩ : ∃ x, ws.getD k 0 = x := ⟨_, rfl⟩
      have hcell := Hc.out k hlt
      rw [hx] at hcell
      have HX := Lib.hid hx
      clear hx
      by_cases h1 : x < 1
      · go_wp2
        go_ret
        exact ⟨ret_b (valid_no ws k x hlt HX.out (by omega)).symm, rfl⟩
      · by_cases h2 : 32 < x
        · go_wp2
          go_ret
          exact ⟨ret_b (valid_no ws k x hlt HX.out (by omega)).symm, rfl⟩
        · go_wp2
          go_round
          case rel => exact ⟨k + 1, by omega, valid_step ws k x HX.out (by omega) Hall.out, by go_num⟩
          case measure => simp [intOf]; omega
    · go_wp2
      go_ret
      exact ⟨ret_b (valid_yes ws k (by omega) Hall.out).symm, rfl⟩
theorem cell1 (W : World) (x : Value) (t : TypeId) : ∀ i : Nat, i < 1 → (W.alloc (.cells #[x] t)).cell? ⟨W.heap.size, i, none⟩ = some x := by
  intro i hi
  obtain rfl : i = 0 := by omega
  simp [go_sem]

theorem valid1_yes (x : Int) (b : Nat) (w : World) (h : 1 ≤ x ∧ x ≤ 32) (hc : w.cell? ⟨b, 0, none⟩ = some (.int .i64 x)) :
    Calls Try.prog 128 #[.slice (some ⟨b, 0, none⟩) 1 1] w fun e w' => e = .returned (.bool true) ∧ w = w' := by
  have k := valid_any [x] b w (by simp) (by intro i hi; simp at hi; subst hi; simpa using hc)
  refine k.mono ?_
  rintro e w' ⟨rfl, rfl⟩
  exact ⟨ret_b (by simp [okW, h]), rfl⟩
theorem valid1_no (x : Int) (b : Nat) (w : World) (h : ¬ (1 ≤ x ∧ x ≤ 32)) (hc : w.cell? ⟨b, 0, none⟩ = some (.int .i64 x)) :
    Calls Try.prog 128 #[.slice (some ⟨b, 0, none⟩) 1 1] w fun e w' => e = .returned (.bool false) ∧ w = w' := by
  have k := valid_any [x] b w (by simp) (by intro i hi; simp at hi; subst hi; simpa using hc)
  refine k.mono ?_
  rintro e w' ⟨rfl, rfl⟩
  exact ⟨ret_b (by simp only [okW, List.all_cons, List.all_nil, Bool.and_true]; exact decide_eq_false h), rfl⟩
theorem valid3_any (x y z : Int) (b : Nat) (w : World) (v : Bool) (h : (okW x && (okW y && okW z)) = v)
    (h0 : w.cell? ⟨b, 0, none⟩ = some (.int .i64 x)) (h1 : w.cell? ⟨b, 1, none⟩ = some (.int .i64 y)) (h2 : w.cell? ⟨b, 2, none⟩ = some (.int .i64 z)) :
    Calls Try.prog 128 #[.slice (some ⟨b, 0, none⟩) 3 3] w fun e w' => e = .returned (.bool v) ∧ w = w' := by
  have k := valid_any [x, y, z] b w (by simp) (by
    intro i hi
    have hi' : i = 0 ∨ i = 1 ∨ i = 2 := by simp at hi; omega
    rcases hi' with rfl | rfl | rfl
    · simpa using h0
    · simpa using h1
    · simpa using h2)
  refine k.mono ?_
  rintro e w' ⟨rfl, rfl⟩
  exact ⟨ret_b (by rw [← h]; simp), rfl⟩

theorem mask_any (w : Int) (W : World) :
    Calls Try.prog 129 #[.int .i64 w] W (Ret (.int .u32 (mkB w)) W) := by
  by_cases h : 1 ≤ w ∧ w ≤ 32
  · have HE := Lib.hid (mask_shr w h)
    have HH := Lib.hid h
    obtain ⟨h1, h2⟩ := h
    go_enter Try.func129, Try.ntmps129
    go_wp2_with (go_at_call 128; refine (valid1_yes _ _ _ HH.out (cell1 _ _ _ 0 (by decide))).mono ?_; rintro e w' ⟨rfl, rfl⟩)
    go_ret
    exact ⟨ret_i HE.out, (Gr.refl _).alloc _ _⟩
  · have HH := Lib.hid h
    have HE := Lib.hid (mkB_out w h)
    clear h
    go_enter Try.func129, Try.ntmps129
    go_wp2_with (go_at_call 128; refine (valid1_no _ _ _ HH.out (cell1 _ _ _ 0 (by decide))).mono ?_; rintro e w' ⟨rfl, rfl⟩)
    go_ret
    exact ⟨ret_i HE.out.symm, (Gr.refl _).alloc _ _⟩
end Go.Proofs.Ytglgjkggjpfahaa
end
section
namespace Go.Proofs.Ytglgjkggjpfahaa
open Go.RowKit

theorem grown_undrew {a b : World} (h : Gr a.drew b) : Gr a b := h

theorem fits_any (v w : Int) (W : World) :
    Calls Try.prog 106 #[.int .u32 v, .int .i64 w] W (Ret (.bool (fitsB v w)) W) := by
  by_cases h : 1 ≤ w ∧ w ≤ 32
  · have HH := Lib.hid h
    have HF := Lib.hid (fits_in v w h)
    clear h
    go_enter Try.func106, Try.ntmps106
    go_wp2_with (first | (go_at_call 128; refine (valid1_yes _ _ _ HH.out (cell1 _ _ _ 0 (by decide))).mono ?_; rintro e w' ⟨rfl, rfl⟩) | (go_at_call 129; refine (mask_any _ _).mono ?_; rintro e w' ⟨rfl, g⟩))
    go_ret
    exact ⟨ret_b HF.out, grown_trans ((Gr.refl _).alloc _ _) g⟩
  · have HH := Lib.hid h
    have HF := Lib.hid (fits_out v w h)
    clear h
    go_enter Try.func106, Try.ntmps106
    go_wp2_with (go_at_call 128; refine (valid1_no _ _ _ HH.out (cell1 _ _ _ 0 (by decide))).mono ?_; rintro e w' ⟨rfl, rfl⟩)
    go_ret
    exact ⟨ret_b HF.out, (Gr.refl _).alloc _ _⟩

end Go.Proofs.Ytglgjkggjpfahaa
end
section
namespace Go.Proofs.Ytglgjkggjpfahaa
open Go.RowKit

end Go.Proofs.Ytglgjkggjpfahaa
end
section
namespace Go.Proofs.Ytglgjkggjpfahaa
open Go.RowKit

theorem rsub_eq (a b w : Int) (h : 1 ≤ w ∧ w ≤ 32) : redB (pw w.toNat + redB a w - redB b w) w = subB a b w := by
  unfold subB
  rw [redB_sub_right, show pw w.toNat + redB a w - b = redB a w + (pw w.toNat - b) by omega, redB_add_left, redB_in _ w h, redB_in _ w h]
  unfold pw
  rw [show a + (2 ^ w.toNat - b) = (a - b) + 2 ^ w.toNat by omega, Int.add_emod_right]
theorem not_le (a w : Int) : 0 ≤ mkB w - redB a w ∧ mkB w - redB a w ≤ 4294967295 ∧ mkB w - redB a w = notB a w := by
  have hm := mkB_range w
  have hr := redB_range a w
  by_cases h : 1 ≤ w ∧ w ≤ 32
  · have r := redB_lt a w h
    have e := mkB_in w h
    refine ⟨by omega, by omega, ?_⟩
    have x : mkB w - redB a w = redB (mkB w - redB a w) w := by
      rw [redB_in (mkB w - redB a w) w h, Int.emod_eq_of_lt (by omega) (by omega)]
    rw [x, redB_sub_right]
    unfold notB
    rw [redB_in _ w h, redB_in _ w h, e, show 2 ^ w.toNat - 1 - a = (-1 - a) + 2 ^ w.toNat by omega, Int.add_emod_right]
  · rw [mkB_out w h, redB_out a w h]
    refine ⟨by omega, by omega, ?_⟩
    unfold notB; rw [redB_out _ w h]; rfl
theorem shl_next (a w : Int) (k : Nat) : redB (2 * redB (a * 2 ^ k) w) w = redB (a * 2 ^ (k + 1)) w := by
  rw [show 2 * redB (a * 2 ^ k) w = redB (a * 2 ^ k) w + redB (a * 2 ^ k) w by omega, redB_add_left, redB_add_right, Int.pow_succ]
  congr 1
  rw [← Int.mul_assoc]; omega
theorem shr_next (x : Int) (k : Nat) : x / 2 ^ k / 2 = x / 2 ^ (k + 1) := by
  rw [Int.pow_succ, Int.ediv_ediv_of_nonneg (Int.le_of_lt (pow_pos' k))]
theorem shr_range' (x : Int) (k : Nat) (h0 : 0 ≤ x) (h1 : x ≤ 4294967295) : 0 ≤ x / 2 ^ k ∧ x / 2 ^ k ≤ 4294967295 := by
  have := shr_range x k h0 (by omega)
  omega
theorem rslice_eq (a lo w : Int) (hw1 : 1 ≤ w) (hw2 : w ≤ 32) (hl0 : 0 ≤ lo) (hl : lo ≤ 32 - w) : redB (a / pw lo.toNat) w = sliceB a lo w := by
  unfold sliceB; rw [if_pos ⟨⟨hw1, hw2⟩, hl0, hl⟩]; rfl
theorem pw_div (a : Int) (n : Nat) (h0 : 0 ≤ a) (h1 : a < 4294967296) : 0 ≤ a / pw n ∧ a / pw n ≤ 4294967295 := by
  have := shr_range a n h0 h1
  unfold pw; omega
theorem rcat_bd (a wa b wb : Int) (ha1 : 1 ≤ wa) (ha2 : wa ≤ 32) (hb1 : 1 ≤ wb) (hb2 : wb ≤ 32) (hs : wa + wb ≤ 32) :
    0 ≤ redB a wa * pw wb.toNat ∧ redB a wa * pw wb.toNat ≤ 4294967295 ∧ redB a wa * pw wb.toNat + redB b wb ≤ 4294967295 ∧ redB a wa * pw wb.toNat + redB b wb = catB a wa b wb := by
  have ra := redB_lt a wa ⟨ha1, ha2⟩
  have rb := redB_lt b wb ⟨hb1, hb2⟩
  have m := mul_pow_lt (redB a wa) wa.toNat wb.toNat ra.1 ra.2 (by omega)
  have hp := pow_pos' wb.toNat
  unfold pw catB
  rw [if_pos ⟨⟨ha1, ha2⟩, ⟨hb1, hb2⟩, hs⟩]
  refine ⟨m.1, by omega, by omega, rfl⟩
theorem ones_next (a : Int) (k : Nat) : onesTo k a + a / 2 ^ k % 2 = onesTo (k + 1) a := rfl
theorem pw_le (a b : Nat) (h : a ≤ b) : pw a ≤ pw b := pow_mono a b h
theorem rpm_eq (n w : Int) (h : 1 ≤ w ∧ w ≤ 32) : pw w.toNat - pw (w - clampB n w).toNat = pmB n w := by
  unfold pmB; rw [if_pos h]; rfl
theorem pmB_out (n w : Int) (h : ¬ (1 ≤ w ∧ w ≤ 32)) : 0 = pmB n w := by unfold pmB; rw [if_neg h]
/-- A prefix mask has as many ones as its length says. -/
theorem ones_pm (n w : Int) (h : 1 ≤ w ∧ w ≤ 32) : onesB (pmB n w) = clampB n w := by
  have hc : 0 ≤ clampB n w ∧ clampB n w ≤ w := by unfold clampB; omega
  unfold pmB; rw [if_pos h]
  have key := fin2 (fun a b => onesB (2 ^ a - 2 ^ b) = (a : Int) - b) (by decide +kernel) w.toNat (w - clampB n w).toNat (by omega) (by omega)
  rw [key]; omega
theorem pm_of_len (n w : Int) (h : 1 ≤ w ∧ w ≤ 32) (h0 : 0 ≤ n) (hn : n ≤ w) (m : Int) (hm : pmB n w = m) : m = pmB (onesB m) w ∧ onesB m = n := by
  have e : onesB m = n := by rw [← hm, ones_pm n w h]; unfold clampB; omega
  exact ⟨by rw [e, hm], e⟩
theorem pl_found (m w : Int) (h : 1 ≤ w ∧ w ≤ 32) (hp : m = pmB (onesB m) w) : 0 ≤ onesB m ∧ onesB m ≤ w := by
  have e := ones_pm (onesB m) w h
  rw [← hp] at e
  unfold clampB at e; omega
end Go.Proofs.Ytglgjkggjpfahaa
end
section
namespace Go.Proofs.Ytglgjkggjpfahaa
open Go.RowKit

theorem rvalid_anyh (w : Int) (W : World) : Calls Try.prog 115 #[.int .i64 w] W fun e w' => e = .returned (.bool (okW w)) ∧ W = w' := by
  by_cases h1 : 1 ≤ w
  · by_cases h2 : w ≤ 32
    · have HS := Lib.hid (show true = okW w by simp [okW, h1, h2])
      go_enter Try.func115, Try.ntmps115
      go_wp2
      go_ret
      exact ⟨ret_b HS.out, rfl⟩
    · have HS := Lib.hid (show false = okW w by simp [okW, h2])
      go_enter Try.func115, Try.ntmps115
      go_wp2
      go_ret
      exact ⟨ret_b HS.out, rfl⟩
  · have HS := Lib.hid (show false = okW w by simp [okW, h1])
    go_enter Try.func115, Try.ntmps115
    go_wp2
    go_ret
    exact ⟨ret_b HS.out, rfl⟩
theorem rvalid_yes (w : Int) (W : World) (h : 1 ≤ w ∧ w ≤ 32) : Calls Try.prog 115 #[.int .i64 w] W fun e w' => e = .returned (.bool true) ∧ W = w' :=
  (rvalid_anyh w W).mono (by rintro e w' ⟨rfl, rfl⟩; exact ⟨ret_b (by simp [okW, h]), rfl⟩)
theorem rvalid_no (w : Int) (W : World) (h : ¬ (1 ≤ w ∧ w ≤ 32)) : Calls Try.prog 115 #[.int .i64 w] W fun e w' => e = .returned (.bool false) ∧ W = w' :=
  (rvalid_anyh w W).mono (by rintro e w' ⟨rfl, rfl⟩; exact ⟨ret_b (decide_eq_false h), rfl⟩)

theorem power_any (n : Int) (W : World) (h0 : 0 ≤ n) (h1 : n ≤ 63) : Calls Try.prog 116 #[.int .i64 n] W fun e w' => e = .returned (.int .u64 (pw n.toNat)) ∧ W = w' := by
  go_enter Try.func116, Try.ntmps116
  go_wp2
  go_loop [3, 4] (fun x i => ∃ k : Nat, k ≤ n.toNat ∧ x = .int .u64 (pw k) ∧ i = .int .i64 k) (fun _ i => n.toNat - (intOf i).toNat)
  case atStart => exact ⟨0, Nat.zero_le _, rfl, rfl⟩
  case round =>
    obtain ⟨k, hk, rfl, rfl⟩ := hrel
    have hp := pw_pos k
    by_cases hlt : (k : Int) < n
    · have hb := pw_le62 k (by omega)
      go_wp2
      go_round
      case rel => exact ⟨k + 1, by omega, by rw [pw_succ], by go_num⟩
      case measure => simp [intOf]; omega
    · go_wp2
      go_ret
      exact ⟨ret_i (by rw [show k = n.toNat by omega]), rfl⟩

theorem rfits_anyh (v w : Int) (W : World) (k0 : 0 ≤ v) (k1 : v < 4294967296) : Calls Try.prog 85 #[.int .u32 v, .int .i64 w] W fun e w' => e = .returned (.bool (fitsB v w)) ∧ W = w' := by
  by_cases h : 1 ≤ w ∧ w ≤ 32
  · have HH := Lib.hid h
    have HS := Lib.hid (show decide (v < pw w.toNat) = fitsB v w by unfold fitsB; rw [decide_eq_decide]; unfold pw; omega)
    obtain ⟨h1, h2⟩ := h
    go_enter Try.func85, Try.ntmps85
    go_wp2_with (first | (go_at_call 115; refine (rvalid_yes _ _ HH.out).mono ?_; rintro e w' ⟨rfl, rfl⟩) | (go_at_call 116; refine (power_any _ _ (by omega) (by omega)).mono ?_; rintro e w' ⟨rfl, rfl⟩))
    go_ret
    exact ⟨ret_b HS.out, rfl⟩
  · have HH := Lib.hid h
    have HS := Lib.hid (fits_out v w h)
    clear h
    go_enter Try.func85, Try.ntmps85
    go_wp2_with (go_at_call 115; refine (rvalid_no _ _ HH.out).mono ?_; rintro e w' ⟨rfl, rfl⟩)
    go_ret
    exact ⟨ret_b HS.out, rfl⟩
end Go.Proofs.Ytglgjkggjpfahaa
end
section
namespace Go.Proofs.Ytglgjkggjpfahaa
open Go.RowKit

end Go.Proofs.Ytglgjkggjpfahaa
end
section
namespace Go.Proofs.Ytglgjkggjpfahaa
open Go.RowKit

end Go.Proofs.Ytglgjkggjpfahaa
end
section
namespace Go.Proofs.Ytglgjkggjpfahaa
open Go.RowKit

theorem ret_to {v u : Value} {W : World} {e : Ending} {w' : World} (h : v = u) (k : Ret v W e w') : Ret u W e w' := by rw [← h]; exact k
theorem i32_to {a b : Int} (h : a = b) : Value.int .u32 a = .int .u32 b := by rw [h]
theorem ib32_to {k : IntKind} {a b : Int} {c d : Bool} (h : a = b) (g : c = d) : Value.tuple #[.int k a, .bool c] = .tuple #[.int k b, .bool d] := by rw [h, g]

end Go.Proofs.Ytglgjkggjpfahaa
end
section
namespace Go.Proofs.Ytglgjkggjpfahaa
open Go.RowKit

theorem b2 {a b : Int} (h : a = b) : (a == b) = true := by rw [h]; simp
theorem notB_range (a w : Int) : 0 ≤ notB a w ∧ notB a w < 4294967296 := by have := redB_range (-1 - a) w; unfold notB; omega
theorem inv1 (a b w : Int) : subB (addB a b w) b w = redB a w := by
  unfold subB addB; rw [redB_sub_left]; congr 1; omega
theorem inv2 (a b w : Int) : addB (subB a b w) b w = redB a w := by
  unfold subB addB; rw [redB_add_left]; congr 1; omega
theorem inv3 (a w : Int) : notB (notB a w) w = redB a w := by
  unfold notB; rw [redB_sub_right]; congr 1; omega
theorem inv4 (a w : Int) (h : 1 ≤ w ∧ w ≤ 32) : addB a (notB a w) w = mkB w := by
  unfold notB addB; rw [redB_add_right, show a + (-1 - a) = -1 by omega]
  refine width_cases (fun w => redB (-1) w = mkB w) ?_ w h.1 h.2
  decide +kernel

theorem pmB_range (n w : Int) : 0 ≤ pmB n w ∧ pmB n w ≤ 4294967295 := by
  unfold pmB
  split
  · rename_i h
    have hc : 0 ≤ clampB n w ∧ clampB n w ≤ w := by unfold clampB; omega
    have h1 := pow_pos' (w - clampB n w).toNat
    have h2 := pow_mono (w - clampB n w).toNat w.toNat (by omega)
    have h3 := pow_le32 w h.2
    omega
  · omega
theorem pm_and (n m w : Int) (h1 : 1 ≤ w) (h2 : w ≤ 32) (hn : 0 ≤ n) (hnm : n ≤ m) (hm : m ≤ w) : bits .and .u32 (pmB n w) (pmB m w) = pmB n w := by
  have r1 := pmB_range n w
  have r2 := pmB_range m w
  rw [u32_and _ _ r1.1 (by omega) r2.1 (by omega)]
  have en : clampB n w = n := by unfold clampB; omega
  have em : clampB m w = m := by unfold clampB; omega
  have pn : pmB n w = ((2 ^ w.toNat - 2 ^ (w - n).toNat : Nat) : Int) := by
    unfold pmB; rw [if_pos ⟨h1, h2⟩, en, Int.natCast_sub (Nat.pow_le_pow_right (by decide) (by omega))]; simp
  have pm : pmB m w = ((2 ^ w.toNat - 2 ^ (w - m).toNat : Nat) : Int) := by
    unfold pmB; rw [if_pos ⟨h1, h2⟩, em, Int.natCast_sub (Nat.pow_le_pow_right (by decide) (by omega))]; simp
  rw [pn, pm, Int.toNat_natCast, Int.toNat_natCast]
  have key : ∀ a b c : Fin 33, c.val ≤ b.val → b.val ≤ a.val → (2 ^ a.val - 2 ^ b.val) &&& (2 ^ a.val - 2 ^ c.val) = 2 ^ a.val - 2 ^ b.val := by decide +kernel
  have := key ⟨w.toNat, by omega⟩ ⟨(w - n).toNat, by omega⟩ ⟨(w - m).toNat, by omega⟩ (by simp; omega) (by simp; omega)
  simp only at this
  rw [this]
theorem pm_fits (n w : Int) (h1 : 1 ≤ w) (h2 : w ≤ 32) : fitsB (pmB n w) w = true := by
  unfold fitsB
  refine decide_eq_true ⟨h1, h2, ?_⟩
  unfold pmB; rw [if_pos ⟨h1, h2⟩]
  have := pow_pos' (w - clampB n w).toNat
  omega

end Go.Proofs.Ytglgjkggjpfahaa
end
section
namespace Go.Proofs.Ytglgjkggjpfahaa
open Go.RowKit

theorem sliceB_range (a lo w : Int) : 0 ≤ sliceB a lo w ∧ sliceB a lo w ≤ 4294967295 := by
  unfold sliceB; split
  · exact redB_range _ _
  · omega
theorem sliceB_lt (a lo w : Int) : sliceB a lo w < 4294967296 := by have := sliceB_range a lo w; omega
theorem catB_range (a wa b wb : Int) : 0 ≤ catB a wa b wb ∧ catB a wa b wb < 4294967296 := by
  by_cases h : (1 ≤ wa ∧ wa ≤ 32) ∧ (1 ≤ wb ∧ wb ≤ 32) ∧ wa + wb ≤ 32
  · have := rcat_bd a wa b wb h.1.1 h.1.2 h.2.1.1 h.2.1.2 h.2.2
    have := redB_range b wb
    omega
  · rw [← cat_out a wa b wb h]; omega
/-- Two neighbouring remainders make the remainder by the product. -/
theorem mod_join (A : Int) (d e : Int) (hd : 0 < d) (he : 0 < e) : A / d % e * d + A % d = A % (d * e) := by
  have h1 := Int.emod_add_mul_ediv A d
  have h2 := Int.emod_add_mul_ediv (A / d) e
  have r1 := Int.emod_nonneg A (Int.ne_of_gt hd)
  have r2 := Int.emod_lt_of_pos A hd
  have s1 := Int.emod_nonneg (A / d) (Int.ne_of_gt he)
  have s2 := Int.emod_lt_of_pos (A / d) he
  have key : A = (A / d % e * d + A % d) + d * e * (A / d / e) := by
    have x : d * (A / d) = d * (A / d % e) + d * (e * (A / d / e)) := by rw [← Int.mul_add, h2]
    rw [Int.mul_assoc, Int.mul_comm (A / d % e) d]; omega
  have lo : 0 ≤ A / d % e * d + A % d := by have := Int.mul_nonneg s1 (Int.le_of_lt hd); omega
  have hi : A / d % e * d + A % d < d * e := by
    have : (A / d % e + 1) * d ≤ e * d := Int.mul_le_mul_of_nonneg_right (by omega) (Int.le_of_lt hd)
    rw [Int.add_mul, Int.mul_comm e d] at this; omega
  have fin : (A / d % e * d + A % d + d * e * (A / d / e)) % (d * e) = A / d % e * d + A % d := by
    rw [Int.add_mul_emod_self_left, Int.emod_eq_of_lt lo hi]
  rw [← key] at fin
  exact fin.symm
theorem slices_eq (a lo p q : Int) (h0 : 0 ≤ lo) (hp : 1 ≤ p) (hq : 1 ≤ q) (hs : lo + p + q ≤ 32) :
    catB (sliceB a (lo + q) p) p (sliceB a lo q) q = sliceB a lo (p + q) := by
  unfold catB sliceB
  rw [if_pos ⟨⟨hp, by omega⟩, ⟨hq, by omega⟩, by omega⟩, if_pos ⟨⟨hp, by omega⟩, by omega, by omega⟩, if_pos ⟨⟨hq, by omega⟩, h0, by omega⟩, if_pos ⟨⟨by omega, by omega⟩, h0, by omega⟩,
    redB_idem, redB_idem, redB_in _ p ⟨hp, by omega⟩, redB_in _ q ⟨hq, by omega⟩, redB_in _ (p + q) ⟨by omega, by omega⟩,
    show (lo + q).toNat = lo.toNat + q.toNat by omega, Int.pow_add, ← Int.ediv_ediv_of_nonneg (Int.le_of_lt (pow_pos' _)), show (p + q).toNat = q.toNat + p.toNat by omega, Int.pow_add]
  exact mod_join _ _ _ (pow_pos' _) (pow_pos' _)
theorem cats_lo (a wa b wb : Int) (ha1 : 1 ≤ wa) (hb1 : 1 ≤ wb) (hs : wa + wb ≤ 32) : sliceB (catB a wa b wb) 0 wb = redB b wb := by
  have rb := redB_lt b wb ⟨hb1, by omega⟩
  unfold sliceB catB
  rw [if_pos ⟨⟨hb1, by omega⟩, by omega, by omega⟩, if_pos ⟨⟨ha1, by omega⟩, ⟨hb1, by omega⟩, hs⟩, redB_in _ wb ⟨hb1, by omega⟩]
  simp only [show (0 : Int).toNat = 0 from rfl, Int.pow_zero, Int.ediv_one]
  rw [Int.add_comm, Int.add_mul_emod_self_right, Int.emod_eq_of_lt rb.1 rb.2]
theorem cats_hi (a wa b wb : Int) (ha1 : 1 ≤ wa) (hb1 : 1 ≤ wb) (hs : wa + wb ≤ 32) : sliceB (catB a wa b wb) wb wa = redB a wa := by
  have rb := redB_lt b wb ⟨hb1, by omega⟩
  unfold sliceB catB
  rw [if_pos ⟨⟨ha1, by omega⟩, by omega, by omega⟩, if_pos ⟨⟨ha1, by omega⟩, ⟨hb1, by omega⟩, hs⟩, Int.add_comm, Int.add_mul_ediv_right _ _ (Int.ne_of_gt (pow_pos' _)), Int.ediv_eq_zero_of_lt rb.1 rb.2, Int.zero_add, redB_idem]
theorem cats_fit (a wa b wb : Int) (ha1 : 1 ≤ wa) (hb1 : 1 ≤ wb) (hs : wa + wb ≤ 32) : fitsB (catB a wa b wb) (wa + wb) = true := by
  have ra := redB_lt a wa ⟨ha1, by omega⟩
  have rb := redB_lt b wb ⟨hb1, by omega⟩
  refine decide_eq_true ⟨by omega, by omega, ?_⟩
  unfold catB
  rw [if_pos ⟨⟨ha1, by omega⟩, ⟨hb1, by omega⟩, hs⟩, show (wa + wb).toNat = wa.toNat + wb.toNat by omega, Int.pow_add]
  have : (redB a wa + 1) * 2 ^ wb.toNat ≤ 2 ^ wa.toNat * 2 ^ wb.toNat := Int.mul_le_mul_of_nonneg_right (by omega) (Int.le_of_lt (pow_pos' _))
  rw [Int.add_mul] at this
  omega

/-- The two cells of a boxed array, still there. -/
theorem box_step {w w2 : World} {g : Nat} {x y : Value} (h : w.cell? ⟨g, 0, none⟩ = some x ∧ w.cell? ⟨g, 1, none⟩ = some y) (k : Gr w w2) : w2.cell? ⟨g, 0, none⟩ = some x ∧ w2.cell? ⟨g, 1, none⟩ = some y := by
  have hg : g < w.heap.size := by
    have := h.1
    simp only [World.cell?] at this
    rcases Nat.lt_or_ge g w.heap.size with hl | hl
    · exact hl
    · rw [Array.getElem?_eq_none hl] at this; simp at this
  have e := k.2.2.2.2 g hg
  simp only [World.cell?, e]
  exact h

theorem box_step3 {W w w2 : World} {g : Nat} {x y : Value} (h : w.cell? ⟨g, 0, none⟩ = some x ∧ w.cell? ⟨g, 1, none⟩ = some y ∧ Gr W w) (k : Gr w w2) : w2.cell? ⟨g, 0, none⟩ = some x ∧ w2.cell? ⟨g, 1, none⟩ = some y ∧ Gr W w2 :=
  ⟨(box_step ⟨h.1, h.2.1⟩ k).1, (box_step ⟨h.1, h.2.1⟩ k).2, grown_trans h.2.2 k⟩
theorem box_start (W : World) (x y : Value) (t : TypeId) : (W.alloc (.cells #[x, y] t)).cell? ⟨W.heap.size, 0, none⟩ = some x ∧ (W.alloc (.cells #[x, y] t)).cell? ⟨W.heap.size, 1, none⟩ = some y ∧ Gr W (W.alloc (.cells #[x, y] t)) :=
  ⟨by simp [go_sem], by simp [go_sem], (Gr.refl _).alloc _ _⟩

end Go.Proofs.Ytglgjkggjpfahaa
end
