/- Plain arithmetic of widths, second part: what the functions of package patchbayref01 come to; no condition but the ranges. -/
import Derived.Test.YtdbjeihbfooipaaBvPure
namespace Go.Proofs.Ytdbjeihbfooipaa
open Go.RowKit

theorem rsub_eq (a b w : Int) (h : 1 ≤ w ∧ w ≤ 32) : redB (pw w.toNat + redB a w - redB b w) w = subB a b w := by
  unfold subB
  rw [redB_sub_right, show pw w.toNat + redB a w - b = redB a w + (pw w.toNat - b) by omega, redB_add_left, redB_in _ w h, redB_in _ w h]
  unfold pw
  rw [show a + (2 ^ w.toNat - b) = (a - b) + 2 ^ w.toNat by omega, Int.add_emod_right]
theorem not_le (a w : Int) : 0 ≤ mkB w - redB a w ∧ mkB w - redB a w ≤ 4294967295 ∧ mkB w - redB a w = notB a w := by
  have hm := mkB_range w
  have hr := redB_range a w
  by_cases h : 1 ≤ w ∧ w ≤ 32
  · have r := redB_lt a w h
    have e := mkB_in w h
    refine ⟨by omega, by omega, ?_⟩
    have x : mkB w - redB a w = redB (mkB w - redB a w) w := by
      rw [redB_in (mkB w - redB a w) w h, Int.emod_eq_of_lt (by omega) (by omega)]
    rw [x, redB_sub_right]
    unfold notB
    rw [redB_in _ w h, redB_in _ w h, e, show 2 ^ w.toNat - 1 - a = (-1 - a) + 2 ^ w.toNat by omega, Int.add_emod_right]
  · rw [mkB_out w h, redB_out a w h]
    refine ⟨by omega, by omega, ?_⟩
    unfold notB; rw [redB_out _ w h]; rfl
theorem shl_next (a w : Int) (k : Nat) : redB (2 * redB (a * 2 ^ k) w) w = redB (a * 2 ^ (k + 1)) w := by
  rw [show 2 * redB (a * 2 ^ k) w = redB (a * 2 ^ k) w + redB (a * 2 ^ k) w by omega, redB_add_left, redB_add_right, Int.pow_succ]
  congr 1
  rw [← Int.mul_assoc]; omega
theorem shr_next (x : Int) (k : Nat) : x / 2 ^ k / 2 = x / 2 ^ (k + 1) := by
  rw [Int.pow_succ, Int.ediv_ediv_of_nonneg (Int.le_of_lt (pow_pos' k))]
theorem shr_range' (x : Int) (k : Nat) (h0 : 0 ≤ x) (h1 : x ≤ 4294967295) : 0 ≤ x / 2 ^ k ∧ x / 2 ^ k ≤ 4294967295 := by
  have := shr_range x k h0 (by omega)
  omega
theorem rslice_eq (a lo w : Int) (hw1 : 1 ≤ w) (hw2 : w ≤ 32) (hl0 : 0 ≤ lo) (hl : lo ≤ 32 - w) : redB (a / pw lo.toNat) w = sliceB a lo w := by
  unfold sliceB; rw [if_pos ⟨⟨hw1, hw2⟩, hl0, hl⟩]; rfl
theorem pw_div (a : Int) (n : Nat) (h0 : 0 ≤ a) (h1 : a < 4294967296) : 0 ≤ a / pw n ∧ a / pw n ≤ 4294967295 := by
  have := shr_range a n h0 h1
  unfold pw; omega
theorem rcat_bd (a wa b wb : Int) (ha1 : 1 ≤ wa) (ha2 : wa ≤ 32) (hb1 : 1 ≤ wb) (hb2 : wb ≤ 32) (hs : wa + wb ≤ 32) :
    0 ≤ redB a wa * pw wb.toNat ∧ redB a wa * pw wb.toNat ≤ 4294967295 ∧ redB a wa * pw wb.toNat + redB b wb ≤ 4294967295 ∧ redB a wa * pw wb.toNat + redB b wb = catB a wa b wb := by
  have ra := redB_lt a wa ⟨ha1, ha2⟩
  have rb := redB_lt b wb ⟨hb1, hb2⟩
  have m := mul_pow_lt (redB a wa) wa.toNat wb.toNat ra.1 ra.2 (by omega)
  have hp := pow_pos' wb.toNat
  unfold pw catB
  rw [if_pos ⟨⟨ha1, ha2⟩, ⟨hb1, hb2⟩, hs⟩]
  refine ⟨m.1, by omega, by omega, rfl⟩
theorem ones_next (a : Int) (k : Nat) : onesTo k a + a / 2 ^ k % 2 = onesTo (k + 1) a := rfl
theorem pw_le (a b : Nat) (h : a ≤ b) : pw a ≤ pw b := pow_mono a b h
theorem rpm_eq (n w : Int) (h : 1 ≤ w ∧ w ≤ 32) : pw w.toNat - pw (w - clampB n w).toNat = pmB n w := by
  unfold pmB; rw [if_pos h]; rfl
theorem pmB_out (n w : Int) (h : ¬ (1 ≤ w ∧ w ≤ 32)) : 0 = pmB n w := by unfold pmB; rw [if_neg h]
/-- A prefix mask has as many ones as its length says. -/
theorem ones_pm (n w : Int) (h : 1 ≤ w ∧ w ≤ 32) : onesB (pmB n w) = clampB n w := by
  have hc : 0 ≤ clampB n w ∧ clampB n w ≤ w := by unfold clampB; omega
  unfold pmB; rw [if_pos h]
  have key := fin2 (fun a b => onesB (2 ^ a - 2 ^ b) = (a : Int) - b) (by decide +kernel) w.toNat (w - clampB n w).toNat (by omega) (by omega)
  rw [key]; omega
theorem pm_of_len (n w : Int) (h : 1 ≤ w ∧ w ≤ 32) (h0 : 0 ≤ n) (hn : n ≤ w) (m : Int) (hm : pmB n w = m) : m = pmB (onesB m) w ∧ onesB m = n := by
  have e : onesB m = n := by rw [← hm, ones_pm n w h]; unfold clampB; omega
  exact ⟨by rw [e, hm], e⟩
theorem pl_found (m w : Int) (h : 1 ≤ w ∧ w ≤ 32) (hp : m = pmB (onesB m) w) : 0 ≤ onesB m ∧ onesB m ≤ w := by
  have e := ones_pm (onesB m) w h
  rw [← hp] at e
  unfold clampB at e; omega
end Go.Proofs.Ytdbjeihbfooipaa
