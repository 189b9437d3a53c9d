/- The laws of package patchbaylaw01 over plain numbers: their walks; no condition but that numbers are of their kind. -/
import Derived.Test.YtgknooblnpmloaaBvU
namespace Go.Proofs.Ytgknooblnpmloaa
open Go.RowKit

theorem b2 {a b : Int} (h : a = b) : (a == b) = true := by rw [h]; simp
theorem notB_range (a w : Int) : 0 ≤ notB a w ∧ notB a w < 4294967296 := by have := redB_range (-1 - a) w; unfold notB; omega
theorem inv1 (a b w : Int) : subB (addB a b w) b w = redB a w := by
  unfold subB addB; rw [redB_sub_left]; congr 1; omega
theorem inv2 (a b w : Int) : addB (subB a b w) b w = redB a w := by
  unfold subB addB; rw [redB_add_left]; congr 1; omega
theorem inv3 (a w : Int) : notB (notB a w) w = redB a w := by
  unfold notB; rw [redB_sub_right]; congr 1; omega
theorem inv4 (a w : Int) (h : 1 ≤ w ∧ w ≤ 32) : addB a (notB a w) w = mkB w := by
  unfold notB addB; rw [redB_add_right, show a + (-1 - a) = -1 by omega]
  refine width_cases (fun w => redB (-1) w = mkB w) ?_ w h.1 h.2
  decide +kernel

theorem pmB_range (n w : Int) : 0 ≤ pmB n w ∧ pmB n w ≤ 4294967295 := by
  unfold pmB
  split
  · rename_i h
    have hc : 0 ≤ clampB n w ∧ clampB n w ≤ w := by unfold clampB; omega
    have h1 := pow_pos' (w - clampB n w).toNat
    have h2 := pow_mono (w - clampB n w).toNat w.toNat (by omega)
    have h3 := pow_le32 w h.2
    omega
  · omega
theorem pm_and (n m w : Int) (h1 : 1 ≤ w) (h2 : w ≤ 32) (hn : 0 ≤ n) (hnm : n ≤ m) (hm : m ≤ w) : bits .and .u32 (pmB n w) (pmB m w) = pmB n w := by
  have r1 := pmB_range n w
  have r2 := pmB_range m w
  rw [u32_and _ _ r1.1 (by omega) r2.1 (by omega)]
  have en : clampB n w = n := by unfold clampB; omega
  have em : clampB m w = m := by unfold clampB; omega
  have pn : pmB n w = ((2 ^ w.toNat - 2 ^ (w - n).toNat : Nat) : Int) := by
    unfold pmB; rw [if_pos ⟨h1, h2⟩, en, Int.natCast_sub (Nat.pow_le_pow_right (by decide) (by omega))]; simp
  have pm : pmB m w = ((2 ^ w.toNat - 2 ^ (w - m).toNat : Nat) : Int) := by
    unfold pmB; rw [if_pos ⟨h1, h2⟩, em, Int.natCast_sub (Nat.pow_le_pow_right (by decide) (by omega))]; simp
  rw [pn, pm, Int.toNat_natCast, Int.toNat_natCast]
  have key : ∀ a b c : Fin 33, c.val ≤ b.val → b.val ≤ a.val → (2 ^ a.val - 2 ^ b.val) &&& (2 ^ a.val - 2 ^ c.val) = 2 ^ a.val - 2 ^ b.val := by decide +kernel
  have := key ⟨w.toNat, by omega⟩ ⟨(w - n).toNat, by omega⟩ ⟨(w - m).toNat, by omega⟩ (by simp; omega) (by simp; omega)
  simp only at this
  rw [this]
theorem pm_fits (n w : Int) (h1 : 1 ≤ w) (h2 : w ≤ 32) : fitsB (pmB n w) w = true := by
  unfold fitsB
  refine decide_eq_true ⟨h1, h2, ?_⟩
  unfold pmB; rw [if_pos ⟨h1, h2⟩]
  have := pow_pos' (w - clampB n w).toNat
  omega

end Go.Proofs.Ytgknooblnpmloaa
