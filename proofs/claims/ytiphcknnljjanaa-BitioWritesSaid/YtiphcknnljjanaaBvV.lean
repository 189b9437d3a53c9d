/- The laws of package patchbaylaw01 over plain numbers: their walks; no condition but that numbers are of their kind. -/
import Derived.Test.YtiphcknnljjanaaBvU
namespace Go.Proofs.Ytiphcknnljjanaa
open Go.RowKit

theorem b2 {a b : Int} (h : a = b) : (a == b) = true := by rw [h]; simp
theorem notB_range (a w : Int) : 0 ≤ notB a w ∧ notB a w < 4294967296 := by have := redB_range (-1 - a) w; unfold notB; omega
theorem inv1 (a b w : Int) : subB (addB a b w) b w = redB a w := by
  unfold subB addB; rw [redB_sub_left]; congr 1; omega
theorem inv2 (a b w : Int) : addB (subB a b w) b w = redB a w := by
  unfold subB addB; rw [redB_add_left]; congr 1; omega
theorem inv3 (a w : Int) : notB (notB a w) w = redB a w := by
  unfold notB; rw [redB_sub_right]; congr 1; omega
theorem inv4 (a w : Int) (h : 1 ≤ w ∧ w ≤ 32) : addB a (notB a w) w = mkB w := by
  unfold notB addB; rw [redB_add_right, show a + (-1 - a) = -1 by omega]
  refine width_cases (fun w => redB (-1) w = mkB w) ?_ w h.1 h.2
  decide +kernel

theorem inverts_walk (a b w : Int) (W : World) (h0 : 0 ≤ a) (h1 : a < 4294967296) :
    Calls Try.prog 4 #[.int .u32 a, .int .u32 b, .int .i64 w] W (Ret (.bool true) W) := by
  by_cases c1 : w < 1
  · go_enter Try.func4, Try.ntmps4
    go_wp2_with (go_at_call 39; refine (awake_any _).mono ?_; rintro e w' ⟨rfl, g⟩)
    go_ret
    exact ⟨rfl, by assumption⟩
  · by_cases c2 : 32 < w
    · go_enter Try.func4, Try.ntmps4
      go_wp2_with (go_at_call 39; refine (awake_any _).mono ?_; rintro e w' ⟨rfl, g⟩)
      go_ret
      exact ⟨rfl, by assumption⟩
    · have e0 := and_mask a w h0 h1
      have r := notB_range a w
      have x1 : (subB (addB a b w) b w == bits .and .u32 a (mkB w)) = true := b2 (by rw [e0, inv1])
      have x2 : (addB (subB a b w) b w == bits .and .u32 a (mkB w)) = true := b2 (by rw [e0, inv2])
      have x3 : (notB (notB a w) w == bits .and .u32 a (mkB w)) = true := b2 (by rw [e0, inv3])
      have x4 : (addB a (notB a w) w == mkB w) = true := b2 (inv4 a w (by omega))
      clear e0
      go_enter Try.func4, Try.ntmps4
      go_wp2_with (first | (go_at_call 15; refine (mask_any _ _).mono ?_; rintro e w' ⟨rfl, g⟩) | (go_at_call 19; refine (add_any _ _ _ _).mono ?_; rintro e w' ⟨rfl, g⟩) | (go_at_call 21; refine (sub_any _ _ _ _).mono ?_; rintro e w' ⟨rfl, g⟩) | (go_at_call 23; refine (not_any _ _ _ (by omega) (by omega)).mono ?_; rintro e w' ⟨rfl, g⟩) | (go_at_call 39; refine (awake_any _).mono ?_; rintro e w' ⟨rfl, g⟩))
      go_ret
      exact ⟨rfl, by repeat (first | assumption | refine grown_trans ?_ (by assumption))⟩

theorem pmB_range (n w : Int) : 0 ≤ pmB n w ∧ pmB n w ≤ 4294967295 := by
  unfold pmB
  split
  · rename_i h
    have hc : 0 ≤ clampB n w ∧ clampB n w ≤ w := by unfold clampB; omega
    have h1 := pow_pos' (w - clampB n w).toNat
    have h2 := pow_mono (w - clampB n w).toNat w.toNat (by omega)
    have h3 := pow_le32 w h.2
    omega
  · omega
theorem pm_and (n m w : Int) (h1 : 1 ≤ w) (h2 : w ≤ 32) (hn : 0 ≤ n) (hnm : n ≤ m) (hm : m ≤ w) : bits .and .u32 (pmB n w) (pmB m w) = pmB n w := by
  have r1 := pmB_range n w
  have r2 := pmB_range m w
  rw [u32_and _ _ r1.1 (by omega) r2.1 (by omega)]
  have en : clampB n w = n := by unfold clampB; omega
  have em : clampB m w = m := by unfold clampB; omega
  have pn : pmB n w = ((2 ^ w.toNat - 2 ^ (w - n).toNat : Nat) : Int) := by
    unfold pmB; rw [if_pos ⟨h1, h2⟩, en, Int.natCast_sub (Nat.pow_le_pow_right (by decide) (by omega))]; simp
  have pm : pmB m w = ((2 ^ w.toNat - 2 ^ (w - m).toNat : Nat) : Int) := by
    unfold pmB; rw [if_pos ⟨h1, h2⟩, em, Int.natCast_sub (Nat.pow_le_pow_right (by decide) (by omega))]; simp
  rw [pn, pm, Int.toNat_natCast, Int.toNat_natCast]
  have key : ∀ a b c : Fin 33, c.val ≤ b.val → b.val ≤ a.val → (2 ^ a.val - 2 ^ b.val) &&& (2 ^ a.val - 2 ^ c.val) = 2 ^ a.val - 2 ^ b.val := by decide +kernel
  have := key ⟨w.toNat, by omega⟩ ⟨(w - n).toNat, by omega⟩ ⟨(w - m).toNat, by omega⟩ (by simp; omega) (by simp; omega)
  simp only at this
  rw [this]
theorem pm_fits (n w : Int) (h1 : 1 ≤ w) (h2 : w ≤ 32) : fitsB (pmB n w) w = true := by
  unfold fitsB
  refine decide_eq_true ⟨h1, h2, ?_⟩
  unfold pmB; rw [if_pos ⟨h1, h2⟩]
  have := pow_pos' (w - clampB n w).toNat
  omega

theorem prefixes_walk (n m w : Int) (W : World) :
    Calls Try.prog 7 #[.int .i64 n, .int .i64 m, .int .i64 w] W (Ret (.bool true) W) := by
  by_cases c : 1 ≤ w ∧ w ≤ 32 ∧ 0 ≤ n ∧ n ≤ w ∧ n ≤ m ∧ m ≤ w
  · obtain ⟨c1, c2, c3, c4, c5, c6⟩ := c
    have r := pmB_range n w
    have hm := pm_of_len n w ⟨c1, c2⟩ c3 c4 _ rfl
    have hp := pl_in (pmB n w) w ⟨c1, c2⟩ hm.1
    have HP := Lib.hid (show plB (pmB n w) w = n by rw [← hp.1, hm.2])
    have HQ := Lib.hid hp.2.symm
    have HO := Lib.hid (b2 hm.2)
    have HA := Lib.hid (b2 (pm_and n m w c1 c2 c3 c5 c6))
    have HF := Lib.hid (pm_fits m w c1 c2)
    clear hm hp
    go_enter Try.func7, Try.ntmps7
    go_wp2_with fail
    refine (pmask_any n w _).mono ?_
    rintro e w1 ⟨rfl, g1⟩
    go_wp2_with fail
    refine (pmask_any m w _).mono ?_
    rintro e w2 ⟨rfl, g2⟩
    have g2 := grown_trans g1 g2; clear g1
    go_wp2_with fail
    refine (plen_any (pmB n w) w _ r.1 (by omega)).mono ?_
    rintro e w3 hr; obtain ⟨rfl, g3⟩ := ret_to (ib32_to HP.out HQ.out) hr; clear hr
    have g3 := grown_trans g2 g3; clear g2
    have x0 : (n == n) = true := by simp
    go_wp2_with fail
    refine (ones_any (pmB n w) _ r.1 (by omega)).mono ?_
    rintro e w4 ⟨rfl, rfl⟩
    have x1 := HO.out
    have x2 := HA.out
    go_wp2_with fail
    refine (fits_any (pmB m w) w _).mono ?_
    rintro e w5 hr; obtain ⟨rfl, g5⟩ := ret_to (by rw [HF.out]) hr; clear hr
    have g5 := grown_trans g3 g5; clear g3
    go_wp2_with fail
    refine (awake_any _).mono ?_
    rintro e w6 ⟨rfl, g6⟩
    go_wp2
    go_ret
    exact ⟨rfl, grown_trans g5 g6⟩
  · by_cases c1 : w < 1
    · clear c; go_enter Try.func7, Try.ntmps7
      go_wp2_with (go_at_call 39; refine (awake_any _).mono ?_; rintro e w' ⟨rfl, g⟩)
      go_ret
      exact ⟨rfl, by assumption⟩
    · by_cases c2 : 32 < w
      · clear c; go_enter Try.func7, Try.ntmps7
        go_wp2_with (go_at_call 39; refine (awake_any _).mono ?_; rintro e w' ⟨rfl, g⟩)
        go_ret
        exact ⟨rfl, by assumption⟩
      · by_cases c3 : n < 0
        · clear c; go_enter Try.func7, Try.ntmps7
          go_wp2_with (go_at_call 39; refine (awake_any _).mono ?_; rintro e w' ⟨rfl, g⟩)
          go_ret
          exact ⟨rfl, by assumption⟩
        · by_cases c4 : w < n
          · clear c; go_enter Try.func7, Try.ntmps7
            go_wp2_with (go_at_call 39; refine (awake_any _).mono ?_; rintro e w' ⟨rfl, g⟩)
            go_ret
            exact ⟨rfl, by assumption⟩
          · by_cases c5 : m < n
            · clear c; go_enter Try.func7, Try.ntmps7
              go_wp2_with (go_at_call 39; refine (awake_any _).mono ?_; rintro e w' ⟨rfl, g⟩)
              go_ret
              exact ⟨rfl, by assumption⟩
            · have c6 : w < m := by omega
              clear c; go_enter Try.func7, Try.ntmps7
              go_wp2_with (go_at_call 39; refine (awake_any _).mono ?_; rintro e w' ⟨rfl, g⟩)
              go_ret
              exact ⟨rfl, by assumption⟩
end Go.Proofs.Ytiphcknnljjanaa
