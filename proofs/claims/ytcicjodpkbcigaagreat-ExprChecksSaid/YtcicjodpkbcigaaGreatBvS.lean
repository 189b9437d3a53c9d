/- What the functions of package patchbayref01 do: their walks, second part; no condition but that numbers are of their kind. -/
import Derived.Test.YtcicjodpkbcigaaGreatBvR
import Derived.Test.YtcicjodpkbcigaaGreatBvPureB
namespace Go.Proofs.YtcicjodpkbcigaaGreat
open Go.RowKit

theorem radd_any (a b w : Int) (W : World) (h0 : 0 ≤ a) (h1 : a < 4294967296) (k0 : 0 ≤ b) (k1 : b < 4294967296) :
    Calls Tryz.prog 82 #[.int .u32 a, .int .u32 b, .int .i64 w] W fun e w' => e = .returned (.int .u32 (addB a b w)) ∧ W = w' := by
  go_enter Tryz.func82, Tryz.ntmps82
  go_wp2_with (go_at_call 43; refine (reduce_any _ _ _ (by omega) (by omega)).mono ?_; rintro e w' ⟨rfl, rfl⟩)
  go_ret
  exact ⟨ret_i rfl, rfl⟩
theorem rsub_any (a b w : Int) (W : World) (h0 : 0 ≤ a) (h1 : a < 4294967296) (k0 : 0 ≤ b) (k1 : b < 4294967296) :
    Calls Tryz.prog 83 #[.int .u32 a, .int .u32 b, .int .i64 w] W fun e w' => e = .returned (.int .u32 (subB a b w)) ∧ W = w' := by
  by_cases h : 1 ≤ w ∧ w ≤ 32
  · have HH := Lib.hid h
    have HS := Lib.hid (rsub_eq a b w h)
    have r1 := redB_range a w
    have r2 := redB_range b w
    have r3 := redB_lt b w h
    have hp := pw_pos w.toNat
    have hq := pw_le32 w h.2
    have hl : redB b w ≤ pw w.toNat := by unfold pw; omega
    clear r3
    obtain ⟨hw1, hw2⟩ := h
    go_enter Tryz.func83, Tryz.ntmps83
    go_wp2_with (first | (go_at_call 74; refine (rvalid_yes _ _ HH.out).mono ?_; rintro e w' ⟨rfl, rfl⟩) | (go_at_call 75; refine (power_any _ _ (by omega) (by omega)).mono ?_; rintro e w' ⟨rfl, rfl⟩) | (go_at_call 43; refine (reduce_any _ _ _ (by omega) (by omega)).mono ?_; rintro e w' ⟨rfl, rfl⟩))
    go_ret
    exact ⟨ret_i HS.out, rfl⟩
  · have HH := Lib.hid h
    have HS := Lib.hid (redB_out (a - b) w h)
    clear h
    go_enter Tryz.func83, Tryz.ntmps83
    go_wp2_with (go_at_call 74; refine (rvalid_no _ _ HH.out).mono ?_; rintro e w' ⟨rfl, rfl⟩)
    go_ret
    exact ⟨ret_i HS.out.symm, rfl⟩
theorem rnot_any (a w : Int) (W : World) (h0 : 0 ≤ a) (h1 : a < 4294967296) :
    Calls Tryz.prog 78 #[.int .u32 a, .int .i64 w] W fun e w' => e = .returned (.int .u32 (notB a w)) ∧ W = w' := by
  have HS := not_le a w
  have HT := Lib.hid HS.2.2
  obtain ⟨s1, s2, s3⟩ := HS
  clear s3
  go_enter Tryz.func78, Tryz.ntmps78
  go_wp2_with (first | (go_at_call 52; refine (rmask_any _ _).mono ?_; rintro e w' ⟨rfl, rfl⟩) | (go_at_call 43; refine (reduce_any _ _ _ (by omega) (by omega)).mono ?_; rintro e w' ⟨rfl, rfl⟩))
  go_ret
  exact ⟨ret_i HT.out, rfl⟩
theorem rshl_any (a n w : Int) (W : World) (h0 : 0 ≤ a) (h1 : a < 4294967296) :
    Calls Tryz.prog 79 #[.int .u32 a, .int .i64 n, .int .i64 w] W fun e w' => e = .returned (.int .u32 (shlB a n w)) ∧ W = w' := by
  go_enter Tryz.func79, Tryz.ntmps79
  go_wp2_with (go_at_call 43; refine (reduce_any _ _ _ (by omega) (by omega)).mono ?_; rintro e w' ⟨rfl, rfl⟩)
  go_loop [7, 8] (fun x i => ∃ k : Nat, k ≤ 32 ∧ k ≤ n.toNat ∧ x = .int .u32 (redB (a * 2 ^ k) w) ∧ i = .int .i64 k) (fun _ i => 32 - (intOf i).toNat)
  case atStart => exact ⟨0, by omega, by omega, by simp, rfl⟩
  case round =>
    obtain ⟨k, hk, hkn, rfl, rfl⟩ := hrel
    have hr := redB_range (a * 2 ^ k) w
    have HX := Lib.hid (shl_next a w k)
    by_cases hlt : (k : Int) < n
    · by_cases hk2 : k < 32
      · go_wp2_with (go_at_call 43; refine (reduce_any _ _ _ (by omega) (by omega)).mono ?_; rintro e w' ⟨rfl, rfl⟩)
        go_round
        case rel => exact ⟨k + 1, by omega, by omega, by rw [HX.out], by go_num⟩
        case measure => simp [intOf]; omega
      · go_wp2
        go_ret
        exact ⟨ret_i (by unfold shlB; rw [show k = min n.toNat 32 by omega]), rfl⟩
    · go_wp2
      go_ret
      exact ⟨ret_i (by unfold shlB; rw [show k = min n.toNat 32 by omega]), rfl⟩
theorem rshr_any (a n w : Int) (W : World) (h0 : 0 ≤ a) (h1 : a < 4294967296) :
    Calls Tryz.prog 80 #[.int .u32 a, .int .i64 n, .int .i64 w] W fun e w' => e = .returned (.int .u32 (shrB a n w)) ∧ W = w' := by
  have hr0 := redB_range a w
  go_enter Tryz.func80, Tryz.ntmps80
  go_wp2_with (go_at_call 43; refine (reduce_any _ _ _ (by omega) (by omega)).mono ?_; rintro e w' ⟨rfl, rfl⟩)
  go_loop [7, 8] (fun x i => ∃ k : Nat, k ≤ 32 ∧ k ≤ n.toNat ∧ x = .int .u32 (redB a w / 2 ^ k) ∧ i = .int .i64 k) (fun _ i => 32 - (intOf i).toNat)
  case atStart => exact ⟨0, by omega, by omega, by simp, rfl⟩
  case round =>
    obtain ⟨k, hk, hkn, rfl, rfl⟩ := hrel
    have hr := shr_range' (redB a w) k hr0.1 hr0.2
    have HX := Lib.hid (shr_next (redB a w) k)
    by_cases hlt : (k : Int) < n
    · by_cases hk2 : k < 32
      · go_wp2
        go_round
        case rel => exact ⟨k + 1, by omega, by omega, by rw [HX.out], by go_num⟩
        case measure => simp [intOf]; omega
      · go_wp2
        go_ret
        exact ⟨ret_i (by unfold shrB; rw [show k = min n.toNat 32 by omega]), rfl⟩
    · go_wp2
      go_ret
      exact ⟨ret_i (by unfold shrB; rw [show k = min n.toNat 32 by omega]), rfl⟩
theorem rslice_any (a lo w : Int) (W : World) (h0 : 0 ≤ a) (h1 : a < 4294967296) :
    Calls Tryz.prog 81 #[.int .u32 a, .int .i64 lo, .int .i64 w] W fun e w' => e = .returned (.int .u32 (sliceB a lo w)) ∧ W = w' := by
  by_cases hv : 1 ≤ w ∧ w ≤ 32
  · have HH := Lib.hid hv
    obtain ⟨hw1, hw2⟩ := hv
    by_cases hl : lo < 0
    · have HS := Lib.hid (slice_out a lo w (by omega))
      go_enter Tryz.func81, Tryz.ntmps81
      go_wp2_with (go_at_call 74; refine (rvalid_yes _ _ HH.out).mono ?_; rintro e w' ⟨rfl, rfl⟩)
      go_ret
      exact ⟨ret_i HS.out, rfl⟩
    · by_cases hl2 : 32 - w < lo
      · have HS := Lib.hid (slice_out a lo w (by omega))
        go_enter Tryz.func81, Tryz.ntmps81
        go_wp2_with (go_at_call 74; refine (rvalid_yes _ _ HH.out).mono ?_; rintro e w' ⟨rfl, rfl⟩)
        go_ret
        exact ⟨ret_i HS.out, rfl⟩
      · have HS := Lib.hid (rslice_eq a lo w hw1 hw2 (by omega) (by omega))
        have hd := pw_div a lo.toNat h0 h1
        have hp := pw_pos lo.toNat
        go_enter Tryz.func81, Tryz.ntmps81
        go_wp2_with (first | (go_at_call 74; refine (rvalid_yes _ _ HH.out).mono ?_; rintro e w' ⟨rfl, rfl⟩) | (go_at_call 75; refine (power_any _ _ (by omega) (by omega)).mono ?_; rintro e w' ⟨rfl, rfl⟩) | (go_at_call 43; refine (reduce_any _ _ _ (by omega) (by omega)).mono ?_; rintro e w' ⟨rfl, rfl⟩))
        go_ret
        exact ⟨ret_i HS.out, rfl⟩
  · have HH := Lib.hid hv
    have HS := Lib.hid (slice_out a lo w (by omega))
    clear hv
    go_enter Tryz.func81, Tryz.ntmps81
    go_wp2_with (go_at_call 74; refine (rvalid_no _ _ HH.out).mono ?_; rintro e w' ⟨rfl, rfl⟩)
    go_ret
    exact ⟨ret_i HS.out, rfl⟩
end Go.Proofs.YtcicjodpkbcigaaGreat
