/- What the functions of package bitvec do: their walks, second part; no condition but that a uint32 is one. -/
import Derived.Test.YtiphcknnljjanaaBvA
import Derived.Deep.RegionWith
namespace Go.Proofs.Ytiphcknnljjanaa
open Go.RowKit

theorem grown_undrew {a b : World} (h : Gr a.drew b) : Gr a b := h

theorem fits_any (v w : Int) (W : World) :
    Calls Try.prog 17 #[.int .u32 v, .int .i64 w] W (Ret (.bool (fitsB v w)) W) := by
  by_cases h : 1 ≤ w ∧ w ≤ 32
  · have HH := Lib.hid h
    have HF := Lib.hid (fits_in v w h)
    clear h
    go_enter Try.func17, Try.ntmps17
    go_wp2_with (first | (go_at_call 64; refine (valid1_yes _ _ _ HH.out (cell1 _ _ _ 0 (by decide))).mono ?_; rintro e w' ⟨rfl, rfl⟩) | (go_at_call 15; refine (mask_any _ _).mono ?_; rintro e w' ⟨rfl, g⟩))
    go_ret
    exact ⟨ret_b HF.out, grown_trans ((Gr.refl _).alloc _ _) g⟩
  · have HH := Lib.hid h
    have HF := Lib.hid (fits_out v w h)
    clear h
    go_enter Try.func17, Try.ntmps17
    go_wp2_with (go_at_call 64; refine (valid1_no _ _ _ HH.out (cell1 _ _ _ 0 (by decide))).mono ?_; rintro e w' ⟨rfl, rfl⟩)
    go_ret
    exact ⟨ret_b HF.out, (Gr.refl _).alloc _ _⟩

theorem add_any (a b w : Int) (W : World) :
    Calls Try.prog 19 #[.int .u32 a, .int .u32 b, .int .i64 w] W (Ret (.int .u32 (addB a b w)) W) := by
  go_enter Try.func19, Try.ntmps19
  go_wp2_with (go_at_call 15; refine (mask_any _ _).mono ?_; rintro e w' ⟨rfl, g⟩)
  go_ret
  exact ⟨ret_i (and_mask' (a + b) w), g⟩
theorem sub_any (a b w : Int) (W : World) :
    Calls Try.prog 21 #[.int .u32 a, .int .u32 b, .int .i64 w] W (Ret (.int .u32 (subB a b w)) W) := by
  go_enter Try.func21, Try.ntmps21
  go_wp2_with (go_at_call 15; refine (mask_any _ _).mono ?_; rintro e w' ⟨rfl, g⟩)
  go_ret
  exact ⟨ret_i (and_mask' (a - b) w), g⟩
theorem not_any (a w : Int) (W : World) (h0 : 0 ≤ a) (h1 : a < 4294967296) :
    Calls Try.prog 23 #[.int .u32 a, .int .i64 w] W (Ret (.int .u32 (notB a w)) W) := by
  go_enter Try.func23, Try.ntmps23
  go_wp2_with (go_at_call 15; refine (mask_any _ _).mono ?_; rintro e w' ⟨rfl, g⟩)
  go_ret
  exact ⟨ret_i (not_mask a w h0 h1), g⟩
theorem shl_neg_any (a n w : Int) (W : World) (hn : n < 0) :
    Calls Try.prog 25 #[.int .u32 a, .int .i64 n, .int .i64 w] W (Ret (.int .u32 (shlB a n w)) W) := by
  go_enter Try.func25, Try.ntmps25
  go_wp2_with fail
  go_region_with (go_at_call 15; refine (mask_any _ _).mono ?_; rintro e w' ⟨rfl, g⟩)
  all_goals go_wp2
  all_goals go_ret
  all_goals exact ⟨ret_i (shl_neg a n w hn), by assumption⟩
set_option maxHeartbeats 1000000 in
theorem shl_pos_any (a n w : Int) (W : World) (hn : 0 ≤ n) :
    Calls Try.prog 25 #[.int .u32 a, .int .i64 n, .int .i64 w] W (Ret (.int .u32 (shlB a n w)) W) := by
  go_enter Try.func25, Try.ntmps25
  go_wp2_with fail
  go_region_with (go_at_call 15; refine (mask_any _ _).mono ?_; rintro e w' ⟨rfl, g⟩)
  all_goals go_wp2
  all_goals go_ret
  all_goals exact ⟨ret_i (shl_pos a n w), by assumption⟩
theorem shl_any (a n w : Int) (W : World) :
    Calls Try.prog 25 #[.int .u32 a, .int .i64 n, .int .i64 w] W (Ret (.int .u32 (shlB a n w)) W) := by
  by_cases hn : n < 0
  · exact shl_neg_any a n w W hn
  · exact shl_pos_any a n w W (by omega)
theorem shr_any (a n w : Int) (W : World) (h0 : 0 ≤ a) (h1 : a < 4294967296) :
    Calls Try.prog 27 #[.int .u32 a, .int .i64 n, .int .i64 w] W (Ret (.int .u32 (shrB a n w)) W) := by
  by_cases hn : n < 0
  · go_enter Try.func27, Try.ntmps27
    go_wp2_with (go_at_call 15; refine (mask_any _ _).mono ?_; rintro e w' ⟨rfl, g⟩)
    go_ret
    exact ⟨ret_i (shr_neg a n w h0 h1 hn), g⟩
  · go_enter Try.func27, Try.ntmps27
    go_wp2_with (go_at_call 15; refine (mask_any _ _).mono ?_; rintro e w' ⟨rfl, g⟩)
    go_ret
    exact ⟨ret_i (shr_pos a n w h0 h1), g⟩
theorem ones_any (a : Int) (W : World) (h0 : 0 ≤ a) (h1 : a < 4294967296) :
    Calls Try.prog 31 #[.int .u32 a] W fun e w' => e = .returned (.int .i64 (onesB a)) ∧ W = w' := by
  go_enter Try.func31, Try.ntmps31
  go_wp2
  go_loop [3, 5] (fun n i => ∃ k : Nat, k ≤ 32 ∧ n = .int .i64 (onesTo k a) ∧ i = .int .i64 k) (fun _ i => 32 - (intOf i).toNat)
  case atStart => exact ⟨0, Nat.zero_le _, rfl, rfl⟩
  case round =>
    obtain ⟨k, hk, rfl, rfl⟩ := hrel
    have hb := onesTo_range k a
    by_cases hlt : k < 32
    · go_wp2
      go_round
      case rel => exact ⟨k + 1, by omega, by rw [ones_step a k hlt h0 h1], by go_num⟩
      case measure => simp [intOf]; omega
    · go_wp2
      go_ret
      exact ⟨ret_i (by rw [show k = 32 by omega]; rfl), rfl⟩
theorem pmask_any (n w : Int) (W : World) :
    Calls Try.prog 33 #[.int .i64 n, .int .i64 w] W (Ret (.int .u32 (pmB n w)) W) := by
  by_cases h : 1 ≤ w ∧ w ≤ 32
  · obtain ⟨h1, h2⟩ := h
    by_cases hn : n < 0
    · go_enter Try.func33, Try.ntmps33
      go_wp2_with (go_at_call 15; refine (mask_any _ _).mono ?_; rintro e w' ⟨rfl, g⟩)
      go_ret
      exact ⟨ret_i (pm_neg n w h1 h2 hn), grown_trans (by assumption) (by assumption)⟩
    · by_cases hw : w < n
      · go_enter Try.func33, Try.ntmps33
        go_wp2_with (go_at_call 15; refine (mask_any _ _).mono ?_; rintro e w' ⟨rfl, g⟩)
        go_ret
        exact ⟨ret_i (pm_big n w h1 h2 hw), grown_trans (by assumption) (by assumption)⟩
      · go_enter Try.func33, Try.ntmps33
        go_wp2_with (go_at_call 15; refine (mask_any _ _).mono ?_; rintro e w' ⟨rfl, g⟩)
        go_ret
        exact ⟨ret_i (pm_mid n w h1 h2 (by omega) (by omega)), grown_trans (by assumption) (by assumption)⟩
  · have HH := Lib.hid h
    clear h
    go_enter Try.func33, Try.ntmps33
    go_wp2_with (go_at_call 15; refine (mask_any _ _).mono ?_; rintro e w' ⟨rfl, g⟩)
    all_goals go_ret
    all_goals exact ⟨ret_i (pm_out n w _ HH.out), grown_trans (by assumption) (by assumption)⟩
end Go.Proofs.Ytiphcknnljjanaa
