/- What the functions of package bitvec do: their walks, second part; no condition but that a uint32 is one. -/
import Derived.Test.YtfjeonoihdgdoaaBvA
import Derived.Deep.RegionWith
namespace Go.Proofs.Ytfjeonoihdgdoaa
open Go.RowKit

theorem grown_undrew {a b : World} (h : Gr a.drew b) : Gr a b := h

theorem fits_any (v w : Int) (W : World) :
    Calls Try.prog 150 #[.int .u32 v, .int .i64 w] W (Ret (.bool (fitsB v w)) W) := by
  by_cases h : 1 ≤ w ∧ w ≤ 32
  · have HH := Lib.hid h
    have HF := Lib.hid (fits_in v w h)
    clear h
    go_enter Try.func150, Try.ntmps150
    go_wp2_with (first | (go_at_call 151; refine (valid1_yes _ _ _ HH.out (cell1 _ _ _ 0 (by decide))).mono ?_; rintro e w' ⟨rfl, rfl⟩) | (go_at_call 130; refine (mask_any _ _).mono ?_; rintro e w' ⟨rfl, g⟩))
    go_ret
    exact ⟨ret_b HF.out, grown_trans ((Gr.refl _).alloc _ _) g⟩
  · have HH := Lib.hid h
    have HF := Lib.hid (fits_out v w h)
    clear h
    go_enter Try.func150, Try.ntmps150
    go_wp2_with (go_at_call 151; refine (valid1_no _ _ _ HH.out (cell1 _ _ _ 0 (by decide))).mono ?_; rintro e w' ⟨rfl, rfl⟩)
    go_ret
    exact ⟨ret_b HF.out, (Gr.refl _).alloc _ _⟩

theorem add_any (a b w : Int) (W : World) :
    Calls Try.prog 137 #[.int .u32 a, .int .u32 b, .int .i64 w] W (Ret (.int .u32 (addB a b w)) W) := by
  go_enter Try.func137, Try.ntmps137
  go_wp2_with (go_at_call 130; refine (mask_any _ _).mono ?_; rintro e w' ⟨rfl, g⟩)
  go_ret
  exact ⟨ret_i (and_mask' (a + b) w), g⟩
theorem sub_any (a b w : Int) (W : World) :
    Calls Try.prog 138 #[.int .u32 a, .int .u32 b, .int .i64 w] W (Ret (.int .u32 (subB a b w)) W) := by
  go_enter Try.func138, Try.ntmps138
  go_wp2_with (go_at_call 130; refine (mask_any _ _).mono ?_; rintro e w' ⟨rfl, g⟩)
  go_ret
  exact ⟨ret_i (and_mask' (a - b) w), g⟩
theorem not_any (a w : Int) (W : World) (h0 : 0 ≤ a) (h1 : a < 4294967296) :
    Calls Try.prog 101 #[.int .u32 a, .int .i64 w] W (Ret (.int .u32 (notB a w)) W) := by
  go_enter Try.func101, Try.ntmps101
  go_wp2_with (go_at_call 130; refine (mask_any _ _).mono ?_; rintro e w' ⟨rfl, g⟩)
  go_ret
  exact ⟨ret_i (not_mask a w h0 h1), g⟩
theorem shl_neg_any (a n w : Int) (W : World) (hn : n < 0) :
    Calls Try.prog 103 #[.int .u32 a, .int .i64 n, .int .i64 w] W (Ret (.int .u32 (shlB a n w)) W) := by
  go_enter Try.func103, Try.ntmps103
  go_wp2_with fail
  go_region_with (go_at_call 130; refine (mask_any _ _).mono ?_; rintro e w' ⟨rfl, g⟩)
  all_goals go_wp2
  all_goals go_ret
  all_goals exact ⟨ret_i (shl_neg a n w hn), by assumption⟩
set_option maxHeartbeats 1000000 in
theorem shl_pos_any (a n w : Int) (W : World) (hn : 0 ≤ n) :
    Calls Try.prog 103 #[.int .u32 a, .int .i64 n, .int .i64 w] W (Ret (.int .u32 (shlB a n w)) W) := by
  go_enter Try.func103, Try.ntmps103
  go_wp2_with fail
  go_region_with (go_at_call 130; refine (mask_any _ _).mono ?_; rintro e w' ⟨rfl, g⟩)
  all_goals go_wp2
  all_goals go_ret
  all_goals exact ⟨ret_i (shl_pos a n w), by assumption⟩
theorem shl_any (a n w : Int) (W : World) :
    Calls Try.prog 103 #[.int .u32 a, .int .i64 n, .int .i64 w] W (Ret (.int .u32 (shlB a n w)) W) := by
  by_cases hn : n < 0
  · exact shl_neg_any a n w W hn
  · exact shl_pos_any a n w W (by omega)
theorem shr_any (a n w : Int) (W : World) (h0 : 0 ≤ a) (h1 : a < 4294967296) :
    Calls Try.prog 104 #[.int .u32 a, .int .i64 n, .int .i64 w] W (Ret (.int .u32 (shrB a n w)) W) := by
  by_cases hn : n < 0
  · go_enter Try.func104, Try.ntmps104
    go_wp2_with (go_at_call 130; refine (mask_any _ _).mono ?_; rintro e w' ⟨rfl, g⟩)
    go_ret
    exact ⟨ret_i (shr_neg a n w h0 h1 hn), g⟩
  · go_enter Try.func104, Try.ntmps104
    go_wp2_with (go_at_call 130; refine (mask_any _ _).mono ?_; rintro e w' ⟨rfl, g⟩)
    go_ret
    exact ⟨ret_i (shr_pos a n w h0 h1), g⟩
end Go.Proofs.Ytfjeonoihdgdoaa
