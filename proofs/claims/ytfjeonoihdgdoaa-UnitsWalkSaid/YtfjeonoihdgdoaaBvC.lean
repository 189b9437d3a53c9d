/- What the functions of package bitvec do: their walks, third part: Slice, Concat, PrefixLen; no condition but that a uint32 is one. -/
import Derived.Test.YtfjeonoihdgdoaaBvB
namespace Go.Proofs.Ytfjeonoihdgdoaa
open Go.RowKit

theorem slice_no_any (a lo w : Int) (W : World) (h : ¬ ((1 ≤ w ∧ w ≤ 32) ∧ 0 ≤ lo ∧ lo ≤ 32 - w)) :
    Calls Try.prog 135 #[.int .u32 a, .int .i64 lo, .int .i64 w] W (Ret (.int .u32 (sliceB a lo w)) W) := by
  have HS := Lib.hid (slice_out a lo w h)
  by_cases hv : 1 ≤ w ∧ w ≤ 32
  · have HH := Lib.hid hv
    obtain ⟨h1, h2⟩ := hv
    by_cases hl : lo < 0
    · clear h
      go_enter Try.func135, Try.ntmps135
      go_wp2_with (go_at_call 151; refine (valid1_yes _ _ _ HH.out (cell1 _ _ _ 0 (by decide))).mono ?_; rintro e w' ⟨rfl, rfl⟩)
      go_ret
      exact ⟨ret_i HS.out, (Gr.refl _).alloc _ _⟩
    · have hl2 : 32 - w < lo := by omega
      clear h
      go_enter Try.func135, Try.ntmps135
      go_wp2_with (go_at_call 151; refine (valid1_yes _ _ _ HH.out (cell1 _ _ _ 0 (by decide))).mono ?_; rintro e w' ⟨rfl, rfl⟩)
      go_ret
      exact ⟨ret_i HS.out, (Gr.refl _).alloc _ _⟩
  · have HH := Lib.hid hv
    clear hv h
    go_enter Try.func135, Try.ntmps135
    go_wp2_with (go_at_call 151; refine (valid1_no _ _ _ HH.out (cell1 _ _ _ 0 (by decide))).mono ?_; rintro e w' ⟨rfl, rfl⟩)
    go_ret
    exact ⟨ret_i HS.out, (Gr.refl _).alloc _ _⟩

theorem slice_yes_any (a lo w : Int) (W : World) (h0 : 0 ≤ a) (h1 : a < 4294967296) (hw1 : 1 ≤ w) (hw2 : w ≤ 32) (hl0 : 0 ≤ lo) (hl : lo ≤ 32 - w) :
    Calls Try.prog 135 #[.int .u32 a, .int .i64 lo, .int .i64 w] W (Ret (.int .u32 (sliceB a lo w)) W) := by
  have HS := Lib.hid (slice_in a lo w h0 h1 hw1 hw2 hl0 hl)
  have HH := Lib.hid (And.intro hw1 hw2)
  go_enter Try.func135, Try.ntmps135
  go_wp2_with (first | (go_at_call 151; refine (valid1_yes _ _ _ HH.out (cell1 _ _ _ 0 (by decide))).mono ?_; rintro e w' ⟨rfl, rfl⟩) | (go_at_call 130; refine (mask_any _ _).mono ?_; rintro e w' ⟨rfl, g⟩))
  go_region_with (go_at_call 130; refine (mask_any _ _).mono ?_; rintro e w' ⟨rfl, g⟩)
  all_goals go_wp2
  all_goals go_ret
  all_goals exact ⟨ret_i HS.out, grown_trans ((Gr.refl _).alloc _ _) (by assumption)⟩

theorem cat_no_any (a wa b wb : Int) (W : World) (h : ¬ ((1 ≤ wa ∧ wa ≤ 32) ∧ (1 ≤ wb ∧ wb ≤ 32) ∧ wa + wb ≤ 32)) :
    Calls Try.prog 136 #[.int .u32 a, .int .i64 wa, .int .u32 b, .int .i64 wb] W (Ret (.tuple #[.int .u32 (catB a wa b wb), .bool (catOk wa wb)]) W) := by
  have HS := Lib.hid (cat_out a wa b wb h)
  have HK := Lib.hid (catOk_out wa wb h)
  have HN := Lib.hid (cat_not wa wb h)
  clear h
  go_enter Try.func136, Try.ntmps136
  go_wp2_with (go_at_call 151; refine (valid3_any _ _ _ _ _ false HN.out (by simp [go_sem]) (by simp [go_sem]) (by simp [go_sem])).mono ?_; rintro e w' ⟨rfl, rfl⟩)
  go_ret2
  exact ⟨ret_ib HS.out HK.out, (Gr.refl _).alloc _ _⟩
theorem cat_yes_any (a wa b wb : Int) (W : World) (h0 : 0 ≤ a) (h1 : a < 4294967296) (k0 : 0 ≤ b) (k1 : b < 4294967296) (ha1 : 1 ≤ wa) (ha2 : wa ≤ 32) (hb1 : 1 ≤ wb) (hb2 : wb ≤ 32) (hs : wa + wb ≤ 32) :
    Calls Try.prog 136 #[.int .u32 a, .int .i64 wa, .int .u32 b, .int .i64 wb] W (Ret (.tuple #[.int .u32 (catB a wa b wb), .bool (catOk wa wb)]) W) := by
  have HN := Lib.hid (cat_yes wa wb ha1 ha2 hb1 hb2 hs)
  have HS := Lib.hid (cat_in a wa b wb h0 h1 k0 k1 ha1 ha2 hb1 hb2 hs)
  have HK := Lib.hid (catOk_in wa wb ha1 ha2 hb1 hb2 hs)
  go_enter Try.func136, Try.ntmps136
  go_wp2_with (go_at_call 151; refine (valid3_any _ _ _ _ _ true HN.out (by simp [go_sem]) (by simp [go_sem]) (by simp [go_sem])).mono ?_; rintro e w' ⟨rfl, rfl⟩)
  go_region_with (go_at_call 130; refine (mask_any _ _).mono ?_; rintro e w' ⟨rfl, g⟩)
  all_goals go_wp2
  all_goals go_ret2
  all_goals exact ⟨ret_ib HS.out HK.out, grown_trans ((Gr.refl _).alloc _ _) (grown_trans (by assumption) (by assumption))⟩
end Go.Proofs.Ytfjeonoihdgdoaa
