/- What the functions of package bitvec do: their walks, third part: Slice, Concat, PrefixLen; no condition but that a uint32 is one. -/
import Derived.Test.YtiphcknnljjanaaBvB
namespace Go.Proofs.Ytiphcknnljjanaa
open Go.RowKit

theorem slice_no_any (a lo w : Int) (W : World) (h : ¬ ((1 ≤ w ∧ w ≤ 32) ∧ 0 ≤ lo ∧ lo ≤ 32 - w)) :
    Calls Try.prog 29 #[.int .u32 a, .int .i64 lo, .int .i64 w] W (Ret (.int .u32 (sliceB a lo w)) W) := by
  have HS := Lib.hid (slice_out a lo w h)
  by_cases hv : 1 ≤ w ∧ w ≤ 32
  · have HH := Lib.hid hv
    obtain ⟨h1, h2⟩ := hv
    by_cases hl : lo < 0
    · clear h
      go_enter Try.func29, Try.ntmps29
      go_wp2_with (go_at_call 64; refine (valid1_yes _ _ _ HH.out (cell1 _ _ _ 0 (by decide))).mono ?_; rintro e w' ⟨rfl, rfl⟩)
      go_ret
      exact ⟨ret_i HS.out, (Gr.refl _).alloc _ _⟩
    · have hl2 : 32 - w < lo := by omega
      clear h
      go_enter Try.func29, Try.ntmps29
      go_wp2_with (go_at_call 64; refine (valid1_yes _ _ _ HH.out (cell1 _ _ _ 0 (by decide))).mono ?_; rintro e w' ⟨rfl, rfl⟩)
      go_ret
      exact ⟨ret_i HS.out, (Gr.refl _).alloc _ _⟩
  · have HH := Lib.hid hv
    clear hv h
    go_enter Try.func29, Try.ntmps29
    go_wp2_with (go_at_call 64; refine (valid1_no _ _ _ HH.out (cell1 _ _ _ 0 (by decide))).mono ?_; rintro e w' ⟨rfl, rfl⟩)
    go_ret
    exact ⟨ret_i HS.out, (Gr.refl _).alloc _ _⟩

theorem slice_yes_any (a lo w : Int) (W : World) (h0 : 0 ≤ a) (h1 : a < 4294967296) (hw1 : 1 ≤ w) (hw2 : w ≤ 32) (hl0 : 0 ≤ lo) (hl : lo ≤ 32 - w) :
    Calls Try.prog 29 #[.int .u32 a, .int .i64 lo, .int .i64 w] W (Ret (.int .u32 (sliceB a lo w)) W) := by
  have HS := Lib.hid (slice_in a lo w h0 h1 hw1 hw2 hl0 hl)
  have HH := Lib.hid (And.intro hw1 hw2)
  go_enter Try.func29, Try.ntmps29
  go_wp2_with (first | (go_at_call 64; refine (valid1_yes _ _ _ HH.out (cell1 _ _ _ 0 (by decide))).mono ?_; rintro e w' ⟨rfl, rfl⟩) | (go_at_call 15; refine (mask_any _ _).mono ?_; rintro e w' ⟨rfl, g⟩))
  go_region_with (go_at_call 15; refine (mask_any _ _).mono ?_; rintro e w' ⟨rfl, g⟩)
  all_goals go_wp2
  all_goals go_ret
  all_goals exact ⟨ret_i HS.out, grown_trans ((Gr.refl _).alloc _ _) (by assumption)⟩

theorem cat_no_any (a wa b wb : Int) (W : World) (h : ¬ ((1 ≤ wa ∧ wa ≤ 32) ∧ (1 ≤ wb ∧ wb ≤ 32) ∧ wa + wb ≤ 32)) :
    Calls Try.prog 35 #[.int .u32 a, .int .i64 wa, .int .u32 b, .int .i64 wb] W (Ret (.tuple #[.int .u32 (catB a wa b wb), .bool (catOk wa wb)]) W) := by
  have HS := Lib.hid (cat_out a wa b wb h)
  have HK := Lib.hid (catOk_out wa wb h)
  have HN := Lib.hid (cat_not wa wb h)
  clear h
  go_enter Try.func35, Try.ntmps35
  go_wp2_with (go_at_call 64; refine (valid3_any _ _ _ _ _ false HN.out (by simp [go_sem]) (by simp [go_sem]) (by simp [go_sem])).mono ?_; rintro e w' ⟨rfl, rfl⟩)
  go_ret2
  exact ⟨ret_ib HS.out HK.out, (Gr.refl _).alloc _ _⟩
theorem cat_yes_any (a wa b wb : Int) (W : World) (h0 : 0 ≤ a) (h1 : a < 4294967296) (k0 : 0 ≤ b) (k1 : b < 4294967296) (ha1 : 1 ≤ wa) (ha2 : wa ≤ 32) (hb1 : 1 ≤ wb) (hb2 : wb ≤ 32) (hs : wa + wb ≤ 32) :
    Calls Try.prog 35 #[.int .u32 a, .int .i64 wa, .int .u32 b, .int .i64 wb] W (Ret (.tuple #[.int .u32 (catB a wa b wb), .bool (catOk wa wb)]) W) := by
  have HN := Lib.hid (cat_yes wa wb ha1 ha2 hb1 hb2 hs)
  have HS := Lib.hid (cat_in a wa b wb h0 h1 k0 k1 ha1 ha2 hb1 hb2 hs)
  have HK := Lib.hid (catOk_in wa wb ha1 ha2 hb1 hb2 hs)
  go_enter Try.func35, Try.ntmps35
  go_wp2_with (go_at_call 64; refine (valid3_any _ _ _ _ _ true HN.out (by simp [go_sem]) (by simp [go_sem]) (by simp [go_sem])).mono ?_; rintro e w' ⟨rfl, rfl⟩)
  go_region_with (go_at_call 15; refine (mask_any _ _).mono ?_; rintro e w' ⟨rfl, g⟩)
  all_goals go_wp2
  all_goals go_ret2
  all_goals exact ⟨ret_ib HS.out HK.out, grown_trans ((Gr.refl _).alloc _ _) (grown_trans (by assumption) (by assumption))⟩
theorem plen_any (m w : Int) (W : World) (h0 : 0 ≤ m) (h1 : m < 4294967296) :
    Calls Try.prog 37 #[.int .u32 m, .int .i64 w] W (Ret (.tuple #[.int .i64 (plB m w), .bool (plOk m w)]) W) := by
  by_cases hv : 1 ≤ w ∧ w ≤ 32
  · have HH := Lib.hid hv
    by_cases hp : m = pmB (onesB m) w
    · have HS := Lib.hid (pl_in m w hv hp)
      have HE := Lib.hid (show (m != pmB (onesB m) w) = false by rw [← hp]; simp)
      clear hv hp
      go_enter Try.func37, Try.ntmps37
      go_wp2_with (first | (go_at_call 31; refine (ones_any _ _ h0 h1).mono ?_; rintro e w' ⟨rfl, rfl⟩) | (go_at_call 64; refine (valid1_yes _ _ _ HH.out (cell1 _ _ _ 0 (by decide))).mono ?_; rintro e w' ⟨rfl, rfl⟩) | (go_at_call 33; refine (pmask_any _ _ _).mono ?_; rintro e w' ⟨rfl, g⟩; have hx := HE.out))
      go_ret2
      exact ⟨ret_ib HS.out.1 HS.out.2, grown_trans ((Gr.refl _).alloc _ _) (by assumption)⟩
    · have HS := Lib.hid (pl_out m w (fun h => hp h.2))
      have HE := Lib.hid (show (m != pmB (onesB m) w) = true by simpa using hp)
      clear hv hp
      go_enter Try.func37, Try.ntmps37
      go_wp2_with (first | (go_at_call 31; refine (ones_any _ _ h0 h1).mono ?_; rintro e w' ⟨rfl, rfl⟩) | (go_at_call 64; refine (valid1_yes _ _ _ HH.out (cell1 _ _ _ 0 (by decide))).mono ?_; rintro e w' ⟨rfl, rfl⟩) | (go_at_call 33; refine (pmask_any _ _ _).mono ?_; rintro e w' ⟨rfl, g⟩; have hx := HE.out))
      go_ret2
      exact ⟨ret_ib HS.out.1 HS.out.2, grown_trans ((Gr.refl _).alloc _ _) (by assumption)⟩
  · have HH := Lib.hid hv
    have HS := Lib.hid (pl_out m w (fun h => hv h.1))
    clear hv
    go_enter Try.func37, Try.ntmps37
    go_wp2_with (first | (go_at_call 31; refine (ones_any _ _ h0 h1).mono ?_; rintro e w' ⟨rfl, rfl⟩) | (go_at_call 64; refine (valid1_no _ _ _ HH.out (cell1 _ _ _ 0 (by decide))).mono ?_; rintro e w' ⟨rfl, rfl⟩))
    go_ret2
    exact ⟨ret_ib HS.out.1 HS.out.2, (Gr.refl _).alloc _ _⟩
end Go.Proofs.Ytiphcknnljjanaa
