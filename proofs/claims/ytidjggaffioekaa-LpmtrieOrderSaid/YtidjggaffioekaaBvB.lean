/- What the functions of package bitvec do: their walks, second part; no condition but that a uint32 is one. -/
import Derived.Test.YtidjggaffioekaaBvA
import Derived.Deep.RegionWith
namespace Go.Proofs.Ytidjggaffioekaa
open Go.RowKit

theorem grown_undrew {a b : World} (h : Gr a.drew b) : Gr a b := h

theorem fits_any (v w : Int) (W : World) :
    Calls Try.prog 22 #[.int .u32 v, .int .i64 w] W (Ret (.bool (fitsB v w)) W) := by
  by_cases h : 1 ≤ w ∧ w ≤ 32
  · have HH := Lib.hid h
    have HF := Lib.hid (fits_in v w h)
    clear h
    go_enter Try.func22, Try.ntmps22
    go_wp2_with (first | (go_at_call 36; refine (valid1_yes _ _ _ HH.out (cell1 _ _ _ 0 (by decide))).mono ?_; rintro e w' ⟨rfl, rfl⟩) | (go_at_call 37; refine (mask_any _ _).mono ?_; rintro e w' ⟨rfl, g⟩))
    go_ret
    exact ⟨ret_b HF.out, grown_trans ((Gr.refl _).alloc _ _) g⟩
  · have HH := Lib.hid h
    have HF := Lib.hid (fits_out v w h)
    clear h
    go_enter Try.func22, Try.ntmps22
    go_wp2_with (go_at_call 36; refine (valid1_no _ _ _ HH.out (cell1 _ _ _ 0 (by decide))).mono ?_; rintro e w' ⟨rfl, rfl⟩)
    go_ret
    exact ⟨ret_b HF.out, (Gr.refl _).alloc _ _⟩

theorem pmask_any (n w : Int) (W : World) :
    Calls Try.prog 40 #[.int .i64 n, .int .i64 w] W (Ret (.int .u32 (pmB n w)) W) := by
  by_cases h : 1 ≤ w ∧ w ≤ 32
  · obtain ⟨h1, h2⟩ := h
    by_cases hn : n < 0
    · go_enter Try.func40, Try.ntmps40
      go_wp2_with (go_at_call 37; refine (mask_any _ _).mono ?_; rintro e w' ⟨rfl, g⟩)
      go_ret
      exact ⟨ret_i (pm_neg n w h1 h2 hn), grown_trans (by assumption) (by assumption)⟩
    · by_cases hw : w < n
      · go_enter Try.func40, Try.ntmps40
        go_wp2_with (go_at_call 37; refine (mask_any _ _).mono ?_; rintro e w' ⟨rfl, g⟩)
        go_ret
        exact ⟨ret_i (pm_big n w h1 h2 hw), grown_trans (by assumption) (by assumption)⟩
      · go_enter Try.func40, Try.ntmps40
        go_wp2_with (go_at_call 37; refine (mask_any _ _).mono ?_; rintro e w' ⟨rfl, g⟩)
        go_ret
        exact ⟨ret_i (pm_mid n w h1 h2 (by omega) (by omega)), grown_trans (by assumption) (by assumption)⟩
  · have HH := Lib.hid h
    clear h
    go_enter Try.func40, Try.ntmps40
    go_wp2_with (go_at_call 37; refine (mask_any _ _).mono ?_; rintro e w' ⟨rfl, g⟩)
    all_goals go_ret
    all_goals exact ⟨ret_i (pm_out n w _ HH.out), grown_trans (by assumption) (by assumption)⟩
end Go.Proofs.Ytidjggaffioekaa
