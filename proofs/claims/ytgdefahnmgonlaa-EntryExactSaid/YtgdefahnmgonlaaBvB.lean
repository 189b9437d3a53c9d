/- What the functions of package bitvec do: their walks, second part; no condition but that a uint32 is one. -/
import Derived.Test.YtgdefahnmgonlaaBvA
import Derived.Deep.RegionWith
namespace Go.Proofs.Ytgdefahnmgonlaa
open Go.RowKit

theorem grown_undrew {a b : World} (h : Gr a.drew b) : Gr a b := h

theorem fits_any (v w : Int) (W : World) :
    Calls Try.prog 54 #[.int .u32 v, .int .i64 w] W (Ret (.bool (fitsB v w)) W) := by
  by_cases h : 1 ≤ w ∧ w ≤ 32
  · have HH := Lib.hid h
    have HF := Lib.hid (fits_in v w h)
    clear h
    go_enter Try.func54, Try.ntmps54
    go_wp2_with (first | (go_at_call 75; refine (valid1_yes _ _ _ HH.out (cell1 _ _ _ 0 (by decide))).mono ?_; rintro e w' ⟨rfl, rfl⟩) | (go_at_call 73; refine (mask_any _ _).mono ?_; rintro e w' ⟨rfl, g⟩))
    go_ret
    exact ⟨ret_b HF.out, grown_trans ((Gr.refl _).alloc _ _) g⟩
  · have HH := Lib.hid h
    have HF := Lib.hid (fits_out v w h)
    clear h
    go_enter Try.func54, Try.ntmps54
    go_wp2_with (go_at_call 75; refine (valid1_no _ _ _ HH.out (cell1 _ _ _ 0 (by decide))).mono ?_; rintro e w' ⟨rfl, rfl⟩)
    go_ret
    exact ⟨ret_b HF.out, (Gr.refl _).alloc _ _⟩

end Go.Proofs.Ytgdefahnmgonlaa
