/- What the functions of package bitvec do: their walks, third part: Slice, Concat, PrefixLen; no condition but that a uint32 is one. -/
import Derived.Test.YtidjggaffioekaaBvB
namespace Go.Proofs.Ytidjggaffioekaa
open Go.RowKit

theorem slice_no_any (a lo w : Int) (W : World) (h : ¬ ((1 ≤ w ∧ w ≤ 32) ∧ 0 ≤ lo ∧ lo ≤ 32 - w)) :
    Calls Try.prog 47 #[.int .u32 a, .int .i64 lo, .int .i64 w] W (Ret (.int .u32 (sliceB a lo w)) W) := by
  have HS := Lib.hid (slice_out a lo w h)
  by_cases hv : 1 ≤ w ∧ w ≤ 32
  · have HH := Lib.hid hv
    obtain ⟨h1, h2⟩ := hv
    by_cases hl : lo < 0
    · clear h
      go_enter Try.func47, Try.ntmps47
      go_wp2_with (go_at_call 36; refine (valid1_yes _ _ _ HH.out (cell1 _ _ _ 0 (by decide))).mono ?_; rintro e w' ⟨rfl, rfl⟩)
      go_ret
      exact ⟨ret_i HS.out, (Gr.refl _).alloc _ _⟩
    · have hl2 : 32 - w < lo := by omega
      clear h
      go_enter Try.func47, Try.ntmps47
      go_wp2_with (go_at_call 36; refine (valid1_yes _ _ _ HH.out (cell1 _ _ _ 0 (by decide))).mono ?_; rintro e w' ⟨rfl, rfl⟩)
      go_ret
      exact ⟨ret_i HS.out, (Gr.refl _).alloc _ _⟩
  · have HH := Lib.hid hv
    clear hv h
    go_enter Try.func47, Try.ntmps47
    go_wp2_with (go_at_call 36; refine (valid1_no _ _ _ HH.out (cell1 _ _ _ 0 (by decide))).mono ?_; rintro e w' ⟨rfl, rfl⟩)
    go_ret
    exact ⟨ret_i HS.out, (Gr.refl _).alloc _ _⟩

theorem slice_yes_any (a lo w : Int) (W : World) (h0 : 0 ≤ a) (h1 : a < 4294967296) (hw1 : 1 ≤ w) (hw2 : w ≤ 32) (hl0 : 0 ≤ lo) (hl : lo ≤ 32 - w) :
    Calls Try.prog 47 #[.int .u32 a, .int .i64 lo, .int .i64 w] W (Ret (.int .u32 (sliceB a lo w)) W) := by
  have HS := Lib.hid (slice_in a lo w h0 h1 hw1 hw2 hl0 hl)
  have HH := Lib.hid (And.intro hw1 hw2)
  go_enter Try.func47, Try.ntmps47
  go_wp2_with (first | (go_at_call 36; refine (valid1_yes _ _ _ HH.out (cell1 _ _ _ 0 (by decide))).mono ?_; rintro e w' ⟨rfl, rfl⟩) | (go_at_call 37; refine (mask_any _ _).mono ?_; rintro e w' ⟨rfl, g⟩))
  go_region_with (go_at_call 37; refine (mask_any _ _).mono ?_; rintro e w' ⟨rfl, g⟩)
  all_goals go_wp2
  all_goals go_ret
  all_goals exact ⟨ret_i HS.out, grown_trans ((Gr.refl _).alloc _ _) (by assumption)⟩

end Go.Proofs.Ytidjggaffioekaa
