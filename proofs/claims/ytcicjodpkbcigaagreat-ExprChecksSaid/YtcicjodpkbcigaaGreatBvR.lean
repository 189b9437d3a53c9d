/- What the functions of package patchbayref01 do: their walks; no condition but that numbers are of their kind. -/
import Derived.Test.YtcicjodpkbcigaaGreatBvC
namespace Go.Proofs.YtcicjodpkbcigaaGreat
open Go.RowKit

theorem rvalid_any (w : Int) (W : World) : Calls Tryz.prog 74 #[.int .i64 w] W fun e w' => e = .returned (.bool (okW w)) ∧ W = w' := by
  by_cases h1 : 1 ≤ w
  · by_cases h2 : w ≤ 32
    · have HS := Lib.hid (show true = okW w by simp [okW, h1, h2])
      go_enter Tryz.func74, Tryz.ntmps74
      go_wp2
      go_ret
      exact ⟨ret_b HS.out, rfl⟩
    · have HS := Lib.hid (show false = okW w by simp [okW, h2])
      go_enter Tryz.func74, Tryz.ntmps74
      go_wp2
      go_ret
      exact ⟨ret_b HS.out, rfl⟩
  · have HS := Lib.hid (show false = okW w by simp [okW, h1])
    go_enter Tryz.func74, Tryz.ntmps74
    go_wp2
    go_ret
    exact ⟨ret_b HS.out, rfl⟩
theorem rvalid_yes (w : Int) (W : World) (h : 1 ≤ w ∧ w ≤ 32) : Calls Tryz.prog 74 #[.int .i64 w] W fun e w' => e = .returned (.bool true) ∧ W = w' :=
  (rvalid_any w W).mono (by rintro e w' ⟨rfl, rfl⟩; exact ⟨ret_b (by simp [okW, h]), rfl⟩)
theorem rvalid_no (w : Int) (W : World) (h : ¬ (1 ≤ w ∧ w ≤ 32)) : Calls Tryz.prog 74 #[.int .i64 w] W fun e w' => e = .returned (.bool false) ∧ W = w' :=
  (rvalid_any w W).mono (by rintro e w' ⟨rfl, rfl⟩; exact ⟨ret_b (decide_eq_false h), rfl⟩)

theorem power_any (n : Int) (W : World) (h0 : 0 ≤ n) (h1 : n ≤ 63) : Calls Tryz.prog 75 #[.int .i64 n] W fun e w' => e = .returned (.int .u64 (pw n.toNat)) ∧ W = w' := by
  go_enter Tryz.func75, Tryz.ntmps75
  go_wp2
  go_loop [3, 4] (fun x i => ∃ k : Nat, k ≤ n.toNat ∧ x = .int .u64 (pw k) ∧ i = .int .i64 k) (fun _ i => n.toNat - (intOf i).toNat)
  case atStart => exact ⟨0, Nat.zero_le _, rfl, rfl⟩
  case round =>
    obtain ⟨k, hk, rfl, rfl⟩ := hrel
    have hp := pw_pos k
    by_cases hlt : (k : Int) < n
    · have hb := pw_le62 k (by omega)
      go_wp2
      go_round
      case rel => exact ⟨k + 1, by omega, by rw [pw_succ], by go_num⟩
      case measure => simp [intOf]; omega
    · go_wp2
      go_ret
      exact ⟨ret_i (by rw [show k = n.toNat by omega]), rfl⟩

theorem rmask_any (w : Int) (W : World) : Calls Tryz.prog 52 #[.int .i64 w] W fun e w' => e = .returned (.int .u32 (mkB w)) ∧ W = w' := by
  by_cases h : 1 ≤ w ∧ w ≤ 32
  · have HH := Lib.hid h
    have HS := Lib.hid (show pw w.toNat - 1 = mkB w by rw [mkB_in w h]; rfl)
    obtain ⟨h1, h2⟩ := h
    have hp := pw_pos w.toNat
    have hq := pw_le32 w h2
    go_enter Tryz.func52, Tryz.ntmps52
    go_wp2_with (first | (go_at_call 74; refine (rvalid_yes _ _ HH.out).mono ?_; rintro e w' ⟨rfl, rfl⟩) | (go_at_call 75; refine (power_any _ _ (by omega) (by omega)).mono ?_; rintro e w' ⟨rfl, rfl⟩))
    go_ret
    exact ⟨ret_i HS.out, rfl⟩
  · have HH := Lib.hid h
    have HS := Lib.hid (mkB_out w h)
    clear h
    go_enter Tryz.func52, Tryz.ntmps52
    go_wp2_with (go_at_call 74; refine (rvalid_no _ _ HH.out).mono ?_; rintro e w' ⟨rfl, rfl⟩)
    go_ret
    exact ⟨ret_i HS.out.symm, rfl⟩
theorem reduce_any (a w : Int) (W : World) (k0 : 0 ≤ a) (k1 : a ≤ 18446744073709551615) : Calls Tryz.prog 43 #[.int .u64 a, .int .i64 w] W fun e w' => e = .returned (.int .u32 (redB a w)) ∧ W = w' := by
  by_cases h : 1 ≤ w ∧ w ≤ 32
  · have HH := Lib.hid h
    have HS := Lib.hid (show a % pw w.toNat = redB a w by rw [redB_in a w h]; rfl)
    have hr := redB_range a w
    obtain ⟨h1, h2⟩ := h
    have hp := pw_pos w.toNat
    go_enter Tryz.func43, Tryz.ntmps43
    go_wp2_with (first | (go_at_call 74; refine (rvalid_yes _ _ HH.out).mono ?_; rintro e w' ⟨rfl, rfl⟩) | (go_at_call 75; refine (power_any _ _ (by omega) (by omega)).mono ?_; rintro e w' ⟨rfl, rfl⟩))
    go_ret
    exact ⟨ret_i (by rw [HS.out]; exact Int.emod_eq_of_lt hr.1 (by omega)), rfl⟩
  · have HH := Lib.hid h
    have HS := Lib.hid (redB_out a w h)
    clear h
    go_enter Tryz.func43, Tryz.ntmps43
    go_wp2_with (go_at_call 74; refine (rvalid_no _ _ HH.out).mono ?_; rintro e w' ⟨rfl, rfl⟩)
    go_ret
    exact ⟨ret_i HS.out.symm, rfl⟩
end Go.Proofs.YtcicjodpkbcigaaGreat
