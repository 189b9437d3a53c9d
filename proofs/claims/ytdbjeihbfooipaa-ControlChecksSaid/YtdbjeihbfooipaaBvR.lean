/- What the functions of package patchbayref01 do: their walks; no condition but that numbers are of their kind. -/
import Derived.Test.YtdbjeihbfooipaaBvC
namespace Go.Proofs.Ytdbjeihbfooipaa
open Go.RowKit

theorem rvalid_any (w : Int) (W : World) : Calls Try.prog 179 #[.int .i64 w] W fun e w' => e = .returned (.bool (okW w)) ∧ W = w' := by
  by_cases h1 : 1 ≤ w
  · by_cases h2 : w ≤ 32
    · have HS := Lib.hid (show true = okW w by simp [okW, h1, h2])
      go_enter Try.func179, Try.ntmps179
      go_wp2
      go_ret
      exact ⟨ret_b HS.out, rfl⟩
    · have HS := Lib.hid (show false = okW w by simp [okW, h2])
      go_enter Try.func179, Try.ntmps179
      go_wp2
      go_ret
      exact ⟨ret_b HS.out, rfl⟩
  · have HS := Lib.hid (show false = okW w by simp [okW, h1])
    go_enter Try.func179, Try.ntmps179
    go_wp2
    go_ret
    exact ⟨ret_b HS.out, rfl⟩
theorem rvalid_yes (w : Int) (W : World) (h : 1 ≤ w ∧ w ≤ 32) : Calls Try.prog 179 #[.int .i64 w] W fun e w' => e = .returned (.bool true) ∧ W = w' :=
  (rvalid_any w W).mono (by rintro e w' ⟨rfl, rfl⟩; exact ⟨ret_b (by simp [okW, h]), rfl⟩)
theorem rvalid_no (w : Int) (W : World) (h : ¬ (1 ≤ w ∧ w ≤ 32)) : Calls Try.prog 179 #[.int .i64 w] W fun e w' => e = .returned (.bool false) ∧ W = w' :=
  (rvalid_any w W).mono (by rintro e w' ⟨rfl, rfl⟩; exact ⟨ret_b (decide_eq_false h), rfl⟩)

theorem power_any (n : Int) (W : World) (h0 : 0 ≤ n) (h1 : n ≤ 63) : Calls Try.prog 180 #[.int .i64 n] W fun e w' => e = .returned (.int .u64 (pw n.toNat)) ∧ W = w' := by
  go_enter Try.func180, Try.ntmps180
  go_wp2
  go_loop [3, 4] (fun x i => ∃ k : Nat, k ≤ n.toNat ∧ x = .int .u64 (pw k) ∧ i = .int .i64 k) (fun _ i => n.toNat - (intOf i).toNat)
  case atStart => exact ⟨0, Nat.zero_le _, rfl, rfl⟩
  case round =>
    obtain ⟨k, hk, rfl, rfl⟩ := hrel
    have hp := pw_pos k
    by_cases hlt : (k : Int) < n
    · have hb := pw_le62 k (by omega)
      go_wp2
      go_round
      case rel => exact ⟨k + 1, by omega, by rw [pw_succ], by go_num⟩
      case measure => simp [intOf]; omega
    · go_wp2
      go_ret
      exact ⟨ret_i (by rw [show k = n.toNat by omega]), rfl⟩

theorem rmask_any (w : Int) (W : World) : Calls Try.prog 171 #[.int .i64 w] W fun e w' => e = .returned (.int .u32 (mkB w)) ∧ W = w' := by
  by_cases h : 1 ≤ w ∧ w ≤ 32
  · have HH := Lib.hid h
    have HS := Lib.hid (show pw w.toNat - 1 = mkB w by rw [mkB_in w h]; rfl)
    obtain ⟨h1, h2⟩ := h
    have hp := pw_pos w.toNat
    have hq := pw_le32 w h2
    go_enter Try.func171, Try.ntmps171
    go_wp2_with (first | (go_at_call 179; refine (rvalid_yes _ _ HH.out).mono ?_; rintro e w' ⟨rfl, rfl⟩) | (go_at_call 180; refine (power_any _ _ (by omega) (by omega)).mono ?_; rintro e w' ⟨rfl, rfl⟩))
    go_ret
    exact ⟨ret_i HS.out, rfl⟩
  · have HH := Lib.hid h
    have HS := Lib.hid (mkB_out w h)
    clear h
    go_enter Try.func171, Try.ntmps171
    go_wp2_with (go_at_call 179; refine (rvalid_no _ _ HH.out).mono ?_; rintro e w' ⟨rfl, rfl⟩)
    go_ret
    exact ⟨ret_i HS.out.symm, rfl⟩
end Go.Proofs.Ytdbjeihbfooipaa
