/- What functions of layer 1 do that others lean on: ones, prefix masks, their lengths, on both sides; no condition but that numbers are of their kind. -/
import Derived.Test.YtgdefahnmgonlaaBvR
import Derived.Test.YtgdefahnmgonlaaBvPureB
namespace Go.Proofs.Ytgdefahnmgonlaa
open Go.RowKit
set_option linter.unusedVariables false
theorem ones_any (a : Int) (W : World) (h0 : 0 ≤ a) (h1 : a < 4294967296) :
    Calls Try.prog 66 #[.int .u32 a] W fun e w' => e = .returned (.int .i64 (onesB a)) ∧ W = w' := by
  go_enter Try.func66, Try.ntmps66
  go_wp2
  go_loop [3, 5] (fun n i => ∃ k : Nat, k ≤ 32 ∧ n = .int .i64 (onesTo k a) ∧ i = .int .i64 k) (fun _ i => 32 - (intOf i).toNat)
  case atStart => exact ⟨0, Nat.zero_le _, rfl, rfl⟩
  case round =>
    obtain ⟨k, hk, rfl, rfl⟩ := hrel
    have hb := onesTo_range k a
    by_cases hlt : k < 32
    · go_wp2
      go_round
      case rel => exact ⟨k + 1, by omega, by rw [ones_step a k hlt h0 h1], by go_num⟩
      case measure => simp [intOf]; omega
    · go_wp2
      go_ret
      exact ⟨ret_i (by rw [show k = 32 by omega]; rfl), rfl⟩
theorem pmask_any (n w : Int) (W : World) :
    Calls Try.prog 85 #[.int .i64 n, .int .i64 w] W (Ret (.int .u32 (pmB n w)) W) := by
  by_cases h : 1 ≤ w ∧ w ≤ 32
  · obtain ⟨h1, h2⟩ := h
    by_cases hn : n < 0
    · go_enter Try.func85, Try.ntmps85
      go_wp2_with (go_at_call 73; refine (mask_any _ _).mono ?_; rintro e w' ⟨rfl, g⟩)
      go_ret
      exact ⟨ret_i (pm_neg n w h1 h2 hn), grown_trans (by assumption) (by assumption)⟩
    · by_cases hw : w < n
      · go_enter Try.func85, Try.ntmps85
        go_wp2_with (go_at_call 73; refine (mask_any _ _).mono ?_; rintro e w' ⟨rfl, g⟩)
        go_ret
        exact ⟨ret_i (pm_big n w h1 h2 hw), grown_trans (by assumption) (by assumption)⟩
      · go_enter Try.func85, Try.ntmps85
        go_wp2_with (go_at_call 73; refine (mask_any _ _).mono ?_; rintro e w' ⟨rfl, g⟩)
        go_ret
        exact ⟨ret_i (pm_mid n w h1 h2 (by omega) (by omega)), grown_trans (by assumption) (by assumption)⟩
  · have HH := Lib.hid h
    clear h
    go_enter Try.func85, Try.ntmps85
    go_wp2_with (go_at_call 73; refine (mask_any _ _).mono ?_; rintro e w' ⟨rfl, g⟩)
    all_goals go_ret
    all_goals exact ⟨ret_i (pm_out n w _ HH.out), grown_trans (by assumption) (by assumption)⟩


theorem plen_any (m w : Int) (W : World) (h0 : 0 ≤ m) (h1 : m < 4294967296) :
    Calls Try.prog 72 #[.int .u32 m, .int .i64 w] W (Ret (.tuple #[.int .i64 (plB m w), .bool (plOk m w)]) W) := by
  by_cases hv : 1 ≤ w ∧ w ≤ 32
  · have HH := Lib.hid hv
    by_cases hp : m = pmB (onesB m) w
    · have HS := Lib.hid (pl_in m w hv hp)
      have HE := Lib.hid (show (m != pmB (onesB m) w) = false by rw [← hp]; simp)
      clear hv hp
      go_enter Try.func72, Try.ntmps72
      go_wp2_with (first | (go_at_call 66; refine (ones_any _ _ h0 h1).mono ?_; rintro e w' ⟨rfl, rfl⟩) | (go_at_call 75; refine (valid1_yes _ _ _ HH.out (cell1 _ _ _ 0 (by decide))).mono ?_; rintro e w' ⟨rfl, rfl⟩) | (go_at_call 85; refine (pmask_any _ _ _).mono ?_; rintro e w' ⟨rfl, g⟩; have hx := HE.out))
      go_ret2
      exact ⟨ret_ib HS.out.1 HS.out.2, grown_trans ((Gr.refl _).alloc _ _) (by assumption)⟩
    · have HS := Lib.hid (pl_out m w (fun h => hp h.2))
      have HE := Lib.hid (show (m != pmB (onesB m) w) = true by simpa using hp)
      clear hv hp
      go_enter Try.func72, Try.ntmps72
      go_wp2_with (first | (go_at_call 66; refine (ones_any _ _ h0 h1).mono ?_; rintro e w' ⟨rfl, rfl⟩) | (go_at_call 75; refine (valid1_yes _ _ _ HH.out (cell1 _ _ _ 0 (by decide))).mono ?_; rintro e w' ⟨rfl, rfl⟩) | (go_at_call 85; refine (pmask_any _ _ _).mono ?_; rintro e w' ⟨rfl, g⟩; have hx := HE.out))
      go_ret2
      exact ⟨ret_ib HS.out.1 HS.out.2, grown_trans ((Gr.refl _).alloc _ _) (by assumption)⟩
  · have HH := Lib.hid hv
    have HS := Lib.hid (pl_out m w (fun h => hv h.1))
    clear hv
    go_enter Try.func72, Try.ntmps72
    go_wp2_with (first | (go_at_call 66; refine (ones_any _ _ h0 h1).mono ?_; rintro e w' ⟨rfl, rfl⟩) | (go_at_call 75; refine (valid1_no _ _ _ HH.out (cell1 _ _ _ 0 (by decide))).mono ?_; rintro e w' ⟨rfl, rfl⟩))
    go_ret2
    exact ⟨ret_ib HS.out.1 HS.out.2, (Gr.refl _).alloc _ _⟩


theorem rones_any (a : Int) (W : World) (h0 : 0 ≤ a) (h1 : a < 4294967296) :
    Calls Try.prog 67 #[.int .u32 a] W fun e w' => e = .returned (.int .i64 (onesB a)) ∧ W = w' := by
  go_enter Try.func67, Try.ntmps67
  go_wp2
  go_loop [0, 3, 4] (fun x n i => ∃ k : Nat, k ≤ 32 ∧ x = .int .u32 (a / 2 ^ k) ∧ n = .int .i64 (onesTo k a) ∧ i = .int .i64 k) (fun _ _ i => 32 - (intOf i).toNat)
  case atStart => exact ⟨0, by omega, by simp, rfl, rfl⟩
  case round =>
    obtain ⟨k, hk, rfl, rfl, rfl⟩ := hrel
    have hr := shr_range a k h0 h1
    have ho := onesTo_range k a
    have HX := Lib.hid (shr_next a k)
    by_cases hlt : k < 32
    · go_wp2
      go_round
      case rel => exact ⟨k + 1, by omega, by rw [HX.out], rfl, by go_num⟩
      case measure => simp [intOf]; omega
    · go_wp2
      go_ret
      exact ⟨ret_i (by rw [show k = 32 by omega]; rfl), rfl⟩
theorem rpmask_any (n w : Int) (W : World) :
    Calls Try.prog 79 #[.int .i64 n, .int .i64 w] W fun e w' => e = .returned (.int .u32 (pmB n w)) ∧ W = w' := by
  by_cases h : 1 ≤ w ∧ w ≤ 32
  · have HH := Lib.hid h
    have HS := Lib.hid (rpm_eq n w h)
    have hp := pw_pos w.toNat
    have hq := pw_le32 w h.2
    obtain ⟨h1, h2⟩ := h
    by_cases hn : n < 0
    · have HC := Lib.hid (show clampB n w = 0 by unfold clampB; omega)
      go_enter Try.func79, Try.ntmps79
      go_wp2_with (first | (go_at_call 78; refine (rvalid_yes _ _ HH.out).mono ?_; rintro e w' ⟨rfl, rfl⟩) | (go_at_call 80; refine (power_any _ _ (by omega) (by omega)).mono ?_; rintro e w' ⟨rfl, rfl⟩))
      go_ret
      exact ⟨ret_i (by rw [← HS.out, HC.out]; simp), rfl⟩
    · by_cases hw : w < n
      · have HC := Lib.hid (show clampB n w = w by unfold clampB; omega)
        have hl := pw_le 0 w.toNat (by omega)
        have hp0 := pw_pos 0
        go_enter Try.func79, Try.ntmps79
        go_wp2_with (first | (go_at_call 78; refine (rvalid_yes _ _ HH.out).mono ?_; rintro e w' ⟨rfl, rfl⟩) | (go_at_call 80; refine (power_any _ _ (by omega) (by omega)).mono ?_; rintro e w' ⟨rfl, rfl⟩))
        go_ret
        exact ⟨ret_i (by rw [← HS.out, HC.out]; simp), rfl⟩
      · have HC := Lib.hid (show clampB n w = n by unfold clampB; omega)
        have hl := pw_le (w - n).toNat w.toNat (by omega)
        have hp0 := pw_pos (w - n).toNat
        go_enter Try.func79, Try.ntmps79
        go_wp2_with (first | (go_at_call 78; refine (rvalid_yes _ _ HH.out).mono ?_; rintro e w' ⟨rfl, rfl⟩) | (go_at_call 80; refine (power_any _ _ (by omega) (by omega)).mono ?_; rintro e w' ⟨rfl, rfl⟩))
        go_ret
        exact ⟨ret_i (by rw [← HS.out, HC.out]), rfl⟩
  · have HH := Lib.hid h
    have HS := Lib.hid (pmB_out n w h)
    clear h
    go_enter Try.func79, Try.ntmps79
    go_wp2_with (go_at_call 78; refine (rvalid_no _ _ HH.out).mono ?_; rintro e w' ⟨rfl, rfl⟩)
    go_ret
    exact ⟨ret_i HS.out, rfl⟩
theorem rplen_any (m w : Int) (W : World) :
    Calls Try.prog 60 #[.int .u32 m, .int .i64 w] W fun e w' => e = .returned (.tuple #[.int .i64 (plB m w), .bool (plOk m w)]) ∧ W = w' := by
  by_cases h : 1 ≤ w ∧ w ≤ 32
  · have HH := Lib.hid h
    obtain ⟨h1, h2⟩ := h
    go_enter Try.func60, Try.ntmps60
    go_wp2_with fail
    go_loop [6] (fun i => ∃ k : Nat, k ≤ 33 ∧ (k : Int) ≤ w + 1 ∧ (∀ j : Nat, j < k → pmB j w ≠ m) ∧ i = .int .i64 k) (fun i => 33 - (intOf i).toNat)
    case atStart => exact ⟨0, by omega, by omega, fun j hj => absurd hj (Nat.not_lt_zero _), rfl⟩
    case round =>
      obtain ⟨k, hk, hkw, hno, rfl⟩ := hrel
      have HN := Lib.hid hno
      clear hno
      by_cases hlt : (k : Int) ≤ w
      · by_cases he : pmB k w = m
        · have HE := Lib.hid (show (pmB k w == m) = true by simpa using he)
          have HP := Lib.hid (pm_of_len k w HH.out (by omega) hlt m he)
          clear he
          go_wp2_with (first | (go_at_call 78; refine (rvalid_yes _ _ HH.out).mono ?_; rintro e w' ⟨rfl, rfl⟩) | (go_at_call 79; refine (rpmask_any _ _ _).mono ?_; rintro e w' ⟨rfl, rfl⟩; have hx := HE.out))
          go_ret2
          have hq := pl_in m w HH.out HP.out.1
          exact ⟨ret_ib (by rw [← hq.1, HP.out.2]) hq.2, rfl⟩
        · have HE := Lib.hid (show (pmB k w == m) = false by simpa using he)
          have HA := Lib.hid he
          clear he
          go_wp2_with (first | (go_at_call 78; refine (rvalid_yes _ _ HH.out).mono ?_; rintro e w' ⟨rfl, rfl⟩) | (go_at_call 79; refine (rpmask_any _ _ _).mono ?_; rintro e w' ⟨rfl, rfl⟩; have hx := HE.out))
          go_round
          case rel => exact ⟨k + 1, by omega, by omega, (by
            intro j hj
            by_cases ej : j = k
            · rw [ej]; exact HA.out
            · exact HN.out j (by omega)), by go_num⟩
          case measure => simp [intOf]; omega
      · have hp := pl_out m w (fun hh => by
          have hf := pl_found m w HH.out hh.2
          have hn := HN.out (onesB m).toNat (by omega)
          rw [show (((onesB m).toNat : Nat) : Int) = onesB m by omega] at hn
          exact hn hh.2.symm)
        have HP := Lib.hid hp
        clear hp
        go_wp2_with (go_at_call 78; refine (rvalid_yes _ _ HH.out).mono ?_; rintro e w' ⟨rfl, rfl⟩)
        go_ret2
        exact ⟨ret_ib HP.out.1 HP.out.2, rfl⟩
  · have HH := Lib.hid h
    have HP := Lib.hid (pl_out m w (fun hh => h hh.1))
    clear h
    go_enter Try.func60, Try.ntmps60
    go_wp2_with fail
    refine wp_loop_rounds 1 ?_
    rw [rounds_succ]
    go_wp2_with (go_at_call 78; refine (rvalid_no _ _ HH.out).mono ?_; rintro e w' ⟨rfl, rfl⟩)
    all_goals go_ret2
    all_goals exact ⟨ret_ib HP.out.1 HP.out.2, rfl⟩
end Go.Proofs.Ytgdefahnmgonlaa
