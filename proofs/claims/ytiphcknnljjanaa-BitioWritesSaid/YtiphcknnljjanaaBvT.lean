/- What the functions of package patchbayref01 do: their walks, third part; no condition but that numbers are of their kind. -/
import Derived.Test.YtiphcknnljjanaaBvS
namespace Go.Proofs.Ytiphcknnljjanaa
open Go.RowKit

theorem rones_any (a : Int) (W : World) (h0 : 0 ≤ a) (h1 : a < 4294967296) :
    Calls Try.prog 32 #[.int .u32 a] W fun e w' => e = .returned (.int .i64 (onesB a)) ∧ W = w' := by
  go_enter Try.func32, Try.ntmps32
  go_wp2
  go_loop [0, 3, 4] (fun x n i => ∃ k : Nat, k ≤ 32 ∧ x = .int .u32 (a / 2 ^ k) ∧ n = .int .i64 (onesTo k a) ∧ i = .int .i64 k) (fun _ _ i => 32 - (intOf i).toNat)
  case atStart => exact ⟨0, by omega, by simp, rfl, rfl⟩
  case round =>
    obtain ⟨k, hk, rfl, rfl, rfl⟩ := hrel
    have hr := shr_range a k h0 h1
    have ho := onesTo_range k a
    have HX := Lib.hid (shr_next a k)
    by_cases hlt : k < 32
    · go_wp2
      go_round
      case rel => exact ⟨k + 1, by omega, by rw [HX.out], rfl, by go_num⟩
      case measure => simp [intOf]; omega
    · go_wp2
      go_ret
      exact ⟨ret_i (by rw [show k = 32 by omega]; rfl), rfl⟩
theorem rpmask_any (n w : Int) (W : World) :
    Calls Try.prog 34 #[.int .i64 n, .int .i64 w] W fun e w' => e = .returned (.int .u32 (pmB n w)) ∧ W = w' := by
  by_cases h : 1 ≤ w ∧ w ≤ 32
  · have HH := Lib.hid h
    have HS := Lib.hid (rpm_eq n w h)
    have hp := pw_pos w.toNat
    have hq := pw_le32 w h.2
    obtain ⟨h1, h2⟩ := h
    by_cases hn : n < 0
    · have HC := Lib.hid (show clampB n w = 0 by unfold clampB; omega)
      go_enter Try.func34, Try.ntmps34
      go_wp2_with (first | (go_at_call 65; refine (rvalid_yes _ _ HH.out).mono ?_; rintro e w' ⟨rfl, rfl⟩) | (go_at_call 66; refine (power_any _ _ (by omega) (by omega)).mono ?_; rintro e w' ⟨rfl, rfl⟩))
      go_ret
      exact ⟨ret_i (by rw [← HS.out, HC.out]; simp), rfl⟩
    · by_cases hw : w < n
      · have HC := Lib.hid (show clampB n w = w by unfold clampB; omega)
        have hl := pw_le 0 w.toNat (by omega)
        have hp0 := pw_pos 0
        go_enter Try.func34, Try.ntmps34
        go_wp2_with (first | (go_at_call 65; refine (rvalid_yes _ _ HH.out).mono ?_; rintro e w' ⟨rfl, rfl⟩) | (go_at_call 66; refine (power_any _ _ (by omega) (by omega)).mono ?_; rintro e w' ⟨rfl, rfl⟩))
        go_ret
        exact ⟨ret_i (by rw [← HS.out, HC.out]; simp), rfl⟩
      · have HC := Lib.hid (show clampB n w = n by unfold clampB; omega)
        have hl := pw_le (w - n).toNat w.toNat (by omega)
        have hp0 := pw_pos (w - n).toNat
        go_enter Try.func34, Try.ntmps34
        go_wp2_with (first | (go_at_call 65; refine (rvalid_yes _ _ HH.out).mono ?_; rintro e w' ⟨rfl, rfl⟩) | (go_at_call 66; refine (power_any _ _ (by omega) (by omega)).mono ?_; rintro e w' ⟨rfl, rfl⟩))
        go_ret
        exact ⟨ret_i (by rw [← HS.out, HC.out]), rfl⟩
  · have HH := Lib.hid h
    have HS := Lib.hid (pmB_out n w h)
    clear h
    go_enter Try.func34, Try.ntmps34
    go_wp2_with (go_at_call 65; refine (rvalid_no _ _ HH.out).mono ?_; rintro e w' ⟨rfl, rfl⟩)
    go_ret
    exact ⟨ret_i HS.out, rfl⟩
theorem rcat_any (a wa b wb : Int) (W : World) (h0 : 0 ≤ a) (h1 : a < 4294967296) (k0 : 0 ≤ b) (k1 : b < 4294967296) :
    Calls Try.prog 36 #[.int .u32 a, .int .i64 wa, .int .u32 b, .int .i64 wb] W fun e w' => e = .returned (.tuple #[.int .u32 (catB a wa b wb), .bool (catOk wa wb)]) ∧ W = w' := by
  by_cases ha : 1 ≤ wa ∧ wa ≤ 32
  · have HA := Lib.hid ha
    obtain ⟨ha1, ha2⟩ := ha
    by_cases hb : 1 ≤ wb ∧ wb ≤ 32
    · have HB := Lib.hid hb
      obtain ⟨hb1, hb2⟩ := hb
      by_cases hs : wa + wb ≤ 32
      · have HK := Lib.hid (catOk_in wa wb ha1 ha2 hb1 hb2 hs)
        obtain ⟨s1, s2, s3, s4⟩ := rcat_bd a wa b wb ha1 ha2 hb1 hb2 hs
        have HS := Lib.hid s4
        clear s4
        have r1 := redB_range a wa
        have r2 := redB_range b wb
        have p1 := pw_pos wb.toNat
        go_enter Try.func36, Try.ntmps36
        go_wp2_with (first | (go_at_call 65; refine (rvalid_yes _ _ ?_).mono ?_; (first | exact HA.out | exact HB.out); rintro e w' ⟨rfl, rfl⟩) | (go_at_call 66; refine (power_any _ _ (by omega) (by omega)).mono ?_; rintro e w' ⟨rfl, rfl⟩) | (go_at_call 67; refine (reduce_any _ _ _ (by omega) (by omega)).mono ?_; rintro e w' ⟨rfl, rfl⟩))
        go_ret2
        exact ⟨ret_ib HS.out HK.out, rfl⟩
      · have hn : ¬ ((1 ≤ wa ∧ wa ≤ 32) ∧ (1 ≤ wb ∧ wb ≤ 32) ∧ wa + wb ≤ 32) := by omega
        have HS := Lib.hid (cat_out a wa b wb hn)
        have HK := Lib.hid (catOk_out wa wb hn)
        clear hn
        go_enter Try.func36, Try.ntmps36
        go_wp2_with (go_at_call 65; refine (rvalid_yes _ _ ?_).mono ?_; (first | exact HA.out | exact HB.out); rintro e w' ⟨rfl, rfl⟩)
        go_ret2
        exact ⟨ret_ib HS.out HK.out, rfl⟩
    · have hn : ¬ ((1 ≤ wa ∧ wa ≤ 32) ∧ (1 ≤ wb ∧ wb ≤ 32) ∧ wa + wb ≤ 32) := by omega
      have HS := Lib.hid (cat_out a wa b wb hn)
      have HK := Lib.hid (catOk_out wa wb hn)
      have HB := Lib.hid hb
      clear hn hb
      go_enter Try.func36, Try.ntmps36
      go_wp2_with fail
      refine (rvalid_yes _ _ HA.out).mono ?_
      rintro e w' ⟨rfl, rfl⟩
      go_wp2_with fail
      refine (rvalid_no _ _ HB.out).mono ?_
      rintro e w' ⟨rfl, rfl⟩
      go_wp2
      go_ret2
      exact ⟨ret_ib HS.out HK.out, rfl⟩
  · have hn : ¬ ((1 ≤ wa ∧ wa ≤ 32) ∧ (1 ≤ wb ∧ wb ≤ 32) ∧ wa + wb ≤ 32) := by omega
    have HS := Lib.hid (cat_out a wa b wb hn)
    have HK := Lib.hid (catOk_out wa wb hn)
    have HA := Lib.hid ha
    clear hn ha
    go_enter Try.func36, Try.ntmps36
    go_wp2_with fail
    refine (rvalid_no _ _ HA.out).mono ?_
    rintro e w' ⟨rfl, rfl⟩
    go_wp2
    go_ret2
    exact ⟨ret_ib HS.out HK.out, rfl⟩
theorem rplen_any (m w : Int) (W : World) :
    Calls Try.prog 38 #[.int .u32 m, .int .i64 w] W fun e w' => e = .returned (.tuple #[.int .i64 (plB m w), .bool (plOk m w)]) ∧ W = w' := by
  by_cases h : 1 ≤ w ∧ w ≤ 32
  · have HH := Lib.hid h
    obtain ⟨h1, h2⟩ := h
    go_enter Try.func38, Try.ntmps38
    go_wp2_with fail
    go_loop [6] (fun i => ∃ k : Nat, k ≤ 33 ∧ (k : Int) ≤ w + 1 ∧ (∀ j : Nat, j < k → pmB j w ≠ m) ∧ i = .int .i64 k) (fun i => 33 - (intOf i).toNat)
    case atStart => exact ⟨0, by omega, by omega, fun j hj => absurd hj (Nat.not_lt_zero _), rfl⟩
    case round =>
      obtain ⟨k, hk, hkw, hno, rfl⟩ := hrel
      have HN := Lib.hid hno
      clear hno
      by_cases hlt : (k : Int) ≤ w
      · by_cases he : pmB k w = m
        · have HE := Lib.hid (show (pmB k w == m) = true by simpa using he)
          have HP := Lib.hid (pm_of_len k w HH.out (by omega) hlt m he)
          clear he
          go_wp2_with (first | (go_at_call 65; refine (rvalid_yes _ _ HH.out).mono ?_; rintro e w' ⟨rfl, rfl⟩) | (go_at_call 34; refine (rpmask_any _ _ _).mono ?_; rintro e w' ⟨rfl, rfl⟩; have hx := HE.out))
          go_ret2
          have hq := pl_in m w HH.out HP.out.1
          exact ⟨ret_ib (by rw [← hq.1, HP.out.2]) hq.2, rfl⟩
        · have HE := Lib.hid (show (pmB k w == m) = false by simpa using he)
          have HA := Lib.hid he
          clear he
          go_wp2_with (first | (go_at_call 65; refine (rvalid_yes _ _ HH.out).mono ?_; rintro e w' ⟨rfl, rfl⟩) | (go_at_call 34; refine (rpmask_any _ _ _).mono ?_; rintro e w' ⟨rfl, rfl⟩; have hx := HE.out))
          go_round
          case rel => exact ⟨k + 1, by omega, by omega, (by
            intro j hj
            by_cases ej : j = k
            · rw [ej]; exact HA.out
            · exact HN.out j (by omega)), by go_num⟩
          case measure => simp [intOf]; omega
      · have hp := pl_out m w (fun hh => by
          have hf := pl_found m w HH.out hh.2
          have hn := HN.out (onesB m).toNat (by omega)
          rw [show (((onesB m).toNat : Nat) : Int) = onesB m by omega] at hn
          exact hn hh.2.symm)
        have HP := Lib.hid hp
        clear hp
        go_wp2_with (go_at_call 65; refine (rvalid_yes _ _ HH.out).mono ?_; rintro e w' ⟨rfl, rfl⟩)
        go_ret2
        exact ⟨ret_ib HP.out.1 HP.out.2, rfl⟩
  · have HH := Lib.hid h
    have HP := Lib.hid (pl_out m w (fun hh => h hh.1))
    clear h
    go_enter Try.func38, Try.ntmps38
    go_wp2_with fail
    refine wp_loop_rounds 1 ?_
    rw [rounds_succ]
    go_wp2_with (go_at_call 65; refine (rvalid_no _ _ HH.out).mono ?_; rintro e w' ⟨rfl, rfl⟩)
    all_goals go_ret2
    all_goals exact ⟨ret_ib HP.out.1 HP.out.2, rfl⟩
end Go.Proofs.Ytiphcknnljjanaa
