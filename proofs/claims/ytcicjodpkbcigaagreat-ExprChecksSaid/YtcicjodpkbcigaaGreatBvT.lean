/- What the functions of package patchbayref01 do: their walks, third part; no condition but that numbers are of their kind. -/
import Derived.Test.YtcicjodpkbcigaaGreatBvS
namespace Go.Proofs.YtcicjodpkbcigaaGreat
open Go.RowKit

theorem rcat_any (a wa b wb : Int) (W : World) (h0 : 0 ≤ a) (h1 : a < 4294967296) (k0 : 0 ≤ b) (k1 : b < 4294967296) :
    Calls Tryz.prog 84 #[.int .u32 a, .int .i64 wa, .int .u32 b, .int .i64 wb] W fun e w' => e = .returned (.tuple #[.int .u32 (catB a wa b wb), .bool (catOk wa wb)]) ∧ W = w' := by
  by_cases ha : 1 ≤ wa ∧ wa ≤ 32
  · have HA := Lib.hid ha
    obtain ⟨ha1, ha2⟩ := ha
    by_cases hb : 1 ≤ wb ∧ wb ≤ 32
    · have HB := Lib.hid hb
      obtain ⟨hb1, hb2⟩ := hb
      by_cases hs : wa + wb ≤ 32
      · have HK := Lib.hid (catOk_in wa wb ha1 ha2 hb1 hb2 hs)
        obtain ⟨s1, s2, s3, s4⟩ := rcat_bd a wa b wb ha1 ha2 hb1 hb2 hs
        have HS := Lib.hid s4
        clear s4
        have r1 := redB_range a wa
        have r2 := redB_range b wb
        have p1 := pw_pos wb.toNat
        go_enter Tryz.func84, Tryz.ntmps84
        go_wp2_with (first | (go_at_call 74; refine (rvalid_yes _ _ ?_).mono ?_; (first | exact HA.out | exact HB.out); rintro e w' ⟨rfl, rfl⟩) | (go_at_call 75; refine (power_any _ _ (by omega) (by omega)).mono ?_; rintro e w' ⟨rfl, rfl⟩) | (go_at_call 43; refine (reduce_any _ _ _ (by omega) (by omega)).mono ?_; rintro e w' ⟨rfl, rfl⟩))
        go_ret2
        exact ⟨ret_ib HS.out HK.out, rfl⟩
      · have hn : ¬ ((1 ≤ wa ∧ wa ≤ 32) ∧ (1 ≤ wb ∧ wb ≤ 32) ∧ wa + wb ≤ 32) := by omega
        have HS := Lib.hid (cat_out a wa b wb hn)
        have HK := Lib.hid (catOk_out wa wb hn)
        clear hn
        go_enter Tryz.func84, Tryz.ntmps84
        go_wp2_with (go_at_call 74; refine (rvalid_yes _ _ ?_).mono ?_; (first | exact HA.out | exact HB.out); rintro e w' ⟨rfl, rfl⟩)
        go_ret2
        exact ⟨ret_ib HS.out HK.out, rfl⟩
    · have hn : ¬ ((1 ≤ wa ∧ wa ≤ 32) ∧ (1 ≤ wb ∧ wb ≤ 32) ∧ wa + wb ≤ 32) := by omega
      have HS := Lib.hid (cat_out a wa b wb hn)
      have HK := Lib.hid (catOk_out wa wb hn)
      have HB := Lib.hid hb
      clear hn hb
      go_enter Tryz.func84, Tryz.ntmps84
      go_wp2_with fail
      refine (rvalid_yes _ _ HA.out).mono ?_
      rintro e w' ⟨rfl, rfl⟩
      go_wp2_with fail
      refine (rvalid_no _ _ HB.out).mono ?_
      rintro e w' ⟨rfl, rfl⟩
      go_wp2
      go_ret2
      exact ⟨ret_ib HS.out HK.out, rfl⟩
  · have hn : ¬ ((1 ≤ wa ∧ wa ≤ 32) ∧ (1 ≤ wb ∧ wb ≤ 32) ∧ wa + wb ≤ 32) := by omega
    have HS := Lib.hid (cat_out a wa b wb hn)
    have HK := Lib.hid (catOk_out wa wb hn)
    have HA := Lib.hid ha
    clear hn ha
    go_enter Tryz.func84, Tryz.ntmps84
    go_wp2_with fail
    refine (rvalid_no _ _ HA.out).mono ?_
    rintro e w' ⟨rfl, rfl⟩
    go_wp2
    go_ret2
    exact ⟨ret_ib HS.out HK.out, rfl⟩
end Go.Proofs.YtcicjodpkbcigaaGreat
