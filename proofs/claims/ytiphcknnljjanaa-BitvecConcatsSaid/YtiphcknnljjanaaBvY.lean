/- The law on Concat: its walk; no condition but that numbers are of their kind. -/
import Derived.Test.YtiphcknnljjanaaBvW
namespace Go.Proofs.Ytiphcknnljjanaa
open Go.RowKit

set_option maxHeartbeats 2000000 in
theorem concats_yes (a b x y : Int) (W : World) (h0 : 0 ≤ a) (h1 : a < 4294967296) (k0 : 0 ≤ b) (k1 : b < 4294967296) (c1 : 1 ≤ x) (c2 : 1 ≤ y) (c3 : x + y ≤ 32) :
    Calls Try.prog 5 #[.int .u32 a, .int .u32 b, .agg #[.int .i64 x, .int .i64 y]] W (Ret (.bool true) W) := by
  have HB := Lib.hid (box_start W (.int .i64 x) (.int .i64 y) 39)
  have HK := Lib.hid (catOk_in x y c1 (by omega) c2 (by omega) c3)
  have HL := Lib.hid (b2 (by rw [cats_lo a x b y c1 c2 c3, ← and_mask b y k0 k1] : sliceB (catB a x b y) 0 y = bits .and .u32 b (mkB y)))
  have HH := Lib.hid (b2 (by rw [cats_hi a x b y c1 c2 c3, ← and_mask a x h0 h1] : sliceB (catB a x b y) y x = bits .and .u32 a (mkB x)))
  have HF := Lib.hid (cats_fit a x b y c1 c2 c3)
  have hr := catB_range a x b y
  have c5 : y ≤ 32 - x := by omega
  have c6 : x ≤ 31 := by omega
  have HW := Lib.hid (show IntKind.i64.wrap (x + y) = x + y from IntWalk.i64_in _ (by omega))
  go_enter Try.func5, Try.ntmps5
  go_wp2_with fail
  refine (cat_any _ _ _ _ _ h0 h1 k0 k1).mono ?_
  rintro e w1 ⟨rfl, g1⟩
  have hb := box_step3 HB.out g1
  obtain ⟨b0, b1, gz⟩ := hb
  have hk := HK.out.symm
  go_wp2_with fail
  have hb : w1.cell? ⟨W.heap.size, 0, none⟩ = some (.int .i64 x) ∧ w1.cell? ⟨W.heap.size, 1, none⟩ = some (.int .i64 y) ∧ Gr W w1 := ⟨b0, b1, gz⟩
  clear b0 b1 gz
  have ws := HW.out
  have hl := HL.out
  have hh := HH.out
  go_region_held3 (fun w' => w'.cell? ⟨W.heap.size, 0, none⟩ = some (.int .i64 x) ∧ w'.cell? ⟨W.heap.size, 1, none⟩ = some (.int .i64 y) ∧ Gr W w') (first | exact box_step3 (by assumption) (by assumption) | exact hb | assumption)
    (first | (go_at_call 29; refine (slice_any _ _ _ _ hr.1 hr.2).mono ?_; rintro e w' ⟨rfl, g⟩) | (go_at_call 15; refine (mask_any _ _).mono ?_; rintro e w' ⟨rfl, g⟩) | (go_at_call 17; refine (fits_any _ _ _).mono ?_; rintro e w' hq; obtain ⟨rfl, g⟩ := ret_to (by rw [HF.out]) hq; clear hq) | (go_at_call 39; refine (awake_any _).mono ?_; rintro e w' ⟨rfl, g⟩))
  all_goals
    rename_i hs
    clear ws hb
    obtain ⟨b0, b1, gz⟩ := hs
    go_wp2
    go_ret
    exact ⟨rfl, gz⟩
theorem concats_no (a b x y : Int) (W : World) (h : ¬ ((1 ≤ x ∧ x ≤ 32) ∧ (1 ≤ y ∧ y ≤ 32) ∧ x + y ≤ 32)) :
    Calls Try.prog 5 #[.int .u32 a, .int .u32 b, .agg #[.int .i64 x, .int .i64 y]] W (Ret (.bool true) W) := by
  have HB := Lib.hid (box_start W (.int .i64 x) (.int .i64 y) 39)
  have HC := Lib.hid h
  by_cases c1 : x < 1
  · clear h
    go_enter Try.func5, Try.ntmps5
    go_wp2_with fail
    refine (cat_no_any _ _ _ _ _ HC.out).mono ?_
    rintro e w1 hr; obtain ⟨rfl, g1⟩ := ret_to (ib32_to (cat_out _ _ _ _ HC.out).symm (catOk_out _ _ HC.out).symm) hr; clear hr
    have hb := box_step3 HB.out g1
    obtain ⟨b0, b1, gz⟩ := hb
    go_wp2_with fail
    refine (awake_any _).mono ?_
    rintro e w2 ⟨rfl, g2⟩
    go_wp2
    go_ret
    exact ⟨rfl, grown_trans gz g2⟩
  · by_cases c2 : 31 < x
    · clear h
      go_enter Try.func5, Try.ntmps5
      go_wp2_with fail
      refine (cat_no_any _ _ _ _ _ HC.out).mono ?_
      rintro e w1 hr; obtain ⟨rfl, g1⟩ := ret_to (ib32_to (cat_out _ _ _ _ HC.out).symm (catOk_out _ _ HC.out).symm) hr; clear hr
      have hb := box_step3 HB.out g1
      obtain ⟨b0, b1, gz⟩ := hb
      go_wp2_with fail
      refine (awake_any _).mono ?_
      rintro e w2 ⟨rfl, g2⟩
      go_wp2
      go_ret
      exact ⟨rfl, grown_trans gz g2⟩
    · by_cases c3 : y < 1
      · clear h
        go_enter Try.func5, Try.ntmps5
        go_wp2_with fail
        refine (cat_no_any _ _ _ _ _ HC.out).mono ?_
        rintro e w1 hr; obtain ⟨rfl, g1⟩ := ret_to (ib32_to (cat_out _ _ _ _ HC.out).symm (catOk_out _ _ HC.out).symm) hr; clear hr
        have hb := box_step3 HB.out g1
        obtain ⟨b0, b1, gz⟩ := hb
        go_wp2_with fail
        refine (awake_any _).mono ?_
        rintro e w2 ⟨rfl, g2⟩
        go_wp2
        go_ret
        exact ⟨rfl, grown_trans gz g2⟩
      · have c4 : 32 - x < y := by omega
        have c5 : decide (y ≤ 32 - x) = false := decide_eq_false (by omega)
        clear h
        go_enter Try.func5, Try.ntmps5
        go_wp2_with fail
        refine (cat_no_any _ _ _ _ _ HC.out).mono ?_
        rintro e w1 hr; obtain ⟨rfl, g1⟩ := ret_to (ib32_to (cat_out _ _ _ _ HC.out).symm (catOk_out _ _ HC.out).symm) hr; clear hr
        have hb := box_step3 HB.out g1
        obtain ⟨b0, b1, gz⟩ := hb
        go_wp2_with fail
        refine (awake_any _).mono ?_
        rintro e w2 ⟨rfl, g2⟩
        go_wp2
        go_ret
        exact ⟨rfl, grown_trans gz g2⟩

theorem concats_walk (a b x y : Int) (W : World) (h0 : 0 ≤ a) (h1 : a < 4294967296) (k0 : 0 ≤ b) (k1 : b < 4294967296) :
    Calls Try.prog 5 #[.int .u32 a, .int .u32 b, .agg #[.int .i64 x, .int .i64 y]] W (Ret (.bool true) W) := by
  by_cases h : (1 ≤ x ∧ x ≤ 32) ∧ (1 ≤ y ∧ y ≤ 32) ∧ x + y ≤ 32
  · exact concats_yes a b x y W h0 h1 k0 k1 h.1.1 h.2.1.1 h.2.2
  · exact concats_no a b x y W h
end Go.Proofs.Ytiphcknnljjanaa
