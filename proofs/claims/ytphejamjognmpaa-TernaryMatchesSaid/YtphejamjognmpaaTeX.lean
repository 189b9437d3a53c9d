/- Ternary: the law's awake. -/
import Derived.Test.YtphejamjognmpaaTeM
import Derived.Test.YtphejamjognmpaaTeV
import Derived.Test.YtphejamjognmpaaTeH
import Derived.Test.YtphejamjognmpaaTeJ
namespace Go.Proofs.Ytphejamjognmpaa
open Go.RowKit
set_option linter.unusedVariables false

theorem b64 {n : Nat} (h : n < 18446744073709551616) : B64 n := h
theorem CLs.two (w : World) (base a b c d : Nat) (hb : base ≤ w.heap.size) : CLs (w.alloc (.cells #[.int .u64 a, .int .u64 b, .int .u64 c, .int .u64 d] 24)) base (.slice (some ⟨w.heap.size, 0, none⟩) 2 2) [(a, b), (c, d)] :=
  World.ownsRow_lit w #[.int .u64 a, .int .u64 b, .int .u64 c, .int .u64 d] 2 hb (by unfold maxLen; omega) rfl
theorem a_int (w : World) : Calls Try.prog 8 #[.agg #[.int .u64 1, .int .u64 3], .agg #[.int .u64 8, .int .u64 8]] w (fun e w' => e = .returned (.tuple #[.agg #[.int .u64 9, .int .u64 11], .bool true]) ∧ w.grownBy w' none) :=
  int_any w 1 3 8 8 (b64 (by decide)) (b64 (by decide)) (b64 (by decide)) (b64 (by decide))
theorem a_sub (w : World) : Calls Try.prog 19 #[.agg #[.int .u64 0, .int .u64 0], .agg #[.int .u64 8, .int .u64 12], .int .i64 4] w (RetC [(0, 8), (12, 12)] w) := by
  have k := psub_any w 0 0 8 12 4 (b64 (by decide)) (b64 (by decide)) (b64 (by decide)) (b64 (by decide))
  rwa [show subL 0 0 8 12 4 = [(0, 8), (12, 12)] by decide +kernel] at k
theorem a_fmt (w : World) : Calls Try.prog 10 #[.agg #[.int .u64 9, .int .u64 11], .int .i64 4] w (fun e w' => e = .returned (.tuple #[.string ⟨#[49, 120, 48, 49]⟩, .int .i64 0]) ∧ w.grownBy w' none) := by
  have k := fmt_any w 9 11 4 (b64 (by decide)) (b64 (by decide))
  unfold RetF at k
  rwa [show strOf (fmtS 9 11 4) = ⟨#[49, 120, 48, 49]⟩ by decide +kernel, show chkN 9 11 4 = 0 by decide +kernel] at k
theorem a_parse (w : World) : Calls Try.prog 26 #[.string ⟨#[49, 120, 48, 49]⟩] w (fun e w' => e = .returned (.tuple #[.agg #[.int .u64 9, .int .u64 11], .int .i64 4, .int .i64 0]) ∧ w.grownBy w' none) := by
  have k := parse_any w [49, 120, 48, 49] (by decide) (by decide)
  unfold RetP at k
  rwa [show strOf [49, 120, 48, 49] = ⟨#[49, 120, 48, 49]⟩ by decide +kernel, show prsV [49, 120, 48, 49] = 9 by decide +kernel, show prsM [49, 120, 48, 49] = 11 by decide +kernel, show prsW [49, 120, 48, 49] = 4 by decide +kernel, show prsE [49, 120, 48, 49] = 0 by decide +kernel] at k
theorem a_bad (w : World) : Calls Try.prog 26 #[.string ⟨#[48, 49, 97]⟩] w (fun e w' => e = .returned (.tuple #[.agg #[.int .u64 0, .int .u64 0], .int .i64 0, .int .i64 5]) ∧ w.grownBy w' none) := by
  have k := parse_any w [48, 49, 97] (by decide) (by decide)
  unfold RetP at k
  rwa [show strOf [48, 49, 97] = ⟨#[48, 49, 97]⟩ by decide +kernel, show prsV [48, 49, 97] = 0 by decide +kernel, show prsM [48, 49, 97] = 0 by decide +kernel, show prsW [48, 49, 97] = 0 by decide +kernel, show prsE [48, 49, 97] = 5 by decide +kernel] at k
theorem a_min (w : World) : Calls Try.prog 23 #[.agg #[.int .u64 9, .int .u64 11]] w (fun e w' => e = .returned (.int .u64 9) ∧ w.grownBy w' none) :=
  min_any w 9 11 (b64 (by decide)) (b64 (by decide))
theorem a_free (w : World) : Calls Try.prog 21 #[.agg #[.int .u64 9, .int .u64 11], .int .i64 4] w (fun e w' => e = .returned (.int .i64 1) ∧ w.grownBy w' none) := by
  have k := free_any w 9 11 4 (b64 (by decide)) (b64 (by decide))
  unfold RetV at k
  rwa [show freeN 11 4 = 1 by decide +kernel] at k
theorem a_chk (w : World) (x z : Int) (h : chkN 4 3 x = z) : Calls Try.prog 12 #[.agg #[.int .u64 4, .int .u64 3], .int .i64 x] w (fun e w' => e = .returned (.int .i64 z) ∧ w.grownBy w' none) := by
  have k := chk_any w 4 3 x (b64 (by decide)) (b64 (by decide))
  unfold RetV at k
  rwa [h] at k
theorem a_has (w : World) : Calls Try.prog 14 #[.agg #[.int .u64 9, .int .u64 11], .int .u64 13] w (fun e w' => e = .returned (.bool true) ∧ w.grownBy w' none) :=
  contains_any w 9 11 13 (b64 (by decide)) (b64 (by decide)) (b64 (by decide))
theorem a_eq (w : World) (b1 b2 : Nat) (V1 V2 : Value) (H1 : CLs w b1 V1 [(0, 8), (12, 12)]) (H2 : CLs w b2 V2 [(0, 8), (12, 12)]) : Calls Try.prog 18 #[V1, V2] w (fun e w' => e = .returned (.bool true) ∧ w.grownBy w' none) := by
  have k := eqc_any w b1 b2 V1 V2 _ _ H1 H2 (by decide) (by decide)
  unfold RetV at k
  rwa [decide_eq_true rfl] at k
theorem cube_cells {w : World} {g : Nat} {t : TypeId} {x y : Value} (h : IsB w g t #[x, y]) : w.cell? ⟨g, 0, none⟩ = some x ∧ w.cell? ⟨g, 1, none⟩ = some y := ⟨h.cell 0, h.cell 1⟩
set_option maxRecDepth 100000 in
set_option maxHeartbeats 8000000 in
theorem awake_any (W : World) : Calls Try.prog 25 #[] W (RetV (.bool true) W) := by
  go_enter Try.func25, Try.ntmps25
  go_wp2_with fail
  refine (a_int _).mono ?_
  rintro e w1 ⟨rfl, g1⟩
  have B1 := IsB.new w1 24 #[.int .u64 9, .int .u64 11]
  have G := Lib.hid (gb_trans g1 (gb_alloc w1 (.cells #[.int .u64 9, .int .u64 11] 24) none))
  go_wp2_with fail
  generalize w1.alloc (.cells #[.int .u64 9, .int .u64 11] 24) = w2 at *
  refine (a_sub _).mono ?_
  rintro e w3 ⟨V3, rfl, O3, g3⟩
  have B1 := B1.keep0 g3
  have G := Lib.hid (gb_trans G.out g3)
  obtain ⟨c1, c2⟩ := cube_cells B1
  have HO := Lib.hid O3
  have HB1 := Lib.hid B1
  clear O3 g1 g3 B1
  go_wp2_with fail
  refine (a_fmt _).mono ?_
  rintro e w4 ⟨rfl, g4⟩
  have G := Lib.hid (gb_trans G.out g4)
  have HO := Lib.hid (HO.out.keep0 g4)
  have HB1 := Lib.hid (HB1.out.keep0 g4)
  clear c1 c2 g4
  go_wp2_with fail
  refine (a_parse _).mono ?_
  rintro e w5 ⟨rfl, g5⟩
  have G := Lib.hid (gb_trans G.out g5)
  have HO := Lib.hid (HO.out.keep0 g5)
  have HB1 := Lib.hid (HB1.out.keep0 g5)
  have B6 := IsB.new w5 24 #[.int .u64 9, .int .u64 11]
  have g6 := gb_alloc w5 (.cells #[.int .u64 9, .int .u64 11] 24) none
  clear g5
  go_wp2_with fail
  generalize w5.alloc (.cells #[.int .u64 9, .int .u64 11] 24) = w6 at *
  have G := Lib.hid (gb_trans G.out g6)
  have HO := Lib.hid (HO.out.keep0 g6)
  have HB1 := Lib.hid (HB1.out.keep0 g6)
  have HB6 := Lib.hid B6
  clear g6 B6
  refine (a_bad _).mono ?_
  rintro e w7 ⟨rfl, g7⟩
  have G := Lib.hid (gb_trans G.out (gb_trans g7 (gb_alloc w7 (.cells #[.int .u64 0, .int .u64 0] 24) none)))
  have HO := Lib.hid ((HO.out.keep0 g7).keep0 (gb_alloc w7 (.cells #[.int .u64 0, .int .u64 0] 24) none))
  have HB1 := Lib.hid ((HB1.out.keep0 g7).alloc (.cells #[.int .u64 0, .int .u64 0] 24))
  have HB6 := Lib.hid ((HB6.out.keep0 g7).alloc (.cells #[.int .u64 0, .int .u64 0] 24))
  obtain ⟨c1, c2⟩ := cube_cells HB1.out
  clear g7
  go_wp2_with fail
  have L2 := CLs.two (w7.alloc (.cells #[.int .u64 0, .int .u64 0] 24)) 0 0 8 12 12 (Nat.zero_le _)
  rw [alloc_sz] at L2
  refine (a_eq _ _ _ _ _ (HO.out.keep0 (gb_alloc _ _ none)) L2).mono ?_
  rintro e w8 ⟨rfl, g8⟩
  have G := Lib.hid (gb_trans G.out (gb_trans (gb_alloc _ _ none) g8))
  have HB1 := Lib.hid ((HB1.out.alloc _).keep0 g8)
  have HB6 := Lib.hid ((HB6.out.alloc _).keep0 g8)
  clear c1 c2 g8 L2 HO
  obtain ⟨c1, c2⟩ := cube_cells HB1.out
  go_wp2_with fail
  refine (a_min _).mono ?_
  rintro e w9 ⟨rfl, g9⟩
  have G := Lib.hid (gb_trans G.out g9)
  have HB1 := Lib.hid (HB1.out.keep0 g9)
  have HB6 := Lib.hid (HB6.out.keep0 g9)
  clear c1 c2 g9
  obtain ⟨c1, c2⟩ := cube_cells HB1.out
  go_wp2_with fail
  refine (a_free _).mono ?_
  rintro e w10 ⟨rfl, g10⟩
  have G := Lib.hid (gb_trans G.out g10)
  have HB1 := Lib.hid (HB1.out.keep0 g10)
  have HB6 := Lib.hid (HB6.out.keep0 g10)
  clear c1 c2 g10
  obtain ⟨c1, c2⟩ := cube_cells HB1.out
  obtain ⟨c3, c4⟩ := cube_cells HB6.out
  go_wp2_with fail
  refine (a_chk _ 4 5 (by decide +kernel)).mono ?_
  rintro e w11 ⟨rfl, g11⟩
  have G := Lib.hid (gb_trans G.out g11)
  have HB1 := Lib.hid (HB1.out.keep0 g11)
  clear c1 c2 c3 c4 g11 HB6
  go_wp2_with fail
  refine (a_chk _ 1 9 (by decide +kernel)).mono ?_
  rintro e w12 ⟨rfl, g12⟩
  have G := Lib.hid (gb_trans G.out g12)
  have HB1 := Lib.hid (HB1.out.keep0 g12)
  clear g12
  go_wp2_with fail
  refine (a_chk _ 65 10 (by decide +kernel)).mono ?_
  rintro e w13 ⟨rfl, g13⟩
  have G := Lib.hid (gb_trans G.out g13)
  have HB1 := Lib.hid (HB1.out.keep0 g13)
  clear g13
  obtain ⟨c1, c2⟩ := cube_cells HB1.out
  go_wp2_with fail
  refine (a_has _).mono ?_
  rintro e w14 ⟨rfl, g14⟩
  have G := Lib.hid (gb_trans G.out g14)
  clear c1 c2 g14 HB1
  go_wp2
  go_ret
  exact ⟨rfl, G.out⟩
end Go.Proofs.Ytphejamjognmpaa
