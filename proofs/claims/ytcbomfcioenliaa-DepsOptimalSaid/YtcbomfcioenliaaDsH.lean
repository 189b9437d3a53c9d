/- The program's chains: the walk; no condition but the matrix's size. -/
import Derived.Test.YtcbomfcioenliaaDsG
import Derived.StillTailTactics
namespace Go.Proofs.Ytcbomfcioenliaa
open Go.RowKit
set_option linter.unusedVariables false

theorem PR.put1 {W w : World} {b n : Nat} {F : Nat → Int × Int} (h : PR W b n F w) (u : Nat) (hu : u < n) (x : Int) : (w.setCell ⟨b, u * 2, none⟩ (.int .i64 x)).frozen? ⟨b, u * 2 + 1, none⟩ = false := by
  obtain ⟨⟨cs, h1, h2⟩, h3, h4⟩ := h
  exact (h1.set (u * 2) _).free _
theorem made_two (x y : Value) (n u : Nat) (h : u < n) : (madeCells #[x, y] (n * 2)).toList.toArray[u * 2]? = some x ∧ (madeCells #[x, y] (n * 2)).toList.toArray[u * 2 + 1]? = some y := by
  have h1 : u * 2 % 2 = 0 := by omega
  have h2 : (u * 2 + 1) % 2 = 1 := by omega
  constructor
  · simp [madeCells, h1, show u * 2 < n * 2 by omega]
  · simp [madeCells, h2, show u * 2 + 1 < n * 2 by omega]

set_option maxRecDepth 100000 in
set_option maxHeartbeats 4000000 in
theorem chains_any (w : World) (a : Option Addr) (n c : Nat) (g : List (List Int)) (h : SlG w a n c g) (hn : n ≤ 1000) :
    Calls Try.prog 17 #[.slice a n c] w (fun e w' => ∃ b, e = .returned (.slice (some ⟨b, 0, none⟩) n n) ∧ PR w b n (chF g) w') := by
  obtain ⟨i0, hi, hz0, hz1, hz2⟩ := info_parts infoCh
  have HI := Lib.hid hi
  have HH := Lib.hid h
  have hl := h.1
  clear hi h
  subst hl
  go_enter Try.func17, Try.ntmps17
  go_wp2_with (at_make; refine wpList_make_full _ rfl _ _ 30 rfl w.heap.size 33 i0 (.agg #[.int .i64 0, .int .i64 0]) 2 Try.underlying30 HI.out hz0 hz1 .i64 .i64 _ _ g.length rfl rfl ?c1 ?c2 ?c3 ?c4 ?c5 ?_)
  case c1 => first | rfl | omega
  case c2 => first | rfl | omega
  case c3 => rw [hz2]; omega
  case c4 => unfold maxLen; omega
  case c5 => simp
  intro w2 hown hg
  obtain ⟨b, hb⟩ : ∃ b, b = w.heap.size := ⟨_, rfl⟩
  have N1 := Lib.hid (show PR w b g.length (ch g 0) w2 by
    subst hb
    obtain ⟨o1, o2⟩ := own_full hown
    exact ⟨⟨_, o1, fun u hu => made_two _ _ _ u hu⟩, Nat.le_refl _, hg⟩)
  rw [← hb]
  have HBW := Lib.hid hb
  clear hown hg hb
  go_wp2_with fail
  go_loopw [13] (fun s wr => ∃ d : Nat, d ≤ g.length ∧ s = .int .i64 d ∧ PR w b g.length (ch g d) wr) (fun s _ => g.length - (intOf s).toNat)
  case atStart => exact ⟨0, Nat.zero_le _, rfl, N1.out⟩
  case round =>
    obtain ⟨d, hd, rfl, q1⟩ := hrel
    clear N1
    have N1 := Lib.hid q1
    clear q1
    by_cases hlt : d < g.length
    · have i1 : (d : Int) < g.length := by omega
      obtain ⟨i, hid⟩ : ∃ i, i + d + 1 = g.length := ⟨g.length - 1 - d, by omega⟩
      have hin : i < g.length := by omega
      have HID := Lib.hid hid
      have e5 : (g.length : Int) - 1 - (d : Int) = (i : Int) := by omega
      have i1b : (i : Int) < g.length := by omega
      clear hid
      cases a with
      | none => exact absurd (HH.out.2.1 rfl).1 (by omega)
      | some ad =>
        obtain ⟨A, C, c1, r1, l1⟩ := (HH.out.keep0 N1.out.2.2).row i hin
        obtain ⟨m, hmm⟩ : ∃ m, m = (g.getD i []).length := ⟨_, rfl⟩
        rw [← hmm] at c1 l1
        have HM := Lib.hid hmm
        clear r1 hmm
        have N2 := Lib.hid (N1.out.is fun u _ => cF_start HID.out u)
        clear N1
        go_wp2
        go_step3
        go_wp2
        go_step3
        go_wp2
        clear e5
        go_loopw [26] (fun s wr => ∃ j : Nat, j ≤ m ∧ s = .int .i64 j ∧ PR w b g.length (cF g d i j) wr) (fun s _ => m - (intOf s).toNat)
        case atStart => exact ⟨0, Nat.zero_le _, rfl, N2.out⟩
        case round =>
          obtain ⟨j, hj, rfl, q1⟩ := hrel
          clear N2
          have N2 := Lib.hid q1
          clear q1
          by_cases hjt : j < m
          · have i2 : (j : Int) < m := by omega
            have D := Lib.hid (fun o => dep_any (wr.alloc o) (some ad) g.length c g i j (HH.out.keep0 (gb_trans N2.out.2.2 (gb_alloc wr o none))) hin (by rw [← HM.out]; exact hjt))
            obtain ⟨x, hx⟩ : ∃ x, x = wr.heap.size := ⟨_, rfl⟩
            have HB := Lib.hid (show b ≠ x ∧ w.heap.size ≤ x by
              have h1 := N2.out.lt
              have h2 := N2.out.2.1
              exact ⟨by omega, by omega⟩)
            have BN := Lib.hid (show IsB (wr.alloc (.cells #[.int .i64 0, .int .i64 0] 33)) x 33 #[.int .i64 0, .int .i64 0] by rw [hx]; exact IsB.new wr _ _)
            go_wp2_with fail
            rw [← hx]
            clear hx
            refine (D.out _).mono ?_
            rintro e w3 ⟨rfl, q3⟩
            have BX := Lib.hid (BN.out.keep0 (dn_gb q3 none))
            have P3 := Lib.hid ((N2.out.keep0 (gb_alloc wr _ none)).keep0 (dn_gb q3 none))
            clear q3 D BN N2
            rcases dp_vals g i j with e | e | e
            · rw [e]
              have NX := Lib.hid (P3.out.is (fun u _ => cF_next (chI_skip e) u))
              clear e
              go_wp2
              go_roundw
              case rel => exact ⟨j + 1, by omega, by go_num, NX.out⟩
              case measure => simp [intOf]; omega
            · rw [e]
              have hj2 := (dp_lt (g := g) (i := i) (j := j) (by omega)).2
              have hij := (dp_lt (g := g) (i := i) (j := j) (by omega)).1
              have i3 : (j : Int) < g.length := by omega
              have p0 := P3.out.at0 j hj2
              have p1 := P3.out.at1 j hj2
              rw [cF_at hij] at p0 p1
              have RG := ch_range g d j
              have CN := Lib.hid (show cnd g (ch g d) i j = ((ch g d j).1, (ch g d j).2) by unfold cnd; rw [e]; simp)
              have NZ := Lib.hid (show dp g i j ≠ 0 by omega)
              obtain ⟨P1, hP1⟩ : ∃ p, p = (ch g d j).1 := ⟨_, rfl⟩
              obtain ⟨P2, hP2⟩ : ∃ p, p = (ch g d j).2 := ⟨_, rfl⟩
              rw [← hP1] at p0 RG CN
              rw [← hP2] at p1 CN
              have B4 := Lib.hid ((BX.out.set 0 (.int .i64 (P1))).set 1 (.int .i64 (P2)))
              have P4 := Lib.hid ((P3.out.far HB.out.1 HB.out.2 0 (.int .i64 (P1))).far HB.out.1 HB.out.2 1 (.int .i64 (P2)))
              have f0 := BX.out.free 0
              have x0 := BX.out.cell 0
              have x1 := BX.out.cell 1
              simp at x0 x1
              have f1 := (BX.out.set 0 (.int .i64 (P1))).free 1
              have y0 := P4.out.at0 i hin
              have y1 := P4.out.at1 i hin
              rw [cF_own] at y0 y1
              have k0 := B4.out.cell 0
              have k1 := B4.out.cell 1
              simp at k0 k1
              obtain ⟨Y1, hY1⟩ : ∃ p, p = (chI g (ch g d) i j).1 := ⟨_, rfl⟩
              obtain ⟨Y2, hY2⟩ : ∃ p, p = (chI g (ch g d) i j).2 := ⟨_, rfl⟩
              rw [← hY1] at y0
              rw [← hY2] at y1
              have CY := Lib.hid (show chI g (ch g d) i j = (Y1, Y2) by rw [hY1, hY2])
              clear hP1 hP2 hY1 hY2 e
              go_wp2_with fail
              generalize hw4 : (w3.setCell ⟨x, 0, none⟩ (.int .i64 (P1))).setCell ⟨x, 1, none⟩ (.int .i64 (P2)) = w4 at *
              clear hw4
              go_still_tail 5, (by kernel_rfl)
              change wpList _ _ _ _ _ w4.drew
              have G5 := Lib.hid (gb_drew w4 none)
              go_wp2_with fail
              refine (better_any _ (P1) (P2) Y1 Y2).mono ?_
              rintro e w5 ⟨rfl, g5, -⟩
              have g6 := gb_trans G5.out g5
              have B5 := Lib.hid (B4.out.keep0 g6)
              have P5 := Lib.hid (P4.out.keep0 g6)
              clear g5 g6 G5 p0 p1 f0 f1 y0 y1 k0 k1 x0 x1
              have y0 := P5.out.at0 i hin
              have y1 := P5.out.at1 i hin
              have k0 := B5.out.cell 0
              have k1 := B5.out.cell 1
              simp at k0 k1
              have f0 := P5.out.free (i * 2)
              have P6 := Lib.hid (P5.out.put i hin (P1) (P2))
              have f1 := (P5.out.put1 i hin (P1))
              cases hb : better (P1, P2) (Y1, Y2)
              · have NX := Lib.hid (P5.out.is (fun u _ => cF_next (chI_no (by rw [CN.out, CY.out]; exact hb)) u))
                clear hb
                go_wp2
                go_roundw
                case rel => exact ⟨j + 1, by omega, by go_num, NX.out⟩
                case measure => simp [intOf]; omega
              · have NX := Lib.hid (P6.out.is (fun u _ => cF_put (by rw [chI_yes NZ.out (by rw [CN.out, CY.out]; exact hb), CN.out]) u))
                clear hb
                go_wp2
                go_roundw
                case rel => exact ⟨j + 1, by omega, by go_num, NX.out⟩
                case measure => simp [intOf]; omega

            · rw [e]
              have hj2 := (dp_lt (g := g) (i := i) (j := j) (by omega)).2
              have hij := (dp_lt (g := g) (i := i) (j := j) (by omega)).1
              have i3 : (j : Int) < g.length := by omega
              have p0 := P3.out.at0 j hj2
              have p1 := P3.out.at1 j hj2
              rw [cF_at hij] at p0 p1
              have RG := ch_range g d j
              have CN := Lib.hid (show cnd g (ch g d) i j = ((ch g d j).1 + 1, (j : Int)) by unfold cnd; rw [e]; simp)
              have NZ := Lib.hid (show dp g i j ≠ 0 by omega)
              obtain ⟨P1, hP1⟩ : ∃ p, p = (ch g d j).1 := ⟨_, rfl⟩
              obtain ⟨P2, hP2⟩ : ∃ p, p = (ch g d j).2 := ⟨_, rfl⟩
              rw [← hP1] at p0 RG CN
              rw [← hP2] at p1
              have B4 := Lib.hid ((BX.out.set 0 (.int .i64 (P1 + 1))).set 1 (.int .i64 ((j : Int))))
              have P4 := Lib.hid ((P3.out.far HB.out.1 HB.out.2 0 (.int .i64 (P1 + 1))).far HB.out.1 HB.out.2 1 (.int .i64 ((j : Int))))
              have f0 := BX.out.free 0
              have x0 := BX.out.cell 0
              have x1 := BX.out.cell 1
              simp at x0 x1
              have f1 := (BX.out.set 0 (.int .i64 (P1 + 1))).free 1
              have y0 := P4.out.at0 i hin
              have y1 := P4.out.at1 i hin
              rw [cF_own] at y0 y1
              have k0 := B4.out.cell 0
              have k1 := B4.out.cell 1
              simp at k0 k1
              obtain ⟨Y1, hY1⟩ : ∃ p, p = (chI g (ch g d) i j).1 := ⟨_, rfl⟩
              obtain ⟨Y2, hY2⟩ : ∃ p, p = (chI g (ch g d) i j).2 := ⟨_, rfl⟩
              rw [← hY1] at y0
              rw [← hY2] at y1
              have CY := Lib.hid (show chI g (ch g d) i j = (Y1, Y2) by rw [hY1, hY2])
              clear hP1 hP2 hY1 hY2 e
              go_wp2_with fail
              generalize hw4 : (w3.setCell ⟨x, 0, none⟩ (.int .i64 (P1 + 1))).setCell ⟨x, 1, none⟩ (.int .i64 ((j : Int))) = w4 at *
              clear hw4
              go_still_tail 5, (by kernel_rfl)
              change wpList _ _ _ _ _ w4.drew
              have G5 := Lib.hid (gb_drew w4 none)
              go_wp2_with fail
              refine (better_any _ (P1 + 1) ((j : Int)) Y1 Y2).mono ?_
              rintro e w5 ⟨rfl, g5, -⟩
              have g6 := gb_trans G5.out g5
              have B5 := Lib.hid (B4.out.keep0 g6)
              have P5 := Lib.hid (P4.out.keep0 g6)
              clear g5 g6 G5 p0 p1 f0 f1 y0 y1 k0 k1 x0 x1
              have y0 := P5.out.at0 i hin
              have y1 := P5.out.at1 i hin
              have k0 := B5.out.cell 0
              have k1 := B5.out.cell 1
              simp at k0 k1
              have f0 := P5.out.free (i * 2)
              have P6 := Lib.hid (P5.out.put i hin (P1 + 1) ((j : Int)))
              have f1 := (P5.out.put1 i hin (P1 + 1))
              cases hb : better (P1 + 1, (j : Int)) (Y1, Y2)
              · have NX := Lib.hid (P5.out.is (fun u _ => cF_next (chI_no (by rw [CN.out, CY.out]; exact hb)) u))
                clear hb
                go_wp2
                go_roundw
                case rel => exact ⟨j + 1, by omega, by go_num, NX.out⟩
                case measure => simp [intOf]; omega
              · have NX := Lib.hid (P6.out.is (fun u _ => cF_put (by rw [chI_yes NZ.out (by rw [CN.out, CY.out]; exact hb), CN.out]) u))
                clear hb
                go_wp2
                go_roundw
                case rel => exact ⟨j + 1, by omega, by go_num, NX.out⟩
                case measure => simp [intOf]; omega

          · have hje : j = m := by omega
            subst hje
            have NX := Lib.hid (N2.out.is (F2 := ch g (d + 1)) (fun u _ => by rw [HM.out]; exact cF_end HID.out u))
            clear N2
            go_wp2
            rw [Exit.noGoto_normal]
            go_wp2
            go_roundw
            case rel => exact ⟨d + 1, by omega, by go_num, NX.out⟩
            case measure => simp [intOf]; omega
    · have hde : d = g.length := by omega
      subst hde
      go_wp2
      go_ret
      exact ⟨b, rfl, N1.out⟩
end Go.Proofs.Ytcbomfcioenliaa
