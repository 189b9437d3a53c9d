/- Table: what the law calls a small program; no condition. -/
import Derived.Test.YtgdefahnmgonlaaTbM
namespace Go.Proofs.Ytgdefahnmgonlaa
open Go.RowKit
set_option linter.unusedVariables false
def smT (tb : Tbl) : Prop := tb.nm.size ≤ 40 ∧ tb.ks.length ≤ 10 ∧ tb.acs.length ≤ 24 ∧ tb.ar.length ≤ 10
def smP (P : Pg) : Prop := P.T.length ≤ 16 ∧ P.A.length ≤ 20 ∧ P.M.length ≤ 16 ∧ ∀ k, k < P.T.length → smT (P.T.getD k tbz)
theorem smP.sz {P : Pg} (h : smP P) : szT P := fun k hk => by
  obtain ⟨h1, h2, h3, h4⟩ := h.2.2.2 k hk
  exact ⟨by omega, by omega, by omega, by omega⟩
set_option maxRecDepth 100000 in
set_option maxHeartbeats 40000000 in
theorem small_any (w : World) (X : PX) (P : Pg) (hp : SP w X P) : Calls Try.prog 9 #[.agg #[.string X.nm, .slice X.ha X.hn X.hc, .slice X.ma X.mn X.mc, .slice X.ra X.rn X.rc, .slice X.aa X.an X.ac, .slice X.ta X.tn X.tc, .slice X.sa X.sn X.sc, .slice X.ca X.cn X.cc, .slice X.da X.dn X.dc]] w (RetB (smP P) w) := by
  have HP := Lib.hid hp
  have G2 := Lib.hid (gb_alloc w (.cells #[.string X.nm, .slice X.ha X.hn X.hc, .slice X.ma X.mn X.mc, .slice X.ra X.rn X.rc, .slice X.aa X.an X.ac, .slice X.ta X.tn X.tc, .slice X.sa X.sn X.sc, .slice X.ca X.cn X.cc, .slice X.da X.dn X.dc] 31) none)
  have B1 := IsB.new w 31 #[.string X.nm, .slice X.ha X.hn X.hc, .slice X.ma X.mn X.mc, .slice X.ra X.rn X.rc, .slice X.aa X.an X.ac, .slice X.ta X.tn X.tc, .slice X.sa X.sn X.sc, .slice X.ca X.cn X.cc, .slice X.da X.dn X.dc]
  replace B1 := Lib.hid B1
  clear hp
  go_enter Try.func9, Try.ntmps9
  go_upto_region 1 with fail
  generalize w.alloc (.cells #[.string X.nm, .slice X.ha X.hn X.hc, .slice X.ma X.mn X.mc, .slice X.ra X.rn X.rc, .slice X.aa X.an X.ac, .slice X.ta X.tn X.tc, .slice X.sa X.sn X.sc, .slice X.ca X.cn X.cc, .slice X.da X.dn X.dc] 31) = w2 at *
  obtain ⟨bx, hbx⟩ : ∃ b, b = w.heap.size := ⟨_, rfl⟩
  have Lbx := Lib.hid (show w.heap.size ≤ bx by rw [hbx]; exact Nat.le_refl _)
  rw [← hbx] at B1 ⊢
  clear hbx
  replace HP := Lib.hid (HP.out.keep0 G2.out)
  have c0 := (B1.out.keep0 (gb_refl _ _)).cell 0
  have c1 := (B1.out.keep0 (gb_refl _ _)).cell 1
  have c2 := (B1.out.keep0 (gb_refl _ _)).cell 2
  have c3 := (B1.out.keep0 (gb_refl _ _)).cell 3
  have c4 := (B1.out.keep0 (gb_refl _ _)).cell 4
  have c5 := (B1.out.keep0 (gb_refl _ _)).cell 5
  have c6 := (B1.out.keep0 (gb_refl _ _)).cell 6
  have c7 := (B1.out.keep0 (gb_refl _ _)).cell 7
  have c8 := (B1.out.keep0 (gb_refl _ _)).cell 8
  dsimp at c0 c1 c2 c3 c4 c5 c6 c7 c8
  by_cases n0 : (40 : Int) < (X.nm.size : Int)
  · go_wp2
    go_ret
    exact ⟨false, rfl, G2.out, fun h => by cases h⟩
  · by_cases n1 : (12 : Int) < X.hn
    · go_wp2
      go_ret
      exact ⟨false, rfl, G2.out, fun h => by cases h⟩
    · have H6 := Lib.hid (show X.hn ≤ 12 by omega)
      go_wp2_with fail
      refine (fields_any w2 X.ma X.mn X.mc P.M HP.out.m).mono ?_
      rintro e w3 ⟨b, rfl, g, mq⟩
      have MQ := Lib.hid mq
      have c0 := (B1.out.keep0 g).cell 0
      have c1 := (B1.out.keep0 g).cell 1
      have c2 := (B1.out.keep0 g).cell 2
      have c3 := (B1.out.keep0 g).cell 3
      have c4 := (B1.out.keep0 g).cell 4
      have c5 := (B1.out.keep0 g).cell 5
      have c6 := (B1.out.keep0 g).cell 6
      have c7 := (B1.out.keep0 g).cell 7
      have c8 := (B1.out.keep0 g).cell 8
      dsimp at c0 c1 c2 c3 c4 c5 c6 c7 c8
      have GS := Lib.hid g
      clear g mq
      cases b
      · go_wp2
        go_ret
        exact ⟨false, rfl, gb_trans G2.out GS.out, fun h => by cases h⟩
      · have M6 := Lib.hid (show X.mn ≤ 16 from MQ.out rfl)
        by_cases q0 : (8 : Int) < X.rn
        · go_wp2
          go_ret
          exact ⟨false, rfl, gb_trans G2.out GS.out, fun h => by cases h⟩
        · have R6 := Lib.hid (show X.rn ≤ 8 by omega)
          by_cases q1 : (20 : Int) < X.an
          · go_wp2
            go_ret
            exact ⟨false, rfl, gb_trans G2.out GS.out, fun h => by cases h⟩
          · have A6 := Lib.hid (show X.an ≤ 20 by omega)
            by_cases q2 : (16 : Int) < X.tn
            · go_wp2
              go_ret
              exact ⟨false, rfl, gb_trans G2.out GS.out, fun h => by cases h⟩
            · have T6 := Lib.hid (show X.tn ≤ 16 by omega)
              by_cases q3 : (16 : Int) < X.sn
              · go_wp2
                go_ret
                exact ⟨false, rfl, gb_trans G2.out GS.out, fun h => by cases h⟩
              · have S6x := Lib.hid (show X.sn ≤ 16 by omega)
                by_cases q4 : (16 : Int) < X.dn
                · go_wp2
                  go_ret
                  exact ⟨false, rfl, gb_trans G2.out GS.out, fun h => by cases h⟩
                · have D6 := Lib.hid (show X.dn ≤ 16 by omega)
                  have S6 := Lib.hid (show X.sn ≤ 100 by have := S6x.out; omega)
                  have BD := Lib.hid (show X.hn ≤ 100 by have := H6.out; omega)
                  go_wp2
                  clear c0 c1 c2 c3 c4 c5 c6 c7 c8
                  go_loopw [3] (fun i wr => ∃ j : Nat, j ≤ X.hn ∧ i = .int .i64 j ∧ w2.grownBy wr none) (fun i _ => X.hn - (intOf i).toNat)
                  case atStart => exact ⟨0, Nat.zero_le _, rfl, GS.out⟩
                  case round =>
                    obtain ⟨j, hj, rfl, hg⟩ := hrel
                    have G := Lib.hid hg
                    clear hg GS
                    have c1 := (B1.out.keep0 G.out).cell 1
                    dsimp at c1
                    by_cases hlt : j < X.hn
                    · have i1 : (j : Int) < X.hn := by omega
                      have i0 : (0 : Int) ≤ (j : Int) := by omega
                      have hw : IntKind.i64.wrap ((j : Int) + 1) = ((j + 1 : Nat) : Int) := by have := BD.out; rw [IntKind.wrap_i64]; omega
                      obtain ⟨ad, had⟩ := HP.out.h.some (by omega)
                      obtain ⟨e0, xa, xn, xc, e1, s1⟩ := (HP.out.h.keep0 G.out).cells ad had j hlt
                      have S1 := Lib.hid s1
                      generalize (P.H.getD j hz).1 = nm at *
                      generalize (P.H.getD j hz).2 = hl at *
                      clear s1
                      rw [had] at c1 ⊢
                      by_cases q : (40 : Int) < (nm.size : Int)
                      · go_wp2
                        go_ret
                        exact ⟨false, rfl, gb_trans G2.out G.out, fun h => by cases h⟩
                      · go_wp2_with fail
                        refine (fields_any wr xa xn xc hl S1.out).mono ?_
                        rintro e w6 ⟨b, rfl, g, _⟩
                        have GG := Lib.hid (gb_trans G.out g)
                        clear g c1 e0 e1
                        cases b
                        · go_wp2
                          go_ret
                          exact ⟨false, rfl, gb_trans G2.out GG.out, fun h => by cases h⟩
                        · go_wp2
                          go_roundw
                          case rel => exact ⟨j + 1, by omega, by first | rfl | (congr 1), GG.out⟩
                          case measure => simp [intOf]; omega
                    · have i1 : ¬ (j : Int) < X.hn := by omega
                      have GS := Lib.hid G.out
                      have JN := Lib.hid (show j = X.hn by omega)
                      clear hlt
                      have BD := Lib.hid (show X.rn ≤ 100 by have := R6.out; omega)
                      go_wp2
                      clear c1 i1 hj JN
                      go_loopw [4] (fun i wr => ∃ j : Nat, j ≤ X.rn ∧ i = .int .i64 j ∧ w2.grownBy wr none) (fun i _ => X.rn - (intOf i).toNat)
                      case atStart => exact ⟨0, Nat.zero_le _, rfl, GS.out⟩
                      case round =>
                        obtain ⟨j, hj, rfl, hg⟩ := hrel
                        have G := Lib.hid hg
                        clear hg GS
                        have c3 := (B1.out.keep0 G.out).cell 3
                        dsimp at c3
                        by_cases hlt : j < X.rn
                        · have i1 : (j : Int) < X.rn := by omega
                          have i0 : (0 : Int) ≤ (j : Int) := by omega
                          have hw : IntKind.i64.wrap ((j : Int) + 1) = ((j + 1 : Nat) : Int) := by have := BD.out; rw [IntKind.wrap_i64]; omega
                          obtain ⟨ad, had⟩ := HP.out.r.some (by omega)
                          obtain ⟨e0, e1, e2⟩ := (HP.out.r.keep0SRg G.out).cells ad had j hlt
                          generalize (P.R.getD j rgz).nm = nm at *
                          rw [had] at c3 ⊢
                          clear e1 e2
                          by_cases q : (40 : Int) < (nm.size : Int)
                          · go_wp2
                            go_ret
                            exact ⟨false, rfl, gb_trans G2.out G.out, fun h => by cases h⟩
                          · go_wp2
                            go_roundw
                            case rel => exact ⟨j + 1, by omega, by first | rfl | (congr 1), G.out⟩
                            case measure => simp [intOf]; omega
                        · have i1 : ¬ (j : Int) < X.rn := by omega
                          have GS := Lib.hid G.out
                          have JN := Lib.hid (show j = X.rn by omega)
                          clear hlt
                          have BD := Lib.hid (show X.an ≤ 100 by have := A6.out; omega)
                          go_wp2
                          clear c3 i1 hj JN
                          go_loopw [5] (fun i wr => ∃ j : Nat, j ≤ X.an ∧ i = .int .i64 j ∧ w2.grownBy wr none) (fun i _ => X.an - (intOf i).toNat)
                          case atStart => exact ⟨0, Nat.zero_le _, rfl, GS.out⟩
                          case round =>
                            obtain ⟨j, hj, rfl, hg⟩ := hrel
                            have G := Lib.hid hg
                            clear hg GS
                            have c4 := (B1.out.keep0 G.out).cell 4
                            dsimp at c4
                            by_cases hlt : j < X.an
                            · have i1 : (j : Int) < X.an := by omega
                              have i0 : (0 : Int) ≤ (j : Int) := by omega
                              have hw : IntKind.i64.wrap ((j : Int) + 1) = ((j + 1 : Nat) : Int) := by have := BD.out; rw [IntKind.wrap_i64]; omega
                              obtain ⟨ad, had⟩ := HP.out.a.some (by omega)
                              obtain ⟨e0, ⟨xa, xn, xc, e1, s1⟩, ⟨ya, yn, yc, e2, s2⟩⟩ := (HP.out.a.keep0SAn G.out).cells ad had j hlt
                              have S1 := Lib.hid s1
                              have S2 := Lib.hid s2
                              generalize P.A.getD j anz = an at *
                              clear s1 s2
                              rw [had] at c4 ⊢
                              go_wp2_with fail
                              refine (body_any wr an xa ya xn xc yn yc S1.out S2.out).mono ?_
                              rintro e w6 ⟨b, rfl, g, _⟩
                              have GG := Lib.hid (gb_trans G.out g)
                              clear g c4 e0 e1 e2
                              cases b
                              · go_wp2
                                go_ret
                                exact ⟨false, rfl, gb_trans G2.out GG.out, fun h => by cases h⟩
                              · go_wp2
                                go_roundw
                                case rel => exact ⟨j + 1, by omega, by first | rfl | (congr 1), GG.out⟩
                                case measure => simp [intOf]; omega
                            · have i1 : ¬ (j : Int) < X.an := by omega
                              have GS := Lib.hid G.out
                              have JN := Lib.hid (show j = X.an by omega)
                              clear hlt
                              have BD := Lib.hid (show X.tn ≤ 100 by have := T6.out; omega)
                              go_wp2
                              clear c4 i1 hj JN
                              go_loopw [6] (fun i wr => ∃ j : Nat, j ≤ X.tn ∧ i = .int .i64 j ∧ (∀ x, x < j → smT (P.T.getD x tbz)) ∧ w2.grownBy wr none) (fun i _ => X.tn - (intOf i).toNat)
                              case atStart => exact ⟨0, Nat.zero_le _, rfl, (fun x hx => absurd hx (Nat.not_lt_zero _)), GS.out⟩
                              case round =>
                                obtain ⟨j, hj, rfl, hb, hg⟩ := hrel
                                have G := Lib.hid hg
                                have HB := Lib.hid hb
                                clear hb
                                clear hg GS
                                have c5 := (B1.out.keep0 G.out).cell 5
                                dsimp at c5
                                by_cases hlt : j < X.tn
                                · have i1 : (j : Int) < X.tn := by omega
                                  have i0 : (0 : Int) ≤ (j : Int) := by omega
                                  have hw : IntKind.i64.wrap ((j : Int) + 1) = ((j + 1 : Nat) : Int) := by have := BD.out; rw [IntKind.wrap_i64]; omega
                                  obtain ⟨tad, hta⟩ := HP.out.t.some (by omega)
                                  obtain ⟨Y, st, x0, x1, x2, x3, x4, x5⟩ := HP.out.tab hlt hta
                                  have NX := Lib.hid (fun (q : smT (P.T.getD j tbz)) => next_all (p := fun x => smT (P.T.getD x tbz)) HB.out q)
                                  have LK := Lib.hid st.k.len
                                  have LC := Lib.hid st.c.len
                                  have LR := Lib.hid st.r.len
                                  have e0 := G.out.cell x0 (by simp)
                                  have e1 := G.out.cell x1 (by simp)
                                  have e2 := G.out.cell x2 (by simp)
                                  have e3 := G.out.cell x3 (by simp)
                                  have e4 := G.out.cell x4 (by simp)
                                  have e5 := G.out.cell x5 (by simp)
                                  clear x0 x1 x2 x3 x4 x5 st
                                  generalize P.T.getD j tbz = tb at *
                                  rw [hta] at c5 ⊢
                                  have G6 := Lib.hid (gb_alloc wr (.cells #[.string tb.nm, .slice Y.ka Y.kn Y.kc, .slice Y.ca Y.cn Y.cc, .int .i64 tb.da, .slice Y.ra Y.rn Y.rc, .int .i64 tb.sz] 60) none)
                                  have BT := IsB.new wr 60 #[.string tb.nm, .slice Y.ka Y.kn Y.kc, .slice Y.ca Y.cn Y.cc, .int .i64 tb.da, .slice Y.ra Y.rn Y.rc, .int .i64 tb.sz]
                                  replace BT := Lib.hid BT
                                  go_upto_region 22 with fail
                                  generalize wr.alloc (.cells #[.string tb.nm, .slice Y.ka Y.kn Y.kc, .slice Y.ca Y.cn Y.cc, .int .i64 tb.da, .slice Y.ra Y.rn Y.rc, .int .i64 tb.sz] 60) = w6 at *
                                  obtain ⟨b7, hb7⟩ : ∃ b, b = wr.heap.size := ⟨_, rfl⟩
                                  have Lb7 := Lib.hid (show wr.heap.size ≤ b7 by rw [hb7]; exact Nat.le_refl _)
                                  rw [← hb7] at BT ⊢
                                  clear hb7
                                  clear e0 e1 e2 e3 e4 e5 c5
                                  have GG := Lib.hid (gb_trans G.out G6.out)
                                  have d0 := (BT.out.keep0 (gb_refl _ _)).cell 0
                                  have d1 := (BT.out.keep0 (gb_refl _ _)).cell 1
                                  have d2 := (BT.out.keep0 (gb_refl _ _)).cell 2
                                  have d3 := (BT.out.keep0 (gb_refl _ _)).cell 3
                                  have d4 := (BT.out.keep0 (gb_refl _ _)).cell 4
                                  have d5 := (BT.out.keep0 (gb_refl _ _)).cell 5
                                  dsimp at d0 d1 d2 d3 d4 d5
                                  by_cases q : (40 : Int) < (tb.nm.size : Int)
                                  · go_wp2
                                    go_ret
                                    exact ⟨false, rfl, gb_trans G2.out GG.out, fun h => by cases h⟩
                                  · by_cases q2 : (10 : Int) < Y.kn
                                    · go_wp2
                                      go_ret
                                      exact ⟨false, rfl, gb_trans G2.out GG.out, fun h => by cases h⟩
                                    · by_cases q3 : (24 : Int) < Y.cn
                                      · go_wp2
                                        go_ret
                                        exact ⟨false, rfl, gb_trans G2.out GG.out, fun h => by cases h⟩
                                      · by_cases q4 : (10 : Int) < Y.rn
                                        · go_wp2
                                          go_ret
                                          exact ⟨false, rfl, gb_trans G2.out GG.out, fun h => by cases h⟩
                                        · have N2 := Lib.hid (NX.out ⟨by omega, by have := LK.out; omega, by have := LC.out; omega, by have := LR.out; omega⟩)
                                          go_wp2
                                          go_roundw
                                          case rel => exact ⟨j + 1, by omega, by first | rfl | (congr 1), N2.out, GG.out⟩
                                          case measure => simp [intOf]; omega
                                · have i1 : ¬ (j : Int) < X.tn := by omega
                                  have GS := Lib.hid G.out
                                  have JN := Lib.hid (show j = X.tn by omega)
                                  clear hlt
                                  have TQ := Lib.hid (show smP P from ⟨by have := T6.out; have := HP.out.t.len; omega, by have := A6.out; have := HP.out.a.len; omega, by have := M6.out; have := HP.out.m.len; omega, fun x hx => HB.out x (by have := HP.out.t.len; have := JN.out; omega)⟩)
                                  have BD := Lib.hid S6.out
                                  clear HB JN
                                  go_wp2
                                  clear c5 i1 hj
                                  go_loopw [8] (fun i wr => ∃ j : Nat, j ≤ X.sn ∧ i = .int .i64 j ∧ w2.grownBy wr none) (fun i _ => X.sn - (intOf i).toNat)
                                  case atStart => exact ⟨0, Nat.zero_le _, rfl, GS.out⟩
                                  case round =>
                                    obtain ⟨j, hj, rfl, hg⟩ := hrel
                                    have G := Lib.hid hg
                                    clear hg GS
                                    have c6 := (B1.out.keep0 G.out).cell 6
                                    dsimp at c6
                                    by_cases hlt : j < X.sn
                                    · have i1 : (j : Int) < X.sn := by omega
                                      have i0 : (0 : Int) ≤ (j : Int) := by omega
                                      have hw : IntKind.i64.wrap ((j : Int) + 1) = ((j + 1 : Nat) : Int) := by have := BD.out; rw [IntKind.wrap_i64]; omega
                                      obtain ⟨ad, had⟩ := HP.out.s.some (by omega)
                                      obtain ⟨e0, ⟨xa, xn, xc, e1, _⟩, _, _, _, ⟨ya, yn, yc, e5, _⟩, _⟩ := (HP.out.s.keep0SPs G.out).cells ad had j hlt
                                      generalize (P.S.getD j psz).nm = nm at *
                                      rw [had] at c6 ⊢
                                      by_cases q : (40 : Int) < (nm.size : Int)
                                      · go_wp2
                                        go_ret
                                        exact ⟨false, rfl, gb_trans G2.out G.out, fun h => by cases h⟩
                                      · by_cases q2 : (8 : Int) < xn
                                        · go_wp2
                                          go_ret
                                          exact ⟨false, rfl, gb_trans G2.out G.out, fun h => by cases h⟩
                                        · by_cases q3 : (16 : Int) < yn
                                          · go_wp2
                                            go_ret
                                            exact ⟨false, rfl, gb_trans G2.out G.out, fun h => by cases h⟩
                                          · go_wp2
                                            go_roundw
                                            case rel => exact ⟨j + 1, by omega, by first | rfl | (congr 1), G.out⟩
                                            case measure => simp [intOf]; omega
                                    · have i1 : ¬ (j : Int) < X.sn := by omega
                                      have GS := Lib.hid G.out
                                      have JN := Lib.hid (show j = X.sn by omega)
                                      clear hlt
                                      go_wp2
                                      go_ret
                                      exact ⟨true, rfl, gb_trans G2.out GS.out, fun _ => TQ.out⟩
end Go.Proofs.Ytgdefahnmgonlaa
