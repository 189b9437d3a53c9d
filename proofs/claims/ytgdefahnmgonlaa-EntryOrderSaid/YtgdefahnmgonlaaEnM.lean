/- Entries: the law Order; no condition. -/
import Derived.Test.YtgdefahnmgonlaaEnJ
import Derived.Test.YtgdefahnmgonlaaOrT
import Derived.Deep.QuietTactic
import Derived.BigQuiet
namespace Go.Proofs.Ytgdefahnmgonlaa
open Go.RowKit
set_option linter.unusedVariables false
theorem prec_irr (P : Pg) (t i : Int) (a : En) : precE P t i a i a = false := by
  rw [prec_id rfl rfl]; exact decide_eq_false (by omega)
theorem prec_tot (P : Pg) (t ia ib : Int) (a b : En) (h : ia ≠ ib) : (precE P t ia a ib b == precE P t ib b ia a) = false := by
  rw [beq_eq_false_iff_ne]
  by_cases hp : a.pr = b.pr
  · by_cases ho : onesE a.ks (lpmT P t) = onesE b.ks (lpmT P t)
    · rw [prec_id hp ho, prec_id hp.symm ho.symm]
      intro e
      have := decide_eq_decide.1 e
      omega
    · rw [prec_on hp ho, prec_on hp.symm (Ne.symm ho)]
      intro e
      have := decide_eq_decide.1 e
      omega
  · rw [prec_pr hp, prec_pr (Ne.symm hp)]
    intro e
    have := decide_eq_decide.1 e
    omega
theorem prec_iff (P : Pg) (t ia ib : Int) (a b : En) : precE P t ia a ib b = true ↔ (b.pr < a.pr ∨ (a.pr = b.pr ∧ (onesE b.ks (lpmT P t) < onesE a.ks (lpmT P t) ∨ (onesE a.ks (lpmT P t) = onesE b.ks (lpmT P t) ∧ ia < ib)))) := by
  by_cases hp : a.pr = b.pr
  · by_cases ho : onesE a.ks (lpmT P t) = onesE b.ks (lpmT P t)
    · rw [prec_id hp ho, decide_eq_true_iff]
      omega
    · rw [prec_on hp ho, decide_eq_true_iff]
      omega
  · rw [prec_pr hp, decide_eq_true_iff]
    omega
theorem prec_tra (P : Pg) (t ia ib ic : Int) (a b c : En) (h : precE P t ia a ib b = true) (k : precE P t ib b ic c = true) : precE P t ia a ic c = true := by
  rw [prec_iff] at h k ⊢
  omega
theorem far5 {w : World} {g b : Nat} {t : TypeId} {cs : Array Value} {u0 u1 u2 u3 u4 : Value} (h : IsB w g t cs) (hn : g ≠ b) : IsB (((((w.setCell ⟨b, 0, none⟩ u0).setCell ⟨b, 1, none⟩ u1).setCell ⟨b, 2, none⟩ u2).setCell ⟨b, 3, none⟩ u3).setCell ⟨b, 4, none⟩ u4) g t cs :=
  ((((h.set_far hn 0 u0).set_far hn 1 u1).set_far hn 2 u2).set_far hn 3 u3).set_far hn 4 u4
theorem fill5 {w : World} {b : Nat} {t : TypeId} {z0 z1 z2 z3 z4 : Value} (h : IsB w b t #[z0, z1, z2, z3, z4]) (u0 u1 u2 u3 u4 : Value) : IsB (((((w.setCell ⟨b, 0, none⟩ u0).setCell ⟨b, 1, none⟩ u1).setCell ⟨b, 2, none⟩ u2).setCell ⟨b, 3, none⟩ u3).setCell ⟨b, 4, none⟩ u4) b t #[u0, u1, u2, u3, u4] :=
  ((((h.set 0 u0).set 1 u1).set 2 u2).set 3 u3).set 4 u4
theorem grow5 {w0 w : World} {b : Nat} {u0 u1 u2 u3 u4 : Value} (g : w0.grownBy w none) (h : w0.heap.size ≤ b) : w0.grownBy (((((w.setCell ⟨b, 0, none⟩ u0).setCell ⟨b, 1, none⟩ u1).setCell ⟨b, 2, none⟩ u2).setCell ⟨b, 3, none⟩ u3).setCell ⟨b, 4, none⟩ u4) none :=
  gb_put (gb_put (gb_put (gb_put (gb_put g h) h) h) h) h
set_option maxRecDepth 100000 in
set_option maxHeartbeats 40000000 in
theorem order_walk (w : World) (X : PX) (P : Pg) (hp : SP w X P) (t ia ib ic : Int) (Ya Yb Yc : EX) (a b c : En) (ha : SE w Ya a) (hb : SE w Yb b) (hc : SE w Yc c) : Calls Try.prog 7 #[.agg #[.string X.nm, .slice X.ha X.hn X.hc, .slice X.ma X.mn X.mc, .slice X.ra X.rn X.rc, .slice X.aa X.an X.ac, .slice X.ta X.tn X.tc, .slice X.sa X.sn X.sc, .slice X.ca X.cn X.cc, .slice X.da X.dn X.dc], .int .i64 t, .agg #[.int .i64 ia, .slice Ya.ka Ya.kn Ya.kc, .int .i64 a.pr, .int .i64 a.ac, .slice Ya.ra Ya.rn Ya.rc, .int .i64 ib, .slice Yb.ka Yb.kn Yb.kc, .int .i64 b.pr, .int .i64 b.ac, .slice Yb.ra Yb.rn Yb.rc, .int .i64 ic, .slice Yc.ka Yc.kn Yc.kc, .int .i64 c.pr, .int .i64 c.ac, .slice Yc.ra Yc.rn Yc.rc]] w (RetV (.bool true) w) := by
  have HP := Lib.hid hp
  have HA := Lib.hid ha
  have HB := Lib.hid hb
  have HC := Lib.hid hc
  have G1 := Lib.hid (gb_trans (gb_alloc w (.cells #[.string X.nm, .slice X.ha X.hn X.hc, .slice X.ma X.mn X.mc, .slice X.ra X.rn X.rc, .slice X.aa X.an X.ac, .slice X.ta X.tn X.tc, .slice X.sa X.sn X.sc, .slice X.ca X.cn X.cc, .slice X.da X.dn X.dc] 31) none) (gb_alloc _ (.cells #[.int .i64 ia, .slice Ya.ka Ya.kn Ya.kc, .int .i64 a.pr, .int .i64 a.ac, .slice Ya.ra Ya.rn Ya.rc, .int .i64 ib, .slice Yb.ka Yb.kn Yb.kc, .int .i64 b.pr, .int .i64 b.ac, .slice Yb.ra Yb.rn Yb.rc, .int .i64 ic, .slice Yc.ka Yc.kn Yc.kc, .int .i64 c.pr, .int .i64 c.ac, .slice Yc.ra Yc.rn Yc.rc] 51) none))
  have B1 := (IsB.new w 31 #[.string X.nm, .slice X.ha X.hn X.hc, .slice X.ma X.mn X.mc, .slice X.ra X.rn X.rc, .slice X.aa X.an X.ac, .slice X.ta X.tn X.tc, .slice X.sa X.sn X.sc, .slice X.ca X.cn X.cc, .slice X.da X.dn X.dc]).alloc (.cells #[.int .i64 ia, .slice Ya.ka Ya.kn Ya.kc, .int .i64 a.pr, .int .i64 a.ac, .slice Ya.ra Ya.rn Ya.rc, .int .i64 ib, .slice Yb.ka Yb.kn Yb.kc, .int .i64 b.pr, .int .i64 b.ac, .slice Yb.ra Yb.rn Yb.rc, .int .i64 ic, .slice Yc.ka Yc.kn Yc.kc, .int .i64 c.pr, .int .i64 c.ac, .slice Yc.ra Yc.rn Yc.rc] 51)
  have B2 := IsB.new (w.alloc (.cells #[.string X.nm, .slice X.ha X.hn X.hc, .slice X.ma X.mn X.mc, .slice X.ra X.rn X.rc, .slice X.aa X.an X.ac, .slice X.ta X.tn X.tc, .slice X.sa X.sn X.sc, .slice X.ca X.cn X.cc, .slice X.da X.dn X.dc] 31)) 51 #[.int .i64 ia, .slice Ya.ka Ya.kn Ya.kc, .int .i64 a.pr, .int .i64 a.ac, .slice Ya.ra Ya.rn Ya.rc, .int .i64 ib, .slice Yb.ka Yb.kn Yb.kc, .int .i64 b.pr, .int .i64 b.ac, .slice Yb.ra Yb.rn Yb.rc, .int .i64 ic, .slice Yc.ka Yc.kn Yc.kc, .int .i64 c.pr, .int .i64 c.ac, .slice Yc.ra Yc.rn Yc.rc]
  simp only [sz_al] at B2
  replace B1 := Lib.hid B1
  replace B2 := Lib.hid B2
  clear hp ha hb hc
  go_enter Try.func7, Try.ntmps7
  go_upto_region 1 with fail
  generalize (w.alloc (.cells #[.string X.nm, .slice X.ha X.hn X.hc, .slice X.ma X.mn X.mc, .slice X.ra X.rn X.rc, .slice X.aa X.an X.ac, .slice X.ta X.tn X.tc, .slice X.sa X.sn X.sc, .slice X.ca X.cn X.cc, .slice X.da X.dn X.dc] 31)).alloc (.cells #[.int .i64 ia, .slice Ya.ka Ya.kn Ya.kc, .int .i64 a.pr, .int .i64 a.ac, .slice Ya.ra Ya.rn Ya.rc, .int .i64 ib, .slice Yb.ka Yb.kn Yb.kc, .int .i64 b.pr, .int .i64 b.ac, .slice Yb.ra Yb.rn Yb.rc, .int .i64 ic, .slice Yc.ka Yc.kn Yc.kc, .int .i64 c.pr, .int .i64 c.ac, .slice Yc.ra Yc.rn Yc.rc] 51) = w1 at *
  obtain ⟨bx, hbx⟩ : ∃ b, b = w.heap.size := ⟨_, rfl⟩
  have Lbx := Lib.hid (show w.heap.size ≤ bx by rw [hbx]; exact Nat.le_refl _)
  rw [← hbx] at B1 B2 ⊢
  clear hbx
  have Sa := Lib.hid (fun W => smallx_any W Ya a)
  have Sb := Lib.hid (fun W => smallx_any W Yb b)
  have Sc := Lib.hid (fun W => smallx_any W Yc c)
  generalize decide (Ya.kn ≤ 10 ∧ Ya.rn ≤ 10) = ba at *
  generalize decide (Yb.kn ≤ 10 ∧ Yb.rn ≤ 10) = bb at *
  generalize decide (Yc.kn ≤ 10 ∧ Yc.rn ≤ 10) = bc at *
  have c0 := (B1.out.keep0 (gb_refl _ _)).cell 0
  have c1 := (B1.out.keep0 (gb_refl _ _)).cell 1
  have c2 := (B1.out.keep0 (gb_refl _ _)).cell 2
  have c3 := (B1.out.keep0 (gb_refl _ _)).cell 3
  have c4 := (B1.out.keep0 (gb_refl _ _)).cell 4
  have c5 := (B1.out.keep0 (gb_refl _ _)).cell 5
  have c6 := (B1.out.keep0 (gb_refl _ _)).cell 6
  have c7 := (B1.out.keep0 (gb_refl _ _)).cell 7
  have c8 := (B1.out.keep0 (gb_refl _ _)).cell 8
  dsimp at c0 c1 c2 c3 c4 c5 c6 c7 c8
  have d0 := (B2.out.keep0 (gb_refl _ _)).cell 0
  have d1 := (B2.out.keep0 (gb_refl _ _)).cell 1
  have d2 := (B2.out.keep0 (gb_refl _ _)).cell 2
  have d3 := (B2.out.keep0 (gb_refl _ _)).cell 3
  have d4 := (B2.out.keep0 (gb_refl _ _)).cell 4
  have d5 := (B2.out.keep0 (gb_refl _ _)).cell 5
  have d6 := (B2.out.keep0 (gb_refl _ _)).cell 6
  have d7 := (B2.out.keep0 (gb_refl _ _)).cell 7
  have d8 := (B2.out.keep0 (gb_refl _ _)).cell 8
  have d9 := (B2.out.keep0 (gb_refl _ _)).cell 9
  have d10 := (B2.out.keep0 (gb_refl _ _)).cell 10
  have d11 := (B2.out.keep0 (gb_refl _ _)).cell 11
  have d12 := (B2.out.keep0 (gb_refl _ _)).cell 12
  have d13 := (B2.out.keep0 (gb_refl _ _)).cell 13
  have d14 := (B2.out.keep0 (gb_refl _ _)).cell 14
  dsimp at d0 d1 d2 d3 d4 d5 d6 d7 d8 d9 d10 d11 d12 d13 d14
  go_wp2_with fail
  refine (small_any w1 X P (HP.out.keep0 G1.out)).mono ?_
  rintro e w2 ⟨s0, rfl, g, hq⟩
  have G2 := Lib.hid g
  have HQ := Lib.hid hq
  clear g hq
  clear c0 c1 c2 c3 c4 c5 c6 c7 c8 d0 d1 d2 d3 d4 d5 d6 d7 d8 d9 d10 d11 d12 d13 d14
  cases s0
  · go_wp2_with fail
    refine (works_any _).mono ?_
    rintro e w9 ⟨rfl, g⟩
    have G9 := Lib.hid (gb_trans G2.out g)
    clear g
    go_wp2
    go_ret
    exact ⟨rfl, gb_trans G1.out G9.out⟩
  · have ZZ := Lib.hid (HQ.out rfl).sz
    have HI := Lib.hid (fun (W : World) (g : w1.grownBy W none) => (⟨HP.out.keep0 (gb_trans G1.out g), HA.out.keep0 (gb_trans G1.out g), HB.out.keep0 (gb_trans G1.out g), HC.out.keep0 (gb_trans G1.out g)⟩ : SP W X P ∧ SE W Ya a ∧ SE W Yb b ∧ SE W Yc c))
    go_wp2
    go_loopw [7] (fun i wr => ∃ j : Nat, j ≤ 3 ∧ i = .int .i64 j ∧ w1.grownBy wr none) (fun i _ => 3 - (intOf i).toNat)
    case atStart => exact ⟨0, Nat.zero_le _, rfl, G2.out⟩
    case round =>
      obtain ⟨j, hj, rfl, hg⟩ := hrel
      have GL := Lib.hid hg
      clear hg
      rcases (show j = 0 ∨ j = 1 ∨ j = 2 ∨ j = 3 by omega) with rfl | rfl | rfl | rfl
      · have d0 := (B2.out.keep0 GL.out).cell 0
        have d1 := (B2.out.keep0 GL.out).cell 1
        have d2 := (B2.out.keep0 GL.out).cell 2
        have d3 := (B2.out.keep0 GL.out).cell 3
        have d4 := (B2.out.keep0 GL.out).cell 4
        have d5 := (B2.out.keep0 GL.out).cell 5
        have d6 := (B2.out.keep0 GL.out).cell 6
        have d7 := (B2.out.keep0 GL.out).cell 7
        have d8 := (B2.out.keep0 GL.out).cell 8
        have d9 := (B2.out.keep0 GL.out).cell 9
        have d10 := (B2.out.keep0 GL.out).cell 10
        have d11 := (B2.out.keep0 GL.out).cell 11
        have d12 := (B2.out.keep0 GL.out).cell 12
        have d13 := (B2.out.keep0 GL.out).cell 13
        have d14 := (B2.out.keep0 GL.out).cell 14
        dsimp at d0 d1 d2 d3 d4 d5 d6 d7 d8 d9 d10 d11 d12 d13 d14
        go_wp2_with fail
        refine (Sa.out _).mono ?_
        rintro e w3 ⟨rfl, g⟩
        have G3 := Lib.hid (gb_trans GL.out g)
        clear g
        clear d0 d1 d2 d3 d4 d5 d6 d7 d8 d9 d10 d11 d12 d13 d14
        cases ba
        · go_wp2_with fail
          refine (works_any _).mono ?_
          rintro e w9 ⟨rfl, g⟩
          have G9 := Lib.hid (gb_trans G3.out g)
          clear g
          go_wp2
          go_ret
          exact ⟨rfl, gb_trans G1.out G9.out⟩
        · go_wp2
          exact ⟨⟨1, by omega, by first | rfl | simp, G3.out⟩, by simp [intOf]⟩
      · have d0 := (B2.out.keep0 GL.out).cell 0
        have d1 := (B2.out.keep0 GL.out).cell 1
        have d2 := (B2.out.keep0 GL.out).cell 2
        have d3 := (B2.out.keep0 GL.out).cell 3
        have d4 := (B2.out.keep0 GL.out).cell 4
        have d5 := (B2.out.keep0 GL.out).cell 5
        have d6 := (B2.out.keep0 GL.out).cell 6
        have d7 := (B2.out.keep0 GL.out).cell 7
        have d8 := (B2.out.keep0 GL.out).cell 8
        have d9 := (B2.out.keep0 GL.out).cell 9
        have d10 := (B2.out.keep0 GL.out).cell 10
        have d11 := (B2.out.keep0 GL.out).cell 11
        have d12 := (B2.out.keep0 GL.out).cell 12
        have d13 := (B2.out.keep0 GL.out).cell 13
        have d14 := (B2.out.keep0 GL.out).cell 14
        dsimp at d0 d1 d2 d3 d4 d5 d6 d7 d8 d9 d10 d11 d12 d13 d14
        go_wp2_with fail
        refine (Sb.out _).mono ?_
        rintro e w3 ⟨rfl, g⟩
        have G3 := Lib.hid (gb_trans GL.out g)
        clear g
        clear d0 d1 d2 d3 d4 d5 d6 d7 d8 d9 d10 d11 d12 d13 d14
        cases bb
        · go_wp2_with fail
          refine (works_any _).mono ?_
          rintro e w9 ⟨rfl, g⟩
          have G9 := Lib.hid (gb_trans G3.out g)
          clear g
          go_wp2
          go_ret
          exact ⟨rfl, gb_trans G1.out G9.out⟩
        · go_wp2
          exact ⟨⟨2, by omega, by first | rfl | simp, G3.out⟩, by simp [intOf]⟩
      · have d0 := (B2.out.keep0 GL.out).cell 0
        have d1 := (B2.out.keep0 GL.out).cell 1
        have d2 := (B2.out.keep0 GL.out).cell 2
        have d3 := (B2.out.keep0 GL.out).cell 3
        have d4 := (B2.out.keep0 GL.out).cell 4
        have d5 := (B2.out.keep0 GL.out).cell 5
        have d6 := (B2.out.keep0 GL.out).cell 6
        have d7 := (B2.out.keep0 GL.out).cell 7
        have d8 := (B2.out.keep0 GL.out).cell 8
        have d9 := (B2.out.keep0 GL.out).cell 9
        have d10 := (B2.out.keep0 GL.out).cell 10
        have d11 := (B2.out.keep0 GL.out).cell 11
        have d12 := (B2.out.keep0 GL.out).cell 12
        have d13 := (B2.out.keep0 GL.out).cell 13
        have d14 := (B2.out.keep0 GL.out).cell 14
        dsimp at d0 d1 d2 d3 d4 d5 d6 d7 d8 d9 d10 d11 d12 d13 d14
        go_wp2_with fail
        refine (Sc.out _).mono ?_
        rintro e w3 ⟨rfl, g⟩
        have G3 := Lib.hid (gb_trans GL.out g)
        clear g
        clear d0 d1 d2 d3 d4 d5 d6 d7 d8 d9 d10 d11 d12 d13 d14
        cases bc
        · go_wp2_with fail
          refine (works_any _).mono ?_
          rintro e w9 ⟨rfl, g⟩
          have G9 := Lib.hid (gb_trans G3.out g)
          clear g
          go_wp2
          go_ret
          exact ⟨rfl, gb_trans G1.out G9.out⟩
        · go_wp2
          exact ⟨⟨3, by omega, by first | rfl | simp, G3.out⟩, by simp [intOf]⟩
      · rw [show ((3 : Nat) : Int) = 3 from rfl]
        go_wp2
        have GL0 := Lib.hid GL.out
        clear GL
        go_loopw [8] (fun i wr => ∃ j : Nat, j ≤ 3 ∧ i = .int .i64 j ∧ w1.grownBy wr none) (fun i _ => 3 - (intOf i).toNat)
        case atStart => exact ⟨0, Nat.zero_le _, rfl, GL0.out⟩
        case round =>
          obtain ⟨j, hj, rfl, hg⟩ := hrel
          have GL := Lib.hid hg
          clear hg GL0
          have PC := Lib.hid (fun (W : World) (g : w1.grownBy W none) (i k : Int) (Y Z : EX) (x y : En) (hx : SE W Y x) (hy : SE W Z y) => pprec_any W X P (HI.out W g).1 ZZ.out t i k Y Z x y hx hy)
          rcases (show j = 0 ∨ j = 1 ∨ j = 2 ∨ j = 3 by omega) with rfl | rfl | rfl | rfl
          · have ww1 : IntKind.i64.wrap 1 = 1 := by decide
            have tt1 : Int.tmod 1 3 = 1 := by decide
            have ww2 : IntKind.i64.wrap 2 = 2 := by decide
            have tt2 : Int.tmod 2 3 = 2 := by decide
            have ww3 : IntKind.i64.wrap 3 = 3 := by decide
            have tt3 : Int.tmod 3 3 = 0 := by decide
            have ww4 : IntKind.i64.wrap 4 = 4 := by decide
            have tt4 : Int.tmod 4 3 = 1 := by decide
            have IR := Lib.hid (prec_irr P t ia a)
            go_upto_region 11 with fail
            have KQ := Lib.hid (fun (w' : World) (q0 : wr.grownBy w' none) => (⟨(B1.out.keep0 (gb_trans GL.out q0)).cell 0, (B1.out.keep0 (gb_trans GL.out q0)).cell 1, (B1.out.keep0 (gb_trans GL.out q0)).cell 2, (B1.out.keep0 (gb_trans GL.out q0)).cell 3, (B1.out.keep0 (gb_trans GL.out q0)).cell 4, (B1.out.keep0 (gb_trans GL.out q0)).cell 5, (B1.out.keep0 (gb_trans GL.out q0)).cell 6, (B1.out.keep0 (gb_trans GL.out q0)).cell 7, (B1.out.keep0 (gb_trans GL.out q0)).cell 8, (B2.out.keep0 (gb_trans GL.out q0)).cell 0, (B2.out.keep0 (gb_trans GL.out q0)).cell 1, (B2.out.keep0 (gb_trans GL.out q0)).cell 2, (B2.out.keep0 (gb_trans GL.out q0)).cell 3, (B2.out.keep0 (gb_trans GL.out q0)).cell 4, (B2.out.keep0 (gb_trans GL.out q0)).cell 5, (B2.out.keep0 (gb_trans GL.out q0)).cell 6, (B2.out.keep0 (gb_trans GL.out q0)).cell 7, (B2.out.keep0 (gb_trans GL.out q0)).cell 8, (B2.out.keep0 (gb_trans GL.out q0)).cell 9, (B2.out.keep0 (gb_trans GL.out q0)).cell 10, (B2.out.keep0 (gb_trans GL.out q0)).cell 11, (B2.out.keep0 (gb_trans GL.out q0)).cell 12, (B2.out.keep0 (gb_trans GL.out q0)).cell 13, (B2.out.keep0 (gb_trans GL.out q0)).cell 14, q0⟩ : (fun w' : World => w'.cell? ⟨bx, 0, none⟩ = some (.string X.nm) ∧ w'.cell? ⟨bx, 1, none⟩ = some (.slice X.ha X.hn X.hc) ∧ w'.cell? ⟨bx, 2, none⟩ = some (.slice X.ma X.mn X.mc) ∧ w'.cell? ⟨bx, 3, none⟩ = some (.slice X.ra X.rn X.rc) ∧ w'.cell? ⟨bx, 4, none⟩ = some (.slice X.aa X.an X.ac) ∧ w'.cell? ⟨bx, 5, none⟩ = some (.slice X.ta X.tn X.tc) ∧ w'.cell? ⟨bx, 6, none⟩ = some (.slice X.sa X.sn X.sc) ∧ w'.cell? ⟨bx, 7, none⟩ = some (.slice X.ca X.cn X.cc) ∧ w'.cell? ⟨bx, 8, none⟩ = some (.slice X.da X.dn X.dc) ∧ w'.cell? ⟨bx + 1, 0, none⟩ = some (.int .i64 ia) ∧ w'.cell? ⟨bx + 1, 1, none⟩ = some (.slice Ya.ka Ya.kn Ya.kc) ∧ w'.cell? ⟨bx + 1, 2, none⟩ = some (.int .i64 a.pr) ∧ w'.cell? ⟨bx + 1, 3, none⟩ = some (.int .i64 a.ac) ∧ w'.cell? ⟨bx + 1, 4, none⟩ = some (.slice Ya.ra Ya.rn Ya.rc) ∧ w'.cell? ⟨bx + 1, 5, none⟩ = some (.int .i64 ib) ∧ w'.cell? ⟨bx + 1, 6, none⟩ = some (.slice Yb.ka Yb.kn Yb.kc) ∧ w'.cell? ⟨bx + 1, 7, none⟩ = some (.int .i64 b.pr) ∧ w'.cell? ⟨bx + 1, 8, none⟩ = some (.int .i64 b.ac) ∧ w'.cell? ⟨bx + 1, 9, none⟩ = some (.slice Yb.ra Yb.rn Yb.rc) ∧ w'.cell? ⟨bx + 1, 10, none⟩ = some (.int .i64 ic) ∧ w'.cell? ⟨bx + 1, 11, none⟩ = some (.slice Yc.ka Yc.kn Yc.kc) ∧ w'.cell? ⟨bx + 1, 12, none⟩ = some (.int .i64 c.pr) ∧ w'.cell? ⟨bx + 1, 13, none⟩ = some (.int .i64 c.ac) ∧ w'.cell? ⟨bx + 1, 14, none⟩ = some (.slice Yc.ra Yc.rn Yc.rc) ∧ wr.grownBy w' none) w'))
            have Q0 := Lib.hid (gb_drew wr none)
            refine wp_region_held_drew (S := (fun w' : World => w'.cell? ⟨bx, 0, none⟩ = some (.string X.nm) ∧ w'.cell? ⟨bx, 1, none⟩ = some (.slice X.ha X.hn X.hc) ∧ w'.cell? ⟨bx, 2, none⟩ = some (.slice X.ma X.mn X.mc) ∧ w'.cell? ⟨bx, 3, none⟩ = some (.slice X.ra X.rn X.rc) ∧ w'.cell? ⟨bx, 4, none⟩ = some (.slice X.aa X.an X.ac) ∧ w'.cell? ⟨bx, 5, none⟩ = some (.slice X.ta X.tn X.tc) ∧ w'.cell? ⟨bx, 6, none⟩ = some (.slice X.sa X.sn X.sc) ∧ w'.cell? ⟨bx, 7, none⟩ = some (.slice X.ca X.cn X.cc) ∧ w'.cell? ⟨bx, 8, none⟩ = some (.slice X.da X.dn X.dc) ∧ w'.cell? ⟨bx + 1, 0, none⟩ = some (.int .i64 ia) ∧ w'.cell? ⟨bx + 1, 1, none⟩ = some (.slice Ya.ka Ya.kn Ya.kc) ∧ w'.cell? ⟨bx + 1, 2, none⟩ = some (.int .i64 a.pr) ∧ w'.cell? ⟨bx + 1, 3, none⟩ = some (.int .i64 a.ac) ∧ w'.cell? ⟨bx + 1, 4, none⟩ = some (.slice Ya.ra Ya.rn Ya.rc) ∧ w'.cell? ⟨bx + 1, 5, none⟩ = some (.int .i64 ib) ∧ w'.cell? ⟨bx + 1, 6, none⟩ = some (.slice Yb.ka Yb.kn Yb.kc) ∧ w'.cell? ⟨bx + 1, 7, none⟩ = some (.int .i64 b.pr) ∧ w'.cell? ⟨bx + 1, 8, none⟩ = some (.int .i64 b.ac) ∧ w'.cell? ⟨bx + 1, 9, none⟩ = some (.slice Yb.ra Yb.rn Yb.rc) ∧ w'.cell? ⟨bx + 1, 10, none⟩ = some (.int .i64 ic) ∧ w'.cell? ⟨bx + 1, 11, none⟩ = some (.slice Yc.ka Yc.kn Yc.kc) ∧ w'.cell? ⟨bx + 1, 12, none⟩ = some (.int .i64 c.pr) ∧ w'.cell? ⟨bx + 1, 13, none⟩ = some (.int .i64 c.ac) ∧ w'.cell? ⟨bx + 1, 14, none⟩ = some (.slice Yc.ra Yc.rn Yc.rc) ∧ wr.grownBy w' none)) (by kernel_rfl) (KQ.out _ Q0.out) (fun hH0 => ?_)
            refine wpAnyH_take (i := 0) (v := ?v77) rfl (by kernel_rfl) (by kernel_rfl) (by kernel_rfl) (fun _ _ _ h => h) (Or.inl ⟨by rfl, ?hy77⟩) (by assumption) ?rest77
            case hy77 => (intro wz hSw; (try dsimp only at hSw); first | (go_simp; done) | (go_simp; with_reducible rfl))
            try simp only [Act.put, List.getElem_toArray, List.getElem_cons_zero, List.setIfInBounds_toArray, List.set_cons_zero, List.set_cons_succ]
            refine wpAnyH_take (i := 1) (v := ?v78) rfl (by kernel_rfl) (by kernel_rfl) (by kernel_rfl) (fun _ _ _ h => h) (Or.inl ⟨by rfl, ?hy78⟩) (by assumption) ?rest78
            case hy78 => (intro wz hSw; (try dsimp only at hSw); first | (go_simp; done) | (go_simp; with_reducible rfl))
            try simp only [Act.put, List.getElem_toArray, List.getElem_cons_succ, List.getElem_cons_zero, List.setIfInBounds_toArray, List.set_cons_zero, List.set_cons_succ]
            refine wpAnyH_take (i := 2) (v := ?v79) rfl (by kernel_rfl) (by kernel_rfl) (by kernel_rfl) (fun _ _ _ h => h) (Or.inl ⟨by rfl, ?hy79⟩) (by assumption) ?rest79
            case hy79 => (intro wz hSw; (try dsimp only at hSw); first | (go_simp; done) | (go_simp; with_reducible rfl))
            try simp only [Act.put, List.getElem_toArray, List.getElem_cons_succ, List.getElem_cons_zero, List.setIfInBounds_toArray, List.set_cons_zero, List.set_cons_succ]
            refine wpAnyH_take (i := 3) (v := ?v80) rfl (by kernel_rfl) (by kernel_rfl) (by kernel_rfl) (fun _ _ _ h => h) (Or.inl ⟨by rfl, ?hy80⟩) (by assumption) ?rest80
            case hy80 => (intro wz hSw; (try dsimp only at hSw); first | (go_simp; done) | (go_simp; with_reducible rfl))
            try simp only [Act.put, List.getElem_toArray, List.getElem_cons_succ, List.getElem_cons_zero, List.setIfInBounds_toArray, List.set_cons_zero, List.set_cons_succ]
            refine wpAnyH_take (i := 4) (v := ?v81) rfl (by kernel_rfl) (by kernel_rfl) (by kernel_rfl) (fun _ _ _ h => h) (Or.inl ⟨by rfl, ?hy81⟩) (by assumption) ?rest81
            case hy81 => (intro wz hSw; (try dsimp only at hSw); first | (go_simp; done) | (go_simp; with_reducible rfl))
            try simp only [Act.put, List.getElem_toArray, List.getElem_cons_succ, List.getElem_cons_zero, List.setIfInBounds_toArray, List.set_cons_zero, List.set_cons_succ]
            refine wpAnyH_take (i := 5) (v := ?v82) rfl (by kernel_rfl) (by kernel_rfl) (by kernel_rfl) (fun _ _ _ h => h) (Or.inl ⟨by rfl, ?hy82⟩) (by assumption) ?rest82
            case hy82 => (intro wz hSw; (try dsimp only at hSw); first | (go_simp; done) | (go_simp; with_reducible rfl))
            try simp only [Act.put, List.getElem_toArray, List.getElem_cons_succ, List.getElem_cons_zero, List.setIfInBounds_toArray, List.set_cons_zero, List.set_cons_succ]
            refine wpAnyH_take (i := 6) (v := ?v83) rfl (by kernel_rfl) (by kernel_rfl) (by kernel_rfl) (fun _ _ _ h => h) (Or.inl ⟨by rfl, ?hy83⟩) (by assumption) ?rest83
            case hy83 => (intro wz hSw; (try dsimp only at hSw); first | (go_simp; done) | (go_simp; with_reducible rfl))
            try simp only [Act.put, List.getElem_toArray, List.getElem_cons_succ, List.getElem_cons_zero, List.setIfInBounds_toArray, List.set_cons_zero, List.set_cons_succ]
            refine wpAnyH_take (i := 7) (v := ?v84) rfl (by kernel_rfl) (by kernel_rfl) (by kernel_rfl) (fun _ _ _ h => h) (Or.inl ⟨by rfl, ?hy84⟩) (by assumption) ?rest84
            case hy84 => (intro wz hSw; (try dsimp only at hSw); first | (go_simp; done) | (go_simp; with_reducible rfl))
            try simp only [Act.put, List.getElem_toArray, List.getElem_cons_succ, List.getElem_cons_zero, List.setIfInBounds_toArray, List.set_cons_zero, List.set_cons_succ]
            refine wpAnyH_ready (rs := [8]) (by kernel_rfl) (by simp) ?_
            refine AllReadyH.cons (o := _) rfl (fun K hK => ?_) AllReadyH.nil
            go_simp
            (with_reducible refine (PC.out _ (gb_trans GL.out Q0.out) ia ia Ya Ya a a (HI.out _ (gb_trans GL.out Q0.out)).2.1 (HI.out _ (gb_trans GL.out Q0.out)).2.1).mono ?_)
            rintro e qw1 ⟨rfl, g⟩
            have Q1 := Lib.hid (gb_trans Q0.out g)
            clear g
            try dsimp only
            refine hK.out _ _ (KQ.out _ Q1.out) (fun hH1 => ?_)
            clear hK K hH0
            try simp only [Act.put, List.getElem_toArray, List.getElem_cons_succ, List.getElem_cons_zero, List.setIfInBounds_toArray, List.set_cons_zero, List.set_cons_succ]
            refine wpAnyH_done (by kernel_rfl) ?_ _
            clear hH1
            have G4 := Lib.hid (gb_trans GL.out Q1.out)
            rw [IR.out]
            clear KQ
            obtain ⟨w4, hw4⟩ : ∃ W, W = qw1 := ⟨_, rfl⟩
            rw [← hw4] at G4 ⊢
            clear hw4
            go_upto_region 13 with fail
            have KV := Lib.hid (fun (w' : World) (q0 : w4.grownBy w' none) => (⟨(B2.out.keep0 (gb_trans G4.out q0)).cell 0, (B2.out.keep0 (gb_trans G4.out q0)).cell 1, (B2.out.keep0 (gb_trans G4.out q0)).cell 2, (B2.out.keep0 (gb_trans G4.out q0)).cell 3, (B2.out.keep0 (gb_trans G4.out q0)).cell 4, (B2.out.keep0 (gb_trans G4.out q0)).cell 5, (B2.out.keep0 (gb_trans G4.out q0)).cell 6, (B2.out.keep0 (gb_trans G4.out q0)).cell 7, (B2.out.keep0 (gb_trans G4.out q0)).cell 8, (B2.out.keep0 (gb_trans G4.out q0)).cell 9, (B2.out.keep0 (gb_trans G4.out q0)).cell 10, (B2.out.keep0 (gb_trans G4.out q0)).cell 11, (B2.out.keep0 (gb_trans G4.out q0)).cell 12, (B2.out.keep0 (gb_trans G4.out q0)).cell 13, (B2.out.keep0 (gb_trans G4.out q0)).cell 14, q0⟩ : (fun w' : World => w'.cell? ⟨bx + 1, 0, none⟩ = some (.int .i64 ia) ∧ w'.cell? ⟨bx + 1, 1, none⟩ = some (.slice Ya.ka Ya.kn Ya.kc) ∧ w'.cell? ⟨bx + 1, 2, none⟩ = some (.int .i64 a.pr) ∧ w'.cell? ⟨bx + 1, 3, none⟩ = some (.int .i64 a.ac) ∧ w'.cell? ⟨bx + 1, 4, none⟩ = some (.slice Ya.ra Ya.rn Ya.rc) ∧ w'.cell? ⟨bx + 1, 5, none⟩ = some (.int .i64 ib) ∧ w'.cell? ⟨bx + 1, 6, none⟩ = some (.slice Yb.ka Yb.kn Yb.kc) ∧ w'.cell? ⟨bx + 1, 7, none⟩ = some (.int .i64 b.pr) ∧ w'.cell? ⟨bx + 1, 8, none⟩ = some (.int .i64 b.ac) ∧ w'.cell? ⟨bx + 1, 9, none⟩ = some (.slice Yb.ra Yb.rn Yb.rc) ∧ w'.cell? ⟨bx + 1, 10, none⟩ = some (.int .i64 ic) ∧ w'.cell? ⟨bx + 1, 11, none⟩ = some (.slice Yc.ka Yc.kn Yc.kc) ∧ w'.cell? ⟨bx + 1, 12, none⟩ = some (.int .i64 c.pr) ∧ w'.cell? ⟨bx + 1, 13, none⟩ = some (.int .i64 c.ac) ∧ w'.cell? ⟨bx + 1, 14, none⟩ = some (.slice Yc.ra Yc.rn Yc.rc) ∧ w4.grownBy w' none) w'))
            have V0 := Lib.hid (gb_drew w4 none)
            refine wp_region_held_drew (S := (fun w' : World => w'.cell? ⟨bx + 1, 0, none⟩ = some (.int .i64 ia) ∧ w'.cell? ⟨bx + 1, 1, none⟩ = some (.slice Ya.ka Ya.kn Ya.kc) ∧ w'.cell? ⟨bx + 1, 2, none⟩ = some (.int .i64 a.pr) ∧ w'.cell? ⟨bx + 1, 3, none⟩ = some (.int .i64 a.ac) ∧ w'.cell? ⟨bx + 1, 4, none⟩ = some (.slice Ya.ra Ya.rn Ya.rc) ∧ w'.cell? ⟨bx + 1, 5, none⟩ = some (.int .i64 ib) ∧ w'.cell? ⟨bx + 1, 6, none⟩ = some (.slice Yb.ka Yb.kn Yb.kc) ∧ w'.cell? ⟨bx + 1, 7, none⟩ = some (.int .i64 b.pr) ∧ w'.cell? ⟨bx + 1, 8, none⟩ = some (.int .i64 b.ac) ∧ w'.cell? ⟨bx + 1, 9, none⟩ = some (.slice Yb.ra Yb.rn Yb.rc) ∧ w'.cell? ⟨bx + 1, 10, none⟩ = some (.int .i64 ic) ∧ w'.cell? ⟨bx + 1, 11, none⟩ = some (.slice Yc.ka Yc.kn Yc.kc) ∧ w'.cell? ⟨bx + 1, 12, none⟩ = some (.int .i64 c.pr) ∧ w'.cell? ⟨bx + 1, 13, none⟩ = some (.int .i64 c.ac) ∧ w'.cell? ⟨bx + 1, 14, none⟩ = some (.slice Yc.ra Yc.rn Yc.rc) ∧ w4.grownBy w' none)) (by kernel_rfl) (KV.out _ V0.out) (fun hH0 => ?_)
            refine wpAnyH_take (i := 0) (v := ?v85) rfl (by kernel_rfl) (by kernel_rfl) (by kernel_rfl) (fun _ _ _ h => h) (Or.inl ⟨by rfl, ?hy85⟩) (by assumption) ?rest85
            case hy85 => (intro wz hSw; (try dsimp only at hSw); first | (go_simp; done) | (go_simp; with_reducible rfl))
            try simp only [Act.put, List.getElem_toArray, List.getElem_cons_zero, List.setIfInBounds_toArray, List.set_cons_zero, List.set_cons_succ]
            refine wpAnyH_take (i := 1) (v := ?v86) rfl (by kernel_rfl) (by kernel_rfl) (by kernel_rfl) (fun _ _ _ h => h) (Or.inl ⟨by rfl, ?hy86⟩) (by assumption) ?rest86
            case hy86 => (intro wz hSw; (try dsimp only at hSw); first | (go_simp; done) | (go_simp; with_reducible rfl))
            try simp only [Act.put, List.getElem_toArray, List.getElem_cons_succ, List.getElem_cons_zero, List.setIfInBounds_toArray, List.set_cons_zero, List.set_cons_succ]
            refine wpAnyH_take (i := 2) (v := ?v87) rfl (by kernel_rfl) (by kernel_rfl) (by kernel_rfl) (fun _ _ _ h => h) (Or.inl ⟨by rfl, ?hy87⟩) (by assumption) ?rest87
            case hy87 => (intro wz hSw; (try dsimp only at hSw); first | (go_simp; done) | (go_simp; with_reducible rfl))
            try simp only [Act.put, List.getElem_toArray, List.getElem_cons_succ, List.getElem_cons_zero, List.setIfInBounds_toArray, List.set_cons_zero, List.set_cons_succ]
            refine wpAnyH_take (i := 3) (v := ?v88) rfl (by kernel_rfl) (by kernel_rfl) (by kernel_rfl) (fun _ _ _ h => h) (Or.inl ⟨by rfl, ?hy88⟩) (by assumption) ?rest88
            case hy88 => (intro wz hSw; (try dsimp only at hSw); first | (go_simp; done) | (go_simp; with_reducible rfl))
            try simp only [Act.put, List.getElem_toArray, List.getElem_cons_succ, List.getElem_cons_zero, List.setIfInBounds_toArray, List.set_cons_zero, List.set_cons_succ]
            refine wpAnyH_take (i := 4) (v := ?v89) rfl (by kernel_rfl) (by kernel_rfl) (by kernel_rfl) (fun _ _ _ h => h) (Or.inl ⟨by rfl, ?hy89⟩) (by assumption) ?rest89
            case hy89 => (intro wz hSw; (try dsimp only at hSw); first | (go_simp; done) | (go_simp; with_reducible rfl))
            try simp only [Act.put, List.getElem_toArray, List.getElem_cons_succ, List.getElem_cons_zero, List.setIfInBounds_toArray, List.set_cons_zero, List.set_cons_succ]
            refine wpAnyH_take (i := 5) (v := ?v90) rfl (by kernel_rfl) (by kernel_rfl) (by kernel_rfl) (fun _ _ _ h => h) (Or.inl ⟨by rfl, ?hy90⟩) (by assumption) ?rest90
            case hy90 => (intro wz hSw; (try dsimp only at hSw); first | (go_simp; done) | (go_simp; with_reducible rfl))
            try simp only [Act.put, List.getElem_toArray, List.getElem_cons_succ, List.getElem_cons_zero, List.setIfInBounds_toArray, List.set_cons_zero, List.set_cons_succ]
            refine wpAnyH_take (i := 6) (v := ?v91) rfl (by kernel_rfl) (by kernel_rfl) (by kernel_rfl) (fun _ _ _ h => h) (Or.inl ⟨by rfl, ?hy91⟩) (by assumption) ?rest91
            case hy91 => (intro wz hSw; (try dsimp only at hSw); first | (go_simp; done) | (go_simp; with_reducible rfl))
            try simp only [Act.put, List.getElem_toArray, List.getElem_cons_succ, List.getElem_cons_zero, List.setIfInBounds_toArray, List.set_cons_zero, List.set_cons_succ]
            refine wpAnyH_take (i := 7) (v := ?v92) rfl (by kernel_rfl) (by kernel_rfl) (by kernel_rfl) (fun _ _ _ h => h) (Or.inl ⟨by rfl, ?hy92⟩) (by assumption) ?rest92
            case hy92 => (intro wz hSw; (try dsimp only at hSw); first | (go_simp; done) | (go_simp; with_reducible rfl))
            try simp only [Act.put, List.getElem_toArray, List.getElem_cons_succ, List.getElem_cons_zero, List.setIfInBounds_toArray, List.set_cons_zero, List.set_cons_succ]
            refine wpAnyH_take (i := 8) (v := ?v93) rfl (by kernel_rfl) (by kernel_rfl) (by kernel_rfl) (fun _ _ _ h => h) (Or.inl ⟨by rfl, ?hy93⟩) (by assumption) ?rest93
            case hy93 => (intro wz hSw; (try dsimp only at hSw); first | (go_simp; done) | (go_simp; with_reducible rfl))
            try simp only [Act.put, List.getElem_toArray, List.getElem_cons_succ, List.getElem_cons_zero, List.setIfInBounds_toArray, List.set_cons_zero, List.set_cons_succ]
            refine wpAnyH_take (i := 9) (v := ?v94) rfl (by kernel_rfl) (by kernel_rfl) (by kernel_rfl) (fun _ _ _ h => h) (Or.inl ⟨by rfl, ?hy94⟩) (by assumption) ?rest94
            case hy94 => (intro wz hSw; (try dsimp only at hSw); first | (go_simp; done) | (go_simp; with_reducible rfl))
            try simp only [Act.put, List.getElem_toArray, List.getElem_cons_succ, List.getElem_cons_zero, List.setIfInBounds_toArray, List.set_cons_zero, List.set_cons_succ]
            refine wpAnyH_take (i := 10) (v := ?v95) rfl (by kernel_rfl) (by kernel_rfl) (by kernel_rfl) (fun _ _ _ h => h) (Or.inl ⟨by rfl, ?hy95⟩) (by assumption) ?rest95
            case hy95 => (intro wz hSw; (try dsimp only at hSw); first | (go_simp; done) | (go_simp; with_reducible rfl))
            try simp only [Act.put, List.getElem_toArray, List.getElem_cons_succ, List.getElem_cons_zero, List.setIfInBounds_toArray, List.set_cons_zero, List.set_cons_succ]
            refine wpAnyH_take (i := 11) (v := ?v96) rfl (by kernel_rfl) (by kernel_rfl) (by kernel_rfl) (fun _ _ _ h => h) (Or.inl ⟨by rfl, ?hy96⟩) (by assumption) ?rest96
            case hy96 => (intro wz hSw; (try dsimp only at hSw); first | (go_simp; done) | (go_simp; with_reducible rfl))
            try simp only [Act.put, List.getElem_toArray, List.getElem_cons_succ, List.getElem_cons_zero, List.setIfInBounds_toArray, List.set_cons_zero, List.set_cons_succ]
            refine wpAnyH_take (i := 12) (v := ?v97) rfl (by kernel_rfl) (by kernel_rfl) (by kernel_rfl) (fun _ _ _ h => h) (Or.inl ⟨by rfl, ?hy97⟩) (by assumption) ?rest97
            case hy97 => (intro wz hSw; (try dsimp only at hSw); first | (go_simp; done) | (go_simp; with_reducible rfl))
            try simp only [Act.put, List.getElem_toArray, List.getElem_cons_succ, List.getElem_cons_zero, List.setIfInBounds_toArray, List.set_cons_zero, List.set_cons_succ]
            refine wp_three (r1 := #[.int .i64 ia, .slice Ya.ka Ya.kn Ya.kc, .int .i64 a.pr, .int .i64 a.ac, .slice Ya.ra Ya.rn Ya.rc]) (r2 := #[.int .i64 ib, .slice Yb.ka Yb.kn Yb.kc, .int .i64 b.pr, .int .i64 b.ac, .slice Yb.ra Yb.rn Yb.rc]) (r3 := #[.int .i64 ic, .slice Yc.ka Yc.kn Yc.kc, .int .i64 c.pr, .int .i64 c.ac, .slice Yc.ra Yc.rn Yc.rc]) (z := #[.int .i64 0, .slice none 0 0, .int .i64 0, .int .i64 0, .slice none 0 0]) (s1 := 9) (s2 := 10) (s3 := 11) (t := 46) w4.drew _ _ ?step ?fin (gb_refl _ _) rfl
            case step =>
              clear hH0
              rintro l A W ⟨f1, f2, f3, g1, g2, g3, v1, v2, v3, rfl, rfl, gw, h1, h2, h3, d1, d2, d3, z1, z2, z3⟩ i hi
              obtain ⟨un, o, ho, hall⟩ := mem_ready.1 hi
              clear hi
              have GW := Lib.hid gw
              have H1 := Lib.hid h1
              have H2 := Lib.hid h2
              have H3 := Lib.hid h3
              clear gw h1 h2 h3
              have hlt : i < 19 := by
                obtain ⟨q, _⟩ := Array.getElem?_eq_some_iff.1 ho
                exact q
              rcases (show i = 0 ∨ i = 1 ∨ i = 2 ∨ i = 3 ∨ i = 4 ∨ i = 5 ∨ i = 6 ∨ i = 7 ∨ i = 8 ∨ i = 9 ∨ i = 10 ∨ i = 11 ∨ i = 12 ∨ i = 13 ∨ i = 14 ∨ i = 15 ∨ i = 16 ∨ i = 17 ∨ i = 18 by omega) with rfl | rfl | rfl | rfl | rfl | rfl | rfl | rfl | rfl | rfl | rfl | rfl | rfl | rfl | rfl | rfl | rfl | rfl | rfl
              · exact absurd un (by simp)
              · exact absurd un (by simp)
              · exact absurd un (by simp)
              · exact absurd un (by simp)
              · exact absurd un (by simp)
              · exact absurd un (by simp)
              · exact absurd un (by simp)
              · exact absurd un (by simp)
              · exact absurd un (by simp)
              · exact absurd un (by simp)
              · exact absurd un (by simp)
              · exact absurd un (by simp)
              · exact absurd un (by simp)
              · have un : f1 = false := by simpa using un
                subst un
                obtain rfl : g1 = false := z1 rfl
                refine wpOp_step (o := _) rfl (fun K2 hK2 => ?_)
                have HK2 := Lib.hid hK2
                clear hK2 ho hall
                simp only [Act.put, List.getElem_toArray, List.setIfInBounds_toArray, List.set_cons_zero, List.set_cons_succ]
                go_simp
                refine HK2.out _ _ ⟨KV.out _ (gb_trans (gb_drew w4 none) (gb_trans GW.out (gb_alloc _ _ none))), true, f2, f3, false, g2, g3, (.pointer (some ⟨W.heap.size, 0, none⟩)), v2, v3, by simp, by first | rfl | (simp [Act.put]; done), gb_trans GW.out (gb_alloc _ _ none), CH3.new GW.out, H2.out.alloc _, H3.out.alloc _, (fun _ e => Ne.symm (H2.out.ne e)), (fun _ e => Ne.symm (H3.out.ne e)), d3, (fun e => by cases e), z2, z3⟩
              · have un : f2 = false := by simpa using un
                subst un
                obtain rfl : g2 = false := z2 rfl
                refine wpOp_step (o := _) rfl (fun K2 hK2 => ?_)
                have HK2 := Lib.hid hK2
                clear hK2 ho hall
                simp only [Act.put, List.getElem_toArray, List.setIfInBounds_toArray, List.set_cons_zero, List.set_cons_succ]
                go_simp
                refine HK2.out _ _ ⟨KV.out _ (gb_trans (gb_drew w4 none) (gb_trans GW.out (gb_alloc _ _ none))), f1, true, f3, g1, false, g3, v1, (.pointer (some ⟨W.heap.size, 0, none⟩)), v3, by simp, by first | rfl | (simp [Act.put]; done), gb_trans GW.out (gb_alloc _ _ none), H1.out.alloc _, CH3.new GW.out, H3.out.alloc _, (fun e _ => H1.out.ne e), d2, (fun _ e => Ne.symm (H3.out.ne e)), z1, (fun e => by cases e), z3⟩
              · have un : f3 = false := by simpa using un
                subst un
                obtain rfl : g3 = false := z3 rfl
                refine wpOp_step (o := _) rfl (fun K2 hK2 => ?_)
                have HK2 := Lib.hid hK2
                clear hK2 ho hall
                simp only [Act.put, List.getElem_toArray, List.setIfInBounds_toArray, List.set_cons_zero, List.set_cons_succ]
                go_simp
                refine HK2.out _ _ ⟨KV.out _ (gb_trans (gb_drew w4 none) (gb_trans GW.out (gb_alloc _ _ none))), f1, f2, true, g1, g2, false, v1, v2, (.pointer (some ⟨W.heap.size, 0, none⟩)), by simp, by first | rfl | (simp [Act.put]; done), gb_trans GW.out (gb_alloc _ _ none), H1.out.alloc _, H2.out.alloc _, CH3.new GW.out, d1, (fun e _ => H1.out.ne e), (fun e _ => H2.out.ne e), z1, z2, (fun e => by cases e)⟩
              · have un : g1 = false := by simpa using un
                subst un
                have fl : f1 = true := by
                  have o2 : o = _ := (Option.some.inj ho).symm
                  subst o2
                  have q := hall ⟨13, .data⟩ (by simp) rfl
                  simpa using q
                subst fl
                obtain ⟨bq, rfl, hb2, hb3⟩ := H1.out rfl
                have HB3 := Lib.hid (show IsB W bq 46 #[.int .i64 0, .slice none 0 0, .int .i64 0, .int .i64 0, .slice none 0 0] from hb3)
                have SB := Lib.hid (fill5 HB3.out (.int .i64 ia) (.slice Ya.ka Ya.kn Ya.kc) (.int .i64 a.pr) (.int .i64 a.ac) (.slice Ya.ra Ya.rn Ya.rc))
                have fr0 := HB3.out.free 0
                have fr1 := HB3.out.free 1
                have fr2 := HB3.out.free 2
                have fr3 := HB3.out.free 3
                have fr4 := HB3.out.free 4
                have cr0 := HB3.out.cell 0
                have cr1 := HB3.out.cell 1
                have cr2 := HB3.out.cell 2
                have cr3 := HB3.out.cell 3
                have cr4 := HB3.out.cell 4
                dsimp at cr0 cr1 cr2 cr3 cr4
                refine wpOp_step (o := _) rfl (fun K2 hK2 => ?_)
                have HK2 := Lib.hid hK2
                clear hK2 ho hall hb3
                simp only [Act.put, List.getElem_toArray, List.setIfInBounds_toArray, List.set_cons_zero, List.set_cons_succ]
                go_simp
                refine HK2.out _ _ ⟨KV.out _ (gb_trans (gb_drew w4 none) (grow5 GW.out hb2)), true, f2, f3, true, g2, g3, (.pointer (some ⟨bq, 0, none⟩)), v2, v3, by simp, by first | rfl | (simp [Act.put]; done), grow5 GW.out hb2, (fun _ => ⟨bq, rfl, hb2, SB.out⟩), (fun e => by obtain ⟨b2, q1, q2, q3⟩ := H2.out e; exact ⟨b2, q1, q2, by have NN : b2 ≠ bq := (fun ee => (Ne.symm (d1 rfl e)) (by rw [q1, ee])); exact far5 q3 NN⟩), (fun e => by obtain ⟨b2, q1, q2, q3⟩ := H3.out e; exact ⟨b2, q1, q2, by have NN : b2 ≠ bq := (fun ee => (Ne.symm (d2 rfl e)) (by rw [q1, ee])); exact far5 q3 NN⟩), d1, d2, d3, (fun e => by cases e), z2, z3⟩
              · have un : g2 = false := by simpa using un
                subst un
                have fl : f2 = true := by
                  have o2 : o = _ := (Option.some.inj ho).symm
                  subst o2
                  have q := hall ⟨14, .data⟩ (by simp) rfl
                  simpa using q
                subst fl
                obtain ⟨bq, rfl, hb2, hb3⟩ := H2.out rfl
                have HB3 := Lib.hid (show IsB W bq 46 #[.int .i64 0, .slice none 0 0, .int .i64 0, .int .i64 0, .slice none 0 0] from hb3)
                have SB := Lib.hid (fill5 HB3.out (.int .i64 ib) (.slice Yb.ka Yb.kn Yb.kc) (.int .i64 b.pr) (.int .i64 b.ac) (.slice Yb.ra Yb.rn Yb.rc))
                have fr0 := HB3.out.free 0
                have fr1 := HB3.out.free 1
                have fr2 := HB3.out.free 2
                have fr3 := HB3.out.free 3
                have fr4 := HB3.out.free 4
                have cr0 := HB3.out.cell 0
                have cr1 := HB3.out.cell 1
                have cr2 := HB3.out.cell 2
                have cr3 := HB3.out.cell 3
                have cr4 := HB3.out.cell 4
                dsimp at cr0 cr1 cr2 cr3 cr4
                refine wpOp_step (o := _) rfl (fun K2 hK2 => ?_)
                have HK2 := Lib.hid hK2
                clear hK2 ho hall hb3
                simp only [Act.put, List.getElem_toArray, List.setIfInBounds_toArray, List.set_cons_zero, List.set_cons_succ]
                go_simp
                refine HK2.out _ _ ⟨KV.out _ (gb_trans (gb_drew w4 none) (grow5 GW.out hb2)), f1, true, f3, g1, true, g3, v1, (.pointer (some ⟨bq, 0, none⟩)), v3, by simp, by first | rfl | (simp [Act.put]; done), grow5 GW.out hb2, (fun e => by obtain ⟨b2, q1, q2, q3⟩ := H1.out e; exact ⟨b2, q1, q2, by have NN : b2 ≠ bq := (fun ee => (d1 e rfl) (by rw [q1, ee])); exact far5 q3 NN⟩), (fun _ => ⟨bq, rfl, hb2, SB.out⟩), (fun e => by obtain ⟨b2, q1, q2, q3⟩ := H3.out e; exact ⟨b2, q1, q2, by have NN : b2 ≠ bq := (fun ee => (Ne.symm (d3 rfl e)) (by rw [q1, ee])); exact far5 q3 NN⟩), d1, d2, d3, z1, (fun e => by cases e), z3⟩
              · have un : g3 = false := by simpa using un
                subst un
                have fl : f3 = true := by
                  have o2 : o = _ := (Option.some.inj ho).symm
                  subst o2
                  have q := hall ⟨15, .data⟩ (by simp) rfl
                  simpa using q
                subst fl
                obtain ⟨bq, rfl, hb2, hb3⟩ := H3.out rfl
                have HB3 := Lib.hid (show IsB W bq 46 #[.int .i64 0, .slice none 0 0, .int .i64 0, .int .i64 0, .slice none 0 0] from hb3)
                have SB := Lib.hid (fill5 HB3.out (.int .i64 ic) (.slice Yc.ka Yc.kn Yc.kc) (.int .i64 c.pr) (.int .i64 c.ac) (.slice Yc.ra Yc.rn Yc.rc))
                have fr0 := HB3.out.free 0
                have fr1 := HB3.out.free 1
                have fr2 := HB3.out.free 2
                have fr3 := HB3.out.free 3
                have fr4 := HB3.out.free 4
                have cr0 := HB3.out.cell 0
                have cr1 := HB3.out.cell 1
                have cr2 := HB3.out.cell 2
                have cr3 := HB3.out.cell 3
                have cr4 := HB3.out.cell 4
                dsimp at cr0 cr1 cr2 cr3 cr4
                refine wpOp_step (o := _) rfl (fun K2 hK2 => ?_)
                have HK2 := Lib.hid hK2
                clear hK2 ho hall hb3
                simp only [Act.put, List.getElem_toArray, List.setIfInBounds_toArray, List.set_cons_zero, List.set_cons_succ]
                go_simp
                refine HK2.out _ _ ⟨KV.out _ (gb_trans (gb_drew w4 none) (grow5 GW.out hb2)), f1, f2, true, g1, g2, true, v1, v2, (.pointer (some ⟨bq, 0, none⟩)), by simp, by first | rfl | (simp [Act.put]; done), grow5 GW.out hb2, (fun e => by obtain ⟨b2, q1, q2, q3⟩ := H1.out e; exact ⟨b2, q1, q2, by have NN : b2 ≠ bq := (fun ee => (d2 e rfl) (by rw [q1, ee])); exact far5 q3 NN⟩), (fun e => by obtain ⟨b2, q1, q2, q3⟩ := H2.out e; exact ⟨b2, q1, q2, by have NN : b2 ≠ bq := (fun ee => (d3 e rfl) (by rw [q1, ee])); exact far5 q3 NN⟩), (fun _ => ⟨bq, rfl, hb2, SB.out⟩), d1, d2, d3, z1, z2, (fun e => by cases e)⟩
            case fin =>
              clear hH0
              rintro l A W ⟨f1, f2, f3, g1, g2, g3, v1, v2, v3, rfl, rfl, gw, h1, h2, h3, d1, d2, d3, z1, z2, z3⟩ hr
              obtain ⟨rfl, rfl, rfl, rfl, rfl, rfl⟩ : f1 = true ∧ f2 = true ∧ f3 = true ∧ g1 = true ∧ g2 = true ∧ g3 = true := by
                clear h1 h2 h3 d1 d2 d3 z1 z2 z3 gw
                revert hr
                cases f1 <;> cases f2 <;> cases f3 <;> cases g1 <;> cases g2 <;> cases g3 <;> first | exact fun _ => ⟨rfl, rfl, rfl, rfl, rfl, rfl⟩ | exact fun hr => absurd hr (by decide +kernel)
              obtain ⟨b1, rfl, _, e1⟩ := h1 rfl
              obtain ⟨b2, rfl, _, e2⟩ := h2 rfl
              obtain ⟨b3, rfl, _, e3⟩ := h3 rfl
              have E1 := Lib.hid (show IsB W b1 46 #[.int .i64 ia, .slice Ya.ka Ya.kn Ya.kc, .int .i64 a.pr, .int .i64 a.ac, .slice Ya.ra Ya.rn Ya.rc] from e1)
              have E2 := Lib.hid (show IsB W b2 46 #[.int .i64 ib, .slice Yb.ka Yb.kn Yb.kc, .int .i64 b.pr, .int .i64 b.ac, .slice Yb.ra Yb.rn Yb.rc] from e2)
              have E3 := Lib.hid (show IsB W b3 46 #[.int .i64 ic, .slice Yc.ka Yc.kn Yc.kc, .int .i64 c.pr, .int .i64 c.ac, .slice Yc.ra Yc.rn Yc.rc] from e3)
              have G5 := Lib.hid (gb_trans G4.out (gb_trans (gb_drew w4 none) gw))
              clear e1 e2 e3 gw d1 d2 d3 z1 z2 z3 hr h1 h2 h3 KV
              simp only [Act.put, List.getElem_toArray, List.setIfInBounds_toArray, List.set_cons_zero, List.set_cons_succ]
              have C12 := Lib.hid (fun (W : World) (g : w1.grownBy W none) => PC.out _ g ia ib Ya Yb a b (HI.out _ g).2.1 (HI.out _ g).2.2.1)
              have C21 := Lib.hid (fun (W : World) (g : w1.grownBy W none) => PC.out _ g ib ia Yb Ya b a (HI.out _ g).2.2.1 (HI.out _ g).2.1)
              have C23 := Lib.hid (fun (W : World) (g : w1.grownBy W none) => PC.out _ g ib ic Yb Yc b c (HI.out _ g).2.2.1 (HI.out _ g).2.2.2)
              have C13 := Lib.hid (fun (W : World) (g : w1.grownBy W none) => PC.out _ g ia ic Ya Yc a c (HI.out _ g).2.1 (HI.out _ g).2.2.2)
              have TO := Lib.hid (prec_tot P t ia ib a b)
              have TA := Lib.hid (prec_tra P t ia ib ic a b c)
              generalize precE P t ia a ib b = u12 at *
              generalize precE P t ib b ia a = u21 at *
              generalize precE P t ib b ic c = u23 at *
              generalize precE P t ia a ic c = u13 at *
              go_upto_region 14 with fail
              by_cases hne : ia = ib
              · have ne : (ia != ib) = false := by rw [bne_eq_false_iff_eq]; exact hne
                clear hne TO
                have KU := Lib.hid (fun (w' : World) (q0 : W.grownBy w' none) => (⟨(B1.out.keep0 (gb_trans G5.out q0)).cell 0, (B1.out.keep0 (gb_trans G5.out q0)).cell 1, (B1.out.keep0 (gb_trans G5.out q0)).cell 2, (B1.out.keep0 (gb_trans G5.out q0)).cell 3, (B1.out.keep0 (gb_trans G5.out q0)).cell 4, (B1.out.keep0 (gb_trans G5.out q0)).cell 5, (B1.out.keep0 (gb_trans G5.out q0)).cell 6, (B1.out.keep0 (gb_trans G5.out q0)).cell 7, (B1.out.keep0 (gb_trans G5.out q0)).cell 8, (E1.out.keep0 q0).cell 0, (E1.out.keep0 q0).cell 1, (E1.out.keep0 q0).cell 2, (E1.out.keep0 q0).cell 3, (E1.out.keep0 q0).cell 4, (E2.out.keep0 q0).cell 0, (E2.out.keep0 q0).cell 1, (E2.out.keep0 q0).cell 2, (E2.out.keep0 q0).cell 3, (E2.out.keep0 q0).cell 4, q0⟩ : (fun w' : World => w'.cell? ⟨bx, 0, none⟩ = some (.string X.nm) ∧ w'.cell? ⟨bx, 1, none⟩ = some (.slice X.ha X.hn X.hc) ∧ w'.cell? ⟨bx, 2, none⟩ = some (.slice X.ma X.mn X.mc) ∧ w'.cell? ⟨bx, 3, none⟩ = some (.slice X.ra X.rn X.rc) ∧ w'.cell? ⟨bx, 4, none⟩ = some (.slice X.aa X.an X.ac) ∧ w'.cell? ⟨bx, 5, none⟩ = some (.slice X.ta X.tn X.tc) ∧ w'.cell? ⟨bx, 6, none⟩ = some (.slice X.sa X.sn X.sc) ∧ w'.cell? ⟨bx, 7, none⟩ = some (.slice X.ca X.cn X.cc) ∧ w'.cell? ⟨bx, 8, none⟩ = some (.slice X.da X.dn X.dc) ∧ w'.cell? ⟨b1, 0, none⟩ = some (.int .i64 ia) ∧ w'.cell? ⟨b1, 1, none⟩ = some (.slice Ya.ka Ya.kn Ya.kc) ∧ w'.cell? ⟨b1, 2, none⟩ = some (.int .i64 a.pr) ∧ w'.cell? ⟨b1, 3, none⟩ = some (.int .i64 a.ac) ∧ w'.cell? ⟨b1, 4, none⟩ = some (.slice Ya.ra Ya.rn Ya.rc) ∧ w'.cell? ⟨b2, 0, none⟩ = some (.int .i64 ib) ∧ w'.cell? ⟨b2, 1, none⟩ = some (.slice Yb.ka Yb.kn Yb.kc) ∧ w'.cell? ⟨b2, 2, none⟩ = some (.int .i64 b.pr) ∧ w'.cell? ⟨b2, 3, none⟩ = some (.int .i64 b.ac) ∧ w'.cell? ⟨b2, 4, none⟩ = some (.slice Yb.ra Yb.rn Yb.rc) ∧ W.grownBy w' none) w'))
                have U0 := Lib.hid (gb_drew W none)
                refine wp_region_held_drew (S := (fun w' : World => w'.cell? ⟨bx, 0, none⟩ = some (.string X.nm) ∧ w'.cell? ⟨bx, 1, none⟩ = some (.slice X.ha X.hn X.hc) ∧ w'.cell? ⟨bx, 2, none⟩ = some (.slice X.ma X.mn X.mc) ∧ w'.cell? ⟨bx, 3, none⟩ = some (.slice X.ra X.rn X.rc) ∧ w'.cell? ⟨bx, 4, none⟩ = some (.slice X.aa X.an X.ac) ∧ w'.cell? ⟨bx, 5, none⟩ = some (.slice X.ta X.tn X.tc) ∧ w'.cell? ⟨bx, 6, none⟩ = some (.slice X.sa X.sn X.sc) ∧ w'.cell? ⟨bx, 7, none⟩ = some (.slice X.ca X.cn X.cc) ∧ w'.cell? ⟨bx, 8, none⟩ = some (.slice X.da X.dn X.dc) ∧ w'.cell? ⟨b1, 0, none⟩ = some (.int .i64 ia) ∧ w'.cell? ⟨b1, 1, none⟩ = some (.slice Ya.ka Ya.kn Ya.kc) ∧ w'.cell? ⟨b1, 2, none⟩ = some (.int .i64 a.pr) ∧ w'.cell? ⟨b1, 3, none⟩ = some (.int .i64 a.ac) ∧ w'.cell? ⟨b1, 4, none⟩ = some (.slice Ya.ra Ya.rn Ya.rc) ∧ w'.cell? ⟨b2, 0, none⟩ = some (.int .i64 ib) ∧ w'.cell? ⟨b2, 1, none⟩ = some (.slice Yb.ka Yb.kn Yb.kc) ∧ w'.cell? ⟨b2, 2, none⟩ = some (.int .i64 b.pr) ∧ w'.cell? ⟨b2, 3, none⟩ = some (.int .i64 b.ac) ∧ w'.cell? ⟨b2, 4, none⟩ = some (.slice Yb.ra Yb.rn Yb.rc) ∧ W.grownBy w' none)) (by kernel_rfl) (KU.out _ U0.out) (fun hH0 => ?_)
                refine wpAnyH_take (i := 0) (v := ?v98) rfl (by kernel_rfl) (by kernel_rfl) (by kernel_rfl) (fun _ _ _ h => h) (Or.inl ⟨by rfl, ?hy98⟩) (by assumption) ?rest98
                case hy98 => (intro wz hSw; (try dsimp only at hSw); first | (go_simp; done) | (go_simp; with_reducible rfl))
                try simp only [Act.put, List.getElem_toArray, List.getElem_cons_zero, List.setIfInBounds_toArray, List.set_cons_zero, List.set_cons_succ]
                refine wpAnyH_take (i := 1) (v := ?v99) rfl (by kernel_rfl) (by kernel_rfl) (by kernel_rfl) (fun _ _ _ h => h) (Or.inl ⟨by rfl, ?hy99⟩) (by assumption) ?rest99
                case hy99 => (intro wz hSw; (try dsimp only at hSw); first | (go_simp; done) | (go_simp; with_reducible rfl))
                try simp only [Act.put, List.getElem_toArray, List.getElem_cons_succ, List.getElem_cons_zero, List.setIfInBounds_toArray, List.set_cons_zero, List.set_cons_succ]
                refine wpAnyH_take (i := 2) (v := ?v100) rfl (by kernel_rfl) (by kernel_rfl) (by kernel_rfl) (fun _ _ _ h => h) (Or.inl ⟨by rfl, ?hy100⟩) (by assumption) ?rest100
                case hy100 => (intro wz hSw; (try dsimp only at hSw); first | (go_simp; done) | (go_simp; with_reducible rfl))
                try simp only [Act.put, List.getElem_toArray, List.getElem_cons_succ, List.getElem_cons_zero, List.setIfInBounds_toArray, List.set_cons_zero, List.set_cons_succ]
                refine wpAnyH_take (i := 3) (v := ?v101) rfl (by kernel_rfl) (by kernel_rfl) (by kernel_rfl) (fun _ _ _ h => h) (Or.inl ⟨by rfl, ?hy101⟩) (by assumption) ?rest101
                case hy101 => (intro wz hSw; (try dsimp only at hSw); first | (go_simp; done) | (go_simp; with_reducible rfl))
                try simp only [Act.put, List.getElem_toArray, List.getElem_cons_succ, List.getElem_cons_zero, List.setIfInBounds_toArray, List.set_cons_zero, List.set_cons_succ]
                refine wpAnyH_take (i := 4) (v := ?v102) rfl (by kernel_rfl) (by kernel_rfl) (by kernel_rfl) (fun _ _ _ h => h) (Or.inl ⟨by rfl, ?hy102⟩) (by assumption) ?rest102
                case hy102 => (intro wz hSw; (try dsimp only at hSw); first | (go_simp; done) | (go_simp; with_reducible rfl))
                try simp only [Act.put, List.getElem_toArray, List.getElem_cons_succ, List.getElem_cons_zero, List.setIfInBounds_toArray, List.set_cons_zero, List.set_cons_succ]
                refine wpAnyH_take (i := 5) (v := ?v103) rfl (by kernel_rfl) (by kernel_rfl) (by kernel_rfl) (fun _ _ _ h => h) (Or.inl ⟨by rfl, ?hy103⟩) (by assumption) ?rest103
                case hy103 => (intro wz hSw; (try dsimp only at hSw); first | (go_simp; done) | (go_simp; with_reducible rfl))
                try simp only [Act.put, List.getElem_toArray, List.getElem_cons_succ, List.getElem_cons_zero, List.setIfInBounds_toArray, List.set_cons_zero, List.set_cons_succ]
                refine wpAnyH_take (i := 6) (v := undef) rfl (by kernel_rfl) (by kernel_rfl) (by kernel_rfl) (fun _ _ _ h => h) (Or.inr ⟨by rfl, rfl⟩) (by assumption) ?_
                try simp only [Act.put, List.getElem_toArray, List.getElem_cons_succ, List.getElem_cons_zero, List.setIfInBounds_toArray, List.set_cons_zero, List.set_cons_succ]
                refine wpAnyH_take (i := 7) (v := undef) rfl (by kernel_rfl) (by kernel_rfl) (by kernel_rfl) (fun _ _ _ h => h) (Or.inr ⟨by rfl, rfl⟩) (by assumption) ?_
                try simp only [Act.put, List.getElem_toArray, List.getElem_cons_succ, List.getElem_cons_zero, List.setIfInBounds_toArray, List.set_cons_zero, List.set_cons_succ]
                refine wpAnyH_take (i := 8) (v := undef) rfl (by kernel_rfl) (by kernel_rfl) (by kernel_rfl) (fun _ _ _ h => h) (Or.inr ⟨by rfl, rfl⟩) (by assumption) ?_
                try simp only [Act.put, List.getElem_toArray, List.getElem_cons_succ, List.getElem_cons_zero, List.setIfInBounds_toArray, List.set_cons_zero, List.set_cons_succ]
                refine wpAnyH_take (i := 9) (v := undef) rfl (by kernel_rfl) (by kernel_rfl) (by kernel_rfl) (fun _ _ _ h => h) (Or.inr ⟨by rfl, rfl⟩) (by assumption) ?_
                try simp only [Act.put, List.getElem_toArray, List.getElem_cons_succ, List.getElem_cons_zero, List.setIfInBounds_toArray, List.set_cons_zero, List.set_cons_succ]
                refine wpAnyH_take (i := 10) (v := undef) rfl (by kernel_rfl) (by kernel_rfl) (by kernel_rfl) (fun _ _ _ h => h) (Or.inr ⟨by rfl, rfl⟩) (by assumption) ?_
                try simp only [Act.put, List.getElem_toArray, List.getElem_cons_succ, List.getElem_cons_zero, List.setIfInBounds_toArray, List.set_cons_zero, List.set_cons_succ]
                refine wpAnyH_take (i := 11) (v := undef) rfl (by kernel_rfl) (by kernel_rfl) (by kernel_rfl) (fun _ _ _ h => h) (Or.inr ⟨by rfl, rfl⟩) (by assumption) ?_
                try simp only [Act.put, List.getElem_toArray, List.getElem_cons_succ, List.getElem_cons_zero, List.setIfInBounds_toArray, List.set_cons_zero, List.set_cons_succ]
                refine wpAnyH_take (i := 12) (v := undef) rfl (by kernel_rfl) (by kernel_rfl) (by kernel_rfl) (fun _ _ _ h => h) (Or.inr ⟨by rfl, rfl⟩) (by assumption) ?_
                try simp only [Act.put, List.getElem_toArray, List.getElem_cons_succ, List.getElem_cons_zero, List.setIfInBounds_toArray, List.set_cons_zero, List.set_cons_succ]
                refine wpAnyH_take (i := 13) (v := undef) rfl (by kernel_rfl) (by kernel_rfl) (by kernel_rfl) (fun _ _ _ h => h) (Or.inr ⟨by rfl, rfl⟩) (by assumption) ?_
                try simp only [Act.put, List.getElem_toArray, List.getElem_cons_succ, List.getElem_cons_zero, List.setIfInBounds_toArray, List.set_cons_zero, List.set_cons_succ]
                refine wpAnyH_take (i := 14) (v := undef) rfl (by kernel_rfl) (by kernel_rfl) (by kernel_rfl) (fun _ _ _ h => h) (Or.inr ⟨by rfl, rfl⟩) (by assumption) ?_
                try simp only [Act.put, List.getElem_toArray, List.getElem_cons_succ, List.getElem_cons_zero, List.setIfInBounds_toArray, List.set_cons_zero, List.set_cons_succ]
                refine wpAnyH_take (i := 15) (v := undef) rfl (by kernel_rfl) (by kernel_rfl) (by kernel_rfl) (fun _ _ _ h => h) (Or.inr ⟨by rfl, rfl⟩) (by assumption) ?_
                try simp only [Act.put, List.getElem_toArray, List.getElem_cons_succ, List.getElem_cons_zero, List.setIfInBounds_toArray, List.set_cons_zero, List.set_cons_succ]
                refine wpAnyH_take (i := 16) (v := undef) rfl (by kernel_rfl) (by kernel_rfl) (by kernel_rfl) (fun _ _ _ h => h) (Or.inr ⟨by rfl, rfl⟩) (by assumption) ?_
                try simp only [Act.put, List.getElem_toArray, List.getElem_cons_succ, List.getElem_cons_zero, List.setIfInBounds_toArray, List.set_cons_zero, List.set_cons_succ]
                refine wpAnyH_take (i := 17) (v := ?v104) rfl (by kernel_rfl) (by kernel_rfl) (by kernel_rfl) (fun _ _ _ h => h) (Or.inl ⟨by rfl, ?hy104⟩) (by assumption) ?rest104
                case hy104 => (intro wz hSw; (try dsimp only at hSw); first | (go_simp; done) | (go_simp; with_reducible rfl))
                try simp only [Act.put, List.getElem_toArray, List.getElem_cons_succ, List.getElem_cons_zero, List.setIfInBounds_toArray, List.set_cons_zero, List.set_cons_succ]
                refine wpAnyH_done (by kernel_rfl) ?_ _
                clear hH0
                have G6 := Lib.hid U0.out
                clear KU
                cases u12
                · have c0 := (B1.out.keep0 (gb_trans G5.out G6.out)).cell 0
                  have c1 := (B1.out.keep0 (gb_trans G5.out G6.out)).cell 1
                  have c2 := (B1.out.keep0 (gb_trans G5.out G6.out)).cell 2
                  have c3 := (B1.out.keep0 (gb_trans G5.out G6.out)).cell 3
                  have c4 := (B1.out.keep0 (gb_trans G5.out G6.out)).cell 4
                  have c5 := (B1.out.keep0 (gb_trans G5.out G6.out)).cell 5
                  have c6 := (B1.out.keep0 (gb_trans G5.out G6.out)).cell 6
                  have c7 := (B1.out.keep0 (gb_trans G5.out G6.out)).cell 7
                  have c8 := (B1.out.keep0 (gb_trans G5.out G6.out)).cell 8
                  have m10 := (E1.out.keep0 G6.out).cell 0
                  have m11 := (E1.out.keep0 G6.out).cell 1
                  have m12 := (E1.out.keep0 G6.out).cell 2
                  have m13 := (E1.out.keep0 G6.out).cell 3
                  have m14 := (E1.out.keep0 G6.out).cell 4
                  have m20 := (E2.out.keep0 G6.out).cell 0
                  have m21 := (E2.out.keep0 G6.out).cell 1
                  have m22 := (E2.out.keep0 G6.out).cell 2
                  have m23 := (E2.out.keep0 G6.out).cell 3
                  have m24 := (E2.out.keep0 G6.out).cell 4
                  have m30 := (E3.out.keep0 G6.out).cell 0
                  have m31 := (E3.out.keep0 G6.out).cell 1
                  have m32 := (E3.out.keep0 G6.out).cell 2
                  have m33 := (E3.out.keep0 G6.out).cell 3
                  have m34 := (E3.out.keep0 G6.out).cell 4
                  dsimp at c0 c1 c2 c3 c4 c5 c6 c7 c8 m10 m11 m12 m13 m14 m20 m21 m22 m23 m24 m30 m31 m32 m33 m34
                  go_wp2_with fail
                  refine (C12.out _ (gb_trans G5.out G6.out)).mono ?_
                  rintro e y1 ⟨rfl, g⟩
                  have M1 := Lib.hid (gb_trans G6.out g)
                  clear g
                  clear c0 c1 c2 c3 c4 c5 c6 c7 c8 m10 m11 m12 m13 m14 m20 m21 m22 m23 m24 m30 m31 m32 m33 m34
                  go_wp2
                  exact ⟨⟨1, by omega, by first | rfl | simp, gb_trans G5.out M1.out⟩, by simp [intOf]⟩
                · cases u23
                  · have c0 := (B1.out.keep0 (gb_trans G5.out G6.out)).cell 0
                    have c1 := (B1.out.keep0 (gb_trans G5.out G6.out)).cell 1
                    have c2 := (B1.out.keep0 (gb_trans G5.out G6.out)).cell 2
                    have c3 := (B1.out.keep0 (gb_trans G5.out G6.out)).cell 3
                    have c4 := (B1.out.keep0 (gb_trans G5.out G6.out)).cell 4
                    have c5 := (B1.out.keep0 (gb_trans G5.out G6.out)).cell 5
                    have c6 := (B1.out.keep0 (gb_trans G5.out G6.out)).cell 6
                    have c7 := (B1.out.keep0 (gb_trans G5.out G6.out)).cell 7
                    have c8 := (B1.out.keep0 (gb_trans G5.out G6.out)).cell 8
                    have m10 := (E1.out.keep0 G6.out).cell 0
                    have m11 := (E1.out.keep0 G6.out).cell 1
                    have m12 := (E1.out.keep0 G6.out).cell 2
                    have m13 := (E1.out.keep0 G6.out).cell 3
                    have m14 := (E1.out.keep0 G6.out).cell 4
                    have m20 := (E2.out.keep0 G6.out).cell 0
                    have m21 := (E2.out.keep0 G6.out).cell 1
                    have m22 := (E2.out.keep0 G6.out).cell 2
                    have m23 := (E2.out.keep0 G6.out).cell 3
                    have m24 := (E2.out.keep0 G6.out).cell 4
                    have m30 := (E3.out.keep0 G6.out).cell 0
                    have m31 := (E3.out.keep0 G6.out).cell 1
                    have m32 := (E3.out.keep0 G6.out).cell 2
                    have m33 := (E3.out.keep0 G6.out).cell 3
                    have m34 := (E3.out.keep0 G6.out).cell 4
                    dsimp at c0 c1 c2 c3 c4 c5 c6 c7 c8 m10 m11 m12 m13 m14 m20 m21 m22 m23 m24 m30 m31 m32 m33 m34
                    go_wp2_with fail
                    refine (C12.out _ (gb_trans G5.out G6.out)).mono ?_
                    rintro e y1 ⟨rfl, g⟩
                    have M1 := Lib.hid (gb_trans G6.out g)
                    clear g
                    clear c0 c1 c2 c3 c4 c5 c6 c7 c8 m10 m11 m12 m13 m14 m20 m21 m22 m23 m24 m30 m31 m32 m33 m34
                    have c0 := (B1.out.keep0 (gb_trans G5.out M1.out)).cell 0
                    have c1 := (B1.out.keep0 (gb_trans G5.out M1.out)).cell 1
                    have c2 := (B1.out.keep0 (gb_trans G5.out M1.out)).cell 2
                    have c3 := (B1.out.keep0 (gb_trans G5.out M1.out)).cell 3
                    have c4 := (B1.out.keep0 (gb_trans G5.out M1.out)).cell 4
                    have c5 := (B1.out.keep0 (gb_trans G5.out M1.out)).cell 5
                    have c6 := (B1.out.keep0 (gb_trans G5.out M1.out)).cell 6
                    have c7 := (B1.out.keep0 (gb_trans G5.out M1.out)).cell 7
                    have c8 := (B1.out.keep0 (gb_trans G5.out M1.out)).cell 8
                    have m10 := (E1.out.keep0 M1.out).cell 0
                    have m11 := (E1.out.keep0 M1.out).cell 1
                    have m12 := (E1.out.keep0 M1.out).cell 2
                    have m13 := (E1.out.keep0 M1.out).cell 3
                    have m14 := (E1.out.keep0 M1.out).cell 4
                    have m20 := (E2.out.keep0 M1.out).cell 0
                    have m21 := (E2.out.keep0 M1.out).cell 1
                    have m22 := (E2.out.keep0 M1.out).cell 2
                    have m23 := (E2.out.keep0 M1.out).cell 3
                    have m24 := (E2.out.keep0 M1.out).cell 4
                    have m30 := (E3.out.keep0 M1.out).cell 0
                    have m31 := (E3.out.keep0 M1.out).cell 1
                    have m32 := (E3.out.keep0 M1.out).cell 2
                    have m33 := (E3.out.keep0 M1.out).cell 3
                    have m34 := (E3.out.keep0 M1.out).cell 4
                    dsimp at c0 c1 c2 c3 c4 c5 c6 c7 c8 m10 m11 m12 m13 m14 m20 m21 m22 m23 m24 m30 m31 m32 m33 m34
                    go_wp2_with fail
                    refine (C23.out _ (gb_trans G5.out M1.out)).mono ?_
                    rintro e y2 ⟨rfl, g⟩
                    have M2 := Lib.hid (gb_trans M1.out g)
                    clear g
                    clear c0 c1 c2 c3 c4 c5 c6 c7 c8 m10 m11 m12 m13 m14 m20 m21 m22 m23 m24 m30 m31 m32 m33 m34
                    go_wp2
                    exact ⟨⟨1, by omega, by first | rfl | simp, gb_trans G5.out M2.out⟩, by simp [intOf]⟩
                  · obtain rfl : u13 = true := TA.out rfl rfl
                    have c0 := (B1.out.keep0 (gb_trans G5.out G6.out)).cell 0
                    have c1 := (B1.out.keep0 (gb_trans G5.out G6.out)).cell 1
                    have c2 := (B1.out.keep0 (gb_trans G5.out G6.out)).cell 2
                    have c3 := (B1.out.keep0 (gb_trans G5.out G6.out)).cell 3
                    have c4 := (B1.out.keep0 (gb_trans G5.out G6.out)).cell 4
                    have c5 := (B1.out.keep0 (gb_trans G5.out G6.out)).cell 5
                    have c6 := (B1.out.keep0 (gb_trans G5.out G6.out)).cell 6
                    have c7 := (B1.out.keep0 (gb_trans G5.out G6.out)).cell 7
                    have c8 := (B1.out.keep0 (gb_trans G5.out G6.out)).cell 8
                    have m10 := (E1.out.keep0 G6.out).cell 0
                    have m11 := (E1.out.keep0 G6.out).cell 1
                    have m12 := (E1.out.keep0 G6.out).cell 2
                    have m13 := (E1.out.keep0 G6.out).cell 3
                    have m14 := (E1.out.keep0 G6.out).cell 4
                    have m20 := (E2.out.keep0 G6.out).cell 0
                    have m21 := (E2.out.keep0 G6.out).cell 1
                    have m22 := (E2.out.keep0 G6.out).cell 2
                    have m23 := (E2.out.keep0 G6.out).cell 3
                    have m24 := (E2.out.keep0 G6.out).cell 4
                    have m30 := (E3.out.keep0 G6.out).cell 0
                    have m31 := (E3.out.keep0 G6.out).cell 1
                    have m32 := (E3.out.keep0 G6.out).cell 2
                    have m33 := (E3.out.keep0 G6.out).cell 3
                    have m34 := (E3.out.keep0 G6.out).cell 4
                    dsimp at c0 c1 c2 c3 c4 c5 c6 c7 c8 m10 m11 m12 m13 m14 m20 m21 m22 m23 m24 m30 m31 m32 m33 m34
                    go_wp2_with fail
                    refine (C12.out _ (gb_trans G5.out G6.out)).mono ?_
                    rintro e y1 ⟨rfl, g⟩
                    have M1 := Lib.hid (gb_trans G6.out g)
                    clear g
                    clear c0 c1 c2 c3 c4 c5 c6 c7 c8 m10 m11 m12 m13 m14 m20 m21 m22 m23 m24 m30 m31 m32 m33 m34
                    have c0 := (B1.out.keep0 (gb_trans G5.out M1.out)).cell 0
                    have c1 := (B1.out.keep0 (gb_trans G5.out M1.out)).cell 1
                    have c2 := (B1.out.keep0 (gb_trans G5.out M1.out)).cell 2
                    have c3 := (B1.out.keep0 (gb_trans G5.out M1.out)).cell 3
                    have c4 := (B1.out.keep0 (gb_trans G5.out M1.out)).cell 4
                    have c5 := (B1.out.keep0 (gb_trans G5.out M1.out)).cell 5
                    have c6 := (B1.out.keep0 (gb_trans G5.out M1.out)).cell 6
                    have c7 := (B1.out.keep0 (gb_trans G5.out M1.out)).cell 7
                    have c8 := (B1.out.keep0 (gb_trans G5.out M1.out)).cell 8
                    have m10 := (E1.out.keep0 M1.out).cell 0
                    have m11 := (E1.out.keep0 M1.out).cell 1
                    have m12 := (E1.out.keep0 M1.out).cell 2
                    have m13 := (E1.out.keep0 M1.out).cell 3
                    have m14 := (E1.out.keep0 M1.out).cell 4
                    have m20 := (E2.out.keep0 M1.out).cell 0
                    have m21 := (E2.out.keep0 M1.out).cell 1
                    have m22 := (E2.out.keep0 M1.out).cell 2
                    have m23 := (E2.out.keep0 M1.out).cell 3
                    have m24 := (E2.out.keep0 M1.out).cell 4
                    have m30 := (E3.out.keep0 M1.out).cell 0
                    have m31 := (E3.out.keep0 M1.out).cell 1
                    have m32 := (E3.out.keep0 M1.out).cell 2
                    have m33 := (E3.out.keep0 M1.out).cell 3
                    have m34 := (E3.out.keep0 M1.out).cell 4
                    dsimp at c0 c1 c2 c3 c4 c5 c6 c7 c8 m10 m11 m12 m13 m14 m20 m21 m22 m23 m24 m30 m31 m32 m33 m34
                    go_wp2_with fail
                    refine (C23.out _ (gb_trans G5.out M1.out)).mono ?_
                    rintro e y2 ⟨rfl, g⟩
                    have M2 := Lib.hid (gb_trans M1.out g)
                    clear g
                    clear c0 c1 c2 c3 c4 c5 c6 c7 c8 m10 m11 m12 m13 m14 m20 m21 m22 m23 m24 m30 m31 m32 m33 m34
                    have c0 := (B1.out.keep0 (gb_trans G5.out M2.out)).cell 0
                    have c1 := (B1.out.keep0 (gb_trans G5.out M2.out)).cell 1
                    have c2 := (B1.out.keep0 (gb_trans G5.out M2.out)).cell 2
                    have c3 := (B1.out.keep0 (gb_trans G5.out M2.out)).cell 3
                    have c4 := (B1.out.keep0 (gb_trans G5.out M2.out)).cell 4
                    have c5 := (B1.out.keep0 (gb_trans G5.out M2.out)).cell 5
                    have c6 := (B1.out.keep0 (gb_trans G5.out M2.out)).cell 6
                    have c7 := (B1.out.keep0 (gb_trans G5.out M2.out)).cell 7
                    have c8 := (B1.out.keep0 (gb_trans G5.out M2.out)).cell 8
                    have m10 := (E1.out.keep0 M2.out).cell 0
                    have m11 := (E1.out.keep0 M2.out).cell 1
                    have m12 := (E1.out.keep0 M2.out).cell 2
                    have m13 := (E1.out.keep0 M2.out).cell 3
                    have m14 := (E1.out.keep0 M2.out).cell 4
                    have m20 := (E2.out.keep0 M2.out).cell 0
                    have m21 := (E2.out.keep0 M2.out).cell 1
                    have m22 := (E2.out.keep0 M2.out).cell 2
                    have m23 := (E2.out.keep0 M2.out).cell 3
                    have m24 := (E2.out.keep0 M2.out).cell 4
                    have m30 := (E3.out.keep0 M2.out).cell 0
                    have m31 := (E3.out.keep0 M2.out).cell 1
                    have m32 := (E3.out.keep0 M2.out).cell 2
                    have m33 := (E3.out.keep0 M2.out).cell 3
                    have m34 := (E3.out.keep0 M2.out).cell 4
                    dsimp at c0 c1 c2 c3 c4 c5 c6 c7 c8 m10 m11 m12 m13 m14 m20 m21 m22 m23 m24 m30 m31 m32 m33 m34
                    go_wp2_with fail
                    refine (C13.out _ (gb_trans G5.out M2.out)).mono ?_
                    rintro e y3 ⟨rfl, g⟩
                    have M3 := Lib.hid (gb_trans M2.out g)
                    clear g
                    clear c0 c1 c2 c3 c4 c5 c6 c7 c8 m10 m11 m12 m13 m14 m20 m21 m22 m23 m24 m30 m31 m32 m33 m34
                    go_wp2
                    exact ⟨⟨1, by omega, by first | rfl | simp, gb_trans G5.out M3.out⟩, by simp [intOf]⟩
              · have ne : (ia != ib) = true := by rw [bne_iff_ne]; exact hne
                have tox := TO.out hne
                clear hne TO
                have KU := Lib.hid (fun (w' : World) (q0 : W.grownBy w' none) => (⟨(B1.out.keep0 (gb_trans G5.out q0)).cell 0, (B1.out.keep0 (gb_trans G5.out q0)).cell 1, (B1.out.keep0 (gb_trans G5.out q0)).cell 2, (B1.out.keep0 (gb_trans G5.out q0)).cell 3, (B1.out.keep0 (gb_trans G5.out q0)).cell 4, (B1.out.keep0 (gb_trans G5.out q0)).cell 5, (B1.out.keep0 (gb_trans G5.out q0)).cell 6, (B1.out.keep0 (gb_trans G5.out q0)).cell 7, (B1.out.keep0 (gb_trans G5.out q0)).cell 8, (E1.out.keep0 q0).cell 0, (E1.out.keep0 q0).cell 1, (E1.out.keep0 q0).cell 2, (E1.out.keep0 q0).cell 3, (E1.out.keep0 q0).cell 4, (E2.out.keep0 q0).cell 0, (E2.out.keep0 q0).cell 1, (E2.out.keep0 q0).cell 2, (E2.out.keep0 q0).cell 3, (E2.out.keep0 q0).cell 4, q0⟩ : (fun w' : World => w'.cell? ⟨bx, 0, none⟩ = some (.string X.nm) ∧ w'.cell? ⟨bx, 1, none⟩ = some (.slice X.ha X.hn X.hc) ∧ w'.cell? ⟨bx, 2, none⟩ = some (.slice X.ma X.mn X.mc) ∧ w'.cell? ⟨bx, 3, none⟩ = some (.slice X.ra X.rn X.rc) ∧ w'.cell? ⟨bx, 4, none⟩ = some (.slice X.aa X.an X.ac) ∧ w'.cell? ⟨bx, 5, none⟩ = some (.slice X.ta X.tn X.tc) ∧ w'.cell? ⟨bx, 6, none⟩ = some (.slice X.sa X.sn X.sc) ∧ w'.cell? ⟨bx, 7, none⟩ = some (.slice X.ca X.cn X.cc) ∧ w'.cell? ⟨bx, 8, none⟩ = some (.slice X.da X.dn X.dc) ∧ w'.cell? ⟨b1, 0, none⟩ = some (.int .i64 ia) ∧ w'.cell? ⟨b1, 1, none⟩ = some (.slice Ya.ka Ya.kn Ya.kc) ∧ w'.cell? ⟨b1, 2, none⟩ = some (.int .i64 a.pr) ∧ w'.cell? ⟨b1, 3, none⟩ = some (.int .i64 a.ac) ∧ w'.cell? ⟨b1, 4, none⟩ = some (.slice Ya.ra Ya.rn Ya.rc) ∧ w'.cell? ⟨b2, 0, none⟩ = some (.int .i64 ib) ∧ w'.cell? ⟨b2, 1, none⟩ = some (.slice Yb.ka Yb.kn Yb.kc) ∧ w'.cell? ⟨b2, 2, none⟩ = some (.int .i64 b.pr) ∧ w'.cell? ⟨b2, 3, none⟩ = some (.int .i64 b.ac) ∧ w'.cell? ⟨b2, 4, none⟩ = some (.slice Yb.ra Yb.rn Yb.rc) ∧ W.grownBy w' none) w'))
                have U0 := Lib.hid (gb_drew W none)
                refine wp_region_held_drew (S := (fun w' : World => w'.cell? ⟨bx, 0, none⟩ = some (.string X.nm) ∧ w'.cell? ⟨bx, 1, none⟩ = some (.slice X.ha X.hn X.hc) ∧ w'.cell? ⟨bx, 2, none⟩ = some (.slice X.ma X.mn X.mc) ∧ w'.cell? ⟨bx, 3, none⟩ = some (.slice X.ra X.rn X.rc) ∧ w'.cell? ⟨bx, 4, none⟩ = some (.slice X.aa X.an X.ac) ∧ w'.cell? ⟨bx, 5, none⟩ = some (.slice X.ta X.tn X.tc) ∧ w'.cell? ⟨bx, 6, none⟩ = some (.slice X.sa X.sn X.sc) ∧ w'.cell? ⟨bx, 7, none⟩ = some (.slice X.ca X.cn X.cc) ∧ w'.cell? ⟨bx, 8, none⟩ = some (.slice X.da X.dn X.dc) ∧ w'.cell? ⟨b1, 0, none⟩ = some (.int .i64 ia) ∧ w'.cell? ⟨b1, 1, none⟩ = some (.slice Ya.ka Ya.kn Ya.kc) ∧ w'.cell? ⟨b1, 2, none⟩ = some (.int .i64 a.pr) ∧ w'.cell? ⟨b1, 3, none⟩ = some (.int .i64 a.ac) ∧ w'.cell? ⟨b1, 4, none⟩ = some (.slice Ya.ra Ya.rn Ya.rc) ∧ w'.cell? ⟨b2, 0, none⟩ = some (.int .i64 ib) ∧ w'.cell? ⟨b2, 1, none⟩ = some (.slice Yb.ka Yb.kn Yb.kc) ∧ w'.cell? ⟨b2, 2, none⟩ = some (.int .i64 b.pr) ∧ w'.cell? ⟨b2, 3, none⟩ = some (.int .i64 b.ac) ∧ w'.cell? ⟨b2, 4, none⟩ = some (.slice Yb.ra Yb.rn Yb.rc) ∧ W.grownBy w' none)) (by kernel_rfl) (KU.out _ U0.out) (fun hH0 => ?_)
                refine wpAnyH_take (i := 0) (v := ?v105) rfl (by kernel_rfl) (by kernel_rfl) (by kernel_rfl) (fun _ _ _ h => h) (Or.inl ⟨by rfl, ?hy105⟩) (by assumption) ?rest105
                case hy105 => (intro wz hSw; (try dsimp only at hSw); first | (go_simp; done) | (go_simp; with_reducible rfl))
                try simp only [Act.put, List.getElem_toArray, List.getElem_cons_zero, List.setIfInBounds_toArray, List.set_cons_zero, List.set_cons_succ]
                refine wpAnyH_take (i := 1) (v := ?v106) rfl (by kernel_rfl) (by kernel_rfl) (by kernel_rfl) (fun _ _ _ h => h) (Or.inl ⟨by rfl, ?hy106⟩) (by assumption) ?rest106
                case hy106 => (intro wz hSw; (try dsimp only at hSw); first | (go_simp; done) | (go_simp; with_reducible rfl))
                try simp only [Act.put, List.getElem_toArray, List.getElem_cons_succ, List.getElem_cons_zero, List.setIfInBounds_toArray, List.set_cons_zero, List.set_cons_succ]
                refine wpAnyH_take (i := 2) (v := ?v107) rfl (by kernel_rfl) (by kernel_rfl) (by kernel_rfl) (fun _ _ _ h => h) (Or.inl ⟨by rfl, ?hy107⟩) (by assumption) ?rest107
                case hy107 => (intro wz hSw; (try dsimp only at hSw); first | (go_simp; done) | (go_simp; with_reducible rfl))
                try simp only [Act.put, List.getElem_toArray, List.getElem_cons_succ, List.getElem_cons_zero, List.setIfInBounds_toArray, List.set_cons_zero, List.set_cons_succ]
                refine wpAnyH_take (i := 3) (v := ?v108) rfl (by kernel_rfl) (by kernel_rfl) (by kernel_rfl) (fun _ _ _ h => h) (Or.inl ⟨by rfl, ?hy108⟩) (by assumption) ?rest108
                case hy108 => (intro wz hSw; (try dsimp only at hSw); first | (go_simp; done) | (go_simp; with_reducible rfl))
                try simp only [Act.put, List.getElem_toArray, List.getElem_cons_succ, List.getElem_cons_zero, List.setIfInBounds_toArray, List.set_cons_zero, List.set_cons_succ]
                refine wpAnyH_take (i := 4) (v := ?v109) rfl (by kernel_rfl) (by kernel_rfl) (by kernel_rfl) (fun _ _ _ h => h) (Or.inl ⟨by rfl, ?hy109⟩) (by assumption) ?rest109
                case hy109 => (intro wz hSw; (try dsimp only at hSw); first | (go_simp; done) | (go_simp; with_reducible rfl))
                try simp only [Act.put, List.getElem_toArray, List.getElem_cons_succ, List.getElem_cons_zero, List.setIfInBounds_toArray, List.set_cons_zero, List.set_cons_succ]
                refine wpAnyH_take (i := 5) (v := ?v110) rfl (by kernel_rfl) (by kernel_rfl) (by kernel_rfl) (fun _ _ _ h => h) (Or.inl ⟨by rfl, ?hy110⟩) (by assumption) ?rest110
                case hy110 => (intro wz hSw; (try dsimp only at hSw); first | (go_simp; done) | (go_simp; with_reducible rfl))
                try simp only [Act.put, List.getElem_toArray, List.getElem_cons_succ, List.getElem_cons_zero, List.setIfInBounds_toArray, List.set_cons_zero, List.set_cons_succ]
                refine wpAnyH_take (i := 6) (v := ?v111) rfl (by kernel_rfl) (by kernel_rfl) (by kernel_rfl) (fun _ _ _ h => h) (Or.inl ⟨by rfl, ?hy111⟩) (by assumption) ?rest111
                case hy111 => (intro wz hSw; (try dsimp only at hSw); first | (go_simp; done) | (go_simp; with_reducible rfl))
                try simp only [Act.put, List.getElem_toArray, List.getElem_cons_succ, List.getElem_cons_zero, List.setIfInBounds_toArray, List.set_cons_zero, List.set_cons_succ]
                refine wpAnyH_take (i := 7) (v := ?v112) rfl (by kernel_rfl) (by kernel_rfl) (by kernel_rfl) (fun _ _ _ h => h) (Or.inl ⟨by rfl, ?hy112⟩) (by assumption) ?rest112
                case hy112 => (intro wz hSw; (try dsimp only at hSw); first | (go_simp; done) | (go_simp; with_reducible rfl))
                try simp only [Act.put, List.getElem_toArray, List.getElem_cons_succ, List.getElem_cons_zero, List.setIfInBounds_toArray, List.set_cons_zero, List.set_cons_succ]
                refine wpAnyH_take (i := 8) (v := ?v113) rfl (by kernel_rfl) (by kernel_rfl) (by kernel_rfl) (fun _ _ _ h => h) (Or.inl ⟨by rfl, ?hy113⟩) (by assumption) ?rest113
                case hy113 => (intro wz hSw; (try dsimp only at hSw); first | (go_simp; done) | (go_simp; with_reducible rfl))
                try simp only [Act.put, List.getElem_toArray, List.getElem_cons_succ, List.getElem_cons_zero, List.setIfInBounds_toArray, List.set_cons_zero, List.set_cons_succ]
                refine wpAnyH_take (i := 9) (v := ?v114) rfl (by kernel_rfl) (by kernel_rfl) (by kernel_rfl) (fun _ _ _ h => h) (Or.inl ⟨by rfl, ?hy114⟩) (by assumption) ?rest114
                case hy114 => (intro wz hSw; (try dsimp only at hSw); first | (go_simp; done) | (go_simp; with_reducible rfl))
                try simp only [Act.put, List.getElem_toArray, List.getElem_cons_succ, List.getElem_cons_zero, List.setIfInBounds_toArray, List.set_cons_zero, List.set_cons_succ]
                refine wpAnyH_take (i := 11) (v := ?v115) rfl (by kernel_rfl) (by kernel_rfl) (by kernel_rfl) (fun _ _ _ h => h) (Or.inl ⟨by rfl, ?hy115⟩) (by assumption) ?rest115
                case hy115 => (intro wz hSw; (try dsimp only at hSw); first | (go_simp; done) | (go_simp; with_reducible rfl))
                try simp only [Act.put, List.getElem_toArray, List.getElem_cons_succ, List.getElem_cons_zero, List.setIfInBounds_toArray, List.set_cons_zero, List.set_cons_succ]
                refine wpAnyH_take (i := 12) (v := ?v116) rfl (by kernel_rfl) (by kernel_rfl) (by kernel_rfl) (fun _ _ _ h => h) (Or.inl ⟨by rfl, ?hy116⟩) (by assumption) ?rest116
                case hy116 => (intro wz hSw; (try dsimp only at hSw); first | (go_simp; done) | (go_simp; with_reducible rfl))
                try simp only [Act.put, List.getElem_toArray, List.getElem_cons_succ, List.getElem_cons_zero, List.setIfInBounds_toArray, List.set_cons_zero, List.set_cons_succ]
                refine wpAnyH_take (i := 13) (v := ?v117) rfl (by kernel_rfl) (by kernel_rfl) (by kernel_rfl) (fun _ _ _ h => h) (Or.inl ⟨by rfl, ?hy117⟩) (by assumption) ?rest117
                case hy117 => (intro wz hSw; (try dsimp only at hSw); first | (go_simp; done) | (go_simp; with_reducible rfl))
                try simp only [Act.put, List.getElem_toArray, List.getElem_cons_succ, List.getElem_cons_zero, List.setIfInBounds_toArray, List.set_cons_zero, List.set_cons_succ]
                refine wpAnyH_take (i := 14) (v := ?v118) rfl (by kernel_rfl) (by kernel_rfl) (by kernel_rfl) (fun _ _ _ h => h) (Or.inl ⟨by rfl, ?hy118⟩) (by assumption) ?rest118
                case hy118 => (intro wz hSw; (try dsimp only at hSw); first | (go_simp; done) | (go_simp; with_reducible rfl))
                try simp only [Act.put, List.getElem_toArray, List.getElem_cons_succ, List.getElem_cons_zero, List.setIfInBounds_toArray, List.set_cons_zero, List.set_cons_succ]
                refine wpAnyH_ready (rs := [10]) (by kernel_rfl) (by simp) ?_
                refine AllReadyH.cons (o := _) rfl (fun K hK => ?_) AllReadyH.nil
                go_simp
                (with_reducible refine (C12.out _ (gb_trans G5.out U0.out)).mono ?_)
                rintro e uw1 ⟨rfl, g⟩
                have U1 := Lib.hid (gb_trans U0.out g)
                clear g
                try dsimp only
                refine hK.out _ _ (KU.out _ U1.out) (fun hH1 => ?_)
                clear hK K hH0
                try simp only [Act.put, List.getElem_toArray, List.getElem_cons_succ, List.getElem_cons_zero, List.setIfInBounds_toArray, List.set_cons_zero, List.set_cons_succ]
                refine wpAnyH_ready (rs := [15]) (by kernel_rfl) (by simp) ?_
                refine AllReadyH.cons (o := _) rfl (fun K hK => ?_) AllReadyH.nil
                go_simp
                (with_reducible refine (C21.out _ (gb_trans G5.out U1.out)).mono ?_)
                rintro e uw2 ⟨rfl, g⟩
                have U2 := Lib.hid (gb_trans U1.out g)
                clear g
                try dsimp only
                refine hK.out _ _ (KU.out _ U2.out) (fun hH2 => ?_)
                clear hK K hH1
                try simp only [Act.put, List.getElem_toArray, List.getElem_cons_succ, List.getElem_cons_zero, List.setIfInBounds_toArray, List.set_cons_zero, List.set_cons_succ]
                refine wpAnyH_take (i := 16) (v := ?v119) rfl (by kernel_rfl) (by kernel_rfl) (by kernel_rfl) (fun _ _ _ h => h) (Or.inl ⟨by rfl, ?hy119⟩) (by assumption) ?rest119
                case hy119 => (intro wz hSw; (try dsimp only at hSw); first | (go_simp; done) | (go_simp; with_reducible rfl))
                try simp only [Act.put, List.getElem_toArray, List.getElem_cons_succ, List.getElem_cons_zero, List.setIfInBounds_toArray, List.set_cons_zero, List.set_cons_succ]
                refine wpAnyH_take (i := 17) (v := ?v120) rfl (by kernel_rfl) (by kernel_rfl) (by kernel_rfl) (fun _ _ _ h => h) (Or.inl ⟨by rfl, ?hy120⟩) (by assumption) ?rest120
                case hy120 => (intro wz hSw; (try dsimp only at hSw); first | (go_simp; done) | (go_simp; with_reducible rfl))
                try simp only [Act.put, List.getElem_toArray, List.getElem_cons_succ, List.getElem_cons_zero, List.setIfInBounds_toArray, List.set_cons_zero, List.set_cons_succ]
                refine wpAnyH_done (by kernel_rfl) ?_ _
                clear hH2
                have G6 := Lib.hid U2.out
                clear KU tox
                cases u12
                · have c0 := (B1.out.keep0 (gb_trans G5.out G6.out)).cell 0
                  have c1 := (B1.out.keep0 (gb_trans G5.out G6.out)).cell 1
                  have c2 := (B1.out.keep0 (gb_trans G5.out G6.out)).cell 2
                  have c3 := (B1.out.keep0 (gb_trans G5.out G6.out)).cell 3
                  have c4 := (B1.out.keep0 (gb_trans G5.out G6.out)).cell 4
                  have c5 := (B1.out.keep0 (gb_trans G5.out G6.out)).cell 5
                  have c6 := (B1.out.keep0 (gb_trans G5.out G6.out)).cell 6
                  have c7 := (B1.out.keep0 (gb_trans G5.out G6.out)).cell 7
                  have c8 := (B1.out.keep0 (gb_trans G5.out G6.out)).cell 8
                  have m10 := (E1.out.keep0 G6.out).cell 0
                  have m11 := (E1.out.keep0 G6.out).cell 1
                  have m12 := (E1.out.keep0 G6.out).cell 2
                  have m13 := (E1.out.keep0 G6.out).cell 3
                  have m14 := (E1.out.keep0 G6.out).cell 4
                  have m20 := (E2.out.keep0 G6.out).cell 0
                  have m21 := (E2.out.keep0 G6.out).cell 1
                  have m22 := (E2.out.keep0 G6.out).cell 2
                  have m23 := (E2.out.keep0 G6.out).cell 3
                  have m24 := (E2.out.keep0 G6.out).cell 4
                  have m30 := (E3.out.keep0 G6.out).cell 0
                  have m31 := (E3.out.keep0 G6.out).cell 1
                  have m32 := (E3.out.keep0 G6.out).cell 2
                  have m33 := (E3.out.keep0 G6.out).cell 3
                  have m34 := (E3.out.keep0 G6.out).cell 4
                  dsimp at c0 c1 c2 c3 c4 c5 c6 c7 c8 m10 m11 m12 m13 m14 m20 m21 m22 m23 m24 m30 m31 m32 m33 m34
                  go_wp2_with fail
                  refine (C12.out _ (gb_trans G5.out G6.out)).mono ?_
                  rintro e y1 ⟨rfl, g⟩
                  have M1 := Lib.hid (gb_trans G6.out g)
                  clear g
                  clear c0 c1 c2 c3 c4 c5 c6 c7 c8 m10 m11 m12 m13 m14 m20 m21 m22 m23 m24 m30 m31 m32 m33 m34
                  go_wp2
                  exact ⟨⟨1, by omega, by first | rfl | simp, gb_trans G5.out M1.out⟩, by simp [intOf]⟩
                · cases u23
                  · have c0 := (B1.out.keep0 (gb_trans G5.out G6.out)).cell 0
                    have c1 := (B1.out.keep0 (gb_trans G5.out G6.out)).cell 1
                    have c2 := (B1.out.keep0 (gb_trans G5.out G6.out)).cell 2
                    have c3 := (B1.out.keep0 (gb_trans G5.out G6.out)).cell 3
                    have c4 := (B1.out.keep0 (gb_trans G5.out G6.out)).cell 4
                    have c5 := (B1.out.keep0 (gb_trans G5.out G6.out)).cell 5
                    have c6 := (B1.out.keep0 (gb_trans G5.out G6.out)).cell 6
                    have c7 := (B1.out.keep0 (gb_trans G5.out G6.out)).cell 7
                    have c8 := (B1.out.keep0 (gb_trans G5.out G6.out)).cell 8
                    have m10 := (E1.out.keep0 G6.out).cell 0
                    have m11 := (E1.out.keep0 G6.out).cell 1
                    have m12 := (E1.out.keep0 G6.out).cell 2
                    have m13 := (E1.out.keep0 G6.out).cell 3
                    have m14 := (E1.out.keep0 G6.out).cell 4
                    have m20 := (E2.out.keep0 G6.out).cell 0
                    have m21 := (E2.out.keep0 G6.out).cell 1
                    have m22 := (E2.out.keep0 G6.out).cell 2
                    have m23 := (E2.out.keep0 G6.out).cell 3
                    have m24 := (E2.out.keep0 G6.out).cell 4
                    have m30 := (E3.out.keep0 G6.out).cell 0
                    have m31 := (E3.out.keep0 G6.out).cell 1
                    have m32 := (E3.out.keep0 G6.out).cell 2
                    have m33 := (E3.out.keep0 G6.out).cell 3
                    have m34 := (E3.out.keep0 G6.out).cell 4
                    dsimp at c0 c1 c2 c3 c4 c5 c6 c7 c8 m10 m11 m12 m13 m14 m20 m21 m22 m23 m24 m30 m31 m32 m33 m34
                    go_wp2_with fail
                    refine (C12.out _ (gb_trans G5.out G6.out)).mono ?_
                    rintro e y1 ⟨rfl, g⟩
                    have M1 := Lib.hid (gb_trans G6.out g)
                    clear g
                    clear c0 c1 c2 c3 c4 c5 c6 c7 c8 m10 m11 m12 m13 m14 m20 m21 m22 m23 m24 m30 m31 m32 m33 m34
                    have c0 := (B1.out.keep0 (gb_trans G5.out M1.out)).cell 0
                    have c1 := (B1.out.keep0 (gb_trans G5.out M1.out)).cell 1
                    have c2 := (B1.out.keep0 (gb_trans G5.out M1.out)).cell 2
                    have c3 := (B1.out.keep0 (gb_trans G5.out M1.out)).cell 3
                    have c4 := (B1.out.keep0 (gb_trans G5.out M1.out)).cell 4
                    have c5 := (B1.out.keep0 (gb_trans G5.out M1.out)).cell 5
                    have c6 := (B1.out.keep0 (gb_trans G5.out M1.out)).cell 6
                    have c7 := (B1.out.keep0 (gb_trans G5.out M1.out)).cell 7
                    have c8 := (B1.out.keep0 (gb_trans G5.out M1.out)).cell 8
                    have m10 := (E1.out.keep0 M1.out).cell 0
                    have m11 := (E1.out.keep0 M1.out).cell 1
                    have m12 := (E1.out.keep0 M1.out).cell 2
                    have m13 := (E1.out.keep0 M1.out).cell 3
                    have m14 := (E1.out.keep0 M1.out).cell 4
                    have m20 := (E2.out.keep0 M1.out).cell 0
                    have m21 := (E2.out.keep0 M1.out).cell 1
                    have m22 := (E2.out.keep0 M1.out).cell 2
                    have m23 := (E2.out.keep0 M1.out).cell 3
                    have m24 := (E2.out.keep0 M1.out).cell 4
                    have m30 := (E3.out.keep0 M1.out).cell 0
                    have m31 := (E3.out.keep0 M1.out).cell 1
                    have m32 := (E3.out.keep0 M1.out).cell 2
                    have m33 := (E3.out.keep0 M1.out).cell 3
                    have m34 := (E3.out.keep0 M1.out).cell 4
                    dsimp at c0 c1 c2 c3 c4 c5 c6 c7 c8 m10 m11 m12 m13 m14 m20 m21 m22 m23 m24 m30 m31 m32 m33 m34
                    go_wp2_with fail
                    refine (C23.out _ (gb_trans G5.out M1.out)).mono ?_
                    rintro e y2 ⟨rfl, g⟩
                    have M2 := Lib.hid (gb_trans M1.out g)
                    clear g
                    clear c0 c1 c2 c3 c4 c5 c6 c7 c8 m10 m11 m12 m13 m14 m20 m21 m22 m23 m24 m30 m31 m32 m33 m34
                    go_wp2
                    exact ⟨⟨1, by omega, by first | rfl | simp, gb_trans G5.out M2.out⟩, by simp [intOf]⟩
                  · obtain rfl : u13 = true := TA.out rfl rfl
                    have c0 := (B1.out.keep0 (gb_trans G5.out G6.out)).cell 0
                    have c1 := (B1.out.keep0 (gb_trans G5.out G6.out)).cell 1
                    have c2 := (B1.out.keep0 (gb_trans G5.out G6.out)).cell 2
                    have c3 := (B1.out.keep0 (gb_trans G5.out G6.out)).cell 3
                    have c4 := (B1.out.keep0 (gb_trans G5.out G6.out)).cell 4
                    have c5 := (B1.out.keep0 (gb_trans G5.out G6.out)).cell 5
                    have c6 := (B1.out.keep0 (gb_trans G5.out G6.out)).cell 6
                    have c7 := (B1.out.keep0 (gb_trans G5.out G6.out)).cell 7
                    have c8 := (B1.out.keep0 (gb_trans G5.out G6.out)).cell 8
                    have m10 := (E1.out.keep0 G6.out).cell 0
                    have m11 := (E1.out.keep0 G6.out).cell 1
                    have m12 := (E1.out.keep0 G6.out).cell 2
                    have m13 := (E1.out.keep0 G6.out).cell 3
                    have m14 := (E1.out.keep0 G6.out).cell 4
                    have m20 := (E2.out.keep0 G6.out).cell 0
                    have m21 := (E2.out.keep0 G6.out).cell 1
                    have m22 := (E2.out.keep0 G6.out).cell 2
                    have m23 := (E2.out.keep0 G6.out).cell 3
                    have m24 := (E2.out.keep0 G6.out).cell 4
                    have m30 := (E3.out.keep0 G6.out).cell 0
                    have m31 := (E3.out.keep0 G6.out).cell 1
                    have m32 := (E3.out.keep0 G6.out).cell 2
                    have m33 := (E3.out.keep0 G6.out).cell 3
                    have m34 := (E3.out.keep0 G6.out).cell 4
                    dsimp at c0 c1 c2 c3 c4 c5 c6 c7 c8 m10 m11 m12 m13 m14 m20 m21 m22 m23 m24 m30 m31 m32 m33 m34
                    go_wp2_with fail
                    refine (C12.out _ (gb_trans G5.out G6.out)).mono ?_
                    rintro e y1 ⟨rfl, g⟩
                    have M1 := Lib.hid (gb_trans G6.out g)
                    clear g
                    clear c0 c1 c2 c3 c4 c5 c6 c7 c8 m10 m11 m12 m13 m14 m20 m21 m22 m23 m24 m30 m31 m32 m33 m34
                    have c0 := (B1.out.keep0 (gb_trans G5.out M1.out)).cell 0
                    have c1 := (B1.out.keep0 (gb_trans G5.out M1.out)).cell 1
                    have c2 := (B1.out.keep0 (gb_trans G5.out M1.out)).cell 2
                    have c3 := (B1.out.keep0 (gb_trans G5.out M1.out)).cell 3
                    have c4 := (B1.out.keep0 (gb_trans G5.out M1.out)).cell 4
                    have c5 := (B1.out.keep0 (gb_trans G5.out M1.out)).cell 5
                    have c6 := (B1.out.keep0 (gb_trans G5.out M1.out)).cell 6
                    have c7 := (B1.out.keep0 (gb_trans G5.out M1.out)).cell 7
                    have c8 := (B1.out.keep0 (gb_trans G5.out M1.out)).cell 8
                    have m10 := (E1.out.keep0 M1.out).cell 0
                    have m11 := (E1.out.keep0 M1.out).cell 1
                    have m12 := (E1.out.keep0 M1.out).cell 2
                    have m13 := (E1.out.keep0 M1.out).cell 3
                    have m14 := (E1.out.keep0 M1.out).cell 4
                    have m20 := (E2.out.keep0 M1.out).cell 0
                    have m21 := (E2.out.keep0 M1.out).cell 1
                    have m22 := (E2.out.keep0 M1.out).cell 2
                    have m23 := (E2.out.keep0 M1.out).cell 3
                    have m24 := (E2.out.keep0 M1.out).cell 4
                    have m30 := (E3.out.keep0 M1.out).cell 0
                    have m31 := (E3.out.keep0 M1.out).cell 1
                    have m32 := (E3.out.keep0 M1.out).cell 2
                    have m33 := (E3.out.keep0 M1.out).cell 3
                    have m34 := (E3.out.keep0 M1.out).cell 4
                    dsimp at c0 c1 c2 c3 c4 c5 c6 c7 c8 m10 m11 m12 m13 m14 m20 m21 m22 m23 m24 m30 m31 m32 m33 m34
                    go_wp2_with fail
                    refine (C23.out _ (gb_trans G5.out M1.out)).mono ?_
                    rintro e y2 ⟨rfl, g⟩
                    have M2 := Lib.hid (gb_trans M1.out g)
                    clear g
                    clear c0 c1 c2 c3 c4 c5 c6 c7 c8 m10 m11 m12 m13 m14 m20 m21 m22 m23 m24 m30 m31 m32 m33 m34
                    have c0 := (B1.out.keep0 (gb_trans G5.out M2.out)).cell 0
                    have c1 := (B1.out.keep0 (gb_trans G5.out M2.out)).cell 1
                    have c2 := (B1.out.keep0 (gb_trans G5.out M2.out)).cell 2
                    have c3 := (B1.out.keep0 (gb_trans G5.out M2.out)).cell 3
                    have c4 := (B1.out.keep0 (gb_trans G5.out M2.out)).cell 4
                    have c5 := (B1.out.keep0 (gb_trans G5.out M2.out)).cell 5
                    have c6 := (B1.out.keep0 (gb_trans G5.out M2.out)).cell 6
                    have c7 := (B1.out.keep0 (gb_trans G5.out M2.out)).cell 7
                    have c8 := (B1.out.keep0 (gb_trans G5.out M2.out)).cell 8
                    have m10 := (E1.out.keep0 M2.out).cell 0
                    have m11 := (E1.out.keep0 M2.out).cell 1
                    have m12 := (E1.out.keep0 M2.out).cell 2
                    have m13 := (E1.out.keep0 M2.out).cell 3
                    have m14 := (E1.out.keep0 M2.out).cell 4
                    have m20 := (E2.out.keep0 M2.out).cell 0
                    have m21 := (E2.out.keep0 M2.out).cell 1
                    have m22 := (E2.out.keep0 M2.out).cell 2
                    have m23 := (E2.out.keep0 M2.out).cell 3
                    have m24 := (E2.out.keep0 M2.out).cell 4
                    have m30 := (E3.out.keep0 M2.out).cell 0
                    have m31 := (E3.out.keep0 M2.out).cell 1
                    have m32 := (E3.out.keep0 M2.out).cell 2
                    have m33 := (E3.out.keep0 M2.out).cell 3
                    have m34 := (E3.out.keep0 M2.out).cell 4
                    dsimp at c0 c1 c2 c3 c4 c5 c6 c7 c8 m10 m11 m12 m13 m14 m20 m21 m22 m23 m24 m30 m31 m32 m33 m34
                    go_wp2_with fail
                    refine (C13.out _ (gb_trans G5.out M2.out)).mono ?_
                    rintro e y3 ⟨rfl, g⟩
                    have M3 := Lib.hid (gb_trans M2.out g)
                    clear g
                    clear c0 c1 c2 c3 c4 c5 c6 c7 c8 m10 m11 m12 m13 m14 m20 m21 m22 m23 m24 m30 m31 m32 m33 m34
                    go_wp2
                    exact ⟨⟨1, by omega, by first | rfl | simp, gb_trans G5.out M3.out⟩, by simp [intOf]⟩
          · have ww1 : IntKind.i64.wrap 1 = 1 := by decide
            have tt1 : Int.tmod 1 3 = 1 := by decide
            have ww2 : IntKind.i64.wrap 2 = 2 := by decide
            have tt2 : Int.tmod 2 3 = 2 := by decide
            have ww3 : IntKind.i64.wrap 3 = 3 := by decide
            have tt3 : Int.tmod 3 3 = 0 := by decide
            have ww4 : IntKind.i64.wrap 4 = 4 := by decide
            have tt4 : Int.tmod 4 3 = 1 := by decide
            have IR := Lib.hid (prec_irr P t ib b)
            go_upto_region 11 with fail
            have KQ := Lib.hid (fun (w' : World) (q0 : wr.grownBy w' none) => (⟨(B1.out.keep0 (gb_trans GL.out q0)).cell 0, (B1.out.keep0 (gb_trans GL.out q0)).cell 1, (B1.out.keep0 (gb_trans GL.out q0)).cell 2, (B1.out.keep0 (gb_trans GL.out q0)).cell 3, (B1.out.keep0 (gb_trans GL.out q0)).cell 4, (B1.out.keep0 (gb_trans GL.out q0)).cell 5, (B1.out.keep0 (gb_trans GL.out q0)).cell 6, (B1.out.keep0 (gb_trans GL.out q0)).cell 7, (B1.out.keep0 (gb_trans GL.out q0)).cell 8, (B2.out.keep0 (gb_trans GL.out q0)).cell 0, (B2.out.keep0 (gb_trans GL.out q0)).cell 1, (B2.out.keep0 (gb_trans GL.out q0)).cell 2, (B2.out.keep0 (gb_trans GL.out q0)).cell 3, (B2.out.keep0 (gb_trans GL.out q0)).cell 4, (B2.out.keep0 (gb_trans GL.out q0)).cell 5, (B2.out.keep0 (gb_trans GL.out q0)).cell 6, (B2.out.keep0 (gb_trans GL.out q0)).cell 7, (B2.out.keep0 (gb_trans GL.out q0)).cell 8, (B2.out.keep0 (gb_trans GL.out q0)).cell 9, (B2.out.keep0 (gb_trans GL.out q0)).cell 10, (B2.out.keep0 (gb_trans GL.out q0)).cell 11, (B2.out.keep0 (gb_trans GL.out q0)).cell 12, (B2.out.keep0 (gb_trans GL.out q0)).cell 13, (B2.out.keep0 (gb_trans GL.out q0)).cell 14, q0⟩ : (fun w' : World => w'.cell? ⟨bx, 0, none⟩ = some (.string X.nm) ∧ w'.cell? ⟨bx, 1, none⟩ = some (.slice X.ha X.hn X.hc) ∧ w'.cell? ⟨bx, 2, none⟩ = some (.slice X.ma X.mn X.mc) ∧ w'.cell? ⟨bx, 3, none⟩ = some (.slice X.ra X.rn X.rc) ∧ w'.cell? ⟨bx, 4, none⟩ = some (.slice X.aa X.an X.ac) ∧ w'.cell? ⟨bx, 5, none⟩ = some (.slice X.ta X.tn X.tc) ∧ w'.cell? ⟨bx, 6, none⟩ = some (.slice X.sa X.sn X.sc) ∧ w'.cell? ⟨bx, 7, none⟩ = some (.slice X.ca X.cn X.cc) ∧ w'.cell? ⟨bx, 8, none⟩ = some (.slice X.da X.dn X.dc) ∧ w'.cell? ⟨bx + 1, 0, none⟩ = some (.int .i64 ia) ∧ w'.cell? ⟨bx + 1, 1, none⟩ = some (.slice Ya.ka Ya.kn Ya.kc) ∧ w'.cell? ⟨bx + 1, 2, none⟩ = some (.int .i64 a.pr) ∧ w'.cell? ⟨bx + 1, 3, none⟩ = some (.int .i64 a.ac) ∧ w'.cell? ⟨bx + 1, 4, none⟩ = some (.slice Ya.ra Ya.rn Ya.rc) ∧ w'.cell? ⟨bx + 1, 5, none⟩ = some (.int .i64 ib) ∧ w'.cell? ⟨bx + 1, 6, none⟩ = some (.slice Yb.ka Yb.kn Yb.kc) ∧ w'.cell? ⟨bx + 1, 7, none⟩ = some (.int .i64 b.pr) ∧ w'.cell? ⟨bx + 1, 8, none⟩ = some (.int .i64 b.ac) ∧ w'.cell? ⟨bx + 1, 9, none⟩ = some (.slice Yb.ra Yb.rn Yb.rc) ∧ w'.cell? ⟨bx + 1, 10, none⟩ = some (.int .i64 ic) ∧ w'.cell? ⟨bx + 1, 11, none⟩ = some (.slice Yc.ka Yc.kn Yc.kc) ∧ w'.cell? ⟨bx + 1, 12, none⟩ = some (.int .i64 c.pr) ∧ w'.cell? ⟨bx + 1, 13, none⟩ = some (.int .i64 c.ac) ∧ w'.cell? ⟨bx + 1, 14, none⟩ = some (.slice Yc.ra Yc.rn Yc.rc) ∧ wr.grownBy w' none) w'))
            have Q0 := Lib.hid (gb_drew wr none)
            refine wp_region_held_drew (S := (fun w' : World => w'.cell? ⟨bx, 0, none⟩ = some (.string X.nm) ∧ w'.cell? ⟨bx, 1, none⟩ = some (.slice X.ha X.hn X.hc) ∧ w'.cell? ⟨bx, 2, none⟩ = some (.slice X.ma X.mn X.mc) ∧ w'.cell? ⟨bx, 3, none⟩ = some (.slice X.ra X.rn X.rc) ∧ w'.cell? ⟨bx, 4, none⟩ = some (.slice X.aa X.an X.ac) ∧ w'.cell? ⟨bx, 5, none⟩ = some (.slice X.ta X.tn X.tc) ∧ w'.cell? ⟨bx, 6, none⟩ = some (.slice X.sa X.sn X.sc) ∧ w'.cell? ⟨bx, 7, none⟩ = some (.slice X.ca X.cn X.cc) ∧ w'.cell? ⟨bx, 8, none⟩ = some (.slice X.da X.dn X.dc) ∧ w'.cell? ⟨bx + 1, 0, none⟩ = some (.int .i64 ia) ∧ w'.cell? ⟨bx + 1, 1, none⟩ = some (.slice Ya.ka Ya.kn Ya.kc) ∧ w'.cell? ⟨bx + 1, 2, none⟩ = some (.int .i64 a.pr) ∧ w'.cell? ⟨bx + 1, 3, none⟩ = some (.int .i64 a.ac) ∧ w'.cell? ⟨bx + 1, 4, none⟩ = some (.slice Ya.ra Ya.rn Ya.rc) ∧ w'.cell? ⟨bx + 1, 5, none⟩ = some (.int .i64 ib) ∧ w'.cell? ⟨bx + 1, 6, none⟩ = some (.slice Yb.ka Yb.kn Yb.kc) ∧ w'.cell? ⟨bx + 1, 7, none⟩ = some (.int .i64 b.pr) ∧ w'.cell? ⟨bx + 1, 8, none⟩ = some (.int .i64 b.ac) ∧ w'.cell? ⟨bx + 1, 9, none⟩ = some (.slice Yb.ra Yb.rn Yb.rc) ∧ w'.cell? ⟨bx + 1, 10, none⟩ = some (.int .i64 ic) ∧ w'.cell? ⟨bx + 1, 11, none⟩ = some (.slice Yc.ka Yc.kn Yc.kc) ∧ w'.cell? ⟨bx + 1, 12, none⟩ = some (.int .i64 c.pr) ∧ w'.cell? ⟨bx + 1, 13, none⟩ = some (.int .i64 c.ac) ∧ w'.cell? ⟨bx + 1, 14, none⟩ = some (.slice Yc.ra Yc.rn Yc.rc) ∧ wr.grownBy w' none)) (by kernel_rfl) (KQ.out _ Q0.out) (fun hH0 => ?_)
            refine wpAnyH_take (i := 0) (v := ?v121) rfl (by kernel_rfl) (by kernel_rfl) (by kernel_rfl) (fun _ _ _ h => h) (Or.inl ⟨by rfl, ?hy121⟩) (by assumption) ?rest121
            case hy121 => (intro wz hSw; (try dsimp only at hSw); first | (go_simp; done) | (go_simp; with_reducible rfl))
            try simp only [Act.put, List.getElem_toArray, List.getElem_cons_zero, List.setIfInBounds_toArray, List.set_cons_zero, List.set_cons_succ]
            refine wpAnyH_take (i := 1) (v := ?v122) rfl (by kernel_rfl) (by kernel_rfl) (by kernel_rfl) (fun _ _ _ h => h) (Or.inl ⟨by rfl, ?hy122⟩) (by assumption) ?rest122
            case hy122 => (intro wz hSw; (try dsimp only at hSw); first | (go_simp; done) | (go_simp; with_reducible rfl))
            try simp only [Act.put, List.getElem_toArray, List.getElem_cons_succ, List.getElem_cons_zero, List.setIfInBounds_toArray, List.set_cons_zero, List.set_cons_succ]
            refine wpAnyH_take (i := 2) (v := ?v123) rfl (by kernel_rfl) (by kernel_rfl) (by kernel_rfl) (fun _ _ _ h => h) (Or.inl ⟨by rfl, ?hy123⟩) (by assumption) ?rest123
            case hy123 => (intro wz hSw; (try dsimp only at hSw); first | (go_simp; done) | (go_simp; with_reducible rfl))
            try simp only [Act.put, List.getElem_toArray, List.getElem_cons_succ, List.getElem_cons_zero, List.setIfInBounds_toArray, List.set_cons_zero, List.set_cons_succ]
            refine wpAnyH_take (i := 3) (v := ?v124) rfl (by kernel_rfl) (by kernel_rfl) (by kernel_rfl) (fun _ _ _ h => h) (Or.inl ⟨by rfl, ?hy124⟩) (by assumption) ?rest124
            case hy124 => (intro wz hSw; (try dsimp only at hSw); first | (go_simp; done) | (go_simp; with_reducible rfl))
            try simp only [Act.put, List.getElem_toArray, List.getElem_cons_succ, List.getElem_cons_zero, List.setIfInBounds_toArray, List.set_cons_zero, List.set_cons_succ]
            refine wpAnyH_take (i := 4) (v := ?v125) rfl (by kernel_rfl) (by kernel_rfl) (by kernel_rfl) (fun _ _ _ h => h) (Or.inl ⟨by rfl, ?hy125⟩) (by assumption) ?rest125
            case hy125 => (intro wz hSw; (try dsimp only at hSw); first | (go_simp; done) | (go_simp; with_reducible rfl))
            try simp only [Act.put, List.getElem_toArray, List.getElem_cons_succ, List.getElem_cons_zero, List.setIfInBounds_toArray, List.set_cons_zero, List.set_cons_succ]
            refine wpAnyH_take (i := 5) (v := ?v126) rfl (by kernel_rfl) (by kernel_rfl) (by kernel_rfl) (fun _ _ _ h => h) (Or.inl ⟨by rfl, ?hy126⟩) (by assumption) ?rest126
            case hy126 => (intro wz hSw; (try dsimp only at hSw); first | (go_simp; done) | (go_simp; with_reducible rfl))
            try simp only [Act.put, List.getElem_toArray, List.getElem_cons_succ, List.getElem_cons_zero, List.setIfInBounds_toArray, List.set_cons_zero, List.set_cons_succ]
            refine wpAnyH_take (i := 6) (v := ?v127) rfl (by kernel_rfl) (by kernel_rfl) (by kernel_rfl) (fun _ _ _ h => h) (Or.inl ⟨by rfl, ?hy127⟩) (by assumption) ?rest127
            case hy127 => (intro wz hSw; (try dsimp only at hSw); first | (go_simp; done) | (go_simp; with_reducible rfl))
            try simp only [Act.put, List.getElem_toArray, List.getElem_cons_succ, List.getElem_cons_zero, List.setIfInBounds_toArray, List.set_cons_zero, List.set_cons_succ]
            refine wpAnyH_take (i := 7) (v := ?v128) rfl (by kernel_rfl) (by kernel_rfl) (by kernel_rfl) (fun _ _ _ h => h) (Or.inl ⟨by rfl, ?hy128⟩) (by assumption) ?rest128
            case hy128 => (intro wz hSw; (try dsimp only at hSw); first | (go_simp; done) | (go_simp; with_reducible rfl))
            try simp only [Act.put, List.getElem_toArray, List.getElem_cons_succ, List.getElem_cons_zero, List.setIfInBounds_toArray, List.set_cons_zero, List.set_cons_succ]
            refine wpAnyH_ready (rs := [8]) (by kernel_rfl) (by simp) ?_
            refine AllReadyH.cons (o := _) rfl (fun K hK => ?_) AllReadyH.nil
            go_simp
            (with_reducible refine (PC.out _ (gb_trans GL.out Q0.out) ib ib Yb Yb b b (HI.out _ (gb_trans GL.out Q0.out)).2.2.1 (HI.out _ (gb_trans GL.out Q0.out)).2.2.1).mono ?_)
            rintro e qw1 ⟨rfl, g⟩
            have Q1 := Lib.hid (gb_trans Q0.out g)
            clear g
            try dsimp only
            refine hK.out _ _ (KQ.out _ Q1.out) (fun hH1 => ?_)
            clear hK K hH0
            try simp only [Act.put, List.getElem_toArray, List.getElem_cons_succ, List.getElem_cons_zero, List.setIfInBounds_toArray, List.set_cons_zero, List.set_cons_succ]
            refine wpAnyH_done (by kernel_rfl) ?_ _
            clear hH1
            have G4 := Lib.hid (gb_trans GL.out Q1.out)
            rw [IR.out]
            clear KQ
            obtain ⟨w4, hw4⟩ : ∃ W, W = qw1 := ⟨_, rfl⟩
            rw [← hw4] at G4 ⊢
            clear hw4
            go_upto_region 13 with fail
            have KV := Lib.hid (fun (w' : World) (q0 : w4.grownBy w' none) => (⟨(B2.out.keep0 (gb_trans G4.out q0)).cell 0, (B2.out.keep0 (gb_trans G4.out q0)).cell 1, (B2.out.keep0 (gb_trans G4.out q0)).cell 2, (B2.out.keep0 (gb_trans G4.out q0)).cell 3, (B2.out.keep0 (gb_trans G4.out q0)).cell 4, (B2.out.keep0 (gb_trans G4.out q0)).cell 5, (B2.out.keep0 (gb_trans G4.out q0)).cell 6, (B2.out.keep0 (gb_trans G4.out q0)).cell 7, (B2.out.keep0 (gb_trans G4.out q0)).cell 8, (B2.out.keep0 (gb_trans G4.out q0)).cell 9, (B2.out.keep0 (gb_trans G4.out q0)).cell 10, (B2.out.keep0 (gb_trans G4.out q0)).cell 11, (B2.out.keep0 (gb_trans G4.out q0)).cell 12, (B2.out.keep0 (gb_trans G4.out q0)).cell 13, (B2.out.keep0 (gb_trans G4.out q0)).cell 14, q0⟩ : (fun w' : World => w'.cell? ⟨bx + 1, 0, none⟩ = some (.int .i64 ia) ∧ w'.cell? ⟨bx + 1, 1, none⟩ = some (.slice Ya.ka Ya.kn Ya.kc) ∧ w'.cell? ⟨bx + 1, 2, none⟩ = some (.int .i64 a.pr) ∧ w'.cell? ⟨bx + 1, 3, none⟩ = some (.int .i64 a.ac) ∧ w'.cell? ⟨bx + 1, 4, none⟩ = some (.slice Ya.ra Ya.rn Ya.rc) ∧ w'.cell? ⟨bx + 1, 5, none⟩ = some (.int .i64 ib) ∧ w'.cell? ⟨bx + 1, 6, none⟩ = some (.slice Yb.ka Yb.kn Yb.kc) ∧ w'.cell? ⟨bx + 1, 7, none⟩ = some (.int .i64 b.pr) ∧ w'.cell? ⟨bx + 1, 8, none⟩ = some (.int .i64 b.ac) ∧ w'.cell? ⟨bx + 1, 9, none⟩ = some (.slice Yb.ra Yb.rn Yb.rc) ∧ w'.cell? ⟨bx + 1, 10, none⟩ = some (.int .i64 ic) ∧ w'.cell? ⟨bx + 1, 11, none⟩ = some (.slice Yc.ka Yc.kn Yc.kc) ∧ w'.cell? ⟨bx + 1, 12, none⟩ = some (.int .i64 c.pr) ∧ w'.cell? ⟨bx + 1, 13, none⟩ = some (.int .i64 c.ac) ∧ w'.cell? ⟨bx + 1, 14, none⟩ = some (.slice Yc.ra Yc.rn Yc.rc) ∧ w4.grownBy w' none) w'))
            have V0 := Lib.hid (gb_drew w4 none)
            refine wp_region_held_drew (S := (fun w' : World => w'.cell? ⟨bx + 1, 0, none⟩ = some (.int .i64 ia) ∧ w'.cell? ⟨bx + 1, 1, none⟩ = some (.slice Ya.ka Ya.kn Ya.kc) ∧ w'.cell? ⟨bx + 1, 2, none⟩ = some (.int .i64 a.pr) ∧ w'.cell? ⟨bx + 1, 3, none⟩ = some (.int .i64 a.ac) ∧ w'.cell? ⟨bx + 1, 4, none⟩ = some (.slice Ya.ra Ya.rn Ya.rc) ∧ w'.cell? ⟨bx + 1, 5, none⟩ = some (.int .i64 ib) ∧ w'.cell? ⟨bx + 1, 6, none⟩ = some (.slice Yb.ka Yb.kn Yb.kc) ∧ w'.cell? ⟨bx + 1, 7, none⟩ = some (.int .i64 b.pr) ∧ w'.cell? ⟨bx + 1, 8, none⟩ = some (.int .i64 b.ac) ∧ w'.cell? ⟨bx + 1, 9, none⟩ = some (.slice Yb.ra Yb.rn Yb.rc) ∧ w'.cell? ⟨bx + 1, 10, none⟩ = some (.int .i64 ic) ∧ w'.cell? ⟨bx + 1, 11, none⟩ = some (.slice Yc.ka Yc.kn Yc.kc) ∧ w'.cell? ⟨bx + 1, 12, none⟩ = some (.int .i64 c.pr) ∧ w'.cell? ⟨bx + 1, 13, none⟩ = some (.int .i64 c.ac) ∧ w'.cell? ⟨bx + 1, 14, none⟩ = some (.slice Yc.ra Yc.rn Yc.rc) ∧ w4.grownBy w' none)) (by kernel_rfl) (KV.out _ V0.out) (fun hH0 => ?_)
            refine wpAnyH_take (i := 0) (v := ?v129) rfl (by kernel_rfl) (by kernel_rfl) (by kernel_rfl) (fun _ _ _ h => h) (Or.inl ⟨by rfl, ?hy129⟩) (by assumption) ?rest129
            case hy129 => (intro wz hSw; (try dsimp only at hSw); first | (go_simp; done) | (go_simp; with_reducible rfl))
            try simp only [Act.put, List.getElem_toArray, List.getElem_cons_zero, List.setIfInBounds_toArray, List.set_cons_zero, List.set_cons_succ]
            refine wpAnyH_take (i := 1) (v := ?v130) rfl (by kernel_rfl) (by kernel_rfl) (by kernel_rfl) (fun _ _ _ h => h) (Or.inl ⟨by rfl, ?hy130⟩) (by assumption) ?rest130
            case hy130 => (intro wz hSw; (try dsimp only at hSw); first | (go_simp; done) | (go_simp; with_reducible rfl))
            try simp only [Act.put, List.getElem_toArray, List.getElem_cons_succ, List.getElem_cons_zero, List.setIfInBounds_toArray, List.set_cons_zero, List.set_cons_succ]
            refine wpAnyH_take (i := 2) (v := ?v131) rfl (by kernel_rfl) (by kernel_rfl) (by kernel_rfl) (fun _ _ _ h => h) (Or.inl ⟨by rfl, ?hy131⟩) (by assumption) ?rest131
            case hy131 => (intro wz hSw; (try dsimp only at hSw); first | (go_simp; done) | (go_simp; with_reducible rfl))
            try simp only [Act.put, List.getElem_toArray, List.getElem_cons_succ, List.getElem_cons_zero, List.setIfInBounds_toArray, List.set_cons_zero, List.set_cons_succ]
            refine wpAnyH_take (i := 3) (v := ?v132) rfl (by kernel_rfl) (by kernel_rfl) (by kernel_rfl) (fun _ _ _ h => h) (Or.inl ⟨by rfl, ?hy132⟩) (by assumption) ?rest132
            case hy132 => (intro wz hSw; (try dsimp only at hSw); first | (go_simp; done) | (go_simp; with_reducible rfl))
            try simp only [Act.put, List.getElem_toArray, List.getElem_cons_succ, List.getElem_cons_zero, List.setIfInBounds_toArray, List.set_cons_zero, List.set_cons_succ]
            refine wpAnyH_take (i := 4) (v := ?v133) rfl (by kernel_rfl) (by kernel_rfl) (by kernel_rfl) (fun _ _ _ h => h) (Or.inl ⟨by rfl, ?hy133⟩) (by assumption) ?rest133
            case hy133 => (intro wz hSw; (try dsimp only at hSw); first | (go_simp; done) | (go_simp; with_reducible rfl))
            try simp only [Act.put, List.getElem_toArray, List.getElem_cons_succ, List.getElem_cons_zero, List.setIfInBounds_toArray, List.set_cons_zero, List.set_cons_succ]
            refine wpAnyH_take (i := 5) (v := ?v134) rfl (by kernel_rfl) (by kernel_rfl) (by kernel_rfl) (fun _ _ _ h => h) (Or.inl ⟨by rfl, ?hy134⟩) (by assumption) ?rest134
            case hy134 => (intro wz hSw; (try dsimp only at hSw); first | (go_simp; done) | (go_simp; with_reducible rfl))
            try simp only [Act.put, List.getElem_toArray, List.getElem_cons_succ, List.getElem_cons_zero, List.setIfInBounds_toArray, List.set_cons_zero, List.set_cons_succ]
            refine wpAnyH_take (i := 6) (v := ?v135) rfl (by kernel_rfl) (by kernel_rfl) (by kernel_rfl) (fun _ _ _ h => h) (Or.inl ⟨by rfl, ?hy135⟩) (by assumption) ?rest135
            case hy135 => (intro wz hSw; (try dsimp only at hSw); first | (go_simp; done) | (go_simp; with_reducible rfl))
            try simp only [Act.put, List.getElem_toArray, List.getElem_cons_succ, List.getElem_cons_zero, List.setIfInBounds_toArray, List.set_cons_zero, List.set_cons_succ]
            refine wpAnyH_take (i := 7) (v := ?v136) rfl (by kernel_rfl) (by kernel_rfl) (by kernel_rfl) (fun _ _ _ h => h) (Or.inl ⟨by rfl, ?hy136⟩) (by assumption) ?rest136
            case hy136 => (intro wz hSw; (try dsimp only at hSw); first | (go_simp; done) | (go_simp; with_reducible rfl))
            try simp only [Act.put, List.getElem_toArray, List.getElem_cons_succ, List.getElem_cons_zero, List.setIfInBounds_toArray, List.set_cons_zero, List.set_cons_succ]
            refine wpAnyH_take (i := 8) (v := ?v137) rfl (by kernel_rfl) (by kernel_rfl) (by kernel_rfl) (fun _ _ _ h => h) (Or.inl ⟨by rfl, ?hy137⟩) (by assumption) ?rest137
            case hy137 => (intro wz hSw; (try dsimp only at hSw); first | (go_simp; done) | (go_simp; with_reducible rfl))
            try simp only [Act.put, List.getElem_toArray, List.getElem_cons_succ, List.getElem_cons_zero, List.setIfInBounds_toArray, List.set_cons_zero, List.set_cons_succ]
            refine wpAnyH_take (i := 9) (v := ?v138) rfl (by kernel_rfl) (by kernel_rfl) (by kernel_rfl) (fun _ _ _ h => h) (Or.inl ⟨by rfl, ?hy138⟩) (by assumption) ?rest138
            case hy138 => (intro wz hSw; (try dsimp only at hSw); first | (go_simp; done) | (go_simp; with_reducible rfl))
            try simp only [Act.put, List.getElem_toArray, List.getElem_cons_succ, List.getElem_cons_zero, List.setIfInBounds_toArray, List.set_cons_zero, List.set_cons_succ]
            refine wpAnyH_take (i := 10) (v := ?v139) rfl (by kernel_rfl) (by kernel_rfl) (by kernel_rfl) (fun _ _ _ h => h) (Or.inl ⟨by rfl, ?hy139⟩) (by assumption) ?rest139
            case hy139 => (intro wz hSw; (try dsimp only at hSw); first | (go_simp; done) | (go_simp; with_reducible rfl))
            try simp only [Act.put, List.getElem_toArray, List.getElem_cons_succ, List.getElem_cons_zero, List.setIfInBounds_toArray, List.set_cons_zero, List.set_cons_succ]
            refine wpAnyH_take (i := 11) (v := ?v140) rfl (by kernel_rfl) (by kernel_rfl) (by kernel_rfl) (fun _ _ _ h => h) (Or.inl ⟨by rfl, ?hy140⟩) (by assumption) ?rest140
            case hy140 => (intro wz hSw; (try dsimp only at hSw); first | (go_simp; done) | (go_simp; with_reducible rfl))
            try simp only [Act.put, List.getElem_toArray, List.getElem_cons_succ, List.getElem_cons_zero, List.setIfInBounds_toArray, List.set_cons_zero, List.set_cons_succ]
            refine wpAnyH_take (i := 12) (v := ?v141) rfl (by kernel_rfl) (by kernel_rfl) (by kernel_rfl) (fun _ _ _ h => h) (Or.inl ⟨by rfl, ?hy141⟩) (by assumption) ?rest141
            case hy141 => (intro wz hSw; (try dsimp only at hSw); first | (go_simp; done) | (go_simp; with_reducible rfl))
            try simp only [Act.put, List.getElem_toArray, List.getElem_cons_succ, List.getElem_cons_zero, List.setIfInBounds_toArray, List.set_cons_zero, List.set_cons_succ]
            refine wp_three (r1 := #[.int .i64 ib, .slice Yb.ka Yb.kn Yb.kc, .int .i64 b.pr, .int .i64 b.ac, .slice Yb.ra Yb.rn Yb.rc]) (r2 := #[.int .i64 ic, .slice Yc.ka Yc.kn Yc.kc, .int .i64 c.pr, .int .i64 c.ac, .slice Yc.ra Yc.rn Yc.rc]) (r3 := #[.int .i64 ia, .slice Ya.ka Ya.kn Ya.kc, .int .i64 a.pr, .int .i64 a.ac, .slice Ya.ra Ya.rn Ya.rc]) (z := #[.int .i64 0, .slice none 0 0, .int .i64 0, .int .i64 0, .slice none 0 0]) (s1 := 9) (s2 := 10) (s3 := 11) (t := 46) w4.drew _ _ ?step ?fin (gb_refl _ _) rfl
            case step =>
              clear hH0
              rintro l A W ⟨f1, f2, f3, g1, g2, g3, v1, v2, v3, rfl, rfl, gw, h1, h2, h3, d1, d2, d3, z1, z2, z3⟩ i hi
              obtain ⟨un, o, ho, hall⟩ := mem_ready.1 hi
              clear hi
              have GW := Lib.hid gw
              have H1 := Lib.hid h1
              have H2 := Lib.hid h2
              have H3 := Lib.hid h3
              clear gw h1 h2 h3
              have hlt : i < 19 := by
                obtain ⟨q, _⟩ := Array.getElem?_eq_some_iff.1 ho
                exact q
              rcases (show i = 0 ∨ i = 1 ∨ i = 2 ∨ i = 3 ∨ i = 4 ∨ i = 5 ∨ i = 6 ∨ i = 7 ∨ i = 8 ∨ i = 9 ∨ i = 10 ∨ i = 11 ∨ i = 12 ∨ i = 13 ∨ i = 14 ∨ i = 15 ∨ i = 16 ∨ i = 17 ∨ i = 18 by omega) with rfl | rfl | rfl | rfl | rfl | rfl | rfl | rfl | rfl | rfl | rfl | rfl | rfl | rfl | rfl | rfl | rfl | rfl | rfl
              · exact absurd un (by simp)
              · exact absurd un (by simp)
              · exact absurd un (by simp)
              · exact absurd un (by simp)
              · exact absurd un (by simp)
              · exact absurd un (by simp)
              · exact absurd un (by simp)
              · exact absurd un (by simp)
              · exact absurd un (by simp)
              · exact absurd un (by simp)
              · exact absurd un (by simp)
              · exact absurd un (by simp)
              · exact absurd un (by simp)
              · have un : f1 = false := by simpa using un
                subst un
                obtain rfl : g1 = false := z1 rfl
                refine wpOp_step (o := _) rfl (fun K2 hK2 => ?_)
                have HK2 := Lib.hid hK2
                clear hK2 ho hall
                simp only [Act.put, List.getElem_toArray, List.setIfInBounds_toArray, List.set_cons_zero, List.set_cons_succ]
                go_simp
                refine HK2.out _ _ ⟨KV.out _ (gb_trans (gb_drew w4 none) (gb_trans GW.out (gb_alloc _ _ none))), true, f2, f3, false, g2, g3, (.pointer (some ⟨W.heap.size, 0, none⟩)), v2, v3, by simp, by first | rfl | (simp [Act.put]; done), gb_trans GW.out (gb_alloc _ _ none), CH3.new GW.out, H2.out.alloc _, H3.out.alloc _, (fun _ e => Ne.symm (H2.out.ne e)), (fun _ e => Ne.symm (H3.out.ne e)), d3, (fun e => by cases e), z2, z3⟩
              · have un : f2 = false := by simpa using un
                subst un
                obtain rfl : g2 = false := z2 rfl
                refine wpOp_step (o := _) rfl (fun K2 hK2 => ?_)
                have HK2 := Lib.hid hK2
                clear hK2 ho hall
                simp only [Act.put, List.getElem_toArray, List.setIfInBounds_toArray, List.set_cons_zero, List.set_cons_succ]
                go_simp
                refine HK2.out _ _ ⟨KV.out _ (gb_trans (gb_drew w4 none) (gb_trans GW.out (gb_alloc _ _ none))), f1, true, f3, g1, false, g3, v1, (.pointer (some ⟨W.heap.size, 0, none⟩)), v3, by simp, by first | rfl | (simp [Act.put]; done), gb_trans GW.out (gb_alloc _ _ none), H1.out.alloc _, CH3.new GW.out, H3.out.alloc _, (fun e _ => H1.out.ne e), d2, (fun _ e => Ne.symm (H3.out.ne e)), z1, (fun e => by cases e), z3⟩
              · have un : f3 = false := by simpa using un
                subst un
                obtain rfl : g3 = false := z3 rfl
                refine wpOp_step (o := _) rfl (fun K2 hK2 => ?_)
                have HK2 := Lib.hid hK2
                clear hK2 ho hall
                simp only [Act.put, List.getElem_toArray, List.setIfInBounds_toArray, List.set_cons_zero, List.set_cons_succ]
                go_simp
                refine HK2.out _ _ ⟨KV.out _ (gb_trans (gb_drew w4 none) (gb_trans GW.out (gb_alloc _ _ none))), f1, f2, true, g1, g2, false, v1, v2, (.pointer (some ⟨W.heap.size, 0, none⟩)), by simp, by first | rfl | (simp [Act.put]; done), gb_trans GW.out (gb_alloc _ _ none), H1.out.alloc _, H2.out.alloc _, CH3.new GW.out, d1, (fun e _ => H1.out.ne e), (fun e _ => H2.out.ne e), z1, z2, (fun e => by cases e)⟩
              · have un : g1 = false := by simpa using un
                subst un
                have fl : f1 = true := by
                  have o2 : o = _ := (Option.some.inj ho).symm
                  subst o2
                  have q := hall ⟨13, .data⟩ (by simp) rfl
                  simpa using q
                subst fl
                obtain ⟨bq, rfl, hb2, hb3⟩ := H1.out rfl
                have HB3 := Lib.hid (show IsB W bq 46 #[.int .i64 0, .slice none 0 0, .int .i64 0, .int .i64 0, .slice none 0 0] from hb3)
                have SB := Lib.hid (fill5 HB3.out (.int .i64 ib) (.slice Yb.ka Yb.kn Yb.kc) (.int .i64 b.pr) (.int .i64 b.ac) (.slice Yb.ra Yb.rn Yb.rc))
                have fr0 := HB3.out.free 0
                have fr1 := HB3.out.free 1
                have fr2 := HB3.out.free 2
                have fr3 := HB3.out.free 3
                have fr4 := HB3.out.free 4
                have cr0 := HB3.out.cell 0
                have cr1 := HB3.out.cell 1
                have cr2 := HB3.out.cell 2
                have cr3 := HB3.out.cell 3
                have cr4 := HB3.out.cell 4
                dsimp at cr0 cr1 cr2 cr3 cr4
                refine wpOp_step (o := _) rfl (fun K2 hK2 => ?_)
                have HK2 := Lib.hid hK2
                clear hK2 ho hall hb3
                simp only [Act.put, List.getElem_toArray, List.setIfInBounds_toArray, List.set_cons_zero, List.set_cons_succ]
                go_simp
                refine HK2.out _ _ ⟨KV.out _ (gb_trans (gb_drew w4 none) (grow5 GW.out hb2)), true, f2, f3, true, g2, g3, (.pointer (some ⟨bq, 0, none⟩)), v2, v3, by simp, by first | rfl | (simp [Act.put]; done), grow5 GW.out hb2, (fun _ => ⟨bq, rfl, hb2, SB.out⟩), (fun e => by obtain ⟨b2, q1, q2, q3⟩ := H2.out e; exact ⟨b2, q1, q2, by have NN : b2 ≠ bq := (fun ee => (Ne.symm (d1 rfl e)) (by rw [q1, ee])); exact far5 q3 NN⟩), (fun e => by obtain ⟨b2, q1, q2, q3⟩ := H3.out e; exact ⟨b2, q1, q2, by have NN : b2 ≠ bq := (fun ee => (Ne.symm (d2 rfl e)) (by rw [q1, ee])); exact far5 q3 NN⟩), d1, d2, d3, (fun e => by cases e), z2, z3⟩
              · have un : g2 = false := by simpa using un
                subst un
                have fl : f2 = true := by
                  have o2 : o = _ := (Option.some.inj ho).symm
                  subst o2
                  have q := hall ⟨14, .data⟩ (by simp) rfl
                  simpa using q
                subst fl
                obtain ⟨bq, rfl, hb2, hb3⟩ := H2.out rfl
                have HB3 := Lib.hid (show IsB W bq 46 #[.int .i64 0, .slice none 0 0, .int .i64 0, .int .i64 0, .slice none 0 0] from hb3)
                have SB := Lib.hid (fill5 HB3.out (.int .i64 ic) (.slice Yc.ka Yc.kn Yc.kc) (.int .i64 c.pr) (.int .i64 c.ac) (.slice Yc.ra Yc.rn Yc.rc))
                have fr0 := HB3.out.free 0
                have fr1 := HB3.out.free 1
                have fr2 := HB3.out.free 2
                have fr3 := HB3.out.free 3
                have fr4 := HB3.out.free 4
                have cr0 := HB3.out.cell 0
                have cr1 := HB3.out.cell 1
                have cr2 := HB3.out.cell 2
                have cr3 := HB3.out.cell 3
                have cr4 := HB3.out.cell 4
                dsimp at cr0 cr1 cr2 cr3 cr4
                refine wpOp_step (o := _) rfl (fun K2 hK2 => ?_)
                have HK2 := Lib.hid hK2
                clear hK2 ho hall hb3
                simp only [Act.put, List.getElem_toArray, List.setIfInBounds_toArray, List.set_cons_zero, List.set_cons_succ]
                go_simp
                refine HK2.out _ _ ⟨KV.out _ (gb_trans (gb_drew w4 none) (grow5 GW.out hb2)), f1, true, f3, g1, true, g3, v1, (.pointer (some ⟨bq, 0, none⟩)), v3, by simp, by first | rfl | (simp [Act.put]; done), grow5 GW.out hb2, (fun e => by obtain ⟨b2, q1, q2, q3⟩ := H1.out e; exact ⟨b2, q1, q2, by have NN : b2 ≠ bq := (fun ee => (d1 e rfl) (by rw [q1, ee])); exact far5 q3 NN⟩), (fun _ => ⟨bq, rfl, hb2, SB.out⟩), (fun e => by obtain ⟨b2, q1, q2, q3⟩ := H3.out e; exact ⟨b2, q1, q2, by have NN : b2 ≠ bq := (fun ee => (Ne.symm (d3 rfl e)) (by rw [q1, ee])); exact far5 q3 NN⟩), d1, d2, d3, z1, (fun e => by cases e), z3⟩
              · have un : g3 = false := by simpa using un
                subst un
                have fl : f3 = true := by
                  have o2 : o = _ := (Option.some.inj ho).symm
                  subst o2
                  have q := hall ⟨15, .data⟩ (by simp) rfl
                  simpa using q
                subst fl
                obtain ⟨bq, rfl, hb2, hb3⟩ := H3.out rfl
                have HB3 := Lib.hid (show IsB W bq 46 #[.int .i64 0, .slice none 0 0, .int .i64 0, .int .i64 0, .slice none 0 0] from hb3)
                have SB := Lib.hid (fill5 HB3.out (.int .i64 ia) (.slice Ya.ka Ya.kn Ya.kc) (.int .i64 a.pr) (.int .i64 a.ac) (.slice Ya.ra Ya.rn Ya.rc))
                have fr0 := HB3.out.free 0
                have fr1 := HB3.out.free 1
                have fr2 := HB3.out.free 2
                have fr3 := HB3.out.free 3
                have fr4 := HB3.out.free 4
                have cr0 := HB3.out.cell 0
                have cr1 := HB3.out.cell 1
                have cr2 := HB3.out.cell 2
                have cr3 := HB3.out.cell 3
                have cr4 := HB3.out.cell 4
                dsimp at cr0 cr1 cr2 cr3 cr4
                refine wpOp_step (o := _) rfl (fun K2 hK2 => ?_)
                have HK2 := Lib.hid hK2
                clear hK2 ho hall hb3
                simp only [Act.put, List.getElem_toArray, List.setIfInBounds_toArray, List.set_cons_zero, List.set_cons_succ]
                go_simp
                refine HK2.out _ _ ⟨KV.out _ (gb_trans (gb_drew w4 none) (grow5 GW.out hb2)), f1, f2, true, g1, g2, true, v1, v2, (.pointer (some ⟨bq, 0, none⟩)), by simp, by first | rfl | (simp [Act.put]; done), grow5 GW.out hb2, (fun e => by obtain ⟨b2, q1, q2, q3⟩ := H1.out e; exact ⟨b2, q1, q2, by have NN : b2 ≠ bq := (fun ee => (d2 e rfl) (by rw [q1, ee])); exact far5 q3 NN⟩), (fun e => by obtain ⟨b2, q1, q2, q3⟩ := H2.out e; exact ⟨b2, q1, q2, by have NN : b2 ≠ bq := (fun ee => (d3 e rfl) (by rw [q1, ee])); exact far5 q3 NN⟩), (fun _ => ⟨bq, rfl, hb2, SB.out⟩), d1, d2, d3, z1, z2, (fun e => by cases e)⟩
            case fin =>
              clear hH0
              rintro l A W ⟨f1, f2, f3, g1, g2, g3, v1, v2, v3, rfl, rfl, gw, h1, h2, h3, d1, d2, d3, z1, z2, z3⟩ hr
              obtain ⟨rfl, rfl, rfl, rfl, rfl, rfl⟩ : f1 = true ∧ f2 = true ∧ f3 = true ∧ g1 = true ∧ g2 = true ∧ g3 = true := by
                clear h1 h2 h3 d1 d2 d3 z1 z2 z3 gw
                revert hr
                cases f1 <;> cases f2 <;> cases f3 <;> cases g1 <;> cases g2 <;> cases g3 <;> first | exact fun _ => ⟨rfl, rfl, rfl, rfl, rfl, rfl⟩ | exact fun hr => absurd hr (by decide +kernel)
              obtain ⟨b1, rfl, _, e1⟩ := h1 rfl
              obtain ⟨b2, rfl, _, e2⟩ := h2 rfl
              obtain ⟨b3, rfl, _, e3⟩ := h3 rfl
              have E1 := Lib.hid (show IsB W b1 46 #[.int .i64 ib, .slice Yb.ka Yb.kn Yb.kc, .int .i64 b.pr, .int .i64 b.ac, .slice Yb.ra Yb.rn Yb.rc] from e1)
              have E2 := Lib.hid (show IsB W b2 46 #[.int .i64 ic, .slice Yc.ka Yc.kn Yc.kc, .int .i64 c.pr, .int .i64 c.ac, .slice Yc.ra Yc.rn Yc.rc] from e2)
              have E3 := Lib.hid (show IsB W b3 46 #[.int .i64 ia, .slice Ya.ka Ya.kn Ya.kc, .int .i64 a.pr, .int .i64 a.ac, .slice Ya.ra Ya.rn Ya.rc] from e3)
              have G5 := Lib.hid (gb_trans G4.out (gb_trans (gb_drew w4 none) gw))
              clear e1 e2 e3 gw d1 d2 d3 z1 z2 z3 hr h1 h2 h3 KV
              simp only [Act.put, List.getElem_toArray, List.setIfInBounds_toArray, List.set_cons_zero, List.set_cons_succ]
              have C12 := Lib.hid (fun (W : World) (g : w1.grownBy W none) => PC.out _ g ib ic Yb Yc b c (HI.out _ g).2.2.1 (HI.out _ g).2.2.2)
              have C21 := Lib.hid (fun (W : World) (g : w1.grownBy W none) => PC.out _ g ic ib Yc Yb c b (HI.out _ g).2.2.2 (HI.out _ g).2.2.1)
              have C23 := Lib.hid (fun (W : World) (g : w1.grownBy W none) => PC.out _ g ic ia Yc Ya c a (HI.out _ g).2.2.2 (HI.out _ g).2.1)
              have C13 := Lib.hid (fun (W : World) (g : w1.grownBy W none) => PC.out _ g ib ia Yb Ya b a (HI.out _ g).2.2.1 (HI.out _ g).2.1)
              have TO := Lib.hid (prec_tot P t ib ic b c)
              have TA := Lib.hid (prec_tra P t ib ic ia b c a)
              generalize precE P t ib b ic c = u12 at *
              generalize precE P t ic c ib b = u21 at *
              generalize precE P t ic c ia a = u23 at *
              generalize precE P t ib b ia a = u13 at *
              go_upto_region 14 with fail
              by_cases hne : ib = ic
              · have ne : (ib != ic) = false := by rw [bne_eq_false_iff_eq]; exact hne
                clear hne TO
                have KU := Lib.hid (fun (w' : World) (q0 : W.grownBy w' none) => (⟨(B1.out.keep0 (gb_trans G5.out q0)).cell 0, (B1.out.keep0 (gb_trans G5.out q0)).cell 1, (B1.out.keep0 (gb_trans G5.out q0)).cell 2, (B1.out.keep0 (gb_trans G5.out q0)).cell 3, (B1.out.keep0 (gb_trans G5.out q0)).cell 4, (B1.out.keep0 (gb_trans G5.out q0)).cell 5, (B1.out.keep0 (gb_trans G5.out q0)).cell 6, (B1.out.keep0 (gb_trans G5.out q0)).cell 7, (B1.out.keep0 (gb_trans G5.out q0)).cell 8, (E1.out.keep0 q0).cell 0, (E1.out.keep0 q0).cell 1, (E1.out.keep0 q0).cell 2, (E1.out.keep0 q0).cell 3, (E1.out.keep0 q0).cell 4, (E2.out.keep0 q0).cell 0, (E2.out.keep0 q0).cell 1, (E2.out.keep0 q0).cell 2, (E2.out.keep0 q0).cell 3, (E2.out.keep0 q0).cell 4, q0⟩ : (fun w' : World => w'.cell? ⟨bx, 0, none⟩ = some (.string X.nm) ∧ w'.cell? ⟨bx, 1, none⟩ = some (.slice X.ha X.hn X.hc) ∧ w'.cell? ⟨bx, 2, none⟩ = some (.slice X.ma X.mn X.mc) ∧ w'.cell? ⟨bx, 3, none⟩ = some (.slice X.ra X.rn X.rc) ∧ w'.cell? ⟨bx, 4, none⟩ = some (.slice X.aa X.an X.ac) ∧ w'.cell? ⟨bx, 5, none⟩ = some (.slice X.ta X.tn X.tc) ∧ w'.cell? ⟨bx, 6, none⟩ = some (.slice X.sa X.sn X.sc) ∧ w'.cell? ⟨bx, 7, none⟩ = some (.slice X.ca X.cn X.cc) ∧ w'.cell? ⟨bx, 8, none⟩ = some (.slice X.da X.dn X.dc) ∧ w'.cell? ⟨b1, 0, none⟩ = some (.int .i64 ib) ∧ w'.cell? ⟨b1, 1, none⟩ = some (.slice Yb.ka Yb.kn Yb.kc) ∧ w'.cell? ⟨b1, 2, none⟩ = some (.int .i64 b.pr) ∧ w'.cell? ⟨b1, 3, none⟩ = some (.int .i64 b.ac) ∧ w'.cell? ⟨b1, 4, none⟩ = some (.slice Yb.ra Yb.rn Yb.rc) ∧ w'.cell? ⟨b2, 0, none⟩ = some (.int .i64 ic) ∧ w'.cell? ⟨b2, 1, none⟩ = some (.slice Yc.ka Yc.kn Yc.kc) ∧ w'.cell? ⟨b2, 2, none⟩ = some (.int .i64 c.pr) ∧ w'.cell? ⟨b2, 3, none⟩ = some (.int .i64 c.ac) ∧ w'.cell? ⟨b2, 4, none⟩ = some (.slice Yc.ra Yc.rn Yc.rc) ∧ W.grownBy w' none) w'))
                have U0 := Lib.hid (gb_drew W none)
                refine wp_region_held_drew (S := (fun w' : World => w'.cell? ⟨bx, 0, none⟩ = some (.string X.nm) ∧ w'.cell? ⟨bx, 1, none⟩ = some (.slice X.ha X.hn X.hc) ∧ w'.cell? ⟨bx, 2, none⟩ = some (.slice X.ma X.mn X.mc) ∧ w'.cell? ⟨bx, 3, none⟩ = some (.slice X.ra X.rn X.rc) ∧ w'.cell? ⟨bx, 4, none⟩ = some (.slice X.aa X.an X.ac) ∧ w'.cell? ⟨bx, 5, none⟩ = some (.slice X.ta X.tn X.tc) ∧ w'.cell? ⟨bx, 6, none⟩ = some (.slice X.sa X.sn X.sc) ∧ w'.cell? ⟨bx, 7, none⟩ = some (.slice X.ca X.cn X.cc) ∧ w'.cell? ⟨bx, 8, none⟩ = some (.slice X.da X.dn X.dc) ∧ w'.cell? ⟨b1, 0, none⟩ = some (.int .i64 ib) ∧ w'.cell? ⟨b1, 1, none⟩ = some (.slice Yb.ka Yb.kn Yb.kc) ∧ w'.cell? ⟨b1, 2, none⟩ = some (.int .i64 b.pr) ∧ w'.cell? ⟨b1, 3, none⟩ = some (.int .i64 b.ac) ∧ w'.cell? ⟨b1, 4, none⟩ = some (.slice Yb.ra Yb.rn Yb.rc) ∧ w'.cell? ⟨b2, 0, none⟩ = some (.int .i64 ic) ∧ w'.cell? ⟨b2, 1, none⟩ = some (.slice Yc.ka Yc.kn Yc.kc) ∧ w'.cell? ⟨b2, 2, none⟩ = some (.int .i64 c.pr) ∧ w'.cell? ⟨b2, 3, none⟩ = some (.int .i64 c.ac) ∧ w'.cell? ⟨b2, 4, none⟩ = some (.slice Yc.ra Yc.rn Yc.rc) ∧ W.grownBy w' none)) (by kernel_rfl) (KU.out _ U0.out) (fun hH0 => ?_)
                refine wpAnyH_take (i := 0) (v := ?v142) rfl (by kernel_rfl) (by kernel_rfl) (by kernel_rfl) (fun _ _ _ h => h) (Or.inl ⟨by rfl, ?hy142⟩) (by assumption) ?rest142
                case hy142 => (intro wz hSw; (try dsimp only at hSw); first | (go_simp; done) | (go_simp; with_reducible rfl))
                try simp only [Act.put, List.getElem_toArray, List.getElem_cons_zero, List.setIfInBounds_toArray, List.set_cons_zero, List.set_cons_succ]
                refine wpAnyH_take (i := 1) (v := ?v143) rfl (by kernel_rfl) (by kernel_rfl) (by kernel_rfl) (fun _ _ _ h => h) (Or.inl ⟨by rfl, ?hy143⟩) (by assumption) ?rest143
                case hy143 => (intro wz hSw; (try dsimp only at hSw); first | (go_simp; done) | (go_simp; with_reducible rfl))
                try simp only [Act.put, List.getElem_toArray, List.getElem_cons_succ, List.getElem_cons_zero, List.setIfInBounds_toArray, List.set_cons_zero, List.set_cons_succ]
                refine wpAnyH_take (i := 2) (v := ?v144) rfl (by kernel_rfl) (by kernel_rfl) (by kernel_rfl) (fun _ _ _ h => h) (Or.inl ⟨by rfl, ?hy144⟩) (by assumption) ?rest144
                case hy144 => (intro wz hSw; (try dsimp only at hSw); first | (go_simp; done) | (go_simp; with_reducible rfl))
                try simp only [Act.put, List.getElem_toArray, List.getElem_cons_succ, List.getElem_cons_zero, List.setIfInBounds_toArray, List.set_cons_zero, List.set_cons_succ]
                refine wpAnyH_take (i := 3) (v := ?v145) rfl (by kernel_rfl) (by kernel_rfl) (by kernel_rfl) (fun _ _ _ h => h) (Or.inl ⟨by rfl, ?hy145⟩) (by assumption) ?rest145
                case hy145 => (intro wz hSw; (try dsimp only at hSw); first | (go_simp; done) | (go_simp; with_reducible rfl))
                try simp only [Act.put, List.getElem_toArray, List.getElem_cons_succ, List.getElem_cons_zero, List.setIfInBounds_toArray, List.set_cons_zero, List.set_cons_succ]
                refine wpAnyH_take (i := 4) (v := ?v146) rfl (by kernel_rfl) (by kernel_rfl) (by kernel_rfl) (fun _ _ _ h => h) (Or.inl ⟨by rfl, ?hy146⟩) (by assumption) ?rest146
                case hy146 => (intro wz hSw; (try dsimp only at hSw); first | (go_simp; done) | (go_simp; with_reducible rfl))
                try simp only [Act.put, List.getElem_toArray, List.getElem_cons_succ, List.getElem_cons_zero, List.setIfInBounds_toArray, List.set_cons_zero, List.set_cons_succ]
                refine wpAnyH_take (i := 5) (v := ?v147) rfl (by kernel_rfl) (by kernel_rfl) (by kernel_rfl) (fun _ _ _ h => h) (Or.inl ⟨by rfl, ?hy147⟩) (by assumption) ?rest147
                case hy147 => (intro wz hSw; (try dsimp only at hSw); first | (go_simp; done) | (go_simp; with_reducible rfl))
                try simp only [Act.put, List.getElem_toArray, List.getElem_cons_succ, List.getElem_cons_zero, List.setIfInBounds_toArray, List.set_cons_zero, List.set_cons_succ]
                refine wpAnyH_take (i := 6) (v := undef) rfl (by kernel_rfl) (by kernel_rfl) (by kernel_rfl) (fun _ _ _ h => h) (Or.inr ⟨by rfl, rfl⟩) (by assumption) ?_
                try simp only [Act.put, List.getElem_toArray, List.getElem_cons_succ, List.getElem_cons_zero, List.setIfInBounds_toArray, List.set_cons_zero, List.set_cons_succ]
                refine wpAnyH_take (i := 7) (v := undef) rfl (by kernel_rfl) (by kernel_rfl) (by kernel_rfl) (fun _ _ _ h => h) (Or.inr ⟨by rfl, rfl⟩) (by assumption) ?_
                try simp only [Act.put, List.getElem_toArray, List.getElem_cons_succ, List.getElem_cons_zero, List.setIfInBounds_toArray, List.set_cons_zero, List.set_cons_succ]
                refine wpAnyH_take (i := 8) (v := undef) rfl (by kernel_rfl) (by kernel_rfl) (by kernel_rfl) (fun _ _ _ h => h) (Or.inr ⟨by rfl, rfl⟩) (by assumption) ?_
                try simp only [Act.put, List.getElem_toArray, List.getElem_cons_succ, List.getElem_cons_zero, List.setIfInBounds_toArray, List.set_cons_zero, List.set_cons_succ]
                refine wpAnyH_take (i := 9) (v := undef) rfl (by kernel_rfl) (by kernel_rfl) (by kernel_rfl) (fun _ _ _ h => h) (Or.inr ⟨by rfl, rfl⟩) (by assumption) ?_
                try simp only [Act.put, List.getElem_toArray, List.getElem_cons_succ, List.getElem_cons_zero, List.setIfInBounds_toArray, List.set_cons_zero, List.set_cons_succ]
                refine wpAnyH_take (i := 10) (v := undef) rfl (by kernel_rfl) (by kernel_rfl) (by kernel_rfl) (fun _ _ _ h => h) (Or.inr ⟨by rfl, rfl⟩) (by assumption) ?_
                try simp only [Act.put, List.getElem_toArray, List.getElem_cons_succ, List.getElem_cons_zero, List.setIfInBounds_toArray, List.set_cons_zero, List.set_cons_succ]
                refine wpAnyH_take (i := 11) (v := undef) rfl (by kernel_rfl) (by kernel_rfl) (by kernel_rfl) (fun _ _ _ h => h) (Or.inr ⟨by rfl, rfl⟩) (by assumption) ?_
                try simp only [Act.put, List.getElem_toArray, List.getElem_cons_succ, List.getElem_cons_zero, List.setIfInBounds_toArray, List.set_cons_zero, List.set_cons_succ]
                refine wpAnyH_take (i := 12) (v := undef) rfl (by kernel_rfl) (by kernel_rfl) (by kernel_rfl) (fun _ _ _ h => h) (Or.inr ⟨by rfl, rfl⟩) (by assumption) ?_
                try simp only [Act.put, List.getElem_toArray, List.getElem_cons_succ, List.getElem_cons_zero, List.setIfInBounds_toArray, List.set_cons_zero, List.set_cons_succ]
                refine wpAnyH_take (i := 13) (v := undef) rfl (by kernel_rfl) (by kernel_rfl) (by kernel_rfl) (fun _ _ _ h => h) (Or.inr ⟨by rfl, rfl⟩) (by assumption) ?_
                try simp only [Act.put, List.getElem_toArray, List.getElem_cons_succ, List.getElem_cons_zero, List.setIfInBounds_toArray, List.set_cons_zero, List.set_cons_succ]
                refine wpAnyH_take (i := 14) (v := undef) rfl (by kernel_rfl) (by kernel_rfl) (by kernel_rfl) (fun _ _ _ h => h) (Or.inr ⟨by rfl, rfl⟩) (by assumption) ?_
                try simp only [Act.put, List.getElem_toArray, List.getElem_cons_succ, List.getElem_cons_zero, List.setIfInBounds_toArray, List.set_cons_zero, List.set_cons_succ]
                refine wpAnyH_take (i := 15) (v := undef) rfl (by kernel_rfl) (by kernel_rfl) (by kernel_rfl) (fun _ _ _ h => h) (Or.inr ⟨by rfl, rfl⟩) (by assumption) ?_
                try simp only [Act.put, List.getElem_toArray, List.getElem_cons_succ, List.getElem_cons_zero, List.setIfInBounds_toArray, List.set_cons_zero, List.set_cons_succ]
                refine wpAnyH_take (i := 16) (v := undef) rfl (by kernel_rfl) (by kernel_rfl) (by kernel_rfl) (fun _ _ _ h => h) (Or.inr ⟨by rfl, rfl⟩) (by assumption) ?_
                try simp only [Act.put, List.getElem_toArray, List.getElem_cons_succ, List.getElem_cons_zero, List.setIfInBounds_toArray, List.set_cons_zero, List.set_cons_succ]
                refine wpAnyH_take (i := 17) (v := ?v148) rfl (by kernel_rfl) (by kernel_rfl) (by kernel_rfl) (fun _ _ _ h => h) (Or.inl ⟨by rfl, ?hy148⟩) (by assumption) ?rest148
                case hy148 => (intro wz hSw; (try dsimp only at hSw); first | (go_simp; done) | (go_simp; with_reducible rfl))
                try simp only [Act.put, List.getElem_toArray, List.getElem_cons_succ, List.getElem_cons_zero, List.setIfInBounds_toArray, List.set_cons_zero, List.set_cons_succ]
                refine wpAnyH_done (by kernel_rfl) ?_ _
                clear hH0
                have G6 := Lib.hid U0.out
                clear KU
                cases u12
                · have c0 := (B1.out.keep0 (gb_trans G5.out G6.out)).cell 0
                  have c1 := (B1.out.keep0 (gb_trans G5.out G6.out)).cell 1
                  have c2 := (B1.out.keep0 (gb_trans G5.out G6.out)).cell 2
                  have c3 := (B1.out.keep0 (gb_trans G5.out G6.out)).cell 3
                  have c4 := (B1.out.keep0 (gb_trans G5.out G6.out)).cell 4
                  have c5 := (B1.out.keep0 (gb_trans G5.out G6.out)).cell 5
                  have c6 := (B1.out.keep0 (gb_trans G5.out G6.out)).cell 6
                  have c7 := (B1.out.keep0 (gb_trans G5.out G6.out)).cell 7
                  have c8 := (B1.out.keep0 (gb_trans G5.out G6.out)).cell 8
                  have m10 := (E1.out.keep0 G6.out).cell 0
                  have m11 := (E1.out.keep0 G6.out).cell 1
                  have m12 := (E1.out.keep0 G6.out).cell 2
                  have m13 := (E1.out.keep0 G6.out).cell 3
                  have m14 := (E1.out.keep0 G6.out).cell 4
                  have m20 := (E2.out.keep0 G6.out).cell 0
                  have m21 := (E2.out.keep0 G6.out).cell 1
                  have m22 := (E2.out.keep0 G6.out).cell 2
                  have m23 := (E2.out.keep0 G6.out).cell 3
                  have m24 := (E2.out.keep0 G6.out).cell 4
                  have m30 := (E3.out.keep0 G6.out).cell 0
                  have m31 := (E3.out.keep0 G6.out).cell 1
                  have m32 := (E3.out.keep0 G6.out).cell 2
                  have m33 := (E3.out.keep0 G6.out).cell 3
                  have m34 := (E3.out.keep0 G6.out).cell 4
                  dsimp at c0 c1 c2 c3 c4 c5 c6 c7 c8 m10 m11 m12 m13 m14 m20 m21 m22 m23 m24 m30 m31 m32 m33 m34
                  go_wp2_with fail
                  refine (C12.out _ (gb_trans G5.out G6.out)).mono ?_
                  rintro e y1 ⟨rfl, g⟩
                  have M1 := Lib.hid (gb_trans G6.out g)
                  clear g
                  clear c0 c1 c2 c3 c4 c5 c6 c7 c8 m10 m11 m12 m13 m14 m20 m21 m22 m23 m24 m30 m31 m32 m33 m34
                  go_wp2
                  exact ⟨⟨2, by omega, by first | rfl | simp, gb_trans G5.out M1.out⟩, by simp [intOf]⟩
                · cases u23
                  · have c0 := (B1.out.keep0 (gb_trans G5.out G6.out)).cell 0
                    have c1 := (B1.out.keep0 (gb_trans G5.out G6.out)).cell 1
                    have c2 := (B1.out.keep0 (gb_trans G5.out G6.out)).cell 2
                    have c3 := (B1.out.keep0 (gb_trans G5.out G6.out)).cell 3
                    have c4 := (B1.out.keep0 (gb_trans G5.out G6.out)).cell 4
                    have c5 := (B1.out.keep0 (gb_trans G5.out G6.out)).cell 5
                    have c6 := (B1.out.keep0 (gb_trans G5.out G6.out)).cell 6
                    have c7 := (B1.out.keep0 (gb_trans G5.out G6.out)).cell 7
                    have c8 := (B1.out.keep0 (gb_trans G5.out G6.out)).cell 8
                    have m10 := (E1.out.keep0 G6.out).cell 0
                    have m11 := (E1.out.keep0 G6.out).cell 1
                    have m12 := (E1.out.keep0 G6.out).cell 2
                    have m13 := (E1.out.keep0 G6.out).cell 3
                    have m14 := (E1.out.keep0 G6.out).cell 4
                    have m20 := (E2.out.keep0 G6.out).cell 0
                    have m21 := (E2.out.keep0 G6.out).cell 1
                    have m22 := (E2.out.keep0 G6.out).cell 2
                    have m23 := (E2.out.keep0 G6.out).cell 3
                    have m24 := (E2.out.keep0 G6.out).cell 4
                    have m30 := (E3.out.keep0 G6.out).cell 0
                    have m31 := (E3.out.keep0 G6.out).cell 1
                    have m32 := (E3.out.keep0 G6.out).cell 2
                    have m33 := (E3.out.keep0 G6.out).cell 3
                    have m34 := (E3.out.keep0 G6.out).cell 4
                    dsimp at c0 c1 c2 c3 c4 c5 c6 c7 c8 m10 m11 m12 m13 m14 m20 m21 m22 m23 m24 m30 m31 m32 m33 m34
                    go_wp2_with fail
                    refine (C12.out _ (gb_trans G5.out G6.out)).mono ?_
                    rintro e y1 ⟨rfl, g⟩
                    have M1 := Lib.hid (gb_trans G6.out g)
                    clear g
                    clear c0 c1 c2 c3 c4 c5 c6 c7 c8 m10 m11 m12 m13 m14 m20 m21 m22 m23 m24 m30 m31 m32 m33 m34
                    have c0 := (B1.out.keep0 (gb_trans G5.out M1.out)).cell 0
                    have c1 := (B1.out.keep0 (gb_trans G5.out M1.out)).cell 1
                    have c2 := (B1.out.keep0 (gb_trans G5.out M1.out)).cell 2
                    have c3 := (B1.out.keep0 (gb_trans G5.out M1.out)).cell 3
                    have c4 := (B1.out.keep0 (gb_trans G5.out M1.out)).cell 4
                    have c5 := (B1.out.keep0 (gb_trans G5.out M1.out)).cell 5
                    have c6 := (B1.out.keep0 (gb_trans G5.out M1.out)).cell 6
                    have c7 := (B1.out.keep0 (gb_trans G5.out M1.out)).cell 7
                    have c8 := (B1.out.keep0 (gb_trans G5.out M1.out)).cell 8
                    have m10 := (E1.out.keep0 M1.out).cell 0
                    have m11 := (E1.out.keep0 M1.out).cell 1
                    have m12 := (E1.out.keep0 M1.out).cell 2
                    have m13 := (E1.out.keep0 M1.out).cell 3
                    have m14 := (E1.out.keep0 M1.out).cell 4
                    have m20 := (E2.out.keep0 M1.out).cell 0
                    have m21 := (E2.out.keep0 M1.out).cell 1
                    have m22 := (E2.out.keep0 M1.out).cell 2
                    have m23 := (E2.out.keep0 M1.out).cell 3
                    have m24 := (E2.out.keep0 M1.out).cell 4
                    have m30 := (E3.out.keep0 M1.out).cell 0
                    have m31 := (E3.out.keep0 M1.out).cell 1
                    have m32 := (E3.out.keep0 M1.out).cell 2
                    have m33 := (E3.out.keep0 M1.out).cell 3
                    have m34 := (E3.out.keep0 M1.out).cell 4
                    dsimp at c0 c1 c2 c3 c4 c5 c6 c7 c8 m10 m11 m12 m13 m14 m20 m21 m22 m23 m24 m30 m31 m32 m33 m34
                    go_wp2_with fail
                    refine (C23.out _ (gb_trans G5.out M1.out)).mono ?_
                    rintro e y2 ⟨rfl, g⟩
                    have M2 := Lib.hid (gb_trans M1.out g)
                    clear g
                    clear c0 c1 c2 c3 c4 c5 c6 c7 c8 m10 m11 m12 m13 m14 m20 m21 m22 m23 m24 m30 m31 m32 m33 m34
                    go_wp2
                    exact ⟨⟨2, by omega, by first | rfl | simp, gb_trans G5.out M2.out⟩, by simp [intOf]⟩
                  · obtain rfl : u13 = true := TA.out rfl rfl
                    have c0 := (B1.out.keep0 (gb_trans G5.out G6.out)).cell 0
                    have c1 := (B1.out.keep0 (gb_trans G5.out G6.out)).cell 1
                    have c2 := (B1.out.keep0 (gb_trans G5.out G6.out)).cell 2
                    have c3 := (B1.out.keep0 (gb_trans G5.out G6.out)).cell 3
                    have c4 := (B1.out.keep0 (gb_trans G5.out G6.out)).cell 4
                    have c5 := (B1.out.keep0 (gb_trans G5.out G6.out)).cell 5
                    have c6 := (B1.out.keep0 (gb_trans G5.out G6.out)).cell 6
                    have c7 := (B1.out.keep0 (gb_trans G5.out G6.out)).cell 7
                    have c8 := (B1.out.keep0 (gb_trans G5.out G6.out)).cell 8
                    have m10 := (E1.out.keep0 G6.out).cell 0
                    have m11 := (E1.out.keep0 G6.out).cell 1
                    have m12 := (E1.out.keep0 G6.out).cell 2
                    have m13 := (E1.out.keep0 G6.out).cell 3
                    have m14 := (E1.out.keep0 G6.out).cell 4
                    have m20 := (E2.out.keep0 G6.out).cell 0
                    have m21 := (E2.out.keep0 G6.out).cell 1
                    have m22 := (E2.out.keep0 G6.out).cell 2
                    have m23 := (E2.out.keep0 G6.out).cell 3
                    have m24 := (E2.out.keep0 G6.out).cell 4
                    have m30 := (E3.out.keep0 G6.out).cell 0
                    have m31 := (E3.out.keep0 G6.out).cell 1
                    have m32 := (E3.out.keep0 G6.out).cell 2
                    have m33 := (E3.out.keep0 G6.out).cell 3
                    have m34 := (E3.out.keep0 G6.out).cell 4
                    dsimp at c0 c1 c2 c3 c4 c5 c6 c7 c8 m10 m11 m12 m13 m14 m20 m21 m22 m23 m24 m30 m31 m32 m33 m34
                    go_wp2_with fail
                    refine (C12.out _ (gb_trans G5.out G6.out)).mono ?_
                    rintro e y1 ⟨rfl, g⟩
                    have M1 := Lib.hid (gb_trans G6.out g)
                    clear g
                    clear c0 c1 c2 c3 c4 c5 c6 c7 c8 m10 m11 m12 m13 m14 m20 m21 m22 m23 m24 m30 m31 m32 m33 m34
                    have c0 := (B1.out.keep0 (gb_trans G5.out M1.out)).cell 0
                    have c1 := (B1.out.keep0 (gb_trans G5.out M1.out)).cell 1
                    have c2 := (B1.out.keep0 (gb_trans G5.out M1.out)).cell 2
                    have c3 := (B1.out.keep0 (gb_trans G5.out M1.out)).cell 3
                    have c4 := (B1.out.keep0 (gb_trans G5.out M1.out)).cell 4
                    have c5 := (B1.out.keep0 (gb_trans G5.out M1.out)).cell 5
                    have c6 := (B1.out.keep0 (gb_trans G5.out M1.out)).cell 6
                    have c7 := (B1.out.keep0 (gb_trans G5.out M1.out)).cell 7
                    have c8 := (B1.out.keep0 (gb_trans G5.out M1.out)).cell 8
                    have m10 := (E1.out.keep0 M1.out).cell 0
                    have m11 := (E1.out.keep0 M1.out).cell 1
                    have m12 := (E1.out.keep0 M1.out).cell 2
                    have m13 := (E1.out.keep0 M1.out).cell 3
                    have m14 := (E1.out.keep0 M1.out).cell 4
                    have m20 := (E2.out.keep0 M1.out).cell 0
                    have m21 := (E2.out.keep0 M1.out).cell 1
                    have m22 := (E2.out.keep0 M1.out).cell 2
                    have m23 := (E2.out.keep0 M1.out).cell 3
                    have m24 := (E2.out.keep0 M1.out).cell 4
                    have m30 := (E3.out.keep0 M1.out).cell 0
                    have m31 := (E3.out.keep0 M1.out).cell 1
                    have m32 := (E3.out.keep0 M1.out).cell 2
                    have m33 := (E3.out.keep0 M1.out).cell 3
                    have m34 := (E3.out.keep0 M1.out).cell 4
                    dsimp at c0 c1 c2 c3 c4 c5 c6 c7 c8 m10 m11 m12 m13 m14 m20 m21 m22 m23 m24 m30 m31 m32 m33 m34
                    go_wp2_with fail
                    refine (C23.out _ (gb_trans G5.out M1.out)).mono ?_
                    rintro e y2 ⟨rfl, g⟩
                    have M2 := Lib.hid (gb_trans M1.out g)
                    clear g
                    clear c0 c1 c2 c3 c4 c5 c6 c7 c8 m10 m11 m12 m13 m14 m20 m21 m22 m23 m24 m30 m31 m32 m33 m34
                    have c0 := (B1.out.keep0 (gb_trans G5.out M2.out)).cell 0
                    have c1 := (B1.out.keep0 (gb_trans G5.out M2.out)).cell 1
                    have c2 := (B1.out.keep0 (gb_trans G5.out M2.out)).cell 2
                    have c3 := (B1.out.keep0 (gb_trans G5.out M2.out)).cell 3
                    have c4 := (B1.out.keep0 (gb_trans G5.out M2.out)).cell 4
                    have c5 := (B1.out.keep0 (gb_trans G5.out M2.out)).cell 5
                    have c6 := (B1.out.keep0 (gb_trans G5.out M2.out)).cell 6
                    have c7 := (B1.out.keep0 (gb_trans G5.out M2.out)).cell 7
                    have c8 := (B1.out.keep0 (gb_trans G5.out M2.out)).cell 8
                    have m10 := (E1.out.keep0 M2.out).cell 0
                    have m11 := (E1.out.keep0 M2.out).cell 1
                    have m12 := (E1.out.keep0 M2.out).cell 2
                    have m13 := (E1.out.keep0 M2.out).cell 3
                    have m14 := (E1.out.keep0 M2.out).cell 4
                    have m20 := (E2.out.keep0 M2.out).cell 0
                    have m21 := (E2.out.keep0 M2.out).cell 1
                    have m22 := (E2.out.keep0 M2.out).cell 2
                    have m23 := (E2.out.keep0 M2.out).cell 3
                    have m24 := (E2.out.keep0 M2.out).cell 4
                    have m30 := (E3.out.keep0 M2.out).cell 0
                    have m31 := (E3.out.keep0 M2.out).cell 1
                    have m32 := (E3.out.keep0 M2.out).cell 2
                    have m33 := (E3.out.keep0 M2.out).cell 3
                    have m34 := (E3.out.keep0 M2.out).cell 4
                    dsimp at c0 c1 c2 c3 c4 c5 c6 c7 c8 m10 m11 m12 m13 m14 m20 m21 m22 m23 m24 m30 m31 m32 m33 m34
                    go_wp2_with fail
                    refine (C13.out _ (gb_trans G5.out M2.out)).mono ?_
                    rintro e y3 ⟨rfl, g⟩
                    have M3 := Lib.hid (gb_trans M2.out g)
                    clear g
                    clear c0 c1 c2 c3 c4 c5 c6 c7 c8 m10 m11 m12 m13 m14 m20 m21 m22 m23 m24 m30 m31 m32 m33 m34
                    go_wp2
                    exact ⟨⟨2, by omega, by first | rfl | simp, gb_trans G5.out M3.out⟩, by simp [intOf]⟩
              · have ne : (ib != ic) = true := by rw [bne_iff_ne]; exact hne
                have tox := TO.out hne
                clear hne TO
                have KU := Lib.hid (fun (w' : World) (q0 : W.grownBy w' none) => (⟨(B1.out.keep0 (gb_trans G5.out q0)).cell 0, (B1.out.keep0 (gb_trans G5.out q0)).cell 1, (B1.out.keep0 (gb_trans G5.out q0)).cell 2, (B1.out.keep0 (gb_trans G5.out q0)).cell 3, (B1.out.keep0 (gb_trans G5.out q0)).cell 4, (B1.out.keep0 (gb_trans G5.out q0)).cell 5, (B1.out.keep0 (gb_trans G5.out q0)).cell 6, (B1.out.keep0 (gb_trans G5.out q0)).cell 7, (B1.out.keep0 (gb_trans G5.out q0)).cell 8, (E1.out.keep0 q0).cell 0, (E1.out.keep0 q0).cell 1, (E1.out.keep0 q0).cell 2, (E1.out.keep0 q0).cell 3, (E1.out.keep0 q0).cell 4, (E2.out.keep0 q0).cell 0, (E2.out.keep0 q0).cell 1, (E2.out.keep0 q0).cell 2, (E2.out.keep0 q0).cell 3, (E2.out.keep0 q0).cell 4, q0⟩ : (fun w' : World => w'.cell? ⟨bx, 0, none⟩ = some (.string X.nm) ∧ w'.cell? ⟨bx, 1, none⟩ = some (.slice X.ha X.hn X.hc) ∧ w'.cell? ⟨bx, 2, none⟩ = some (.slice X.ma X.mn X.mc) ∧ w'.cell? ⟨bx, 3, none⟩ = some (.slice X.ra X.rn X.rc) ∧ w'.cell? ⟨bx, 4, none⟩ = some (.slice X.aa X.an X.ac) ∧ w'.cell? ⟨bx, 5, none⟩ = some (.slice X.ta X.tn X.tc) ∧ w'.cell? ⟨bx, 6, none⟩ = some (.slice X.sa X.sn X.sc) ∧ w'.cell? ⟨bx, 7, none⟩ = some (.slice X.ca X.cn X.cc) ∧ w'.cell? ⟨bx, 8, none⟩ = some (.slice X.da X.dn X.dc) ∧ w'.cell? ⟨b1, 0, none⟩ = some (.int .i64 ib) ∧ w'.cell? ⟨b1, 1, none⟩ = some (.slice Yb.ka Yb.kn Yb.kc) ∧ w'.cell? ⟨b1, 2, none⟩ = some (.int .i64 b.pr) ∧ w'.cell? ⟨b1, 3, none⟩ = some (.int .i64 b.ac) ∧ w'.cell? ⟨b1, 4, none⟩ = some (.slice Yb.ra Yb.rn Yb.rc) ∧ w'.cell? ⟨b2, 0, none⟩ = some (.int .i64 ic) ∧ w'.cell? ⟨b2, 1, none⟩ = some (.slice Yc.ka Yc.kn Yc.kc) ∧ w'.cell? ⟨b2, 2, none⟩ = some (.int .i64 c.pr) ∧ w'.cell? ⟨b2, 3, none⟩ = some (.int .i64 c.ac) ∧ w'.cell? ⟨b2, 4, none⟩ = some (.slice Yc.ra Yc.rn Yc.rc) ∧ W.grownBy w' none) w'))
                have U0 := Lib.hid (gb_drew W none)
                refine wp_region_held_drew (S := (fun w' : World => w'.cell? ⟨bx, 0, none⟩ = some (.string X.nm) ∧ w'.cell? ⟨bx, 1, none⟩ = some (.slice X.ha X.hn X.hc) ∧ w'.cell? ⟨bx, 2, none⟩ = some (.slice X.ma X.mn X.mc) ∧ w'.cell? ⟨bx, 3, none⟩ = some (.slice X.ra X.rn X.rc) ∧ w'.cell? ⟨bx, 4, none⟩ = some (.slice X.aa X.an X.ac) ∧ w'.cell? ⟨bx, 5, none⟩ = some (.slice X.ta X.tn X.tc) ∧ w'.cell? ⟨bx, 6, none⟩ = some (.slice X.sa X.sn X.sc) ∧ w'.cell? ⟨bx, 7, none⟩ = some (.slice X.ca X.cn X.cc) ∧ w'.cell? ⟨bx, 8, none⟩ = some (.slice X.da X.dn X.dc) ∧ w'.cell? ⟨b1, 0, none⟩ = some (.int .i64 ib) ∧ w'.cell? ⟨b1, 1, none⟩ = some (.slice Yb.ka Yb.kn Yb.kc) ∧ w'.cell? ⟨b1, 2, none⟩ = some (.int .i64 b.pr) ∧ w'.cell? ⟨b1, 3, none⟩ = some (.int .i64 b.ac) ∧ w'.cell? ⟨b1, 4, none⟩ = some (.slice Yb.ra Yb.rn Yb.rc) ∧ w'.cell? ⟨b2, 0, none⟩ = some (.int .i64 ic) ∧ w'.cell? ⟨b2, 1, none⟩ = some (.slice Yc.ka Yc.kn Yc.kc) ∧ w'.cell? ⟨b2, 2, none⟩ = some (.int .i64 c.pr) ∧ w'.cell? ⟨b2, 3, none⟩ = some (.int .i64 c.ac) ∧ w'.cell? ⟨b2, 4, none⟩ = some (.slice Yc.ra Yc.rn Yc.rc) ∧ W.grownBy w' none)) (by kernel_rfl) (KU.out _ U0.out) (fun hH0 => ?_)
                refine wpAnyH_take (i := 0) (v := ?v149) rfl (by kernel_rfl) (by kernel_rfl) (by kernel_rfl) (fun _ _ _ h => h) (Or.inl ⟨by rfl, ?hy149⟩) (by assumption) ?rest149
                case hy149 => (intro wz hSw; (try dsimp only at hSw); first | (go_simp; done) | (go_simp; with_reducible rfl))
                try simp only [Act.put, List.getElem_toArray, List.getElem_cons_zero, List.setIfInBounds_toArray, List.set_cons_zero, List.set_cons_succ]
                refine wpAnyH_take (i := 1) (v := ?v150) rfl (by kernel_rfl) (by kernel_rfl) (by kernel_rfl) (fun _ _ _ h => h) (Or.inl ⟨by rfl, ?hy150⟩) (by assumption) ?rest150
                case hy150 => (intro wz hSw; (try dsimp only at hSw); first | (go_simp; done) | (go_simp; with_reducible rfl))
                try simp only [Act.put, List.getElem_toArray, List.getElem_cons_succ, List.getElem_cons_zero, List.setIfInBounds_toArray, List.set_cons_zero, List.set_cons_succ]
                refine wpAnyH_take (i := 2) (v := ?v151) rfl (by kernel_rfl) (by kernel_rfl) (by kernel_rfl) (fun _ _ _ h => h) (Or.inl ⟨by rfl, ?hy151⟩) (by assumption) ?rest151
                case hy151 => (intro wz hSw; (try dsimp only at hSw); first | (go_simp; done) | (go_simp; with_reducible rfl))
                try simp only [Act.put, List.getElem_toArray, List.getElem_cons_succ, List.getElem_cons_zero, List.setIfInBounds_toArray, List.set_cons_zero, List.set_cons_succ]
                refine wpAnyH_take (i := 3) (v := ?v152) rfl (by kernel_rfl) (by kernel_rfl) (by kernel_rfl) (fun _ _ _ h => h) (Or.inl ⟨by rfl, ?hy152⟩) (by assumption) ?rest152
                case hy152 => (intro wz hSw; (try dsimp only at hSw); first | (go_simp; done) | (go_simp; with_reducible rfl))
                try simp only [Act.put, List.getElem_toArray, List.getElem_cons_succ, List.getElem_cons_zero, List.setIfInBounds_toArray, List.set_cons_zero, List.set_cons_succ]
                refine wpAnyH_take (i := 4) (v := ?v153) rfl (by kernel_rfl) (by kernel_rfl) (by kernel_rfl) (fun _ _ _ h => h) (Or.inl ⟨by rfl, ?hy153⟩) (by assumption) ?rest153
                case hy153 => (intro wz hSw; (try dsimp only at hSw); first | (go_simp; done) | (go_simp; with_reducible rfl))
                try simp only [Act.put, List.getElem_toArray, List.getElem_cons_succ, List.getElem_cons_zero, List.setIfInBounds_toArray, List.set_cons_zero, List.set_cons_succ]
                refine wpAnyH_take (i := 5) (v := ?v154) rfl (by kernel_rfl) (by kernel_rfl) (by kernel_rfl) (fun _ _ _ h => h) (Or.inl ⟨by rfl, ?hy154⟩) (by assumption) ?rest154
                case hy154 => (intro wz hSw; (try dsimp only at hSw); first | (go_simp; done) | (go_simp; with_reducible rfl))
                try simp only [Act.put, List.getElem_toArray, List.getElem_cons_succ, List.getElem_cons_zero, List.setIfInBounds_toArray, List.set_cons_zero, List.set_cons_succ]
                refine wpAnyH_take (i := 6) (v := ?v155) rfl (by kernel_rfl) (by kernel_rfl) (by kernel_rfl) (fun _ _ _ h => h) (Or.inl ⟨by rfl, ?hy155⟩) (by assumption) ?rest155
                case hy155 => (intro wz hSw; (try dsimp only at hSw); first | (go_simp; done) | (go_simp; with_reducible rfl))
                try simp only [Act.put, List.getElem_toArray, List.getElem_cons_succ, List.getElem_cons_zero, List.setIfInBounds_toArray, List.set_cons_zero, List.set_cons_succ]
                refine wpAnyH_take (i := 7) (v := ?v156) rfl (by kernel_rfl) (by kernel_rfl) (by kernel_rfl) (fun _ _ _ h => h) (Or.inl ⟨by rfl, ?hy156⟩) (by assumption) ?rest156
                case hy156 => (intro wz hSw; (try dsimp only at hSw); first | (go_simp; done) | (go_simp; with_reducible rfl))
                try simp only [Act.put, List.getElem_toArray, List.getElem_cons_succ, List.getElem_cons_zero, List.setIfInBounds_toArray, List.set_cons_zero, List.set_cons_succ]
                refine wpAnyH_take (i := 8) (v := ?v157) rfl (by kernel_rfl) (by kernel_rfl) (by kernel_rfl) (fun _ _ _ h => h) (Or.inl ⟨by rfl, ?hy157⟩) (by assumption) ?rest157
                case hy157 => (intro wz hSw; (try dsimp only at hSw); first | (go_simp; done) | (go_simp; with_reducible rfl))
                try simp only [Act.put, List.getElem_toArray, List.getElem_cons_succ, List.getElem_cons_zero, List.setIfInBounds_toArray, List.set_cons_zero, List.set_cons_succ]
                refine wpAnyH_take (i := 9) (v := ?v158) rfl (by kernel_rfl) (by kernel_rfl) (by kernel_rfl) (fun _ _ _ h => h) (Or.inl ⟨by rfl, ?hy158⟩) (by assumption) ?rest158
                case hy158 => (intro wz hSw; (try dsimp only at hSw); first | (go_simp; done) | (go_simp; with_reducible rfl))
                try simp only [Act.put, List.getElem_toArray, List.getElem_cons_succ, List.getElem_cons_zero, List.setIfInBounds_toArray, List.set_cons_zero, List.set_cons_succ]
                refine wpAnyH_take (i := 11) (v := ?v159) rfl (by kernel_rfl) (by kernel_rfl) (by kernel_rfl) (fun _ _ _ h => h) (Or.inl ⟨by rfl, ?hy159⟩) (by assumption) ?rest159
                case hy159 => (intro wz hSw; (try dsimp only at hSw); first | (go_simp; done) | (go_simp; with_reducible rfl))
                try simp only [Act.put, List.getElem_toArray, List.getElem_cons_succ, List.getElem_cons_zero, List.setIfInBounds_toArray, List.set_cons_zero, List.set_cons_succ]
                refine wpAnyH_take (i := 12) (v := ?v160) rfl (by kernel_rfl) (by kernel_rfl) (by kernel_rfl) (fun _ _ _ h => h) (Or.inl ⟨by rfl, ?hy160⟩) (by assumption) ?rest160
                case hy160 => (intro wz hSw; (try dsimp only at hSw); first | (go_simp; done) | (go_simp; with_reducible rfl))
                try simp only [Act.put, List.getElem_toArray, List.getElem_cons_succ, List.getElem_cons_zero, List.setIfInBounds_toArray, List.set_cons_zero, List.set_cons_succ]
                refine wpAnyH_take (i := 13) (v := ?v161) rfl (by kernel_rfl) (by kernel_rfl) (by kernel_rfl) (fun _ _ _ h => h) (Or.inl ⟨by rfl, ?hy161⟩) (by assumption) ?rest161
                case hy161 => (intro wz hSw; (try dsimp only at hSw); first | (go_simp; done) | (go_simp; with_reducible rfl))
                try simp only [Act.put, List.getElem_toArray, List.getElem_cons_succ, List.getElem_cons_zero, List.setIfInBounds_toArray, List.set_cons_zero, List.set_cons_succ]
                refine wpAnyH_take (i := 14) (v := ?v162) rfl (by kernel_rfl) (by kernel_rfl) (by kernel_rfl) (fun _ _ _ h => h) (Or.inl ⟨by rfl, ?hy162⟩) (by assumption) ?rest162
                case hy162 => (intro wz hSw; (try dsimp only at hSw); first | (go_simp; done) | (go_simp; with_reducible rfl))
                try simp only [Act.put, List.getElem_toArray, List.getElem_cons_succ, List.getElem_cons_zero, List.setIfInBounds_toArray, List.set_cons_zero, List.set_cons_succ]
                refine wpAnyH_ready (rs := [10]) (by kernel_rfl) (by simp) ?_
                refine AllReadyH.cons (o := _) rfl (fun K hK => ?_) AllReadyH.nil
                go_simp
                (with_reducible refine (C12.out _ (gb_trans G5.out U0.out)).mono ?_)
                rintro e uw1 ⟨rfl, g⟩
                have U1 := Lib.hid (gb_trans U0.out g)
                clear g
                try dsimp only
                refine hK.out _ _ (KU.out _ U1.out) (fun hH1 => ?_)
                clear hK K hH0
                try simp only [Act.put, List.getElem_toArray, List.getElem_cons_succ, List.getElem_cons_zero, List.setIfInBounds_toArray, List.set_cons_zero, List.set_cons_succ]
                refine wpAnyH_ready (rs := [15]) (by kernel_rfl) (by simp) ?_
                refine AllReadyH.cons (o := _) rfl (fun K hK => ?_) AllReadyH.nil
                go_simp
                (with_reducible refine (C21.out _ (gb_trans G5.out U1.out)).mono ?_)
                rintro e uw2 ⟨rfl, g⟩
                have U2 := Lib.hid (gb_trans U1.out g)
                clear g
                try dsimp only
                refine hK.out _ _ (KU.out _ U2.out) (fun hH2 => ?_)
                clear hK K hH1
                try simp only [Act.put, List.getElem_toArray, List.getElem_cons_succ, List.getElem_cons_zero, List.setIfInBounds_toArray, List.set_cons_zero, List.set_cons_succ]
                refine wpAnyH_take (i := 16) (v := ?v163) rfl (by kernel_rfl) (by kernel_rfl) (by kernel_rfl) (fun _ _ _ h => h) (Or.inl ⟨by rfl, ?hy163⟩) (by assumption) ?rest163
                case hy163 => (intro wz hSw; (try dsimp only at hSw); first | (go_simp; done) | (go_simp; with_reducible rfl))
                try simp only [Act.put, List.getElem_toArray, List.getElem_cons_succ, List.getElem_cons_zero, List.setIfInBounds_toArray, List.set_cons_zero, List.set_cons_succ]
                refine wpAnyH_take (i := 17) (v := ?v164) rfl (by kernel_rfl) (by kernel_rfl) (by kernel_rfl) (fun _ _ _ h => h) (Or.inl ⟨by rfl, ?hy164⟩) (by assumption) ?rest164
                case hy164 => (intro wz hSw; (try dsimp only at hSw); first | (go_simp; done) | (go_simp; with_reducible rfl))
                try simp only [Act.put, List.getElem_toArray, List.getElem_cons_succ, List.getElem_cons_zero, List.setIfInBounds_toArray, List.set_cons_zero, List.set_cons_succ]
                refine wpAnyH_done (by kernel_rfl) ?_ _
                clear hH2
                have G6 := Lib.hid U2.out
                clear KU tox
                cases u12
                · have c0 := (B1.out.keep0 (gb_trans G5.out G6.out)).cell 0
                  have c1 := (B1.out.keep0 (gb_trans G5.out G6.out)).cell 1
                  have c2 := (B1.out.keep0 (gb_trans G5.out G6.out)).cell 2
                  have c3 := (B1.out.keep0 (gb_trans G5.out G6.out)).cell 3
                  have c4 := (B1.out.keep0 (gb_trans G5.out G6.out)).cell 4
                  have c5 := (B1.out.keep0 (gb_trans G5.out G6.out)).cell 5
                  have c6 := (B1.out.keep0 (gb_trans G5.out G6.out)).cell 6
                  have c7 := (B1.out.keep0 (gb_trans G5.out G6.out)).cell 7
                  have c8 := (B1.out.keep0 (gb_trans G5.out G6.out)).cell 8
                  have m10 := (E1.out.keep0 G6.out).cell 0
                  have m11 := (E1.out.keep0 G6.out).cell 1
                  have m12 := (E1.out.keep0 G6.out).cell 2
                  have m13 := (E1.out.keep0 G6.out).cell 3
                  have m14 := (E1.out.keep0 G6.out).cell 4
                  have m20 := (E2.out.keep0 G6.out).cell 0
                  have m21 := (E2.out.keep0 G6.out).cell 1
                  have m22 := (E2.out.keep0 G6.out).cell 2
                  have m23 := (E2.out.keep0 G6.out).cell 3
                  have m24 := (E2.out.keep0 G6.out).cell 4
                  have m30 := (E3.out.keep0 G6.out).cell 0
                  have m31 := (E3.out.keep0 G6.out).cell 1
                  have m32 := (E3.out.keep0 G6.out).cell 2
                  have m33 := (E3.out.keep0 G6.out).cell 3
                  have m34 := (E3.out.keep0 G6.out).cell 4
                  dsimp at c0 c1 c2 c3 c4 c5 c6 c7 c8 m10 m11 m12 m13 m14 m20 m21 m22 m23 m24 m30 m31 m32 m33 m34
                  go_wp2_with fail
                  refine (C12.out _ (gb_trans G5.out G6.out)).mono ?_
                  rintro e y1 ⟨rfl, g⟩
                  have M1 := Lib.hid (gb_trans G6.out g)
                  clear g
                  clear c0 c1 c2 c3 c4 c5 c6 c7 c8 m10 m11 m12 m13 m14 m20 m21 m22 m23 m24 m30 m31 m32 m33 m34
                  go_wp2
                  exact ⟨⟨2, by omega, by first | rfl | simp, gb_trans G5.out M1.out⟩, by simp [intOf]⟩
                · cases u23
                  · have c0 := (B1.out.keep0 (gb_trans G5.out G6.out)).cell 0
                    have c1 := (B1.out.keep0 (gb_trans G5.out G6.out)).cell 1
                    have c2 := (B1.out.keep0 (gb_trans G5.out G6.out)).cell 2
                    have c3 := (B1.out.keep0 (gb_trans G5.out G6.out)).cell 3
                    have c4 := (B1.out.keep0 (gb_trans G5.out G6.out)).cell 4
                    have c5 := (B1.out.keep0 (gb_trans G5.out G6.out)).cell 5
                    have c6 := (B1.out.keep0 (gb_trans G5.out G6.out)).cell 6
                    have c7 := (B1.out.keep0 (gb_trans G5.out G6.out)).cell 7
                    have c8 := (B1.out.keep0 (gb_trans G5.out G6.out)).cell 8
                    have m10 := (E1.out.keep0 G6.out).cell 0
                    have m11 := (E1.out.keep0 G6.out).cell 1
                    have m12 := (E1.out.keep0 G6.out).cell 2
                    have m13 := (E1.out.keep0 G6.out).cell 3
                    have m14 := (E1.out.keep0 G6.out).cell 4
                    have m20 := (E2.out.keep0 G6.out).cell 0
                    have m21 := (E2.out.keep0 G6.out).cell 1
                    have m22 := (E2.out.keep0 G6.out).cell 2
                    have m23 := (E2.out.keep0 G6.out).cell 3
                    have m24 := (E2.out.keep0 G6.out).cell 4
                    have m30 := (E3.out.keep0 G6.out).cell 0
                    have m31 := (E3.out.keep0 G6.out).cell 1
                    have m32 := (E3.out.keep0 G6.out).cell 2
                    have m33 := (E3.out.keep0 G6.out).cell 3
                    have m34 := (E3.out.keep0 G6.out).cell 4
                    dsimp at c0 c1 c2 c3 c4 c5 c6 c7 c8 m10 m11 m12 m13 m14 m20 m21 m22 m23 m24 m30 m31 m32 m33 m34
                    go_wp2_with fail
                    refine (C12.out _ (gb_trans G5.out G6.out)).mono ?_
                    rintro e y1 ⟨rfl, g⟩
                    have M1 := Lib.hid (gb_trans G6.out g)
                    clear g
                    clear c0 c1 c2 c3 c4 c5 c6 c7 c8 m10 m11 m12 m13 m14 m20 m21 m22 m23 m24 m30 m31 m32 m33 m34
                    have c0 := (B1.out.keep0 (gb_trans G5.out M1.out)).cell 0
                    have c1 := (B1.out.keep0 (gb_trans G5.out M1.out)).cell 1
                    have c2 := (B1.out.keep0 (gb_trans G5.out M1.out)).cell 2
                    have c3 := (B1.out.keep0 (gb_trans G5.out M1.out)).cell 3
                    have c4 := (B1.out.keep0 (gb_trans G5.out M1.out)).cell 4
                    have c5 := (B1.out.keep0 (gb_trans G5.out M1.out)).cell 5
                    have c6 := (B1.out.keep0 (gb_trans G5.out M1.out)).cell 6
                    have c7 := (B1.out.keep0 (gb_trans G5.out M1.out)).cell 7
                    have c8 := (B1.out.keep0 (gb_trans G5.out M1.out)).cell 8
                    have m10 := (E1.out.keep0 M1.out).cell 0
                    have m11 := (E1.out.keep0 M1.out).cell 1
                    have m12 := (E1.out.keep0 M1.out).cell 2
                    have m13 := (E1.out.keep0 M1.out).cell 3
                    have m14 := (E1.out.keep0 M1.out).cell 4
                    have m20 := (E2.out.keep0 M1.out).cell 0
                    have m21 := (E2.out.keep0 M1.out).cell 1
                    have m22 := (E2.out.keep0 M1.out).cell 2
                    have m23 := (E2.out.keep0 M1.out).cell 3
                    have m24 := (E2.out.keep0 M1.out).cell 4
                    have m30 := (E3.out.keep0 M1.out).cell 0
                    have m31 := (E3.out.keep0 M1.out).cell 1
                    have m32 := (E3.out.keep0 M1.out).cell 2
                    have m33 := (E3.out.keep0 M1.out).cell 3
                    have m34 := (E3.out.keep0 M1.out).cell 4
                    dsimp at c0 c1 c2 c3 c4 c5 c6 c7 c8 m10 m11 m12 m13 m14 m20 m21 m22 m23 m24 m30 m31 m32 m33 m34
                    go_wp2_with fail
                    refine (C23.out _ (gb_trans G5.out M1.out)).mono ?_
                    rintro e y2 ⟨rfl, g⟩
                    have M2 := Lib.hid (gb_trans M1.out g)
                    clear g
                    clear c0 c1 c2 c3 c4 c5 c6 c7 c8 m10 m11 m12 m13 m14 m20 m21 m22 m23 m24 m30 m31 m32 m33 m34
                    go_wp2
                    exact ⟨⟨2, by omega, by first | rfl | simp, gb_trans G5.out M2.out⟩, by simp [intOf]⟩
                  · obtain rfl : u13 = true := TA.out rfl rfl
                    have c0 := (B1.out.keep0 (gb_trans G5.out G6.out)).cell 0
                    have c1 := (B1.out.keep0 (gb_trans G5.out G6.out)).cell 1
                    have c2 := (B1.out.keep0 (gb_trans G5.out G6.out)).cell 2
                    have c3 := (B1.out.keep0 (gb_trans G5.out G6.out)).cell 3
                    have c4 := (B1.out.keep0 (gb_trans G5.out G6.out)).cell 4
                    have c5 := (B1.out.keep0 (gb_trans G5.out G6.out)).cell 5
                    have c6 := (B1.out.keep0 (gb_trans G5.out G6.out)).cell 6
                    have c7 := (B1.out.keep0 (gb_trans G5.out G6.out)).cell 7
                    have c8 := (B1.out.keep0 (gb_trans G5.out G6.out)).cell 8
                    have m10 := (E1.out.keep0 G6.out).cell 0
                    have m11 := (E1.out.keep0 G6.out).cell 1
                    have m12 := (E1.out.keep0 G6.out).cell 2
                    have m13 := (E1.out.keep0 G6.out).cell 3
                    have m14 := (E1.out.keep0 G6.out).cell 4
                    have m20 := (E2.out.keep0 G6.out).cell 0
                    have m21 := (E2.out.keep0 G6.out).cell 1
                    have m22 := (E2.out.keep0 G6.out).cell 2
                    have m23 := (E2.out.keep0 G6.out).cell 3
                    have m24 := (E2.out.keep0 G6.out).cell 4
                    have m30 := (E3.out.keep0 G6.out).cell 0
                    have m31 := (E3.out.keep0 G6.out).cell 1
                    have m32 := (E3.out.keep0 G6.out).cell 2
                    have m33 := (E3.out.keep0 G6.out).cell 3
                    have m34 := (E3.out.keep0 G6.out).cell 4
                    dsimp at c0 c1 c2 c3 c4 c5 c6 c7 c8 m10 m11 m12 m13 m14 m20 m21 m22 m23 m24 m30 m31 m32 m33 m34
                    go_wp2_with fail
                    refine (C12.out _ (gb_trans G5.out G6.out)).mono ?_
                    rintro e y1 ⟨rfl, g⟩
                    have M1 := Lib.hid (gb_trans G6.out g)
                    clear g
                    clear c0 c1 c2 c3 c4 c5 c6 c7 c8 m10 m11 m12 m13 m14 m20 m21 m22 m23 m24 m30 m31 m32 m33 m34
                    have c0 := (B1.out.keep0 (gb_trans G5.out M1.out)).cell 0
                    have c1 := (B1.out.keep0 (gb_trans G5.out M1.out)).cell 1
                    have c2 := (B1.out.keep0 (gb_trans G5.out M1.out)).cell 2
                    have c3 := (B1.out.keep0 (gb_trans G5.out M1.out)).cell 3
                    have c4 := (B1.out.keep0 (gb_trans G5.out M1.out)).cell 4
                    have c5 := (B1.out.keep0 (gb_trans G5.out M1.out)).cell 5
                    have c6 := (B1.out.keep0 (gb_trans G5.out M1.out)).cell 6
                    have c7 := (B1.out.keep0 (gb_trans G5.out M1.out)).cell 7
                    have c8 := (B1.out.keep0 (gb_trans G5.out M1.out)).cell 8
                    have m10 := (E1.out.keep0 M1.out).cell 0
                    have m11 := (E1.out.keep0 M1.out).cell 1
                    have m12 := (E1.out.keep0 M1.out).cell 2
                    have m13 := (E1.out.keep0 M1.out).cell 3
                    have m14 := (E1.out.keep0 M1.out).cell 4
                    have m20 := (E2.out.keep0 M1.out).cell 0
                    have m21 := (E2.out.keep0 M1.out).cell 1
                    have m22 := (E2.out.keep0 M1.out).cell 2
                    have m23 := (E2.out.keep0 M1.out).cell 3
                    have m24 := (E2.out.keep0 M1.out).cell 4
                    have m30 := (E3.out.keep0 M1.out).cell 0
                    have m31 := (E3.out.keep0 M1.out).cell 1
                    have m32 := (E3.out.keep0 M1.out).cell 2
                    have m33 := (E3.out.keep0 M1.out).cell 3
                    have m34 := (E3.out.keep0 M1.out).cell 4
                    dsimp at c0 c1 c2 c3 c4 c5 c6 c7 c8 m10 m11 m12 m13 m14 m20 m21 m22 m23 m24 m30 m31 m32 m33 m34
                    go_wp2_with fail
                    refine (C23.out _ (gb_trans G5.out M1.out)).mono ?_
                    rintro e y2 ⟨rfl, g⟩
                    have M2 := Lib.hid (gb_trans M1.out g)
                    clear g
                    clear c0 c1 c2 c3 c4 c5 c6 c7 c8 m10 m11 m12 m13 m14 m20 m21 m22 m23 m24 m30 m31 m32 m33 m34
                    have c0 := (B1.out.keep0 (gb_trans G5.out M2.out)).cell 0
                    have c1 := (B1.out.keep0 (gb_trans G5.out M2.out)).cell 1
                    have c2 := (B1.out.keep0 (gb_trans G5.out M2.out)).cell 2
                    have c3 := (B1.out.keep0 (gb_trans G5.out M2.out)).cell 3
                    have c4 := (B1.out.keep0 (gb_trans G5.out M2.out)).cell 4
                    have c5 := (B1.out.keep0 (gb_trans G5.out M2.out)).cell 5
                    have c6 := (B1.out.keep0 (gb_trans G5.out M2.out)).cell 6
                    have c7 := (B1.out.keep0 (gb_trans G5.out M2.out)).cell 7
                    have c8 := (B1.out.keep0 (gb_trans G5.out M2.out)).cell 8
                    have m10 := (E1.out.keep0 M2.out).cell 0
                    have m11 := (E1.out.keep0 M2.out).cell 1
                    have m12 := (E1.out.keep0 M2.out).cell 2
                    have m13 := (E1.out.keep0 M2.out).cell 3
                    have m14 := (E1.out.keep0 M2.out).cell 4
                    have m20 := (E2.out.keep0 M2.out).cell 0
                    have m21 := (E2.out.keep0 M2.out).cell 1
                    have m22 := (E2.out.keep0 M2.out).cell 2
                    have m23 := (E2.out.keep0 M2.out).cell 3
                    have m24 := (E2.out.keep0 M2.out).cell 4
                    have m30 := (E3.out.keep0 M2.out).cell 0
                    have m31 := (E3.out.keep0 M2.out).cell 1
                    have m32 := (E3.out.keep0 M2.out).cell 2
                    have m33 := (E3.out.keep0 M2.out).cell 3
                    have m34 := (E3.out.keep0 M2.out).cell 4
                    dsimp at c0 c1 c2 c3 c4 c5 c6 c7 c8 m10 m11 m12 m13 m14 m20 m21 m22 m23 m24 m30 m31 m32 m33 m34
                    go_wp2_with fail
                    refine (C13.out _ (gb_trans G5.out M2.out)).mono ?_
                    rintro e y3 ⟨rfl, g⟩
                    have M3 := Lib.hid (gb_trans M2.out g)
                    clear g
                    clear c0 c1 c2 c3 c4 c5 c6 c7 c8 m10 m11 m12 m13 m14 m20 m21 m22 m23 m24 m30 m31 m32 m33 m34
                    go_wp2
                    exact ⟨⟨2, by omega, by first | rfl | simp, gb_trans G5.out M3.out⟩, by simp [intOf]⟩
          · have ww1 : IntKind.i64.wrap 1 = 1 := by decide
            have tt1 : Int.tmod 1 3 = 1 := by decide
            have ww2 : IntKind.i64.wrap 2 = 2 := by decide
            have tt2 : Int.tmod 2 3 = 2 := by decide
            have ww3 : IntKind.i64.wrap 3 = 3 := by decide
            have tt3 : Int.tmod 3 3 = 0 := by decide
            have ww4 : IntKind.i64.wrap 4 = 4 := by decide
            have tt4 : Int.tmod 4 3 = 1 := by decide
            have IR := Lib.hid (prec_irr P t ic c)
            go_upto_region 11 with fail
            have KQ := Lib.hid (fun (w' : World) (q0 : wr.grownBy w' none) => (⟨(B1.out.keep0 (gb_trans GL.out q0)).cell 0, (B1.out.keep0 (gb_trans GL.out q0)).cell 1, (B1.out.keep0 (gb_trans GL.out q0)).cell 2, (B1.out.keep0 (gb_trans GL.out q0)).cell 3, (B1.out.keep0 (gb_trans GL.out q0)).cell 4, (B1.out.keep0 (gb_trans GL.out q0)).cell 5, (B1.out.keep0 (gb_trans GL.out q0)).cell 6, (B1.out.keep0 (gb_trans GL.out q0)).cell 7, (B1.out.keep0 (gb_trans GL.out q0)).cell 8, (B2.out.keep0 (gb_trans GL.out q0)).cell 0, (B2.out.keep0 (gb_trans GL.out q0)).cell 1, (B2.out.keep0 (gb_trans GL.out q0)).cell 2, (B2.out.keep0 (gb_trans GL.out q0)).cell 3, (B2.out.keep0 (gb_trans GL.out q0)).cell 4, (B2.out.keep0 (gb_trans GL.out q0)).cell 5, (B2.out.keep0 (gb_trans GL.out q0)).cell 6, (B2.out.keep0 (gb_trans GL.out q0)).cell 7, (B2.out.keep0 (gb_trans GL.out q0)).cell 8, (B2.out.keep0 (gb_trans GL.out q0)).cell 9, (B2.out.keep0 (gb_trans GL.out q0)).cell 10, (B2.out.keep0 (gb_trans GL.out q0)).cell 11, (B2.out.keep0 (gb_trans GL.out q0)).cell 12, (B2.out.keep0 (gb_trans GL.out q0)).cell 13, (B2.out.keep0 (gb_trans GL.out q0)).cell 14, q0⟩ : (fun w' : World => w'.cell? ⟨bx, 0, none⟩ = some (.string X.nm) ∧ w'.cell? ⟨bx, 1, none⟩ = some (.slice X.ha X.hn X.hc) ∧ w'.cell? ⟨bx, 2, none⟩ = some (.slice X.ma X.mn X.mc) ∧ w'.cell? ⟨bx, 3, none⟩ = some (.slice X.ra X.rn X.rc) ∧ w'.cell? ⟨bx, 4, none⟩ = some (.slice X.aa X.an X.ac) ∧ w'.cell? ⟨bx, 5, none⟩ = some (.slice X.ta X.tn X.tc) ∧ w'.cell? ⟨bx, 6, none⟩ = some (.slice X.sa X.sn X.sc) ∧ w'.cell? ⟨bx, 7, none⟩ = some (.slice X.ca X.cn X.cc) ∧ w'.cell? ⟨bx, 8, none⟩ = some (.slice X.da X.dn X.dc) ∧ w'.cell? ⟨bx + 1, 0, none⟩ = some (.int .i64 ia) ∧ w'.cell? ⟨bx + 1, 1, none⟩ = some (.slice Ya.ka Ya.kn Ya.kc) ∧ w'.cell? ⟨bx + 1, 2, none⟩ = some (.int .i64 a.pr) ∧ w'.cell? ⟨bx + 1, 3, none⟩ = some (.int .i64 a.ac) ∧ w'.cell? ⟨bx + 1, 4, none⟩ = some (.slice Ya.ra Ya.rn Ya.rc) ∧ w'.cell? ⟨bx + 1, 5, none⟩ = some (.int .i64 ib) ∧ w'.cell? ⟨bx + 1, 6, none⟩ = some (.slice Yb.ka Yb.kn Yb.kc) ∧ w'.cell? ⟨bx + 1, 7, none⟩ = some (.int .i64 b.pr) ∧ w'.cell? ⟨bx + 1, 8, none⟩ = some (.int .i64 b.ac) ∧ w'.cell? ⟨bx + 1, 9, none⟩ = some (.slice Yb.ra Yb.rn Yb.rc) ∧ w'.cell? ⟨bx + 1, 10, none⟩ = some (.int .i64 ic) ∧ w'.cell? ⟨bx + 1, 11, none⟩ = some (.slice Yc.ka Yc.kn Yc.kc) ∧ w'.cell? ⟨bx + 1, 12, none⟩ = some (.int .i64 c.pr) ∧ w'.cell? ⟨bx + 1, 13, none⟩ = some (.int .i64 c.ac) ∧ w'.cell? ⟨bx + 1, 14, none⟩ = some (.slice Yc.ra Yc.rn Yc.rc) ∧ wr.grownBy w' none) w'))
            have Q0 := Lib.hid (gb_drew wr none)
            refine wp_region_held_drew (S := (fun w' : World => w'.cell? ⟨bx, 0, none⟩ = some (.string X.nm) ∧ w'.cell? ⟨bx, 1, none⟩ = some (.slice X.ha X.hn X.hc) ∧ w'.cell? ⟨bx, 2, none⟩ = some (.slice X.ma X.mn X.mc) ∧ w'.cell? ⟨bx, 3, none⟩ = some (.slice X.ra X.rn X.rc) ∧ w'.cell? ⟨bx, 4, none⟩ = some (.slice X.aa X.an X.ac) ∧ w'.cell? ⟨bx, 5, none⟩ = some (.slice X.ta X.tn X.tc) ∧ w'.cell? ⟨bx, 6, none⟩ = some (.slice X.sa X.sn X.sc) ∧ w'.cell? ⟨bx, 7, none⟩ = some (.slice X.ca X.cn X.cc) ∧ w'.cell? ⟨bx, 8, none⟩ = some (.slice X.da X.dn X.dc) ∧ w'.cell? ⟨bx + 1, 0, none⟩ = some (.int .i64 ia) ∧ w'.cell? ⟨bx + 1, 1, none⟩ = some (.slice Ya.ka Ya.kn Ya.kc) ∧ w'.cell? ⟨bx + 1, 2, none⟩ = some (.int .i64 a.pr) ∧ w'.cell? ⟨bx + 1, 3, none⟩ = some (.int .i64 a.ac) ∧ w'.cell? ⟨bx + 1, 4, none⟩ = some (.slice Ya.ra Ya.rn Ya.rc) ∧ w'.cell? ⟨bx + 1, 5, none⟩ = some (.int .i64 ib) ∧ w'.cell? ⟨bx + 1, 6, none⟩ = some (.slice Yb.ka Yb.kn Yb.kc) ∧ w'.cell? ⟨bx + 1, 7, none⟩ = some (.int .i64 b.pr) ∧ w'.cell? ⟨bx + 1, 8, none⟩ = some (.int .i64 b.ac) ∧ w'.cell? ⟨bx + 1, 9, none⟩ = some (.slice Yb.ra Yb.rn Yb.rc) ∧ w'.cell? ⟨bx + 1, 10, none⟩ = some (.int .i64 ic) ∧ w'.cell? ⟨bx + 1, 11, none⟩ = some (.slice Yc.ka Yc.kn Yc.kc) ∧ w'.cell? ⟨bx + 1, 12, none⟩ = some (.int .i64 c.pr) ∧ w'.cell? ⟨bx + 1, 13, none⟩ = some (.int .i64 c.ac) ∧ w'.cell? ⟨bx + 1, 14, none⟩ = some (.slice Yc.ra Yc.rn Yc.rc) ∧ wr.grownBy w' none)) (by kernel_rfl) (KQ.out _ Q0.out) (fun hH0 => ?_)
            refine wpAnyH_take (i := 0) (v := ?v165) rfl (by kernel_rfl) (by kernel_rfl) (by kernel_rfl) (fun _ _ _ h => h) (Or.inl ⟨by rfl, ?hy165⟩) (by assumption) ?rest165
            case hy165 => (intro wz hSw; (try dsimp only at hSw); first | (go_simp; done) | (go_simp; with_reducible rfl))
            try simp only [Act.put, List.getElem_toArray, List.getElem_cons_zero, List.setIfInBounds_toArray, List.set_cons_zero, List.set_cons_succ]
            refine wpAnyH_take (i := 1) (v := ?v166) rfl (by kernel_rfl) (by kernel_rfl) (by kernel_rfl) (fun _ _ _ h => h) (Or.inl ⟨by rfl, ?hy166⟩) (by assumption) ?rest166
            case hy166 => (intro wz hSw; (try dsimp only at hSw); first | (go_simp; done) | (go_simp; with_reducible rfl))
            try simp only [Act.put, List.getElem_toArray, List.getElem_cons_succ, List.getElem_cons_zero, List.setIfInBounds_toArray, List.set_cons_zero, List.set_cons_succ]
            refine wpAnyH_take (i := 2) (v := ?v167) rfl (by kernel_rfl) (by kernel_rfl) (by kernel_rfl) (fun _ _ _ h => h) (Or.inl ⟨by rfl, ?hy167⟩) (by assumption) ?rest167
            case hy167 => (intro wz hSw; (try dsimp only at hSw); first | (go_simp; done) | (go_simp; with_reducible rfl))
            try simp only [Act.put, List.getElem_toArray, List.getElem_cons_succ, List.getElem_cons_zero, List.setIfInBounds_toArray, List.set_cons_zero, List.set_cons_succ]
            refine wpAnyH_take (i := 3) (v := ?v168) rfl (by kernel_rfl) (by kernel_rfl) (by kernel_rfl) (fun _ _ _ h => h) (Or.inl ⟨by rfl, ?hy168⟩) (by assumption) ?rest168
            case hy168 => (intro wz hSw; (try dsimp only at hSw); first | (go_simp; done) | (go_simp; with_reducible rfl))
            try simp only [Act.put, List.getElem_toArray, List.getElem_cons_succ, List.getElem_cons_zero, List.setIfInBounds_toArray, List.set_cons_zero, List.set_cons_succ]
            refine wpAnyH_take (i := 4) (v := ?v169) rfl (by kernel_rfl) (by kernel_rfl) (by kernel_rfl) (fun _ _ _ h => h) (Or.inl ⟨by rfl, ?hy169⟩) (by assumption) ?rest169
            case hy169 => (intro wz hSw; (try dsimp only at hSw); first | (go_simp; done) | (go_simp; with_reducible rfl))
            try simp only [Act.put, List.getElem_toArray, List.getElem_cons_succ, List.getElem_cons_zero, List.setIfInBounds_toArray, List.set_cons_zero, List.set_cons_succ]
            refine wpAnyH_take (i := 5) (v := ?v170) rfl (by kernel_rfl) (by kernel_rfl) (by kernel_rfl) (fun _ _ _ h => h) (Or.inl ⟨by rfl, ?hy170⟩) (by assumption) ?rest170
            case hy170 => (intro wz hSw; (try dsimp only at hSw); first | (go_simp; done) | (go_simp; with_reducible rfl))
            try simp only [Act.put, List.getElem_toArray, List.getElem_cons_succ, List.getElem_cons_zero, List.setIfInBounds_toArray, List.set_cons_zero, List.set_cons_succ]
            refine wpAnyH_take (i := 6) (v := ?v171) rfl (by kernel_rfl) (by kernel_rfl) (by kernel_rfl) (fun _ _ _ h => h) (Or.inl ⟨by rfl, ?hy171⟩) (by assumption) ?rest171
            case hy171 => (intro wz hSw; (try dsimp only at hSw); first | (go_simp; done) | (go_simp; with_reducible rfl))
            try simp only [Act.put, List.getElem_toArray, List.getElem_cons_succ, List.getElem_cons_zero, List.setIfInBounds_toArray, List.set_cons_zero, List.set_cons_succ]
            refine wpAnyH_take (i := 7) (v := ?v172) rfl (by kernel_rfl) (by kernel_rfl) (by kernel_rfl) (fun _ _ _ h => h) (Or.inl ⟨by rfl, ?hy172⟩) (by assumption) ?rest172
            case hy172 => (intro wz hSw; (try dsimp only at hSw); first | (go_simp; done) | (go_simp; with_reducible rfl))
            try simp only [Act.put, List.getElem_toArray, List.getElem_cons_succ, List.getElem_cons_zero, List.setIfInBounds_toArray, List.set_cons_zero, List.set_cons_succ]
            refine wpAnyH_ready (rs := [8]) (by kernel_rfl) (by simp) ?_
            refine AllReadyH.cons (o := _) rfl (fun K hK => ?_) AllReadyH.nil
            go_simp
            (with_reducible refine (PC.out _ (gb_trans GL.out Q0.out) ic ic Yc Yc c c (HI.out _ (gb_trans GL.out Q0.out)).2.2.2 (HI.out _ (gb_trans GL.out Q0.out)).2.2.2).mono ?_)
            rintro e qw1 ⟨rfl, g⟩
            have Q1 := Lib.hid (gb_trans Q0.out g)
            clear g
            try dsimp only
            refine hK.out _ _ (KQ.out _ Q1.out) (fun hH1 => ?_)
            clear hK K hH0
            try simp only [Act.put, List.getElem_toArray, List.getElem_cons_succ, List.getElem_cons_zero, List.setIfInBounds_toArray, List.set_cons_zero, List.set_cons_succ]
            refine wpAnyH_done (by kernel_rfl) ?_ _
            clear hH1
            have G4 := Lib.hid (gb_trans GL.out Q1.out)
            rw [IR.out]
            clear KQ
            obtain ⟨w4, hw4⟩ : ∃ W, W = qw1 := ⟨_, rfl⟩
            rw [← hw4] at G4 ⊢
            clear hw4
            go_upto_region 13 with fail
            have KV := Lib.hid (fun (w' : World) (q0 : w4.grownBy w' none) => (⟨(B2.out.keep0 (gb_trans G4.out q0)).cell 0, (B2.out.keep0 (gb_trans G4.out q0)).cell 1, (B2.out.keep0 (gb_trans G4.out q0)).cell 2, (B2.out.keep0 (gb_trans G4.out q0)).cell 3, (B2.out.keep0 (gb_trans G4.out q0)).cell 4, (B2.out.keep0 (gb_trans G4.out q0)).cell 5, (B2.out.keep0 (gb_trans G4.out q0)).cell 6, (B2.out.keep0 (gb_trans G4.out q0)).cell 7, (B2.out.keep0 (gb_trans G4.out q0)).cell 8, (B2.out.keep0 (gb_trans G4.out q0)).cell 9, (B2.out.keep0 (gb_trans G4.out q0)).cell 10, (B2.out.keep0 (gb_trans G4.out q0)).cell 11, (B2.out.keep0 (gb_trans G4.out q0)).cell 12, (B2.out.keep0 (gb_trans G4.out q0)).cell 13, (B2.out.keep0 (gb_trans G4.out q0)).cell 14, q0⟩ : (fun w' : World => w'.cell? ⟨bx + 1, 0, none⟩ = some (.int .i64 ia) ∧ w'.cell? ⟨bx + 1, 1, none⟩ = some (.slice Ya.ka Ya.kn Ya.kc) ∧ w'.cell? ⟨bx + 1, 2, none⟩ = some (.int .i64 a.pr) ∧ w'.cell? ⟨bx + 1, 3, none⟩ = some (.int .i64 a.ac) ∧ w'.cell? ⟨bx + 1, 4, none⟩ = some (.slice Ya.ra Ya.rn Ya.rc) ∧ w'.cell? ⟨bx + 1, 5, none⟩ = some (.int .i64 ib) ∧ w'.cell? ⟨bx + 1, 6, none⟩ = some (.slice Yb.ka Yb.kn Yb.kc) ∧ w'.cell? ⟨bx + 1, 7, none⟩ = some (.int .i64 b.pr) ∧ w'.cell? ⟨bx + 1, 8, none⟩ = some (.int .i64 b.ac) ∧ w'.cell? ⟨bx + 1, 9, none⟩ = some (.slice Yb.ra Yb.rn Yb.rc) ∧ w'.cell? ⟨bx + 1, 10, none⟩ = some (.int .i64 ic) ∧ w'.cell? ⟨bx + 1, 11, none⟩ = some (.slice Yc.ka Yc.kn Yc.kc) ∧ w'.cell? ⟨bx + 1, 12, none⟩ = some (.int .i64 c.pr) ∧ w'.cell? ⟨bx + 1, 13, none⟩ = some (.int .i64 c.ac) ∧ w'.cell? ⟨bx + 1, 14, none⟩ = some (.slice Yc.ra Yc.rn Yc.rc) ∧ w4.grownBy w' none) w'))
            have V0 := Lib.hid (gb_drew w4 none)
            refine wp_region_held_drew (S := (fun w' : World => w'.cell? ⟨bx + 1, 0, none⟩ = some (.int .i64 ia) ∧ w'.cell? ⟨bx + 1, 1, none⟩ = some (.slice Ya.ka Ya.kn Ya.kc) ∧ w'.cell? ⟨bx + 1, 2, none⟩ = some (.int .i64 a.pr) ∧ w'.cell? ⟨bx + 1, 3, none⟩ = some (.int .i64 a.ac) ∧ w'.cell? ⟨bx + 1, 4, none⟩ = some (.slice Ya.ra Ya.rn Ya.rc) ∧ w'.cell? ⟨bx + 1, 5, none⟩ = some (.int .i64 ib) ∧ w'.cell? ⟨bx + 1, 6, none⟩ = some (.slice Yb.ka Yb.kn Yb.kc) ∧ w'.cell? ⟨bx + 1, 7, none⟩ = some (.int .i64 b.pr) ∧ w'.cell? ⟨bx + 1, 8, none⟩ = some (.int .i64 b.ac) ∧ w'.cell? ⟨bx + 1, 9, none⟩ = some (.slice Yb.ra Yb.rn Yb.rc) ∧ w'.cell? ⟨bx + 1, 10, none⟩ = some (.int .i64 ic) ∧ w'.cell? ⟨bx + 1, 11, none⟩ = some (.slice Yc.ka Yc.kn Yc.kc) ∧ w'.cell? ⟨bx + 1, 12, none⟩ = some (.int .i64 c.pr) ∧ w'.cell? ⟨bx + 1, 13, none⟩ = some (.int .i64 c.ac) ∧ w'.cell? ⟨bx + 1, 14, none⟩ = some (.slice Yc.ra Yc.rn Yc.rc) ∧ w4.grownBy w' none)) (by kernel_rfl) (KV.out _ V0.out) (fun hH0 => ?_)
            refine wpAnyH_take (i := 0) (v := ?v173) rfl (by kernel_rfl) (by kernel_rfl) (by kernel_rfl) (fun _ _ _ h => h) (Or.inl ⟨by rfl, ?hy173⟩) (by assumption) ?rest173
            case hy173 => (intro wz hSw; (try dsimp only at hSw); first | (go_simp; done) | (go_simp; with_reducible rfl))
            try simp only [Act.put, List.getElem_toArray, List.getElem_cons_zero, List.setIfInBounds_toArray, List.set_cons_zero, List.set_cons_succ]
            refine wpAnyH_take (i := 1) (v := ?v174) rfl (by kernel_rfl) (by kernel_rfl) (by kernel_rfl) (fun _ _ _ h => h) (Or.inl ⟨by rfl, ?hy174⟩) (by assumption) ?rest174
            case hy174 => (intro wz hSw; (try dsimp only at hSw); first | (go_simp; done) | (go_simp; with_reducible rfl))
            try simp only [Act.put, List.getElem_toArray, List.getElem_cons_succ, List.getElem_cons_zero, List.setIfInBounds_toArray, List.set_cons_zero, List.set_cons_succ]
            refine wpAnyH_take (i := 2) (v := ?v175) rfl (by kernel_rfl) (by kernel_rfl) (by kernel_rfl) (fun _ _ _ h => h) (Or.inl ⟨by rfl, ?hy175⟩) (by assumption) ?rest175
            case hy175 => (intro wz hSw; (try dsimp only at hSw); first | (go_simp; done) | (go_simp; with_reducible rfl))
            try simp only [Act.put, List.getElem_toArray, List.getElem_cons_succ, List.getElem_cons_zero, List.setIfInBounds_toArray, List.set_cons_zero, List.set_cons_succ]
            refine wpAnyH_take (i := 3) (v := ?v176) rfl (by kernel_rfl) (by kernel_rfl) (by kernel_rfl) (fun _ _ _ h => h) (Or.inl ⟨by rfl, ?hy176⟩) (by assumption) ?rest176
            case hy176 => (intro wz hSw; (try dsimp only at hSw); first | (go_simp; done) | (go_simp; with_reducible rfl))
            try simp only [Act.put, List.getElem_toArray, List.getElem_cons_succ, List.getElem_cons_zero, List.setIfInBounds_toArray, List.set_cons_zero, List.set_cons_succ]
            refine wpAnyH_take (i := 4) (v := ?v177) rfl (by kernel_rfl) (by kernel_rfl) (by kernel_rfl) (fun _ _ _ h => h) (Or.inl ⟨by rfl, ?hy177⟩) (by assumption) ?rest177
            case hy177 => (intro wz hSw; (try dsimp only at hSw); first | (go_simp; done) | (go_simp; with_reducible rfl))
            try simp only [Act.put, List.getElem_toArray, List.getElem_cons_succ, List.getElem_cons_zero, List.setIfInBounds_toArray, List.set_cons_zero, List.set_cons_succ]
            refine wpAnyH_take (i := 5) (v := ?v178) rfl (by kernel_rfl) (by kernel_rfl) (by kernel_rfl) (fun _ _ _ h => h) (Or.inl ⟨by rfl, ?hy178⟩) (by assumption) ?rest178
            case hy178 => (intro wz hSw; (try dsimp only at hSw); first | (go_simp; done) | (go_simp; with_reducible rfl))
            try simp only [Act.put, List.getElem_toArray, List.getElem_cons_succ, List.getElem_cons_zero, List.setIfInBounds_toArray, List.set_cons_zero, List.set_cons_succ]
            refine wpAnyH_take (i := 6) (v := ?v179) rfl (by kernel_rfl) (by kernel_rfl) (by kernel_rfl) (fun _ _ _ h => h) (Or.inl ⟨by rfl, ?hy179⟩) (by assumption) ?rest179
            case hy179 => (intro wz hSw; (try dsimp only at hSw); first | (go_simp; done) | (go_simp; with_reducible rfl))
            try simp only [Act.put, List.getElem_toArray, List.getElem_cons_succ, List.getElem_cons_zero, List.setIfInBounds_toArray, List.set_cons_zero, List.set_cons_succ]
            refine wpAnyH_take (i := 7) (v := ?v180) rfl (by kernel_rfl) (by kernel_rfl) (by kernel_rfl) (fun _ _ _ h => h) (Or.inl ⟨by rfl, ?hy180⟩) (by assumption) ?rest180
            case hy180 => (intro wz hSw; (try dsimp only at hSw); first | (go_simp; done) | (go_simp; with_reducible rfl))
            try simp only [Act.put, List.getElem_toArray, List.getElem_cons_succ, List.getElem_cons_zero, List.setIfInBounds_toArray, List.set_cons_zero, List.set_cons_succ]
            refine wpAnyH_take (i := 8) (v := ?v181) rfl (by kernel_rfl) (by kernel_rfl) (by kernel_rfl) (fun _ _ _ h => h) (Or.inl ⟨by rfl, ?hy181⟩) (by assumption) ?rest181
            case hy181 => (intro wz hSw; (try dsimp only at hSw); first | (go_simp; done) | (go_simp; with_reducible rfl))
            try simp only [Act.put, List.getElem_toArray, List.getElem_cons_succ, List.getElem_cons_zero, List.setIfInBounds_toArray, List.set_cons_zero, List.set_cons_succ]
            refine wpAnyH_take (i := 9) (v := ?v182) rfl (by kernel_rfl) (by kernel_rfl) (by kernel_rfl) (fun _ _ _ h => h) (Or.inl ⟨by rfl, ?hy182⟩) (by assumption) ?rest182
            case hy182 => (intro wz hSw; (try dsimp only at hSw); first | (go_simp; done) | (go_simp; with_reducible rfl))
            try simp only [Act.put, List.getElem_toArray, List.getElem_cons_succ, List.getElem_cons_zero, List.setIfInBounds_toArray, List.set_cons_zero, List.set_cons_succ]
            refine wpAnyH_take (i := 10) (v := ?v183) rfl (by kernel_rfl) (by kernel_rfl) (by kernel_rfl) (fun _ _ _ h => h) (Or.inl ⟨by rfl, ?hy183⟩) (by assumption) ?rest183
            case hy183 => (intro wz hSw; (try dsimp only at hSw); first | (go_simp; done) | (go_simp; with_reducible rfl))
            try simp only [Act.put, List.getElem_toArray, List.getElem_cons_succ, List.getElem_cons_zero, List.setIfInBounds_toArray, List.set_cons_zero, List.set_cons_succ]
            refine wpAnyH_take (i := 11) (v := ?v184) rfl (by kernel_rfl) (by kernel_rfl) (by kernel_rfl) (fun _ _ _ h => h) (Or.inl ⟨by rfl, ?hy184⟩) (by assumption) ?rest184
            case hy184 => (intro wz hSw; (try dsimp only at hSw); first | (go_simp; done) | (go_simp; with_reducible rfl))
            try simp only [Act.put, List.getElem_toArray, List.getElem_cons_succ, List.getElem_cons_zero, List.setIfInBounds_toArray, List.set_cons_zero, List.set_cons_succ]
            refine wpAnyH_take (i := 12) (v := ?v185) rfl (by kernel_rfl) (by kernel_rfl) (by kernel_rfl) (fun _ _ _ h => h) (Or.inl ⟨by rfl, ?hy185⟩) (by assumption) ?rest185
            case hy185 => (intro wz hSw; (try dsimp only at hSw); first | (go_simp; done) | (go_simp; with_reducible rfl))
            try simp only [Act.put, List.getElem_toArray, List.getElem_cons_succ, List.getElem_cons_zero, List.setIfInBounds_toArray, List.set_cons_zero, List.set_cons_succ]
            refine wp_three (r1 := #[.int .i64 ic, .slice Yc.ka Yc.kn Yc.kc, .int .i64 c.pr, .int .i64 c.ac, .slice Yc.ra Yc.rn Yc.rc]) (r2 := #[.int .i64 ia, .slice Ya.ka Ya.kn Ya.kc, .int .i64 a.pr, .int .i64 a.ac, .slice Ya.ra Ya.rn Ya.rc]) (r3 := #[.int .i64 ib, .slice Yb.ka Yb.kn Yb.kc, .int .i64 b.pr, .int .i64 b.ac, .slice Yb.ra Yb.rn Yb.rc]) (z := #[.int .i64 0, .slice none 0 0, .int .i64 0, .int .i64 0, .slice none 0 0]) (s1 := 9) (s2 := 10) (s3 := 11) (t := 46) w4.drew _ _ ?step ?fin (gb_refl _ _) rfl
            case step =>
              clear hH0
              rintro l A W ⟨f1, f2, f3, g1, g2, g3, v1, v2, v3, rfl, rfl, gw, h1, h2, h3, d1, d2, d3, z1, z2, z3⟩ i hi
              obtain ⟨un, o, ho, hall⟩ := mem_ready.1 hi
              clear hi
              have GW := Lib.hid gw
              have H1 := Lib.hid h1
              have H2 := Lib.hid h2
              have H3 := Lib.hid h3
              clear gw h1 h2 h3
              have hlt : i < 19 := by
                obtain ⟨q, _⟩ := Array.getElem?_eq_some_iff.1 ho
                exact q
              rcases (show i = 0 ∨ i = 1 ∨ i = 2 ∨ i = 3 ∨ i = 4 ∨ i = 5 ∨ i = 6 ∨ i = 7 ∨ i = 8 ∨ i = 9 ∨ i = 10 ∨ i = 11 ∨ i = 12 ∨ i = 13 ∨ i = 14 ∨ i = 15 ∨ i = 16 ∨ i = 17 ∨ i = 18 by omega) with rfl | rfl | rfl | rfl | rfl | rfl | rfl | rfl | rfl | rfl | rfl | rfl | rfl | rfl | rfl | rfl | rfl | rfl | rfl
              · exact absurd un (by simp)
              · exact absurd un (by simp)
              · exact absurd un (by simp)
              · exact absurd un (by simp)
              · exact absurd un (by simp)
              · exact absurd un (by simp)
              · exact absurd un (by simp)
              · exact absurd un (by simp)
              · exact absurd un (by simp)
              · exact absurd un (by simp)
              · exact absurd un (by simp)
              · exact absurd un (by simp)
              · exact absurd un (by simp)
              · have un : f1 = false := by simpa using un
                subst un
                obtain rfl : g1 = false := z1 rfl
                refine wpOp_step (o := _) rfl (fun K2 hK2 => ?_)
                have HK2 := Lib.hid hK2
                clear hK2 ho hall
                simp only [Act.put, List.getElem_toArray, List.setIfInBounds_toArray, List.set_cons_zero, List.set_cons_succ]
                go_simp
                refine HK2.out _ _ ⟨KV.out _ (gb_trans (gb_drew w4 none) (gb_trans GW.out (gb_alloc _ _ none))), true, f2, f3, false, g2, g3, (.pointer (some ⟨W.heap.size, 0, none⟩)), v2, v3, by simp, by first | rfl | (simp [Act.put]; done), gb_trans GW.out (gb_alloc _ _ none), CH3.new GW.out, H2.out.alloc _, H3.out.alloc _, (fun _ e => Ne.symm (H2.out.ne e)), (fun _ e => Ne.symm (H3.out.ne e)), d3, (fun e => by cases e), z2, z3⟩
              · have un : f2 = false := by simpa using un
                subst un
                obtain rfl : g2 = false := z2 rfl
                refine wpOp_step (o := _) rfl (fun K2 hK2 => ?_)
                have HK2 := Lib.hid hK2
                clear hK2 ho hall
                simp only [Act.put, List.getElem_toArray, List.setIfInBounds_toArray, List.set_cons_zero, List.set_cons_succ]
                go_simp
                refine HK2.out _ _ ⟨KV.out _ (gb_trans (gb_drew w4 none) (gb_trans GW.out (gb_alloc _ _ none))), f1, true, f3, g1, false, g3, v1, (.pointer (some ⟨W.heap.size, 0, none⟩)), v3, by simp, by first | rfl | (simp [Act.put]; done), gb_trans GW.out (gb_alloc _ _ none), H1.out.alloc _, CH3.new GW.out, H3.out.alloc _, (fun e _ => H1.out.ne e), d2, (fun _ e => Ne.symm (H3.out.ne e)), z1, (fun e => by cases e), z3⟩
              · have un : f3 = false := by simpa using un
                subst un
                obtain rfl : g3 = false := z3 rfl
                refine wpOp_step (o := _) rfl (fun K2 hK2 => ?_)
                have HK2 := Lib.hid hK2
                clear hK2 ho hall
                simp only [Act.put, List.getElem_toArray, List.setIfInBounds_toArray, List.set_cons_zero, List.set_cons_succ]
                go_simp
                refine HK2.out _ _ ⟨KV.out _ (gb_trans (gb_drew w4 none) (gb_trans GW.out (gb_alloc _ _ none))), f1, f2, true, g1, g2, false, v1, v2, (.pointer (some ⟨W.heap.size, 0, none⟩)), by simp, by first | rfl | (simp [Act.put]; done), gb_trans GW.out (gb_alloc _ _ none), H1.out.alloc _, H2.out.alloc _, CH3.new GW.out, d1, (fun e _ => H1.out.ne e), (fun e _ => H2.out.ne e), z1, z2, (fun e => by cases e)⟩
              · have un : g1 = false := by simpa using un
                subst un
                have fl : f1 = true := by
                  have o2 : o = _ := (Option.some.inj ho).symm
                  subst o2
                  have q := hall ⟨13, .data⟩ (by simp) rfl
                  simpa using q
                subst fl
                obtain ⟨bq, rfl, hb2, hb3⟩ := H1.out rfl
                have HB3 := Lib.hid (show IsB W bq 46 #[.int .i64 0, .slice none 0 0, .int .i64 0, .int .i64 0, .slice none 0 0] from hb3)
                have SB := Lib.hid (fill5 HB3.out (.int .i64 ic) (.slice Yc.ka Yc.kn Yc.kc) (.int .i64 c.pr) (.int .i64 c.ac) (.slice Yc.ra Yc.rn Yc.rc))
                have fr0 := HB3.out.free 0
                have fr1 := HB3.out.free 1
                have fr2 := HB3.out.free 2
                have fr3 := HB3.out.free 3
                have fr4 := HB3.out.free 4
                have cr0 := HB3.out.cell 0
                have cr1 := HB3.out.cell 1
                have cr2 := HB3.out.cell 2
                have cr3 := HB3.out.cell 3
                have cr4 := HB3.out.cell 4
                dsimp at cr0 cr1 cr2 cr3 cr4
                refine wpOp_step (o := _) rfl (fun K2 hK2 => ?_)
                have HK2 := Lib.hid hK2
                clear hK2 ho hall hb3
                simp only [Act.put, List.getElem_toArray, List.setIfInBounds_toArray, List.set_cons_zero, List.set_cons_succ]
                go_simp
                refine HK2.out _ _ ⟨KV.out _ (gb_trans (gb_drew w4 none) (grow5 GW.out hb2)), true, f2, f3, true, g2, g3, (.pointer (some ⟨bq, 0, none⟩)), v2, v3, by simp, by first | rfl | (simp [Act.put]; done), grow5 GW.out hb2, (fun _ => ⟨bq, rfl, hb2, SB.out⟩), (fun e => by obtain ⟨b2, q1, q2, q3⟩ := H2.out e; exact ⟨b2, q1, q2, by have NN : b2 ≠ bq := (fun ee => (Ne.symm (d1 rfl e)) (by rw [q1, ee])); exact far5 q3 NN⟩), (fun e => by obtain ⟨b2, q1, q2, q3⟩ := H3.out e; exact ⟨b2, q1, q2, by have NN : b2 ≠ bq := (fun ee => (Ne.symm (d2 rfl e)) (by rw [q1, ee])); exact far5 q3 NN⟩), d1, d2, d3, (fun e => by cases e), z2, z3⟩
              · have un : g2 = false := by simpa using un
                subst un
                have fl : f2 = true := by
                  have o2 : o = _ := (Option.some.inj ho).symm
                  subst o2
                  have q := hall ⟨14, .data⟩ (by simp) rfl
                  simpa using q
                subst fl
                obtain ⟨bq, rfl, hb2, hb3⟩ := H2.out rfl
                have HB3 := Lib.hid (show IsB W bq 46 #[.int .i64 0, .slice none 0 0, .int .i64 0, .int .i64 0, .slice none 0 0] from hb3)
                have SB := Lib.hid (fill5 HB3.out (.int .i64 ia) (.slice Ya.ka Ya.kn Ya.kc) (.int .i64 a.pr) (.int .i64 a.ac) (.slice Ya.ra Ya.rn Ya.rc))
                have fr0 := HB3.out.free 0
                have fr1 := HB3.out.free 1
                have fr2 := HB3.out.free 2
                have fr3 := HB3.out.free 3
                have fr4 := HB3.out.free 4
                have cr0 := HB3.out.cell 0
                have cr1 := HB3.out.cell 1
                have cr2 := HB3.out.cell 2
                have cr3 := HB3.out.cell 3
                have cr4 := HB3.out.cell 4
                dsimp at cr0 cr1 cr2 cr3 cr4
                refine wpOp_step (o := _) rfl (fun K2 hK2 => ?_)
                have HK2 := Lib.hid hK2
                clear hK2 ho hall hb3
                simp only [Act.put, List.getElem_toArray, List.setIfInBounds_toArray, List.set_cons_zero, List.set_cons_succ]
                go_simp
                refine HK2.out _ _ ⟨KV.out _ (gb_trans (gb_drew w4 none) (grow5 GW.out hb2)), f1, true, f3, g1, true, g3, v1, (.pointer (some ⟨bq, 0, none⟩)), v3, by simp, by first | rfl | (simp [Act.put]; done), grow5 GW.out hb2, (fun e => by obtain ⟨b2, q1, q2, q3⟩ := H1.out e; exact ⟨b2, q1, q2, by have NN : b2 ≠ bq := (fun ee => (d1 e rfl) (by rw [q1, ee])); exact far5 q3 NN⟩), (fun _ => ⟨bq, rfl, hb2, SB.out⟩), (fun e => by obtain ⟨b2, q1, q2, q3⟩ := H3.out e; exact ⟨b2, q1, q2, by have NN : b2 ≠ bq := (fun ee => (Ne.symm (d3 rfl e)) (by rw [q1, ee])); exact far5 q3 NN⟩), d1, d2, d3, z1, (fun e => by cases e), z3⟩
              · have un : g3 = false := by simpa using un
                subst un
                have fl : f3 = true := by
                  have o2 : o = _ := (Option.some.inj ho).symm
                  subst o2
                  have q := hall ⟨15, .data⟩ (by simp) rfl
                  simpa using q
                subst fl
                obtain ⟨bq, rfl, hb2, hb3⟩ := H3.out rfl
                have HB3 := Lib.hid (show IsB W bq 46 #[.int .i64 0, .slice none 0 0, .int .i64 0, .int .i64 0, .slice none 0 0] from hb3)
                have SB := Lib.hid (fill5 HB3.out (.int .i64 ib) (.slice Yb.ka Yb.kn Yb.kc) (.int .i64 b.pr) (.int .i64 b.ac) (.slice Yb.ra Yb.rn Yb.rc))
                have fr0 := HB3.out.free 0
                have fr1 := HB3.out.free 1
                have fr2 := HB3.out.free 2
                have fr3 := HB3.out.free 3
                have fr4 := HB3.out.free 4
                have cr0 := HB3.out.cell 0
                have cr1 := HB3.out.cell 1
                have cr2 := HB3.out.cell 2
                have cr3 := HB3.out.cell 3
                have cr4 := HB3.out.cell 4
                dsimp at cr0 cr1 cr2 cr3 cr4
                refine wpOp_step (o := _) rfl (fun K2 hK2 => ?_)
                have HK2 := Lib.hid hK2
                clear hK2 ho hall hb3
                simp only [Act.put, List.getElem_toArray, List.setIfInBounds_toArray, List.set_cons_zero, List.set_cons_succ]
                go_simp
                refine HK2.out _ _ ⟨KV.out _ (gb_trans (gb_drew w4 none) (grow5 GW.out hb2)), f1, f2, true, g1, g2, true, v1, v2, (.pointer (some ⟨bq, 0, none⟩)), by simp, by first | rfl | (simp [Act.put]; done), grow5 GW.out hb2, (fun e => by obtain ⟨b2, q1, q2, q3⟩ := H1.out e; exact ⟨b2, q1, q2, by have NN : b2 ≠ bq := (fun ee => (d2 e rfl) (by rw [q1, ee])); exact far5 q3 NN⟩), (fun e => by obtain ⟨b2, q1, q2, q3⟩ := H2.out e; exact ⟨b2, q1, q2, by have NN : b2 ≠ bq := (fun ee => (d3 e rfl) (by rw [q1, ee])); exact far5 q3 NN⟩), (fun _ => ⟨bq, rfl, hb2, SB.out⟩), d1, d2, d3, z1, z2, (fun e => by cases e)⟩
            case fin =>
              clear hH0
              rintro l A W ⟨f1, f2, f3, g1, g2, g3, v1, v2, v3, rfl, rfl, gw, h1, h2, h3, d1, d2, d3, z1, z2, z3⟩ hr
              obtain ⟨rfl, rfl, rfl, rfl, rfl, rfl⟩ : f1 = true ∧ f2 = true ∧ f3 = true ∧ g1 = true ∧ g2 = true ∧ g3 = true := by
                clear h1 h2 h3 d1 d2 d3 z1 z2 z3 gw
                revert hr
                cases f1 <;> cases f2 <;> cases f3 <;> cases g1 <;> cases g2 <;> cases g3 <;> first | exact fun _ => ⟨rfl, rfl, rfl, rfl, rfl, rfl⟩ | exact fun hr => absurd hr (by decide +kernel)
              obtain ⟨b1, rfl, _, e1⟩ := h1 rfl
              obtain ⟨b2, rfl, _, e2⟩ := h2 rfl
              obtain ⟨b3, rfl, _, e3⟩ := h3 rfl
              have E1 := Lib.hid (show IsB W b1 46 #[.int .i64 ic, .slice Yc.ka Yc.kn Yc.kc, .int .i64 c.pr, .int .i64 c.ac, .slice Yc.ra Yc.rn Yc.rc] from e1)
              have E2 := Lib.hid (show IsB W b2 46 #[.int .i64 ia, .slice Ya.ka Ya.kn Ya.kc, .int .i64 a.pr, .int .i64 a.ac, .slice Ya.ra Ya.rn Ya.rc] from e2)
              have E3 := Lib.hid (show IsB W b3 46 #[.int .i64 ib, .slice Yb.ka Yb.kn Yb.kc, .int .i64 b.pr, .int .i64 b.ac, .slice Yb.ra Yb.rn Yb.rc] from e3)
              have G5 := Lib.hid (gb_trans G4.out (gb_trans (gb_drew w4 none) gw))
              clear e1 e2 e3 gw d1 d2 d3 z1 z2 z3 hr h1 h2 h3 KV
              simp only [Act.put, List.getElem_toArray, List.setIfInBounds_toArray, List.set_cons_zero, List.set_cons_succ]
              have C12 := Lib.hid (fun (W : World) (g : w1.grownBy W none) => PC.out _ g ic ia Yc Ya c a (HI.out _ g).2.2.2 (HI.out _ g).2.1)
              have C21 := Lib.hid (fun (W : World) (g : w1.grownBy W none) => PC.out _ g ia ic Ya Yc a c (HI.out _ g).2.1 (HI.out _ g).2.2.2)
              have C23 := Lib.hid (fun (W : World) (g : w1.grownBy W none) => PC.out _ g ia ib Ya Yb a b (HI.out _ g).2.1 (HI.out _ g).2.2.1)
              have C13 := Lib.hid (fun (W : World) (g : w1.grownBy W none) => PC.out _ g ic ib Yc Yb c b (HI.out _ g).2.2.2 (HI.out _ g).2.2.1)
              have TO := Lib.hid (prec_tot P t ic ia c a)
              have TA := Lib.hid (prec_tra P t ic ia ib c a b)
              generalize precE P t ic c ia a = u12 at *
              generalize precE P t ia a ic c = u21 at *
              generalize precE P t ia a ib b = u23 at *
              generalize precE P t ic c ib b = u13 at *
              go_upto_region 14 with fail
              by_cases hne : ic = ia
              · have ne : (ic != ia) = false := by rw [bne_eq_false_iff_eq]; exact hne
                clear hne TO
                have KU := Lib.hid (fun (w' : World) (q0 : W.grownBy w' none) => (⟨(B1.out.keep0 (gb_trans G5.out q0)).cell 0, (B1.out.keep0 (gb_trans G5.out q0)).cell 1, (B1.out.keep0 (gb_trans G5.out q0)).cell 2, (B1.out.keep0 (gb_trans G5.out q0)).cell 3, (B1.out.keep0 (gb_trans G5.out q0)).cell 4, (B1.out.keep0 (gb_trans G5.out q0)).cell 5, (B1.out.keep0 (gb_trans G5.out q0)).cell 6, (B1.out.keep0 (gb_trans G5.out q0)).cell 7, (B1.out.keep0 (gb_trans G5.out q0)).cell 8, (E1.out.keep0 q0).cell 0, (E1.out.keep0 q0).cell 1, (E1.out.keep0 q0).cell 2, (E1.out.keep0 q0).cell 3, (E1.out.keep0 q0).cell 4, (E2.out.keep0 q0).cell 0, (E2.out.keep0 q0).cell 1, (E2.out.keep0 q0).cell 2, (E2.out.keep0 q0).cell 3, (E2.out.keep0 q0).cell 4, q0⟩ : (fun w' : World => w'.cell? ⟨bx, 0, none⟩ = some (.string X.nm) ∧ w'.cell? ⟨bx, 1, none⟩ = some (.slice X.ha X.hn X.hc) ∧ w'.cell? ⟨bx, 2, none⟩ = some (.slice X.ma X.mn X.mc) ∧ w'.cell? ⟨bx, 3, none⟩ = some (.slice X.ra X.rn X.rc) ∧ w'.cell? ⟨bx, 4, none⟩ = some (.slice X.aa X.an X.ac) ∧ w'.cell? ⟨bx, 5, none⟩ = some (.slice X.ta X.tn X.tc) ∧ w'.cell? ⟨bx, 6, none⟩ = some (.slice X.sa X.sn X.sc) ∧ w'.cell? ⟨bx, 7, none⟩ = some (.slice X.ca X.cn X.cc) ∧ w'.cell? ⟨bx, 8, none⟩ = some (.slice X.da X.dn X.dc) ∧ w'.cell? ⟨b1, 0, none⟩ = some (.int .i64 ic) ∧ w'.cell? ⟨b1, 1, none⟩ = some (.slice Yc.ka Yc.kn Yc.kc) ∧ w'.cell? ⟨b1, 2, none⟩ = some (.int .i64 c.pr) ∧ w'.cell? ⟨b1, 3, none⟩ = some (.int .i64 c.ac) ∧ w'.cell? ⟨b1, 4, none⟩ = some (.slice Yc.ra Yc.rn Yc.rc) ∧ w'.cell? ⟨b2, 0, none⟩ = some (.int .i64 ia) ∧ w'.cell? ⟨b2, 1, none⟩ = some (.slice Ya.ka Ya.kn Ya.kc) ∧ w'.cell? ⟨b2, 2, none⟩ = some (.int .i64 a.pr) ∧ w'.cell? ⟨b2, 3, none⟩ = some (.int .i64 a.ac) ∧ w'.cell? ⟨b2, 4, none⟩ = some (.slice Ya.ra Ya.rn Ya.rc) ∧ W.grownBy w' none) w'))
                have U0 := Lib.hid (gb_drew W none)
                refine wp_region_held_drew (S := (fun w' : World => w'.cell? ⟨bx, 0, none⟩ = some (.string X.nm) ∧ w'.cell? ⟨bx, 1, none⟩ = some (.slice X.ha X.hn X.hc) ∧ w'.cell? ⟨bx, 2, none⟩ = some (.slice X.ma X.mn X.mc) ∧ w'.cell? ⟨bx, 3, none⟩ = some (.slice X.ra X.rn X.rc) ∧ w'.cell? ⟨bx, 4, none⟩ = some (.slice X.aa X.an X.ac) ∧ w'.cell? ⟨bx, 5, none⟩ = some (.slice X.ta X.tn X.tc) ∧ w'.cell? ⟨bx, 6, none⟩ = some (.slice X.sa X.sn X.sc) ∧ w'.cell? ⟨bx, 7, none⟩ = some (.slice X.ca X.cn X.cc) ∧ w'.cell? ⟨bx, 8, none⟩ = some (.slice X.da X.dn X.dc) ∧ w'.cell? ⟨b1, 0, none⟩ = some (.int .i64 ic) ∧ w'.cell? ⟨b1, 1, none⟩ = some (.slice Yc.ka Yc.kn Yc.kc) ∧ w'.cell? ⟨b1, 2, none⟩ = some (.int .i64 c.pr) ∧ w'.cell? ⟨b1, 3, none⟩ = some (.int .i64 c.ac) ∧ w'.cell? ⟨b1, 4, none⟩ = some (.slice Yc.ra Yc.rn Yc.rc) ∧ w'.cell? ⟨b2, 0, none⟩ = some (.int .i64 ia) ∧ w'.cell? ⟨b2, 1, none⟩ = some (.slice Ya.ka Ya.kn Ya.kc) ∧ w'.cell? ⟨b2, 2, none⟩ = some (.int .i64 a.pr) ∧ w'.cell? ⟨b2, 3, none⟩ = some (.int .i64 a.ac) ∧ w'.cell? ⟨b2, 4, none⟩ = some (.slice Ya.ra Ya.rn Ya.rc) ∧ W.grownBy w' none)) (by kernel_rfl) (KU.out _ U0.out) (fun hH0 => ?_)
                refine wpAnyH_take (i := 0) (v := ?v186) rfl (by kernel_rfl) (by kernel_rfl) (by kernel_rfl) (fun _ _ _ h => h) (Or.inl ⟨by rfl, ?hy186⟩) (by assumption) ?rest186
                case hy186 => (intro wz hSw; (try dsimp only at hSw); first | (go_simp; done) | (go_simp; with_reducible rfl))
                try simp only [Act.put, List.getElem_toArray, List.getElem_cons_zero, List.setIfInBounds_toArray, List.set_cons_zero, List.set_cons_succ]
                refine wpAnyH_take (i := 1) (v := ?v187) rfl (by kernel_rfl) (by kernel_rfl) (by kernel_rfl) (fun _ _ _ h => h) (Or.inl ⟨by rfl, ?hy187⟩) (by assumption) ?rest187
                case hy187 => (intro wz hSw; (try dsimp only at hSw); first | (go_simp; done) | (go_simp; with_reducible rfl))
                try simp only [Act.put, List.getElem_toArray, List.getElem_cons_succ, List.getElem_cons_zero, List.setIfInBounds_toArray, List.set_cons_zero, List.set_cons_succ]
                refine wpAnyH_take (i := 2) (v := ?v188) rfl (by kernel_rfl) (by kernel_rfl) (by kernel_rfl) (fun _ _ _ h => h) (Or.inl ⟨by rfl, ?hy188⟩) (by assumption) ?rest188
                case hy188 => (intro wz hSw; (try dsimp only at hSw); first | (go_simp; done) | (go_simp; with_reducible rfl))
                try simp only [Act.put, List.getElem_toArray, List.getElem_cons_succ, List.getElem_cons_zero, List.setIfInBounds_toArray, List.set_cons_zero, List.set_cons_succ]
                refine wpAnyH_take (i := 3) (v := ?v189) rfl (by kernel_rfl) (by kernel_rfl) (by kernel_rfl) (fun _ _ _ h => h) (Or.inl ⟨by rfl, ?hy189⟩) (by assumption) ?rest189
                case hy189 => (intro wz hSw; (try dsimp only at hSw); first | (go_simp; done) | (go_simp; with_reducible rfl))
                try simp only [Act.put, List.getElem_toArray, List.getElem_cons_succ, List.getElem_cons_zero, List.setIfInBounds_toArray, List.set_cons_zero, List.set_cons_succ]
                refine wpAnyH_take (i := 4) (v := ?v190) rfl (by kernel_rfl) (by kernel_rfl) (by kernel_rfl) (fun _ _ _ h => h) (Or.inl ⟨by rfl, ?hy190⟩) (by assumption) ?rest190
                case hy190 => (intro wz hSw; (try dsimp only at hSw); first | (go_simp; done) | (go_simp; with_reducible rfl))
                try simp only [Act.put, List.getElem_toArray, List.getElem_cons_succ, List.getElem_cons_zero, List.setIfInBounds_toArray, List.set_cons_zero, List.set_cons_succ]
                refine wpAnyH_take (i := 5) (v := ?v191) rfl (by kernel_rfl) (by kernel_rfl) (by kernel_rfl) (fun _ _ _ h => h) (Or.inl ⟨by rfl, ?hy191⟩) (by assumption) ?rest191
                case hy191 => (intro wz hSw; (try dsimp only at hSw); first | (go_simp; done) | (go_simp; with_reducible rfl))
                try simp only [Act.put, List.getElem_toArray, List.getElem_cons_succ, List.getElem_cons_zero, List.setIfInBounds_toArray, List.set_cons_zero, List.set_cons_succ]
                refine wpAnyH_take (i := 6) (v := undef) rfl (by kernel_rfl) (by kernel_rfl) (by kernel_rfl) (fun _ _ _ h => h) (Or.inr ⟨by rfl, rfl⟩) (by assumption) ?_
                try simp only [Act.put, List.getElem_toArray, List.getElem_cons_succ, List.getElem_cons_zero, List.setIfInBounds_toArray, List.set_cons_zero, List.set_cons_succ]
                refine wpAnyH_take (i := 7) (v := undef) rfl (by kernel_rfl) (by kernel_rfl) (by kernel_rfl) (fun _ _ _ h => h) (Or.inr ⟨by rfl, rfl⟩) (by assumption) ?_
                try simp only [Act.put, List.getElem_toArray, List.getElem_cons_succ, List.getElem_cons_zero, List.setIfInBounds_toArray, List.set_cons_zero, List.set_cons_succ]
                refine wpAnyH_take (i := 8) (v := undef) rfl (by kernel_rfl) (by kernel_rfl) (by kernel_rfl) (fun _ _ _ h => h) (Or.inr ⟨by rfl, rfl⟩) (by assumption) ?_
                try simp only [Act.put, List.getElem_toArray, List.getElem_cons_succ, List.getElem_cons_zero, List.setIfInBounds_toArray, List.set_cons_zero, List.set_cons_succ]
                refine wpAnyH_take (i := 9) (v := undef) rfl (by kernel_rfl) (by kernel_rfl) (by kernel_rfl) (fun _ _ _ h => h) (Or.inr ⟨by rfl, rfl⟩) (by assumption) ?_
                try simp only [Act.put, List.getElem_toArray, List.getElem_cons_succ, List.getElem_cons_zero, List.setIfInBounds_toArray, List.set_cons_zero, List.set_cons_succ]
                refine wpAnyH_take (i := 10) (v := undef) rfl (by kernel_rfl) (by kernel_rfl) (by kernel_rfl) (fun _ _ _ h => h) (Or.inr ⟨by rfl, rfl⟩) (by assumption) ?_
                try simp only [Act.put, List.getElem_toArray, List.getElem_cons_succ, List.getElem_cons_zero, List.setIfInBounds_toArray, List.set_cons_zero, List.set_cons_succ]
                refine wpAnyH_take (i := 11) (v := undef) rfl (by kernel_rfl) (by kernel_rfl) (by kernel_rfl) (fun _ _ _ h => h) (Or.inr ⟨by rfl, rfl⟩) (by assumption) ?_
                try simp only [Act.put, List.getElem_toArray, List.getElem_cons_succ, List.getElem_cons_zero, List.setIfInBounds_toArray, List.set_cons_zero, List.set_cons_succ]
                refine wpAnyH_take (i := 12) (v := undef) rfl (by kernel_rfl) (by kernel_rfl) (by kernel_rfl) (fun _ _ _ h => h) (Or.inr ⟨by rfl, rfl⟩) (by assumption) ?_
                try simp only [Act.put, List.getElem_toArray, List.getElem_cons_succ, List.getElem_cons_zero, List.setIfInBounds_toArray, List.set_cons_zero, List.set_cons_succ]
                refine wpAnyH_take (i := 13) (v := undef) rfl (by kernel_rfl) (by kernel_rfl) (by kernel_rfl) (fun _ _ _ h => h) (Or.inr ⟨by rfl, rfl⟩) (by assumption) ?_
                try simp only [Act.put, List.getElem_toArray, List.getElem_cons_succ, List.getElem_cons_zero, List.setIfInBounds_toArray, List.set_cons_zero, List.set_cons_succ]
                refine wpAnyH_take (i := 14) (v := undef) rfl (by kernel_rfl) (by kernel_rfl) (by kernel_rfl) (fun _ _ _ h => h) (Or.inr ⟨by rfl, rfl⟩) (by assumption) ?_
                try simp only [Act.put, List.getElem_toArray, List.getElem_cons_succ, List.getElem_cons_zero, List.setIfInBounds_toArray, List.set_cons_zero, List.set_cons_succ]
                refine wpAnyH_take (i := 15) (v := undef) rfl (by kernel_rfl) (by kernel_rfl) (by kernel_rfl) (fun _ _ _ h => h) (Or.inr ⟨by rfl, rfl⟩) (by assumption) ?_
                try simp only [Act.put, List.getElem_toArray, List.getElem_cons_succ, List.getElem_cons_zero, List.setIfInBounds_toArray, List.set_cons_zero, List.set_cons_succ]
                refine wpAnyH_take (i := 16) (v := undef) rfl (by kernel_rfl) (by kernel_rfl) (by kernel_rfl) (fun _ _ _ h => h) (Or.inr ⟨by rfl, rfl⟩) (by assumption) ?_
                try simp only [Act.put, List.getElem_toArray, List.getElem_cons_succ, List.getElem_cons_zero, List.setIfInBounds_toArray, List.set_cons_zero, List.set_cons_succ]
                refine wpAnyH_take (i := 17) (v := ?v192) rfl (by kernel_rfl) (by kernel_rfl) (by kernel_rfl) (fun _ _ _ h => h) (Or.inl ⟨by rfl, ?hy192⟩) (by assumption) ?rest192
                case hy192 => (intro wz hSw; (try dsimp only at hSw); first | (go_simp; done) | (go_simp; with_reducible rfl))
                try simp only [Act.put, List.getElem_toArray, List.getElem_cons_succ, List.getElem_cons_zero, List.setIfInBounds_toArray, List.set_cons_zero, List.set_cons_succ]
                refine wpAnyH_done (by kernel_rfl) ?_ _
                clear hH0
                have G6 := Lib.hid U0.out
                clear KU
                cases u12
                · have c0 := (B1.out.keep0 (gb_trans G5.out G6.out)).cell 0
                  have c1 := (B1.out.keep0 (gb_trans G5.out G6.out)).cell 1
                  have c2 := (B1.out.keep0 (gb_trans G5.out G6.out)).cell 2
                  have c3 := (B1.out.keep0 (gb_trans G5.out G6.out)).cell 3
                  have c4 := (B1.out.keep0 (gb_trans G5.out G6.out)).cell 4
                  have c5 := (B1.out.keep0 (gb_trans G5.out G6.out)).cell 5
                  have c6 := (B1.out.keep0 (gb_trans G5.out G6.out)).cell 6
                  have c7 := (B1.out.keep0 (gb_trans G5.out G6.out)).cell 7
                  have c8 := (B1.out.keep0 (gb_trans G5.out G6.out)).cell 8
                  have m10 := (E1.out.keep0 G6.out).cell 0
                  have m11 := (E1.out.keep0 G6.out).cell 1
                  have m12 := (E1.out.keep0 G6.out).cell 2
                  have m13 := (E1.out.keep0 G6.out).cell 3
                  have m14 := (E1.out.keep0 G6.out).cell 4
                  have m20 := (E2.out.keep0 G6.out).cell 0
                  have m21 := (E2.out.keep0 G6.out).cell 1
                  have m22 := (E2.out.keep0 G6.out).cell 2
                  have m23 := (E2.out.keep0 G6.out).cell 3
                  have m24 := (E2.out.keep0 G6.out).cell 4
                  have m30 := (E3.out.keep0 G6.out).cell 0
                  have m31 := (E3.out.keep0 G6.out).cell 1
                  have m32 := (E3.out.keep0 G6.out).cell 2
                  have m33 := (E3.out.keep0 G6.out).cell 3
                  have m34 := (E3.out.keep0 G6.out).cell 4
                  dsimp at c0 c1 c2 c3 c4 c5 c6 c7 c8 m10 m11 m12 m13 m14 m20 m21 m22 m23 m24 m30 m31 m32 m33 m34
                  go_wp2_with fail
                  refine (C12.out _ (gb_trans G5.out G6.out)).mono ?_
                  rintro e y1 ⟨rfl, g⟩
                  have M1 := Lib.hid (gb_trans G6.out g)
                  clear g
                  clear c0 c1 c2 c3 c4 c5 c6 c7 c8 m10 m11 m12 m13 m14 m20 m21 m22 m23 m24 m30 m31 m32 m33 m34
                  go_wp2
                  exact ⟨⟨3, by omega, by first | rfl | simp, gb_trans G5.out M1.out⟩, by simp [intOf]⟩
                · cases u23
                  · have c0 := (B1.out.keep0 (gb_trans G5.out G6.out)).cell 0
                    have c1 := (B1.out.keep0 (gb_trans G5.out G6.out)).cell 1
                    have c2 := (B1.out.keep0 (gb_trans G5.out G6.out)).cell 2
                    have c3 := (B1.out.keep0 (gb_trans G5.out G6.out)).cell 3
                    have c4 := (B1.out.keep0 (gb_trans G5.out G6.out)).cell 4
                    have c5 := (B1.out.keep0 (gb_trans G5.out G6.out)).cell 5
                    have c6 := (B1.out.keep0 (gb_trans G5.out G6.out)).cell 6
                    have c7 := (B1.out.keep0 (gb_trans G5.out G6.out)).cell 7
                    have c8 := (B1.out.keep0 (gb_trans G5.out G6.out)).cell 8
                    have m10 := (E1.out.keep0 G6.out).cell 0
                    have m11 := (E1.out.keep0 G6.out).cell 1
                    have m12 := (E1.out.keep0 G6.out).cell 2
                    have m13 := (E1.out.keep0 G6.out).cell 3
                    have m14 := (E1.out.keep0 G6.out).cell 4
                    have m20 := (E2.out.keep0 G6.out).cell 0
                    have m21 := (E2.out.keep0 G6.out).cell 1
                    have m22 := (E2.out.keep0 G6.out).cell 2
                    have m23 := (E2.out.keep0 G6.out).cell 3
                    have m24 := (E2.out.keep0 G6.out).cell 4
                    have m30 := (E3.out.keep0 G6.out).cell 0
                    have m31 := (E3.out.keep0 G6.out).cell 1
                    have m32 := (E3.out.keep0 G6.out).cell 2
                    have m33 := (E3.out.keep0 G6.out).cell 3
                    have m34 := (E3.out.keep0 G6.out).cell 4
                    dsimp at c0 c1 c2 c3 c4 c5 c6 c7 c8 m10 m11 m12 m13 m14 m20 m21 m22 m23 m24 m30 m31 m32 m33 m34
                    go_wp2_with fail
                    refine (C12.out _ (gb_trans G5.out G6.out)).mono ?_
                    rintro e y1 ⟨rfl, g⟩
                    have M1 := Lib.hid (gb_trans G6.out g)
                    clear g
                    clear c0 c1 c2 c3 c4 c5 c6 c7 c8 m10 m11 m12 m13 m14 m20 m21 m22 m23 m24 m30 m31 m32 m33 m34
                    have c0 := (B1.out.keep0 (gb_trans G5.out M1.out)).cell 0
                    have c1 := (B1.out.keep0 (gb_trans G5.out M1.out)).cell 1
                    have c2 := (B1.out.keep0 (gb_trans G5.out M1.out)).cell 2
                    have c3 := (B1.out.keep0 (gb_trans G5.out M1.out)).cell 3
                    have c4 := (B1.out.keep0 (gb_trans G5.out M1.out)).cell 4
                    have c5 := (B1.out.keep0 (gb_trans G5.out M1.out)).cell 5
                    have c6 := (B1.out.keep0 (gb_trans G5.out M1.out)).cell 6
                    have c7 := (B1.out.keep0 (gb_trans G5.out M1.out)).cell 7
                    have c8 := (B1.out.keep0 (gb_trans G5.out M1.out)).cell 8
                    have m10 := (E1.out.keep0 M1.out).cell 0
                    have m11 := (E1.out.keep0 M1.out).cell 1
                    have m12 := (E1.out.keep0 M1.out).cell 2
                    have m13 := (E1.out.keep0 M1.out).cell 3
                    have m14 := (E1.out.keep0 M1.out).cell 4
                    have m20 := (E2.out.keep0 M1.out).cell 0
                    have m21 := (E2.out.keep0 M1.out).cell 1
                    have m22 := (E2.out.keep0 M1.out).cell 2
                    have m23 := (E2.out.keep0 M1.out).cell 3
                    have m24 := (E2.out.keep0 M1.out).cell 4
                    have m30 := (E3.out.keep0 M1.out).cell 0
                    have m31 := (E3.out.keep0 M1.out).cell 1
                    have m32 := (E3.out.keep0 M1.out).cell 2
                    have m33 := (E3.out.keep0 M1.out).cell 3
                    have m34 := (E3.out.keep0 M1.out).cell 4
                    dsimp at c0 c1 c2 c3 c4 c5 c6 c7 c8 m10 m11 m12 m13 m14 m20 m21 m22 m23 m24 m30 m31 m32 m33 m34
                    go_wp2_with fail
                    refine (C23.out _ (gb_trans G5.out M1.out)).mono ?_
                    rintro e y2 ⟨rfl, g⟩
                    have M2 := Lib.hid (gb_trans M1.out g)
                    clear g
                    clear c0 c1 c2 c3 c4 c5 c6 c7 c8 m10 m11 m12 m13 m14 m20 m21 m22 m23 m24 m30 m31 m32 m33 m34
                    go_wp2
                    exact ⟨⟨3, by omega, by first | rfl | simp, gb_trans G5.out M2.out⟩, by simp [intOf]⟩
                  · obtain rfl : u13 = true := TA.out rfl rfl
                    have c0 := (B1.out.keep0 (gb_trans G5.out G6.out)).cell 0
                    have c1 := (B1.out.keep0 (gb_trans G5.out G6.out)).cell 1
                    have c2 := (B1.out.keep0 (gb_trans G5.out G6.out)).cell 2
                    have c3 := (B1.out.keep0 (gb_trans G5.out G6.out)).cell 3
                    have c4 := (B1.out.keep0 (gb_trans G5.out G6.out)).cell 4
                    have c5 := (B1.out.keep0 (gb_trans G5.out G6.out)).cell 5
                    have c6 := (B1.out.keep0 (gb_trans G5.out G6.out)).cell 6
                    have c7 := (B1.out.keep0 (gb_trans G5.out G6.out)).cell 7
                    have c8 := (B1.out.keep0 (gb_trans G5.out G6.out)).cell 8
                    have m10 := (E1.out.keep0 G6.out).cell 0
                    have m11 := (E1.out.keep0 G6.out).cell 1
                    have m12 := (E1.out.keep0 G6.out).cell 2
                    have m13 := (E1.out.keep0 G6.out).cell 3
                    have m14 := (E1.out.keep0 G6.out).cell 4
                    have m20 := (E2.out.keep0 G6.out).cell 0
                    have m21 := (E2.out.keep0 G6.out).cell 1
                    have m22 := (E2.out.keep0 G6.out).cell 2
                    have m23 := (E2.out.keep0 G6.out).cell 3
                    have m24 := (E2.out.keep0 G6.out).cell 4
                    have m30 := (E3.out.keep0 G6.out).cell 0
                    have m31 := (E3.out.keep0 G6.out).cell 1
                    have m32 := (E3.out.keep0 G6.out).cell 2
                    have m33 := (E3.out.keep0 G6.out).cell 3
                    have m34 := (E3.out.keep0 G6.out).cell 4
                    dsimp at c0 c1 c2 c3 c4 c5 c6 c7 c8 m10 m11 m12 m13 m14 m20 m21 m22 m23 m24 m30 m31 m32 m33 m34
                    go_wp2_with fail
                    refine (C12.out _ (gb_trans G5.out G6.out)).mono ?_
                    rintro e y1 ⟨rfl, g⟩
                    have M1 := Lib.hid (gb_trans G6.out g)
                    clear g
                    clear c0 c1 c2 c3 c4 c5 c6 c7 c8 m10 m11 m12 m13 m14 m20 m21 m22 m23 m24 m30 m31 m32 m33 m34
                    have c0 := (B1.out.keep0 (gb_trans G5.out M1.out)).cell 0
                    have c1 := (B1.out.keep0 (gb_trans G5.out M1.out)).cell 1
                    have c2 := (B1.out.keep0 (gb_trans G5.out M1.out)).cell 2
                    have c3 := (B1.out.keep0 (gb_trans G5.out M1.out)).cell 3
                    have c4 := (B1.out.keep0 (gb_trans G5.out M1.out)).cell 4
                    have c5 := (B1.out.keep0 (gb_trans G5.out M1.out)).cell 5
                    have c6 := (B1.out.keep0 (gb_trans G5.out M1.out)).cell 6
                    have c7 := (B1.out.keep0 (gb_trans G5.out M1.out)).cell 7
                    have c8 := (B1.out.keep0 (gb_trans G5.out M1.out)).cell 8
                    have m10 := (E1.out.keep0 M1.out).cell 0
                    have m11 := (E1.out.keep0 M1.out).cell 1
                    have m12 := (E1.out.keep0 M1.out).cell 2
                    have m13 := (E1.out.keep0 M1.out).cell 3
                    have m14 := (E1.out.keep0 M1.out).cell 4
                    have m20 := (E2.out.keep0 M1.out).cell 0
                    have m21 := (E2.out.keep0 M1.out).cell 1
                    have m22 := (E2.out.keep0 M1.out).cell 2
                    have m23 := (E2.out.keep0 M1.out).cell 3
                    have m24 := (E2.out.keep0 M1.out).cell 4
                    have m30 := (E3.out.keep0 M1.out).cell 0
                    have m31 := (E3.out.keep0 M1.out).cell 1
                    have m32 := (E3.out.keep0 M1.out).cell 2
                    have m33 := (E3.out.keep0 M1.out).cell 3
                    have m34 := (E3.out.keep0 M1.out).cell 4
                    dsimp at c0 c1 c2 c3 c4 c5 c6 c7 c8 m10 m11 m12 m13 m14 m20 m21 m22 m23 m24 m30 m31 m32 m33 m34
                    go_wp2_with fail
                    refine (C23.out _ (gb_trans G5.out M1.out)).mono ?_
                    rintro e y2 ⟨rfl, g⟩
                    have M2 := Lib.hid (gb_trans M1.out g)
                    clear g
                    clear c0 c1 c2 c3 c4 c5 c6 c7 c8 m10 m11 m12 m13 m14 m20 m21 m22 m23 m24 m30 m31 m32 m33 m34
                    have c0 := (B1.out.keep0 (gb_trans G5.out M2.out)).cell 0
                    have c1 := (B1.out.keep0 (gb_trans G5.out M2.out)).cell 1
                    have c2 := (B1.out.keep0 (gb_trans G5.out M2.out)).cell 2
                    have c3 := (B1.out.keep0 (gb_trans G5.out M2.out)).cell 3
                    have c4 := (B1.out.keep0 (gb_trans G5.out M2.out)).cell 4
                    have c5 := (B1.out.keep0 (gb_trans G5.out M2.out)).cell 5
                    have c6 := (B1.out.keep0 (gb_trans G5.out M2.out)).cell 6
                    have c7 := (B1.out.keep0 (gb_trans G5.out M2.out)).cell 7
                    have c8 := (B1.out.keep0 (gb_trans G5.out M2.out)).cell 8
                    have m10 := (E1.out.keep0 M2.out).cell 0
                    have m11 := (E1.out.keep0 M2.out).cell 1
                    have m12 := (E1.out.keep0 M2.out).cell 2
                    have m13 := (E1.out.keep0 M2.out).cell 3
                    have m14 := (E1.out.keep0 M2.out).cell 4
                    have m20 := (E2.out.keep0 M2.out).cell 0
                    have m21 := (E2.out.keep0 M2.out).cell 1
                    have m22 := (E2.out.keep0 M2.out).cell 2
                    have m23 := (E2.out.keep0 M2.out).cell 3
                    have m24 := (E2.out.keep0 M2.out).cell 4
                    have m30 := (E3.out.keep0 M2.out).cell 0
                    have m31 := (E3.out.keep0 M2.out).cell 1
                    have m32 := (E3.out.keep0 M2.out).cell 2
                    have m33 := (E3.out.keep0 M2.out).cell 3
                    have m34 := (E3.out.keep0 M2.out).cell 4
                    dsimp at c0 c1 c2 c3 c4 c5 c6 c7 c8 m10 m11 m12 m13 m14 m20 m21 m22 m23 m24 m30 m31 m32 m33 m34
                    go_wp2_with fail
                    refine (C13.out _ (gb_trans G5.out M2.out)).mono ?_
                    rintro e y3 ⟨rfl, g⟩
                    have M3 := Lib.hid (gb_trans M2.out g)
                    clear g
                    clear c0 c1 c2 c3 c4 c5 c6 c7 c8 m10 m11 m12 m13 m14 m20 m21 m22 m23 m24 m30 m31 m32 m33 m34
                    go_wp2
                    exact ⟨⟨3, by omega, by first | rfl | simp, gb_trans G5.out M3.out⟩, by simp [intOf]⟩
              · have ne : (ic != ia) = true := by rw [bne_iff_ne]; exact hne
                have tox := TO.out hne
                clear hne TO
                have KU := Lib.hid (fun (w' : World) (q0 : W.grownBy w' none) => (⟨(B1.out.keep0 (gb_trans G5.out q0)).cell 0, (B1.out.keep0 (gb_trans G5.out q0)).cell 1, (B1.out.keep0 (gb_trans G5.out q0)).cell 2, (B1.out.keep0 (gb_trans G5.out q0)).cell 3, (B1.out.keep0 (gb_trans G5.out q0)).cell 4, (B1.out.keep0 (gb_trans G5.out q0)).cell 5, (B1.out.keep0 (gb_trans G5.out q0)).cell 6, (B1.out.keep0 (gb_trans G5.out q0)).cell 7, (B1.out.keep0 (gb_trans G5.out q0)).cell 8, (E1.out.keep0 q0).cell 0, (E1.out.keep0 q0).cell 1, (E1.out.keep0 q0).cell 2, (E1.out.keep0 q0).cell 3, (E1.out.keep0 q0).cell 4, (E2.out.keep0 q0).cell 0, (E2.out.keep0 q0).cell 1, (E2.out.keep0 q0).cell 2, (E2.out.keep0 q0).cell 3, (E2.out.keep0 q0).cell 4, q0⟩ : (fun w' : World => w'.cell? ⟨bx, 0, none⟩ = some (.string X.nm) ∧ w'.cell? ⟨bx, 1, none⟩ = some (.slice X.ha X.hn X.hc) ∧ w'.cell? ⟨bx, 2, none⟩ = some (.slice X.ma X.mn X.mc) ∧ w'.cell? ⟨bx, 3, none⟩ = some (.slice X.ra X.rn X.rc) ∧ w'.cell? ⟨bx, 4, none⟩ = some (.slice X.aa X.an X.ac) ∧ w'.cell? ⟨bx, 5, none⟩ = some (.slice X.ta X.tn X.tc) ∧ w'.cell? ⟨bx, 6, none⟩ = some (.slice X.sa X.sn X.sc) ∧ w'.cell? ⟨bx, 7, none⟩ = some (.slice X.ca X.cn X.cc) ∧ w'.cell? ⟨bx, 8, none⟩ = some (.slice X.da X.dn X.dc) ∧ w'.cell? ⟨b1, 0, none⟩ = some (.int .i64 ic) ∧ w'.cell? ⟨b1, 1, none⟩ = some (.slice Yc.ka Yc.kn Yc.kc) ∧ w'.cell? ⟨b1, 2, none⟩ = some (.int .i64 c.pr) ∧ w'.cell? ⟨b1, 3, none⟩ = some (.int .i64 c.ac) ∧ w'.cell? ⟨b1, 4, none⟩ = some (.slice Yc.ra Yc.rn Yc.rc) ∧ w'.cell? ⟨b2, 0, none⟩ = some (.int .i64 ia) ∧ w'.cell? ⟨b2, 1, none⟩ = some (.slice Ya.ka Ya.kn Ya.kc) ∧ w'.cell? ⟨b2, 2, none⟩ = some (.int .i64 a.pr) ∧ w'.cell? ⟨b2, 3, none⟩ = some (.int .i64 a.ac) ∧ w'.cell? ⟨b2, 4, none⟩ = some (.slice Ya.ra Ya.rn Ya.rc) ∧ W.grownBy w' none) w'))
                have U0 := Lib.hid (gb_drew W none)
                refine wp_region_held_drew (S := (fun w' : World => w'.cell? ⟨bx, 0, none⟩ = some (.string X.nm) ∧ w'.cell? ⟨bx, 1, none⟩ = some (.slice X.ha X.hn X.hc) ∧ w'.cell? ⟨bx, 2, none⟩ = some (.slice X.ma X.mn X.mc) ∧ w'.cell? ⟨bx, 3, none⟩ = some (.slice X.ra X.rn X.rc) ∧ w'.cell? ⟨bx, 4, none⟩ = some (.slice X.aa X.an X.ac) ∧ w'.cell? ⟨bx, 5, none⟩ = some (.slice X.ta X.tn X.tc) ∧ w'.cell? ⟨bx, 6, none⟩ = some (.slice X.sa X.sn X.sc) ∧ w'.cell? ⟨bx, 7, none⟩ = some (.slice X.ca X.cn X.cc) ∧ w'.cell? ⟨bx, 8, none⟩ = some (.slice X.da X.dn X.dc) ∧ w'.cell? ⟨b1, 0, none⟩ = some (.int .i64 ic) ∧ w'.cell? ⟨b1, 1, none⟩ = some (.slice Yc.ka Yc.kn Yc.kc) ∧ w'.cell? ⟨b1, 2, none⟩ = some (.int .i64 c.pr) ∧ w'.cell? ⟨b1, 3, none⟩ = some (.int .i64 c.ac) ∧ w'.cell? ⟨b1, 4, none⟩ = some (.slice Yc.ra Yc.rn Yc.rc) ∧ w'.cell? ⟨b2, 0, none⟩ = some (.int .i64 ia) ∧ w'.cell? ⟨b2, 1, none⟩ = some (.slice Ya.ka Ya.kn Ya.kc) ∧ w'.cell? ⟨b2, 2, none⟩ = some (.int .i64 a.pr) ∧ w'.cell? ⟨b2, 3, none⟩ = some (.int .i64 a.ac) ∧ w'.cell? ⟨b2, 4, none⟩ = some (.slice Ya.ra Ya.rn Ya.rc) ∧ W.grownBy w' none)) (by kernel_rfl) (KU.out _ U0.out) (fun hH0 => ?_)
                refine wpAnyH_take (i := 0) (v := ?v193) rfl (by kernel_rfl) (by kernel_rfl) (by kernel_rfl) (fun _ _ _ h => h) (Or.inl ⟨by rfl, ?hy193⟩) (by assumption) ?rest193
                case hy193 => (intro wz hSw; (try dsimp only at hSw); first | (go_simp; done) | (go_simp; with_reducible rfl))
                try simp only [Act.put, List.getElem_toArray, List.getElem_cons_zero, List.setIfInBounds_toArray, List.set_cons_zero, List.set_cons_succ]
                refine wpAnyH_take (i := 1) (v := ?v194) rfl (by kernel_rfl) (by kernel_rfl) (by kernel_rfl) (fun _ _ _ h => h) (Or.inl ⟨by rfl, ?hy194⟩) (by assumption) ?rest194
                case hy194 => (intro wz hSw; (try dsimp only at hSw); first | (go_simp; done) | (go_simp; with_reducible rfl))
                try simp only [Act.put, List.getElem_toArray, List.getElem_cons_succ, List.getElem_cons_zero, List.setIfInBounds_toArray, List.set_cons_zero, List.set_cons_succ]
                refine wpAnyH_take (i := 2) (v := ?v195) rfl (by kernel_rfl) (by kernel_rfl) (by kernel_rfl) (fun _ _ _ h => h) (Or.inl ⟨by rfl, ?hy195⟩) (by assumption) ?rest195
                case hy195 => (intro wz hSw; (try dsimp only at hSw); first | (go_simp; done) | (go_simp; with_reducible rfl))
                try simp only [Act.put, List.getElem_toArray, List.getElem_cons_succ, List.getElem_cons_zero, List.setIfInBounds_toArray, List.set_cons_zero, List.set_cons_succ]
                refine wpAnyH_take (i := 3) (v := ?v196) rfl (by kernel_rfl) (by kernel_rfl) (by kernel_rfl) (fun _ _ _ h => h) (Or.inl ⟨by rfl, ?hy196⟩) (by assumption) ?rest196
                case hy196 => (intro wz hSw; (try dsimp only at hSw); first | (go_simp; done) | (go_simp; with_reducible rfl))
                try simp only [Act.put, List.getElem_toArray, List.getElem_cons_succ, List.getElem_cons_zero, List.setIfInBounds_toArray, List.set_cons_zero, List.set_cons_succ]
                refine wpAnyH_take (i := 4) (v := ?v197) rfl (by kernel_rfl) (by kernel_rfl) (by kernel_rfl) (fun _ _ _ h => h) (Or.inl ⟨by rfl, ?hy197⟩) (by assumption) ?rest197
                case hy197 => (intro wz hSw; (try dsimp only at hSw); first | (go_simp; done) | (go_simp; with_reducible rfl))
                try simp only [Act.put, List.getElem_toArray, List.getElem_cons_succ, List.getElem_cons_zero, List.setIfInBounds_toArray, List.set_cons_zero, List.set_cons_succ]
                refine wpAnyH_take (i := 5) (v := ?v198) rfl (by kernel_rfl) (by kernel_rfl) (by kernel_rfl) (fun _ _ _ h => h) (Or.inl ⟨by rfl, ?hy198⟩) (by assumption) ?rest198
                case hy198 => (intro wz hSw; (try dsimp only at hSw); first | (go_simp; done) | (go_simp; with_reducible rfl))
                try simp only [Act.put, List.getElem_toArray, List.getElem_cons_succ, List.getElem_cons_zero, List.setIfInBounds_toArray, List.set_cons_zero, List.set_cons_succ]
                refine wpAnyH_take (i := 6) (v := ?v199) rfl (by kernel_rfl) (by kernel_rfl) (by kernel_rfl) (fun _ _ _ h => h) (Or.inl ⟨by rfl, ?hy199⟩) (by assumption) ?rest199
                case hy199 => (intro wz hSw; (try dsimp only at hSw); first | (go_simp; done) | (go_simp; with_reducible rfl))
                try simp only [Act.put, List.getElem_toArray, List.getElem_cons_succ, List.getElem_cons_zero, List.setIfInBounds_toArray, List.set_cons_zero, List.set_cons_succ]
                refine wpAnyH_take (i := 7) (v := ?v200) rfl (by kernel_rfl) (by kernel_rfl) (by kernel_rfl) (fun _ _ _ h => h) (Or.inl ⟨by rfl, ?hy200⟩) (by assumption) ?rest200
                case hy200 => (intro wz hSw; (try dsimp only at hSw); first | (go_simp; done) | (go_simp; with_reducible rfl))
                try simp only [Act.put, List.getElem_toArray, List.getElem_cons_succ, List.getElem_cons_zero, List.setIfInBounds_toArray, List.set_cons_zero, List.set_cons_succ]
                refine wpAnyH_take (i := 8) (v := ?v201) rfl (by kernel_rfl) (by kernel_rfl) (by kernel_rfl) (fun _ _ _ h => h) (Or.inl ⟨by rfl, ?hy201⟩) (by assumption) ?rest201
                case hy201 => (intro wz hSw; (try dsimp only at hSw); first | (go_simp; done) | (go_simp; with_reducible rfl))
                try simp only [Act.put, List.getElem_toArray, List.getElem_cons_succ, List.getElem_cons_zero, List.setIfInBounds_toArray, List.set_cons_zero, List.set_cons_succ]
                refine wpAnyH_take (i := 9) (v := ?v202) rfl (by kernel_rfl) (by kernel_rfl) (by kernel_rfl) (fun _ _ _ h => h) (Or.inl ⟨by rfl, ?hy202⟩) (by assumption) ?rest202
                case hy202 => (intro wz hSw; (try dsimp only at hSw); first | (go_simp; done) | (go_simp; with_reducible rfl))
                try simp only [Act.put, List.getElem_toArray, List.getElem_cons_succ, List.getElem_cons_zero, List.setIfInBounds_toArray, List.set_cons_zero, List.set_cons_succ]
                refine wpAnyH_take (i := 11) (v := ?v203) rfl (by kernel_rfl) (by kernel_rfl) (by kernel_rfl) (fun _ _ _ h => h) (Or.inl ⟨by rfl, ?hy203⟩) (by assumption) ?rest203
                case hy203 => (intro wz hSw; (try dsimp only at hSw); first | (go_simp; done) | (go_simp; with_reducible rfl))
                try simp only [Act.put, List.getElem_toArray, List.getElem_cons_succ, List.getElem_cons_zero, List.setIfInBounds_toArray, List.set_cons_zero, List.set_cons_succ]
                refine wpAnyH_take (i := 12) (v := ?v204) rfl (by kernel_rfl) (by kernel_rfl) (by kernel_rfl) (fun _ _ _ h => h) (Or.inl ⟨by rfl, ?hy204⟩) (by assumption) ?rest204
                case hy204 => (intro wz hSw; (try dsimp only at hSw); first | (go_simp; done) | (go_simp; with_reducible rfl))
                try simp only [Act.put, List.getElem_toArray, List.getElem_cons_succ, List.getElem_cons_zero, List.setIfInBounds_toArray, List.set_cons_zero, List.set_cons_succ]
                refine wpAnyH_take (i := 13) (v := ?v205) rfl (by kernel_rfl) (by kernel_rfl) (by kernel_rfl) (fun _ _ _ h => h) (Or.inl ⟨by rfl, ?hy205⟩) (by assumption) ?rest205
                case hy205 => (intro wz hSw; (try dsimp only at hSw); first | (go_simp; done) | (go_simp; with_reducible rfl))
                try simp only [Act.put, List.getElem_toArray, List.getElem_cons_succ, List.getElem_cons_zero, List.setIfInBounds_toArray, List.set_cons_zero, List.set_cons_succ]
                refine wpAnyH_take (i := 14) (v := ?v206) rfl (by kernel_rfl) (by kernel_rfl) (by kernel_rfl) (fun _ _ _ h => h) (Or.inl ⟨by rfl, ?hy206⟩) (by assumption) ?rest206
                case hy206 => (intro wz hSw; (try dsimp only at hSw); first | (go_simp; done) | (go_simp; with_reducible rfl))
                try simp only [Act.put, List.getElem_toArray, List.getElem_cons_succ, List.getElem_cons_zero, List.setIfInBounds_toArray, List.set_cons_zero, List.set_cons_succ]
                refine wpAnyH_ready (rs := [10]) (by kernel_rfl) (by simp) ?_
                refine AllReadyH.cons (o := _) rfl (fun K hK => ?_) AllReadyH.nil
                go_simp
                (with_reducible refine (C12.out _ (gb_trans G5.out U0.out)).mono ?_)
                rintro e uw1 ⟨rfl, g⟩
                have U1 := Lib.hid (gb_trans U0.out g)
                clear g
                try dsimp only
                refine hK.out _ _ (KU.out _ U1.out) (fun hH1 => ?_)
                clear hK K hH0
                try simp only [Act.put, List.getElem_toArray, List.getElem_cons_succ, List.getElem_cons_zero, List.setIfInBounds_toArray, List.set_cons_zero, List.set_cons_succ]
                refine wpAnyH_ready (rs := [15]) (by kernel_rfl) (by simp) ?_
                refine AllReadyH.cons (o := _) rfl (fun K hK => ?_) AllReadyH.nil
                go_simp
                (with_reducible refine (C21.out _ (gb_trans G5.out U1.out)).mono ?_)
                rintro e uw2 ⟨rfl, g⟩
                have U2 := Lib.hid (gb_trans U1.out g)
                clear g
                try dsimp only
                refine hK.out _ _ (KU.out _ U2.out) (fun hH2 => ?_)
                clear hK K hH1
                try simp only [Act.put, List.getElem_toArray, List.getElem_cons_succ, List.getElem_cons_zero, List.setIfInBounds_toArray, List.set_cons_zero, List.set_cons_succ]
                refine wpAnyH_take (i := 16) (v := ?v207) rfl (by kernel_rfl) (by kernel_rfl) (by kernel_rfl) (fun _ _ _ h => h) (Or.inl ⟨by rfl, ?hy207⟩) (by assumption) ?rest207
                case hy207 => (intro wz hSw; (try dsimp only at hSw); first | (go_simp; done) | (go_simp; with_reducible rfl))
                try simp only [Act.put, List.getElem_toArray, List.getElem_cons_succ, List.getElem_cons_zero, List.setIfInBounds_toArray, List.set_cons_zero, List.set_cons_succ]
                refine wpAnyH_take (i := 17) (v := ?v208) rfl (by kernel_rfl) (by kernel_rfl) (by kernel_rfl) (fun _ _ _ h => h) (Or.inl ⟨by rfl, ?hy208⟩) (by assumption) ?rest208
                case hy208 => (intro wz hSw; (try dsimp only at hSw); first | (go_simp; done) | (go_simp; with_reducible rfl))
                try simp only [Act.put, List.getElem_toArray, List.getElem_cons_succ, List.getElem_cons_zero, List.setIfInBounds_toArray, List.set_cons_zero, List.set_cons_succ]
                refine wpAnyH_done (by kernel_rfl) ?_ _
                clear hH2
                have G6 := Lib.hid U2.out
                clear KU tox
                cases u12
                · have c0 := (B1.out.keep0 (gb_trans G5.out G6.out)).cell 0
                  have c1 := (B1.out.keep0 (gb_trans G5.out G6.out)).cell 1
                  have c2 := (B1.out.keep0 (gb_trans G5.out G6.out)).cell 2
                  have c3 := (B1.out.keep0 (gb_trans G5.out G6.out)).cell 3
                  have c4 := (B1.out.keep0 (gb_trans G5.out G6.out)).cell 4
                  have c5 := (B1.out.keep0 (gb_trans G5.out G6.out)).cell 5
                  have c6 := (B1.out.keep0 (gb_trans G5.out G6.out)).cell 6
                  have c7 := (B1.out.keep0 (gb_trans G5.out G6.out)).cell 7
                  have c8 := (B1.out.keep0 (gb_trans G5.out G6.out)).cell 8
                  have m10 := (E1.out.keep0 G6.out).cell 0
                  have m11 := (E1.out.keep0 G6.out).cell 1
                  have m12 := (E1.out.keep0 G6.out).cell 2
                  have m13 := (E1.out.keep0 G6.out).cell 3
                  have m14 := (E1.out.keep0 G6.out).cell 4
                  have m20 := (E2.out.keep0 G6.out).cell 0
                  have m21 := (E2.out.keep0 G6.out).cell 1
                  have m22 := (E2.out.keep0 G6.out).cell 2
                  have m23 := (E2.out.keep0 G6.out).cell 3
                  have m24 := (E2.out.keep0 G6.out).cell 4
                  have m30 := (E3.out.keep0 G6.out).cell 0
                  have m31 := (E3.out.keep0 G6.out).cell 1
                  have m32 := (E3.out.keep0 G6.out).cell 2
                  have m33 := (E3.out.keep0 G6.out).cell 3
                  have m34 := (E3.out.keep0 G6.out).cell 4
                  dsimp at c0 c1 c2 c3 c4 c5 c6 c7 c8 m10 m11 m12 m13 m14 m20 m21 m22 m23 m24 m30 m31 m32 m33 m34
                  go_wp2_with fail
                  refine (C12.out _ (gb_trans G5.out G6.out)).mono ?_
                  rintro e y1 ⟨rfl, g⟩
                  have M1 := Lib.hid (gb_trans G6.out g)
                  clear g
                  clear c0 c1 c2 c3 c4 c5 c6 c7 c8 m10 m11 m12 m13 m14 m20 m21 m22 m23 m24 m30 m31 m32 m33 m34
                  go_wp2
                  exact ⟨⟨3, by omega, by first | rfl | simp, gb_trans G5.out M1.out⟩, by simp [intOf]⟩
                · cases u23
                  · have c0 := (B1.out.keep0 (gb_trans G5.out G6.out)).cell 0
                    have c1 := (B1.out.keep0 (gb_trans G5.out G6.out)).cell 1
                    have c2 := (B1.out.keep0 (gb_trans G5.out G6.out)).cell 2
                    have c3 := (B1.out.keep0 (gb_trans G5.out G6.out)).cell 3
                    have c4 := (B1.out.keep0 (gb_trans G5.out G6.out)).cell 4
                    have c5 := (B1.out.keep0 (gb_trans G5.out G6.out)).cell 5
                    have c6 := (B1.out.keep0 (gb_trans G5.out G6.out)).cell 6
                    have c7 := (B1.out.keep0 (gb_trans G5.out G6.out)).cell 7
                    have c8 := (B1.out.keep0 (gb_trans G5.out G6.out)).cell 8
                    have m10 := (E1.out.keep0 G6.out).cell 0
                    have m11 := (E1.out.keep0 G6.out).cell 1
                    have m12 := (E1.out.keep0 G6.out).cell 2
                    have m13 := (E1.out.keep0 G6.out).cell 3
                    have m14 := (E1.out.keep0 G6.out).cell 4
                    have m20 := (E2.out.keep0 G6.out).cell 0
                    have m21 := (E2.out.keep0 G6.out).cell 1
                    have m22 := (E2.out.keep0 G6.out).cell 2
                    have m23 := (E2.out.keep0 G6.out).cell 3
                    have m24 := (E2.out.keep0 G6.out).cell 4
                    have m30 := (E3.out.keep0 G6.out).cell 0
                    have m31 := (E3.out.keep0 G6.out).cell 1
                    have m32 := (E3.out.keep0 G6.out).cell 2
                    have m33 := (E3.out.keep0 G6.out).cell 3
                    have m34 := (E3.out.keep0 G6.out).cell 4
                    dsimp at c0 c1 c2 c3 c4 c5 c6 c7 c8 m10 m11 m12 m13 m14 m20 m21 m22 m23 m24 m30 m31 m32 m33 m34
                    go_wp2_with fail
                    refine (C12.out _ (gb_trans G5.out G6.out)).mono ?_
                    rintro e y1 ⟨rfl, g⟩
                    have M1 := Lib.hid (gb_trans G6.out g)
                    clear g
                    clear c0 c1 c2 c3 c4 c5 c6 c7 c8 m10 m11 m12 m13 m14 m20 m21 m22 m23 m24 m30 m31 m32 m33 m34
                    have c0 := (B1.out.keep0 (gb_trans G5.out M1.out)).cell 0
                    have c1 := (B1.out.keep0 (gb_trans G5.out M1.out)).cell 1
                    have c2 := (B1.out.keep0 (gb_trans G5.out M1.out)).cell 2
                    have c3 := (B1.out.keep0 (gb_trans G5.out M1.out)).cell 3
                    have c4 := (B1.out.keep0 (gb_trans G5.out M1.out)).cell 4
                    have c5 := (B1.out.keep0 (gb_trans G5.out M1.out)).cell 5
                    have c6 := (B1.out.keep0 (gb_trans G5.out M1.out)).cell 6
                    have c7 := (B1.out.keep0 (gb_trans G5.out M1.out)).cell 7
                    have c8 := (B1.out.keep0 (gb_trans G5.out M1.out)).cell 8
                    have m10 := (E1.out.keep0 M1.out).cell 0
                    have m11 := (E1.out.keep0 M1.out).cell 1
                    have m12 := (E1.out.keep0 M1.out).cell 2
                    have m13 := (E1.out.keep0 M1.out).cell 3
                    have m14 := (E1.out.keep0 M1.out).cell 4
                    have m20 := (E2.out.keep0 M1.out).cell 0
                    have m21 := (E2.out.keep0 M1.out).cell 1
                    have m22 := (E2.out.keep0 M1.out).cell 2
                    have m23 := (E2.out.keep0 M1.out).cell 3
                    have m24 := (E2.out.keep0 M1.out).cell 4
                    have m30 := (E3.out.keep0 M1.out).cell 0
                    have m31 := (E3.out.keep0 M1.out).cell 1
                    have m32 := (E3.out.keep0 M1.out).cell 2
                    have m33 := (E3.out.keep0 M1.out).cell 3
                    have m34 := (E3.out.keep0 M1.out).cell 4
                    dsimp at c0 c1 c2 c3 c4 c5 c6 c7 c8 m10 m11 m12 m13 m14 m20 m21 m22 m23 m24 m30 m31 m32 m33 m34
                    go_wp2_with fail
                    refine (C23.out _ (gb_trans G5.out M1.out)).mono ?_
                    rintro e y2 ⟨rfl, g⟩
                    have M2 := Lib.hid (gb_trans M1.out g)
                    clear g
                    clear c0 c1 c2 c3 c4 c5 c6 c7 c8 m10 m11 m12 m13 m14 m20 m21 m22 m23 m24 m30 m31 m32 m33 m34
                    go_wp2
                    exact ⟨⟨3, by omega, by first | rfl | simp, gb_trans G5.out M2.out⟩, by simp [intOf]⟩
                  · obtain rfl : u13 = true := TA.out rfl rfl
                    have c0 := (B1.out.keep0 (gb_trans G5.out G6.out)).cell 0
                    have c1 := (B1.out.keep0 (gb_trans G5.out G6.out)).cell 1
                    have c2 := (B1.out.keep0 (gb_trans G5.out G6.out)).cell 2
                    have c3 := (B1.out.keep0 (gb_trans G5.out G6.out)).cell 3
                    have c4 := (B1.out.keep0 (gb_trans G5.out G6.out)).cell 4
                    have c5 := (B1.out.keep0 (gb_trans G5.out G6.out)).cell 5
                    have c6 := (B1.out.keep0 (gb_trans G5.out G6.out)).cell 6
                    have c7 := (B1.out.keep0 (gb_trans G5.out G6.out)).cell 7
                    have c8 := (B1.out.keep0 (gb_trans G5.out G6.out)).cell 8
                    have m10 := (E1.out.keep0 G6.out).cell 0
                    have m11 := (E1.out.keep0 G6.out).cell 1
                    have m12 := (E1.out.keep0 G6.out).cell 2
                    have m13 := (E1.out.keep0 G6.out).cell 3
                    have m14 := (E1.out.keep0 G6.out).cell 4
                    have m20 := (E2.out.keep0 G6.out).cell 0
                    have m21 := (E2.out.keep0 G6.out).cell 1
                    have m22 := (E2.out.keep0 G6.out).cell 2
                    have m23 := (E2.out.keep0 G6.out).cell 3
                    have m24 := (E2.out.keep0 G6.out).cell 4
                    have m30 := (E3.out.keep0 G6.out).cell 0
                    have m31 := (E3.out.keep0 G6.out).cell 1
                    have m32 := (E3.out.keep0 G6.out).cell 2
                    have m33 := (E3.out.keep0 G6.out).cell 3
                    have m34 := (E3.out.keep0 G6.out).cell 4
                    dsimp at c0 c1 c2 c3 c4 c5 c6 c7 c8 m10 m11 m12 m13 m14 m20 m21 m22 m23 m24 m30 m31 m32 m33 m34
                    go_wp2_with fail
                    refine (C12.out _ (gb_trans G5.out G6.out)).mono ?_
                    rintro e y1 ⟨rfl, g⟩
                    have M1 := Lib.hid (gb_trans G6.out g)
                    clear g
                    clear c0 c1 c2 c3 c4 c5 c6 c7 c8 m10 m11 m12 m13 m14 m20 m21 m22 m23 m24 m30 m31 m32 m33 m34
                    have c0 := (B1.out.keep0 (gb_trans G5.out M1.out)).cell 0
                    have c1 := (B1.out.keep0 (gb_trans G5.out M1.out)).cell 1
                    have c2 := (B1.out.keep0 (gb_trans G5.out M1.out)).cell 2
                    have c3 := (B1.out.keep0 (gb_trans G5.out M1.out)).cell 3
                    have c4 := (B1.out.keep0 (gb_trans G5.out M1.out)).cell 4
                    have c5 := (B1.out.keep0 (gb_trans G5.out M1.out)).cell 5
                    have c6 := (B1.out.keep0 (gb_trans G5.out M1.out)).cell 6
                    have c7 := (B1.out.keep0 (gb_trans G5.out M1.out)).cell 7
                    have c8 := (B1.out.keep0 (gb_trans G5.out M1.out)).cell 8
                    have m10 := (E1.out.keep0 M1.out).cell 0
                    have m11 := (E1.out.keep0 M1.out).cell 1
                    have m12 := (E1.out.keep0 M1.out).cell 2
                    have m13 := (E1.out.keep0 M1.out).cell 3
                    have m14 := (E1.out.keep0 M1.out).cell 4
                    have m20 := (E2.out.keep0 M1.out).cell 0
                    have m21 := (E2.out.keep0 M1.out).cell 1
                    have m22 := (E2.out.keep0 M1.out).cell 2
                    have m23 := (E2.out.keep0 M1.out).cell 3
                    have m24 := (E2.out.keep0 M1.out).cell 4
                    have m30 := (E3.out.keep0 M1.out).cell 0
                    have m31 := (E3.out.keep0 M1.out).cell 1
                    have m32 := (E3.out.keep0 M1.out).cell 2
                    have m33 := (E3.out.keep0 M1.out).cell 3
                    have m34 := (E3.out.keep0 M1.out).cell 4
                    dsimp at c0 c1 c2 c3 c4 c5 c6 c7 c8 m10 m11 m12 m13 m14 m20 m21 m22 m23 m24 m30 m31 m32 m33 m34
                    go_wp2_with fail
                    refine (C23.out _ (gb_trans G5.out M1.out)).mono ?_
                    rintro e y2 ⟨rfl, g⟩
                    have M2 := Lib.hid (gb_trans M1.out g)
                    clear g
                    clear c0 c1 c2 c3 c4 c5 c6 c7 c8 m10 m11 m12 m13 m14 m20 m21 m22 m23 m24 m30 m31 m32 m33 m34
                    have c0 := (B1.out.keep0 (gb_trans G5.out M2.out)).cell 0
                    have c1 := (B1.out.keep0 (gb_trans G5.out M2.out)).cell 1
                    have c2 := (B1.out.keep0 (gb_trans G5.out M2.out)).cell 2
                    have c3 := (B1.out.keep0 (gb_trans G5.out M2.out)).cell 3
                    have c4 := (B1.out.keep0 (gb_trans G5.out M2.out)).cell 4
                    have c5 := (B1.out.keep0 (gb_trans G5.out M2.out)).cell 5
                    have c6 := (B1.out.keep0 (gb_trans G5.out M2.out)).cell 6
                    have c7 := (B1.out.keep0 (gb_trans G5.out M2.out)).cell 7
                    have c8 := (B1.out.keep0 (gb_trans G5.out M2.out)).cell 8
                    have m10 := (E1.out.keep0 M2.out).cell 0
                    have m11 := (E1.out.keep0 M2.out).cell 1
                    have m12 := (E1.out.keep0 M2.out).cell 2
                    have m13 := (E1.out.keep0 M2.out).cell 3
                    have m14 := (E1.out.keep0 M2.out).cell 4
                    have m20 := (E2.out.keep0 M2.out).cell 0
                    have m21 := (E2.out.keep0 M2.out).cell 1
                    have m22 := (E2.out.keep0 M2.out).cell 2
                    have m23 := (E2.out.keep0 M2.out).cell 3
                    have m24 := (E2.out.keep0 M2.out).cell 4
                    have m30 := (E3.out.keep0 M2.out).cell 0
                    have m31 := (E3.out.keep0 M2.out).cell 1
                    have m32 := (E3.out.keep0 M2.out).cell 2
                    have m33 := (E3.out.keep0 M2.out).cell 3
                    have m34 := (E3.out.keep0 M2.out).cell 4
                    dsimp at c0 c1 c2 c3 c4 c5 c6 c7 c8 m10 m11 m12 m13 m14 m20 m21 m22 m23 m24 m30 m31 m32 m33 m34
                    go_wp2_with fail
                    refine (C13.out _ (gb_trans G5.out M2.out)).mono ?_
                    rintro e y3 ⟨rfl, g⟩
                    have M3 := Lib.hid (gb_trans M2.out g)
                    clear g
                    clear c0 c1 c2 c3 c4 c5 c6 c7 c8 m10 m11 m12 m13 m14 m20 m21 m22 m23 m24 m30 m31 m32 m33 m34
                    go_wp2
                    exact ⟨⟨3, by omega, by first | rfl | simp, gb_trans G5.out M3.out⟩, by simp [intOf]⟩
          · go_wp2_with fail
            refine (works_any _).mono ?_
            rintro e w9 ⟨rfl, g⟩
            have G9 := Lib.hid (gb_trans GL.out g)
            clear g
            go_wp2
            go_ret
            exact ⟨rfl, gb_trans G1.out G9.out⟩
end Go.Proofs.Ytgdefahnmgonlaa
