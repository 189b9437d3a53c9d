/- Table: the law TableConsistent; no condition. -/
import Derived.Test.YtblhgociojnbgaaTbW
namespace Go.Proofs.Ytblhgociojnbgaa
open Go.RowKit
set_option linter.unusedVariables false
set_option maxRecDepth 100000 in
set_option maxHeartbeats 20000000 in
theorem consistent_walk (w : World) (X : PX) (P : Pg) (hp : SP w X P) (t : Int) (ht : Rng t) (va fa ta pa : Option Addr) (vn vc fn fc tn tc pn pc : Nat) (L : EL) (hV : SB w va vn vc L.V) (hF : SR w fa fn fc L.F) (hT : SU w ta tn tc L.T) : Calls Try.prog 6 #[.agg #[.string X.nm, .slice X.ha X.hn X.hc, .slice X.ma X.mn X.mc, .slice X.ra X.rn X.rc, .slice X.aa X.an X.ac, .slice X.ta X.tn X.tc, .slice X.sa X.sn X.sc, .slice X.ca X.cn X.cc, .slice X.da X.dn X.dc], .int .i64 t, .agg #[.slice va vn vc, .slice fa fn fc, .slice ta tn tc, .slice pa pn pc]] w (RetV (.bool true) w) := by
  have S0 := Lib.hid (fun (W : World) (k : w.grownBy W none) => (⟨hp.keep0 k, hV.keep0 k, hF.keep0 k, hT.keep0 k⟩ : SP W X P ∧ SB W va vn vc L.V ∧ SR W fa fn fc L.F ∧ SU W ta tn tc L.T))
  have G1 := Lib.hid (gb_trans (gb_alloc w (.cells #[.string X.nm, .slice X.ha X.hn X.hc, .slice X.ma X.mn X.mc, .slice X.ra X.rn X.rc, .slice X.aa X.an X.ac, .slice X.ta X.tn X.tc, .slice X.sa X.sn X.sc, .slice X.ca X.cn X.cc, .slice X.da X.dn X.dc] 31) none) (gb_alloc _ (.cells #[.slice va vn vc, .slice fa fn fc, .slice ta tn tc, .slice pa pn pc] 47) none))
  have BP := (IsB.new w 31 #[.string X.nm, .slice X.ha X.hn X.hc, .slice X.ma X.mn X.mc, .slice X.ra X.rn X.rc, .slice X.aa X.an X.ac, .slice X.ta X.tn X.tc, .slice X.sa X.sn X.sc, .slice X.ca X.cn X.cc, .slice X.da X.dn X.dc]).alloc (.cells #[.slice va vn vc, .slice fa fn fc, .slice ta tn tc, .slice pa pn pc] 47)
  have BE := IsB.new (w.alloc (.cells #[.string X.nm, .slice X.ha X.hn X.hc, .slice X.ma X.mn X.mc, .slice X.ra X.rn X.rc, .slice X.aa X.an X.ac, .slice X.ta X.tn X.tc, .slice X.sa X.sn X.sc, .slice X.ca X.cn X.cc, .slice X.da X.dn X.dc] 31)) 47 #[.slice va vn vc, .slice fa fn fc, .slice ta tn tc, .slice pa pn pc]
  simp only [sz_al] at BE
  replace BP := Lib.hid BP
  replace BE := Lib.hid BE
  clear hp hV hF hT
  go_enter Try.func6, Try.ntmps6
  go_upto_region 1 with fail
  generalize (w.alloc (.cells #[.string X.nm, .slice X.ha X.hn X.hc, .slice X.ma X.mn X.mc, .slice X.ra X.rn X.rc, .slice X.aa X.an X.ac, .slice X.ta X.tn X.tc, .slice X.sa X.sn X.sc, .slice X.ca X.cn X.cc, .slice X.da X.dn X.dc] 31)).alloc (.cells #[.slice va vn vc, .slice fa fn fc, .slice ta tn tc, .slice pa pn pc] 47) = w1 at *
  obtain ⟨bx, hbx⟩ : ∃ b, b = w.heap.size := ⟨_, rfl⟩
  have Lbx := Lib.hid (show w.heap.size ≤ bx by rw [hbx]; exact Nat.le_refl _)
  rw [← hbx] at BP BE ⊢
  clear hbx
  clear Lbx
  replace S0 := Lib.hid (fun (W : World) (k : w1.grownBy W none) => S0.out W (gb_trans G1.out k))
  have c0 := (BP.out.keep0 (gb_refl _ _)).cell 0
  have c1 := (BP.out.keep0 (gb_refl _ _)).cell 1
  have c2 := (BP.out.keep0 (gb_refl _ _)).cell 2
  have c3 := (BP.out.keep0 (gb_refl _ _)).cell 3
  have c4 := (BP.out.keep0 (gb_refl _ _)).cell 4
  have c5 := (BP.out.keep0 (gb_refl _ _)).cell 5
  have c6 := (BP.out.keep0 (gb_refl _ _)).cell 6
  have c7 := (BP.out.keep0 (gb_refl _ _)).cell 7
  have c8 := (BP.out.keep0 (gb_refl _ _)).cell 8
  dsimp at c0 c1 c2 c3 c4 c5 c6 c7 c8
  have x0 := (BE.out.keep0 (gb_refl _ _)).cell 0
  have x1 := (BE.out.keep0 (gb_refl _ _)).cell 1
  have x2 := (BE.out.keep0 (gb_refl _ _)).cell 2
  have x3 := (BE.out.keep0 (gb_refl _ _)).cell 3
  dsimp at x0 x1 x2 x3
  go_wp2_with fail
  refine (small_any w1 X P (S0.out _ (gb_refl _ _)).1).mono ?_
  rintro e w2 ⟨b, rfl, g, hq⟩
  have G2 := Lib.hid g
  have HQ := Lib.hid hq
  clear g hq
  clear c0 c1 c2 c3 c4 c5 c6 c7 c8
  clear x0 x1 x2 x3
  cases b
  · go_wp2_with fail
    refine (works_any _).mono ?_
    rintro e w3 ⟨rfl, g⟩
    have G3 := Lib.hid (gb_trans (gb_trans G1.out G2.out) g)
    clear g
    go_wp2
    go_ret
    exact ⟨rfl, G3.out⟩
  · have Z := Lib.hid (HQ.out rfl)
    clear HQ
    have c0 := (BP.out.keep0 G2.out).cell 0
    have c1 := (BP.out.keep0 G2.out).cell 1
    have c2 := (BP.out.keep0 G2.out).cell 2
    have c3 := (BP.out.keep0 G2.out).cell 3
    have c4 := (BP.out.keep0 G2.out).cell 4
    have c5 := (BP.out.keep0 G2.out).cell 5
    have c6 := (BP.out.keep0 G2.out).cell 6
    have c7 := (BP.out.keep0 G2.out).cell 7
    have c8 := (BP.out.keep0 G2.out).cell 8
    dsimp at c0 c1 c2 c3 c4 c5 c6 c7 c8
    have x0 := (BE.out.keep0 G2.out).cell 0
    have x1 := (BE.out.keep0 G2.out).cell 1
    have x2 := (BE.out.keep0 G2.out).cell 2
    have x3 := (BE.out.keep0 G2.out).cell 3
    dsimp at x0 x1 x2 x3
    go_wp2_with fail
    refine (smallenv_any w2 va fa ta pa vn vc fn fc tn tc pn pc L.F (S0.out _ G2.out).2.2.1).mono ?_
    rintro e w4 ⟨b, rfl, g, hq⟩
    have G4 := Lib.hid (gb_trans G2.out g)
    have HQ := Lib.hid hq
    clear g hq
    clear c0 c1 c2 c3 c4 c5 c6 c7 c8
    clear x0 x1 x2 x3
    cases b
    · go_wp2_with fail
      refine (works_any _).mono ?_
      rintro e w3 ⟨rfl, g⟩
      have G3 := Lib.hid (gb_trans (gb_trans G1.out G4.out) g)
      clear g
      go_wp2
      go_ret
      exact ⟨rfl, G3.out⟩
    · have SE := Lib.hid (HQ.out rfl)
      clear HQ
      replace S0 := Lib.hid (fun (W : World) (k : w4.grownBy W none) => S0.out _ (gb_trans G4.out k))
      replace BP := Lib.hid (BP.out.keep0 G4.out)
      replace BE := Lib.hid (BE.out.keep0 G4.out)
      replace G1 := Lib.hid (gb_trans G1.out G4.out)
      clear G2 G4
      have AL := Lib.hid (fun (W : World) (k : w4.grownBy W none) (a : Int) (ha : Rng a) => pallows_any W X P (S0.out _ k).1 Z.out.sz t a ha)
      have KN := Lib.hid (fun (W : World) (k : w4.grownBy W none) => pkind_any W X P (S0.out _ k).1 Z.out.sz t)
      have BI := Lib.hid (fun (W : World) (k : w4.grownBy W none) => pbits_any W X P (S0.out _ k).1 Z.out.sz t)
      have WD := Lib.hid (fun (W : World) (k : w4.grownBy W none) => pwidths_any W X P (S0.out _ k).1 Z.out.sz t)
      have KY := Lib.hid (fun (W : World) (k : w4.grownBy W none) => pkey_any W X P (S0.out _ k).1 Z.out.sz t va fa ta vn vc fn fc tn tc (.slice pa pn pc) L.V L.F L.T (S0.out _ k).2.1 (S0.out _ k).2.2.1 (S0.out _ k).2.2.2)
      have WR := Lib.hid (wsT_rng P.H P.M (tabV P t).ks)
      have WR2 := Lib.hid (show ∀ x ∈ wsT P.H P.M (tabV P t).ks, 0 ≤ x ∧ x ≤ 32 from ws_rng _ _ _)
      have KR := Lib.hid (keyV_rng P.H P.M (V := L.V) (S0.out _ (gb_refl _ _)).2.2.1 (S0.out _ (gb_refl _ _)).2.2.2 (tabV P t).ks)
      have WL := Lib.hid (show (wsT P.H P.M (tabV P t).ks).length = (tabV P t).ks.length by simp [wsT])
      have KL := Lib.hid (show (keyV P.H P.M L.V L.F L.T (tabV P t).ks).length = (tabV P t).ks.length from keyV_len ..)
      have OK := Lib.hid (okT_iff P t)
      have GD := Lib.hid (fun (h : okT P t = true) => (⟨ws_good h, da_good h, fun j hj => key_shr (V := L.V) (S0.out _ (gb_refl _ _)).2.2.1 (S0.out _ (gb_refl _ _)).2.2.2 h j hj⟩ : ((∀ j, j < (tabV P t).ks.length → 1 ≤ (wsT P.H P.M (tabV P t).ks).getD j 0 ∧ (wsT P.H P.M (tabV P t).ks).getD j 0 ≤ 32) ∧ sumI (wsT P.H P.M (tabV P t).ks) ≤ 64) ∧ (tabV P t).da ∈ (tabV P t).acs ∧ ∀ j, j < (tabV P t).ks.length → (keyV P.H P.M L.V L.F L.T (tabV P t).ks).getD j 0 / 2 ^ ((wsT P.H P.M (tabV P t).ks).getD j 0 - 1).toNat ≤ 1))
      have BD := Lib.hid (fun (h : ¬ okT P t = true) => bad_tab h)
      have TV := Lib.hid (fun (h : okT P t = true) => (by unfold tabV; rw [if_pos h] : tabV P t = P.T.getD t.toNat tbz))
      have c0 := (BP.out.keep0 (gb_refl _ _)).cell 0
      have c1 := (BP.out.keep0 (gb_refl _ _)).cell 1
      have c2 := (BP.out.keep0 (gb_refl _ _)).cell 2
      have c3 := (BP.out.keep0 (gb_refl _ _)).cell 3
      have c4 := (BP.out.keep0 (gb_refl _ _)).cell 4
      have c5 := (BP.out.keep0 (gb_refl _ _)).cell 5
      have c6 := (BP.out.keep0 (gb_refl _ _)).cell 6
      have c7 := (BP.out.keep0 (gb_refl _ _)).cell 7
      have c8 := (BP.out.keep0 (gb_refl _ _)).cell 8
      dsimp at c0 c1 c2 c3 c4 c5 c6 c7 c8
      have x0 := (BE.out.keep0 (gb_refl _ _)).cell 0
      have x1 := (BE.out.keep0 (gb_refl _ _)).cell 1
      have x2 := (BE.out.keep0 (gb_refl _ _)).cell 2
      have x3 := (BE.out.keep0 (gb_refl _ _)).cell 3
      dsimp at x0 x1 x2 x3
      go_wp2_with fail
      refine (pchk_any w4 X P (S0.out _ (gb_refl _ _)).1 Z.out.sz t).mono ?_
      rintro e w5 ⟨rfl, g⟩
      have G5 := Lib.hid g
      clear g
      generalize (chkT P t).1 = r1 at *
      generalize (chkT P t).2 = r2 at *
      generalize wsT P.H P.M (tabV P t).ks = WS at *
      generalize keyV P.H P.M L.V L.F L.T (tabV P t).ks = KS at *
      clear c0 c1 c2 c3 c4 c5 c6 c7 c8
      clear x0 x1 x2 x3
      have c0 := (BP.out.keep0 G5.out).cell 0
      have c1 := (BP.out.keep0 G5.out).cell 1
      have c2 := (BP.out.keep0 G5.out).cell 2
      have c3 := (BP.out.keep0 G5.out).cell 3
      have c4 := (BP.out.keep0 G5.out).cell 4
      have c5 := (BP.out.keep0 G5.out).cell 5
      have c6 := (BP.out.keep0 G5.out).cell 6
      have c7 := (BP.out.keep0 G5.out).cell 7
      have c8 := (BP.out.keep0 G5.out).cell 8
      dsimp at c0 c1 c2 c3 c4 c5 c6 c7 c8
      have x0 := (BE.out.keep0 G5.out).cell 0
      have x1 := (BE.out.keep0 G5.out).cell 1
      have x2 := (BE.out.keep0 G5.out).cell 2
      have x3 := (BE.out.keep0 G5.out).cell 3
      dsimp at x0 x1 x2 x3
      go_wp2_with fail
      refine (WD.out w5 G5.out).mono ?_
      rintro e w6 ⟨ia, ic, rfl, nl, g⟩
      have IA := Lib.hid (nl.si rfl WR.out)
      have G6 := Lib.hid (gb_trans G5.out g)
      clear g nl
      clear c0 c1 c2 c3 c4 c5 c6 c7 c8
      clear x0 x1 x2 x3
      have c0 := (BP.out.keep0 G6.out).cell 0
      have c1 := (BP.out.keep0 G6.out).cell 1
      have c2 := (BP.out.keep0 G6.out).cell 2
      have c3 := (BP.out.keep0 G6.out).cell 3
      have c4 := (BP.out.keep0 G6.out).cell 4
      have c5 := (BP.out.keep0 G6.out).cell 5
      have c6 := (BP.out.keep0 G6.out).cell 6
      have c7 := (BP.out.keep0 G6.out).cell 7
      have c8 := (BP.out.keep0 G6.out).cell 8
      dsimp at c0 c1 c2 c3 c4 c5 c6 c7 c8
      have x0 := (BE.out.keep0 G6.out).cell 0
      have x1 := (BE.out.keep0 G6.out).cell 1
      have x2 := (BE.out.keep0 G6.out).cell 2
      have x3 := (BE.out.keep0 G6.out).cell 3
      dsimp at x0 x1 x2 x3
      go_wp2_with fail
      refine (KY.out w6 G6.out).mono ?_
      rintro e w7 ⟨ja, jc, rfl, nl, g⟩
      have JA := Lib.hid (nu_su nl rfl KR.out)
      have G7 := Lib.hid (gb_trans G6.out g)
      replace IA := Lib.hid (IA.out.keep0 g)
      clear g nl
      clear c0 c1 c2 c3 c4 c5 c6 c7 c8
      clear x0 x1 x2 x3
      by_cases hok : okT P t = true
      · have xr : (r2 != 0) = false := by have := OK.out.1 hok; simp [this]
        obtain ⟨k, rfl, hk⟩ := ok_in hok
        obtain ⟨⟨g1, g2⟩, g3, g4⟩ := GD.out hok
        have tv := TV.out hok
        rw [Int.toNat_natCast] at tv
        have TN := (S0.out _ (gb_refl _ _)).1.t.len
        have hkn : k < X.tn := by rw [← TN]; exact hk
        obtain ⟨tad, hta⟩ := (S0.out _ (gb_refl _ _)).1.t.some (by omega)
        obtain ⟨Y, st, x0, x1, x2, x3, x4, x5⟩ := (S0.out _ (gb_refl _ _)).1.tab hkn hta
        rw [← tv] at st x0 x3 x5
        have LK := Lib.hid st.k.len
        have LC := Lib.hid st.c.len
        have ST0 := Lib.hid st
        have RD := Lib.hid st.d
        have TS := Lib.hid (show smT (tabV P k) by rw [tv]; exact Z.out.2.2.2 k hk)
        have PA := Lib.hid (show X.an ≤ 20 by have := (S0.out _ (gb_refl _ _)).1.a.len; have := Z.out.2.1; omega)
        have W1 := Lib.hid g1
        have W2 := Lib.hid g2
        have DA := Lib.hid g3
        have SH := Lib.hid g4
        clear st g1 g2 g3 g4 TN hk GD BD TV tv OK KN WD KY
        generalize tabV P k = tb at *
        rw [LK.out] at WL KL W1 SH
        have e0 := G7.out.cell x0 (by simp)
        have e1 := G7.out.cell x1 (by simp)
        have e2 := G7.out.cell x2 (by simp)
        have e3 := G7.out.cell x3 (by simp)
        have e4 := G7.out.cell x4 (by simp)
        have e5 := G7.out.cell x5 (by simp)
        clear x0 x1 x2 x3 x4 x5
        rw [WL.out] at IA ⊢
        rw [KL.out] at JA ⊢
        have KN10 := Lib.hid (show Y.kn ≤ 10 by have := TS.out.2.1; have := LK.out; omega)
        have CN24 := Lib.hid (show Y.cn ≤ 24 by have := TS.out.2.2.1; have := LC.out; omega)
        have i1 : (k : Int) < X.tn := by omega
        have i0 : (0 : Int) ≤ (k : Int) := by omega
        have c0 := (BP.out.keep0 G7.out).cell 0
        have c1 := (BP.out.keep0 G7.out).cell 1
        have c2 := (BP.out.keep0 G7.out).cell 2
        have c3 := (BP.out.keep0 G7.out).cell 3
        have c4 := (BP.out.keep0 G7.out).cell 4
        have c5 := (BP.out.keep0 G7.out).cell 5
        have c6 := (BP.out.keep0 G7.out).cell 6
        have c7 := (BP.out.keep0 G7.out).cell 7
        have c8 := (BP.out.keep0 G7.out).cell 8
        dsimp at c0 c1 c2 c3 c4 c5 c6 c7 c8
        rw [hta] at c5 AL BI BP ⊢
        clear hta
        have G8 := Lib.hid (gb_alloc w7 (.cells #[.string tb.nm, .slice Y.ka Y.kn Y.kc, .slice Y.ca Y.cn Y.cc, .int .i64 tb.da, .slice Y.ra Y.rn Y.rc, .int .i64 tb.sz] 56) none)
        have BT := IsB.new w7 56 #[.string tb.nm, .slice Y.ka Y.kn Y.kc, .slice Y.ca Y.cn Y.cc, .int .i64 tb.da, .slice Y.ra Y.rn Y.rc, .int .i64 tb.sz]
        replace BT := Lib.hid BT
        go_upto_region 9 with fail
        generalize w7.alloc (.cells #[.string tb.nm, .slice Y.ka Y.kn Y.kc, .slice Y.ca Y.cn Y.cc, .int .i64 tb.da, .slice Y.ra Y.rn Y.rc, .int .i64 tb.sz] 56) = w8 at *
        obtain ⟨bt, hbt⟩ : ∃ b, b = w7.heap.size := ⟨_, rfl⟩
        have Lbt := Lib.hid (show w7.heap.size ≤ bt by rw [hbt]; exact Nat.le_refl _)
        rw [← hbt] at BT ⊢
        clear hbt
        clear e0 e1 e2 e3 e4 e5 Lbt
        clear c0 c1 c2 c3 c4 c5 c6 c7 c8
        have G9 := Lib.hid (gb_trans G7.out G8.out)
        replace IA := Lib.hid (IA.out.keep0 G8.out)
        replace JA := Lib.hid (JA.out.keep0 G8.out)
        have y0 : ((Y.kn : Int) != Y.kn) = false := by simp
        have d0 := (BT.out.keep0 (gb_refl _ _)).cell 0
        have d1 := (BT.out.keep0 (gb_refl _ _)).cell 1
        have d2 := (BT.out.keep0 (gb_refl _ _)).cell 2
        have d3 := (BT.out.keep0 (gb_refl _ _)).cell 3
        have d4 := (BT.out.keep0 (gb_refl _ _)).cell 4
        have d5 := (BT.out.keep0 (gb_refl _ _)).cell 5
        dsimp at d0 d1 d2 d3 d4 d5
        go_wp2
        clear d0 d1 d2 d3 d4 d5
        go_loopw [12, 13] (fun n i wr => ∃ j : Nat, j ≤ Y.kn ∧ i = .int .i64 j ∧ n = .int .i64 (sumI (WS.take j)) ∧ w8.grownBy wr none) (fun _ i _ => Y.kn - (intOf i).toNat)
        case atStart => exact ⟨0, Nat.zero_le _, rfl, rfl, gb_refl _ _⟩
        case round =>
          obtain ⟨j, hj, rfl, rfl, hg⟩ := hrel
          have G := Lib.hid hg
          clear hg
          by_cases hlt : j < Y.kn
          · obtain ⟨ad, had⟩ := IA.out.some (by omega)
            obtain ⟨bd, hbd⟩ := JA.out.some (by omega)
            have e0 := (IA.out.keep0 G.out).cells ad had j hlt
            have e1 := (JA.out.keep0 G.out).cells bd hbd j hlt
            have SJ := Lib.hid (sum_take WS j (by rw [WL.out]; exact hlt))
            have R1 := Lib.hid (sum_rng (WS.take (j + 1)) (fun x hx => WR2.out x (List.mem_of_mem_take hx)))
            have L1 := Lib.hid (show (WS.take (j + 1)).length ≤ 1000 by rw [List.length_take]; have := KN10.out; have := WL.out; omega)
            have KJ := Lib.hid (JA.out.rng)
            obtain ⟨w1a, w1b⟩ := W1.out j hlt
            have sh := SH.out j hlt
            rw [SJ.out] at R1
            generalize WS.getD j 0 = wj at *
            generalize KS.getD j 0 = kj at *
            obtain ⟨s, hs⟩ : ∃ s, s = sumI (WS.take j) := ⟨_, rfl⟩
            rw [← hs] at R1 SJ ⊢
            have i1 : (j : Int) < Y.kn := by omega
            have i0 : (0 : Int) ≤ (j : Int) := by omega
            have hw : IntKind.i64.wrap ((j : Int) + 1) = ((j + 1 : Nat) : Int) := by have := KN10.out; rw [IntKind.wrap_i64]; omega
            have hw2 : IntKind.i64.wrap (s + wj) = s + wj := by have := R1.out; have := L1.out; rw [IntKind.wrap_i64]; omega
            have hw3 : IntKind.i64.wrap (wj - 1) = wj - 1 := by rw [IntKind.wrap_i64]; omega
            have q1 : ¬ wj < 1 := by omega
            have q2 : ¬ 32 < wj := by omega
            have q3 : 0 ≤ wj - 1 := by omega
            have q5 : min (wj - 1).toNat 32 = (wj - 1).toNat := by omega
            have q4 : ¬ 1 < kj / 2 ^ (wj.toNat - 1) := by rw [show (wj - 1).toNat = wj.toNat - 1 by omega] at sh; omega
            rw [had, hbd]
            clear hs sh
            go_wp2
            go_quiet (fail)
            go_wp2
            go_roundw
            case rel => exact ⟨j + 1, by omega, by first | rfl | (congr 1), by rw [SJ.out], gb_trans G.out (by first | exact gb_drewN _ _ _ | exact gb_trans (gb_drewN _ _ _) (gb_drewN _ _ _))⟩
            case measure => simp [intOf]; omega
          · have i1 : ¬ (j : Int) < Y.kn := by omega
            have CE := Lib.hid (show WS.take j = WS by rw [List.take_of_length_le]; rw [WL.out]; omega)
            rw [CE.out]
            clear CE
            go_wp2
            clear i1 hlt hj W1 SH
            generalize sumI WS = sm at *
            have GJ := Lib.hid G.out
            clear G
            go_loopw [14] (fun a wr => ∃ j : Nat, j ≤ X.an + 2 ∧ a = .int .i64 ((j : Int) - 1) ∧ w8.grownBy wr none) (fun a _ => X.an + 2 - (intOf a + 1).toNat)
            case atStart => exact ⟨0, Nat.zero_le _, rfl, GJ.out⟩
            case round =>
              obtain ⟨a, ha, rfl, hg⟩ := hrel
              have G := Lib.hid hg
              clear hg GJ
              have c4 := (BP.out.keep0 (gb_trans G9.out G.out)).cell 4
              dsimp at c4
              by_cases hla : a < X.an + 2
              · obtain ⟨av, hav⟩ : ∃ av : Int, av = (a : Int) - 1 := ⟨_, rfl⟩
                have RA := Lib.hid (show Rng av by have := PA.out; rw [hav]; constructor <;> omega)
                have hwa : IntKind.i64.wrap (av + 1) = ((a + 1 : Nat) : Int) - 1 := by have := PA.out; rw [IntKind.wrap_i64]; omega
                have i2 : av ≤ (X.an : Int) := by omega
                have HAV := Lib.hid hav
                rw [← hav]
                clear hav
                have d2 := (BT.out.keep0 G.out).cell 2
                dsimp at d2
                go_wp2
                clear c4 d2
                have GA := Lib.hid G.out
                clear G
                go_loopw [15, 16] (fun s i wr => ∃ q : Nat, q ≤ Y.cn ∧ i = .int .i64 q ∧ s = .bool (decide (av ∈ tb.acs.take q)) ∧ w8.grownBy wr none) (fun _ i _ => Y.cn - (intOf i).toNat)
                case atStart => exact ⟨0, Nat.zero_le _, rfl, by simp, GA.out⟩
                case round =>
                  obtain ⟨q, hq, rfl, rfl, hg⟩ := hrel
                  have G := Lib.hid hg
                  clear hg GA
                  have d2 := (BT.out.keep0 G.out).cell 2
                  dsimp at d2
                  by_cases hlq : q < Y.cn
                  · have MS := Lib.hid (mem_snoc tb.acs av q (by rw [LC.out]; exact hlq))
                    obtain ⟨cad, hcad⟩ := ST0.out.c.some (by omega)
                    have f0 := (ST0.out.c.keep0 (gb_trans G9.out G.out)).cells cad hcad q hlq
                    generalize tb.acs.getD q 0 = xq at *
                    have i3 : (q : Int) < Y.cn := by omega
                    have i4 : (0 : Int) ≤ (q : Int) := by omega
                    have hwq : IntKind.i64.wrap ((q : Int) + 1) = ((q + 1 : Nat) : Int) := by have := CN24.out; rw [IntKind.wrap_i64]; omega
                    rw [hcad] at d2
                    generalize decide (av ∈ tb.acs.take q) = bq at *
                    cases bq
                    · cases hxa : (xq == av)
                      · have MT := Lib.hid (MS.out.trans (by rw [hxa]; rfl : _ = false))
                        clear MS
                        go_wp2
                        go_roundw
                        case rel => exact ⟨q + 1, by omega, by first | rfl | (congr 1), by rw [MT.out], G.out⟩
                        case measure => simp [intOf]; omega
                      · have MT := Lib.hid (MS.out.trans (by rw [hxa]; rfl : _ = true))
                        clear MS
                        go_wp2
                        go_roundw
                        case rel => exact ⟨q + 1, by omega, by first | rfl | (congr 1), by rw [MT.out], G.out⟩
                        case measure => simp [intOf]; omega
                    · have MT := Lib.hid (MS.out.trans (by rfl : _ = true))
                      clear MS f0
                      go_wp2
                      go_roundw
                      case rel => exact ⟨q + 1, by omega, by first | rfl | (congr 1), by rw [MT.out], G.out⟩
                      case measure => simp [intOf]; omega
                  · have i3 : ¬ (q : Int) < Y.cn := by omega
                    rw [show tb.acs.take q = tb.acs by rw [List.take_of_length_le]; rw [LC.out]; omega]
                    have AW := Lib.hid (AL.out _ (gb_trans G9.out G.out) av RA.out)
                    generalize decide (av ∈ tb.acs) = bq at *
                    have hbq : (bq != bq) = false := by simp
                    have c0 := (BP.out.keep0 (gb_trans G9.out G.out)).cell 0
                    have c1 := (BP.out.keep0 (gb_trans G9.out G.out)).cell 1
                    have c2 := (BP.out.keep0 (gb_trans G9.out G.out)).cell 2
                    have c3 := (BP.out.keep0 (gb_trans G9.out G.out)).cell 3
                    have c4 := (BP.out.keep0 (gb_trans G9.out G.out)).cell 4
                    have c5 := (BP.out.keep0 (gb_trans G9.out G.out)).cell 5
                    have c6 := (BP.out.keep0 (gb_trans G9.out G.out)).cell 6
                    have c7 := (BP.out.keep0 (gb_trans G9.out G.out)).cell 7
                    have c8 := (BP.out.keep0 (gb_trans G9.out G.out)).cell 8
                    dsimp at c0 c1 c2 c3 c4 c5 c6 c7 c8
                    go_wp2_with fail
                    refine AW.out.mono ?_
                    rintro e wy ⟨rfl, g⟩
                    have GY := Lib.hid (gb_trans G.out g)
                    clear g AW d2
                    clear c0 c1 c2 c3 c4 c5 c6 c7 c8
                    go_wp2
                    go_roundw
                    case rel => exact ⟨a + 1, by omega, by first | rfl | (congr 1; omega), GY.out⟩
                    case measure => have := HAV.out; simp [intOf]; omega
              · have i2 : ¬ ((a : Int) - 1) ≤ (X.an : Int) := by omega
                have x1 : (sm == sm) = true := by simp
                have x2 : sm ≤ 64 := W2.out
                have DT := Lib.hid (show decide (tb.da ∈ tb.acs) = true by simpa using DA.out)
                clear c4
                generalize hzz : (a : Int) - 1 = av at *
                have c0 := (BP.out.keep0 (gb_trans G9.out G.out)).cell 0
                have c1 := (BP.out.keep0 (gb_trans G9.out G.out)).cell 1
                have c2 := (BP.out.keep0 (gb_trans G9.out G.out)).cell 2
                have c3 := (BP.out.keep0 (gb_trans G9.out G.out)).cell 3
                have c4 := (BP.out.keep0 (gb_trans G9.out G.out)).cell 4
                have c5 := (BP.out.keep0 (gb_trans G9.out G.out)).cell 5
                have c6 := (BP.out.keep0 (gb_trans G9.out G.out)).cell 6
                have c7 := (BP.out.keep0 (gb_trans G9.out G.out)).cell 7
                have c8 := (BP.out.keep0 (gb_trans G9.out G.out)).cell 8
                dsimp at c0 c1 c2 c3 c4 c5 c6 c7 c8
                go_wp2_with fail
                refine (BI.out _ (gb_trans G9.out G.out)).mono ?_
                rintro e wy ⟨rfl, g⟩
                have GY := Lib.hid (gb_trans G.out g)
                clear g
                clear c0 c1 c2 c3 c4 c5 c6 c7 c8
                have c0 := (BP.out.keep0 (gb_trans G9.out GY.out)).cell 0
                have c1 := (BP.out.keep0 (gb_trans G9.out GY.out)).cell 1
                have c2 := (BP.out.keep0 (gb_trans G9.out GY.out)).cell 2
                have c3 := (BP.out.keep0 (gb_trans G9.out GY.out)).cell 3
                have c4 := (BP.out.keep0 (gb_trans G9.out GY.out)).cell 4
                have c5 := (BP.out.keep0 (gb_trans G9.out GY.out)).cell 5
                have c6 := (BP.out.keep0 (gb_trans G9.out GY.out)).cell 6
                have c7 := (BP.out.keep0 (gb_trans G9.out GY.out)).cell 7
                have c8 := (BP.out.keep0 (gb_trans G9.out GY.out)).cell 8
                dsimp at c0 c1 c2 c3 c4 c5 c6 c7 c8
                have d3 := (BT.out.keep0 GY.out).cell 3
                dsimp at d3
                go_wp2_with fail
                refine (AL.out _ (gb_trans G9.out GY.out) tb.da RD.out).mono ?_
                rintro e wx ⟨rfl, g⟩
                have GX := Lib.hid (gb_trans GY.out g)
                clear g d3
                clear c0 c1 c2 c3 c4 c5 c6 c7 c8
                rw [DT.out]
                go_wp2_with fail
                refine (works_any _).mono ?_
                rintro e wz ⟨rfl, g⟩
                have GZ := Lib.hid (gb_trans (gb_trans G9.out GX.out) g)
                clear g
                go_wp2
                go_ret
                exact ⟨rfl, gb_trans G1.out GZ.out⟩
      · have xr : (r2 != 0) = true := by rw [bne_iff_ne]; exact fun e => hok (OK.out.2 e)
        obtain ⟨b1, b2⟩ := BD.out hok
        rw [b1] at KN
        rw [b2] at WL KL
        have w0 : WS.length = 0 := WL.out
        have k0 : KS.length = 0 := KL.out
        have ws0 : WS = [] := List.length_eq_zero_iff.1 w0
        rw [ws0] at BI
        rw [w0, k0]
        have c0 := (BP.out.keep0 G7.out).cell 0
        have c1 := (BP.out.keep0 G7.out).cell 1
        have c2 := (BP.out.keep0 G7.out).cell 2
        have c3 := (BP.out.keep0 G7.out).cell 3
        have c4 := (BP.out.keep0 G7.out).cell 4
        have c5 := (BP.out.keep0 G7.out).cell 5
        have c6 := (BP.out.keep0 G7.out).cell 6
        have c7 := (BP.out.keep0 G7.out).cell 7
        have c8 := (BP.out.keep0 G7.out).cell 8
        dsimp at c0 c1 c2 c3 c4 c5 c6 c7 c8
        go_wp2_with fail
        refine (KN.out w7 G7.out).mono ?_
        rintro e w8 ⟨rfl, g⟩
        have G8 := Lib.hid (gb_trans G7.out g)
        clear g
        clear c0 c1 c2 c3 c4 c5 c6 c7 c8
        have c0 := (BP.out.keep0 G8.out).cell 0
        have c1 := (BP.out.keep0 G8.out).cell 1
        have c2 := (BP.out.keep0 G8.out).cell 2
        have c3 := (BP.out.keep0 G8.out).cell 3
        have c4 := (BP.out.keep0 G8.out).cell 4
        have c5 := (BP.out.keep0 G8.out).cell 5
        have c6 := (BP.out.keep0 G8.out).cell 6
        have c7 := (BP.out.keep0 G8.out).cell 7
        have c8 := (BP.out.keep0 G8.out).cell 8
        dsimp at c0 c1 c2 c3 c4 c5 c6 c7 c8
        go_wp2_with fail
        refine (BI.out w8 G8.out).mono ?_
        rintro e w9 ⟨rfl, g⟩
        have G9 := Lib.hid (gb_trans G8.out g)
        clear g
        clear c0 c1 c2 c3 c4 c5 c6 c7 c8
        go_wp2_with fail
        refine (works_any _).mono ?_
        rintro e wz ⟨rfl, g⟩
        have GZ := Lib.hid (gb_trans G9.out g)
        clear g
        go_wp2
        go_ret
        exact ⟨rfl, gb_trans G1.out GZ.out⟩
end Go.Proofs.Ytblhgociojnbgaa
