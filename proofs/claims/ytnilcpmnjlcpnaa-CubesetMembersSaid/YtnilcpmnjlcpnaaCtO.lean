/- Cubeset: the law Members. -/
import Derived.Test.YtnilcpmnjlcpnaaCtN
namespace Go.Proofs.Ytnilcpmnjlcpnaa
open Go.RowKit
set_option linter.unusedVariables false
theorem stepL_wf (L : List (Nat × Nat)) (h : ∀ p ∈ L, B64 p.1 ∧ B64 p.2) : ∀ p ∈ stepL L, B64 p.1 ∧ B64 p.2 := by
  unfold stepL
  split
  · intro p hp; cases hp
  · exact simpL_wf' L h
theorem intG_wf (M : List (Nat × Nat)) (hM : ∀ p ∈ M, B64 p.1 ∧ B64 p.2) : ∀ (L out : List (Nat × Nat)), (∀ p ∈ L, B64 p.1 ∧ B64 p.2) → (∀ p ∈ out, B64 p.1 ∧ B64 p.2) → ∀ p ∈ (intG M L out).1, B64 p.1 ∧ B64 p.2 := by
  intro L
  induction L with
  | nil => intro out _ h; exact h
  | cons p L ih =>
    intro out hL ho
    unfold intG
    split
    · intro q hq; cases hq
    · exact ih _ (fun q hq => hL q (by simp [hq])) (simpL_wf' _ (fun q hq => (List.mem_append.1 hq).elim (ho q) (rowI_wf p M (hL p (by simp)) hM q)))
theorem subsX_wf (x : Int) (L M : List (Nat × Nat)) (hL : ∀ p ∈ L, B64 p.1 ∧ B64 p.2) (hM : ∀ p ∈ M, B64 p.1 ∧ B64 p.2) : ∀ p ∈ (subsX x L M).1, B64 p.1 ∧ B64 p.2 := by
  rw [← psX_eq x L M hL hM]
  unfold psX
  split
  · exact (psL_wf x.toNat (by omega) (by omega) L M hL hM).1
  · intro p hp; cases hp
set_option maxRecDepth 100000 in
set_option maxHeartbeats 40000000 in
theorem members_walk (w : World) (a b : Option Addr) (n c m d : Nat) (L M : List (Nat × Nat)) (wd : Nat) (hwd : wd ≤ 255) (na : Option Addr) (nn nc : Nat) (N : List Nat) (h : SC w a n c L) (g : SC w b m d M) (hN : SlR w na nn nc (N.map u64V)) (hNb : ∀ x ∈ N, B64 x) : Calls Try.prog 5 #[.slice a n c, .slice b m d, .agg #[.int .u8 wd, .slice na nn nc]] w (RetV (.bool true) w) := by
  have HA := Lib.hid h
  have HB := Lib.hid g
  have HNN := Lib.hid hN
  have HNB := Lib.hid hNb
  have HNL := Lib.hid (show N.length = nn by have := hN.1; rwa [List.length_map] at this)
  have WK := Lib.hid (fun w => works_any w)
  unfold RetV at WK
  have SM := Lib.hid (fun w => small_any w a b n c m d)
  unfold RetS at SM
  have BX := Lib.hid (IsB.new w 44 #[.int .u8 wd, .slice na nn nc])
  have G0 := Lib.hid (gb_alloc w (.cells #[.int .u8 wd, .slice na nn nc] 44) none)
  clear h g hN hNb
  obtain ⟨w0, hw0⟩ : ∃ w0, w0 = w.alloc (.cells #[.int .u8 wd, .slice na nn nc] 44) := ⟨_, rfl⟩
  rw [← hw0] at BX G0
  obtain ⟨P, hP⟩ : ∃ P, P = w.heap.size := ⟨_, rfl⟩
  rw [← hP] at BX
  have k0 := BX.out.cell 0
  have k1 := BX.out.cell 1
  simp at k0 k1
  obtain ⟨k, hk⟩ : ∃ k : Nat, k = 1 + wd % 64 := ⟨_, rfl⟩
  have hk1 : 1 ≤ k := by omega
  have hk2 : k ≤ 64 := by omega
  go_enter Try.func5, Try.ntmps5
  go_upto_region 1 with fail
  rw [← hw0, ← hP]
  clear hw0 hP
  by_cases hsm : n ≤ 10 ∧ m ≤ 8
  case neg =>
    rw [show (decide (n ≤ 10) && decide (m ≤ 8)) = false by
      by_cases h1 : n ≤ 10
      · rw [decide_eq_false (show ¬ m ≤ 8 from fun h2 => hsm ⟨h1, h2⟩), Bool.and_false]
      · rw [decide_eq_false h1, Bool.false_and]] at SM
    clear hsm hk
    go_wp2_with fail
    refine (SM.out _).mono ?_
    rintro e w1 ⟨rfl, rfl⟩
    go_wp2_with fail
    refine (WK.out _).mono ?_
    rintro e w2 ⟨rfl, g2⟩
    have G2 := Lib.hid (gb_trans G0.out g2)
    clear g2
    go_wp2
    go_ret
    exact ⟨rfl, G2.out⟩
  rw [show (decide (n ≤ 10) && decide (m ≤ 8)) = true by rw [decide_eq_true hsm.1, decide_eq_true hsm.2]; rfl] at SM
  have N1 := Lib.hid hsm.1
  have N2 := Lib.hid hsm.2
  clear hsm
  by_cases hln : nn ≤ 20
  case neg =>
    have hl2 : (20 : Int) < (nn : Int) := by omega
    clear hln hk
    go_wp2_with fail
    refine (SM.out _).mono ?_
    rintro e w1 ⟨rfl, rfl⟩
    go_wp2_with fail
    refine (WK.out _).mono ?_
    rintro e w2 ⟨rfl, g2⟩
    have G2 := Lib.hid (gb_trans G0.out g2)
    clear g2
    go_wp2
    go_ret
    exact ⟨rfl, G2.out⟩
  have hl2 : ¬ (20 : Int) < (nn : Int) := by omega
  have KE := Lib.hid hk
  clear hk
  go_wp2_with fail
  refine (SM.out _).mono ?_
  rintro e w9 ⟨rfl, rfl⟩
  rw [show (1 + (wd : Int) % 64) = (k : Int) by have := KE.out; omega]
  have FU := Lib.hid (fun x (he : stepE (L ++ M) = 0) => any_union L M HA.out.wf HB.out.wf x he)
  have FI := Lib.hid (fun x (he : (intG M L []).2 = 0) => any_intG M HB.out.wf x L [] HA.out.wf (fun p hp => by cases hp) he)
  have FS := Lib.hid (fun x (he : (subsX (k : Int) L M).2 = 0) => any_subs hk1 hk2 L M HA.out.wf HB.out.wf x he)
  have FC := Lib.hid (fun x (he : (subsX (k : Int) [(0, 0)] L).2 = 0) => any_compl hk1 hk2 L HA.out.wf x he)
  have FT := Lib.hid (fun x => any_simp L HA.out.wf x)
  have WU := Lib.hid (stepL_wf (L ++ M) (fun p hp => (List.mem_append.1 hp).elim (HA.out.wf p) (HB.out.wf p)))
  have WI := Lib.hid (intG_wf M HB.out.wf L [] HA.out.wf (fun p hp => by cases hp))
  have WS := Lib.hid (subsX_wf (k : Int) L M HA.out.wf HB.out.wf)
  have WC := Lib.hid (subsX_wf (k : Int) [(0, 0)] L (fun p hp => by rw [List.mem_singleton.1 hp]; exact ⟨by show (0 : Nat) < 18446744073709551616; decide, by show (0 : Nat) < 18446744073709551616; decide⟩) HA.out.wf)
  have WT := Lib.hid (simpL_wf' L HA.out.wf)
  have LU := Lib.hid (stepL_len (L ++ M))
  have LI := Lib.hid (show (intG M L []).1.length ≤ 20000 by have := intG_len M L [] (Nat.zero_le _); omega)
  have LS := Lib.hid (subsX_len (k : Int) L M)
  have LC := Lib.hid (subsX_len (k : Int) [(0, 0)] L)
  have LT := Lib.hid (show (simpL L).length ≤ 20000 by have := keptT_len L L.length; have := HA.out.len; have := N1.out; unfold simpL; omega)
  have CU := Lib.hid (fun (w2 : World) (z : w.grownBy w2 none) => union_any w2 a b n c m d L M (HA.out.keep0 z) (HB.out.keep0 z) (by have := N1.out; omega) (by have := N2.out; omega))
  have CI := Lib.hid (fun (w2 : World) (z : w.grownBy w2 none) => pinter_any w2 a b n c m d L M (HA.out.keep0 z) (HB.out.keep0 z) (by have := N1.out; omega) (by have := N2.out; omega))
  have CS := Lib.hid (fun (w2 : World) (z : w.grownBy w2 none) => psubs_any w2 a b n c m d (k : Int) L M (HA.out.keep0 z) (HB.out.keep0 z) (by have := N1.out; omega) (by have := N2.out; omega))
  have CC := Lib.hid (fun (w2 : World) (z : w.grownBy w2 none) => pcompl_any w2 a n c (k : Int) L (HA.out.keep0 z) (by have := N1.out; omega))
  have CT := Lib.hid (fun (w2 : World) (z : w.grownBy w2 none) => simplify_any w2 a n c L (HA.out.keep0 z) (by have := N1.out; omega))
  unfold RetCE at CU CI CS CC
  unfold RetC at CT
  generalize stepL (L ++ M) = U at *
  generalize stepE (L ++ M) = eu at *
  generalize (intG M L []).1 = I at *
  generalize (intG M L []).2 = ei at *
  generalize (subsX (k : Int) L M).1 = S at *
  generalize (subsX (k : Int) L M).2 = es at *
  generalize (subsX (k : Int) [(0, 0)] L).1 = C at *
  generalize (subsX (k : Int) [(0, 0)] L).2 = ec at *
  generalize simpL L = T at *
  go_wp2_with fail
  refine (CU.out _ G0.out).mono ?_
  rintro e z1 ⟨VU, rfl, oU, gU⟩
  obtain ⟨pU, cU, rfl⟩ := oU.shape
  have SU := Lib.hid (sc_own oU WU.out)
  have GS1 := Lib.hid gU
  have GZ1 := Lib.hid (gb_trans G0.out gU)
  clear oU gU
  go_wp2_with fail
  refine (CI.out _ GZ1.out).mono ?_
  rintro e z2 ⟨VI, rfl, oI, gI⟩
  obtain ⟨pI, cI, rfl⟩ := oI.shape
  have SI := Lib.hid (sc_own oI WI.out)
  have GS2 := Lib.hid gI
  have GZ2 := Lib.hid (gb_trans GZ1.out gI)
  clear oI gI
  go_wp2_with fail
  refine (CS.out _ GZ2.out).mono ?_
  rintro e z3 ⟨VS, rfl, oS, gS⟩
  obtain ⟨pS, cS, rfl⟩ := oS.shape
  have SS := Lib.hid (sc_own oS WS.out)
  have GS3 := Lib.hid gS
  have GZ3 := Lib.hid (gb_trans GZ2.out gS)
  clear oS gS
  go_wp2_with fail
  refine (CC.out _ GZ3.out).mono ?_
  rintro e z4 ⟨VC, rfl, oC, gC⟩
  obtain ⟨pC, cC, rfl⟩ := oC.shape
  have SC' := Lib.hid (sc_own oC WC.out)
  have GS4 := Lib.hid gC
  have GZ4 := Lib.hid (gb_trans GZ3.out gC)
  clear oC gC
  go_wp2_with fail
  refine (CT.out _ GZ4.out).mono ?_
  rintro e z5 ⟨VT, rfl, oT, gT⟩
  obtain ⟨pT, cT, rfl⟩ := oT.shape
  have ST := Lib.hid (sc_own oT WT.out)
  have GS5 := Lib.hid gT
  have GZ5 := Lib.hid (gb_trans GZ4.out gT)
  clear oT gT
  have H4 := GS5.out
  have H3 := gb_trans GS4.out H4
  have H2 := gb_trans GS3.out H3
  have H1 := gb_trans GS2.out H2
  have QU := Lib.hid (SU.out.keep0 H1)
  have QI := Lib.hid (SI.out.keep0 H2)
  have QS := Lib.hid (SS.out.keep0 H3)
  have QC := Lib.hid (SC'.out.keep0 H4)
  have QT := Lib.hid ST.out
  have BZ := Lib.hid (BX.out.keep0 (gb_trans GS1.out H1))
  clear H1 H2 H3 H4 SU SI SS SC' ST GS1 GS2 GS3 GS4 GS5 CU CI CS CC CT BX k0 k1
  generalize U.length = lu at *
  generalize I.length = li at *
  generalize S.length = ls at *
  generalize C.length = lc at *
  generalize T.length = lt at *
  go_wp2
  rw [show decide ((20 : Int) < (nn : Int)) = false from decide_eq_false (by omega)]
  clear hl2
  have nn20 := hln
  go_loopw [17, 18, 19, 20] (fun s17 s18 s19 s20 wr => ∃ j : Nat, j ≤ nn ∧ s17 = .int .i64 j ∧ z5.grownBy wr none) (fun s17 _ _ _ _ => nn - (intOf s17).toNat)
  case atStart => exact ⟨0, Nat.zero_le _, rfl, gb_refl _ _⟩
  case round =>
    obtain ⟨j, hj, rfl, hg⟩ := hrel
    have HG := Lib.hid hg
    clear hg
    have k1 := (BZ.out.keep0 HG.out).cell 1
    simp at k1
    by_cases hlt : j < nn
    · have hl : j < N.length := by rw [HNL.out]; exact hlt
      obtain ⟨nd, rfl⟩ : ∃ nd, na = some nd := by
        cases na with
        | none => have := (HNN.out.2.1 rfl).1; omega
        | some nd => exact ⟨nd, rfl⟩
      have i1 : (j : Int) < nn := by omega
      have i0 : (0 : Int) ≤ (j : Int) := by omega
      have e0 : (N.map u64V)[j]? = some (u64V (N.getD j 0)) := by rw [List.getElem?_map, List.getElem?_eq_getElem hl, List.getD_eq_getElem?_getD, List.getElem?_eq_getElem hl]; rfl
      have c0 := (HNN.out.keep0 (gb_trans GZ5.out HG.out)).2.2 nd rfl j (u64V (N.getD j 0)) e0
      unfold u64V at c0
      have bx := HNB.out (N.getD j 0) (by rw [List.getD_eq_getElem?_getD, List.getElem?_eq_getElem hl]; exact List.getElem_mem _)
      generalize N.getD j 0 = x0 at *
      have LW := Lib.hid (fun w => low_any w x0 k bx hk1 hk2)
      have bl : B64 (x0 &&& lowN k) := Nat.lt_of_le_of_lt Nat.and_le_left bx
      generalize x0 &&& lowN k = x at *
      unfold RetS at LW
      have RA := Lib.hid (fun (w2 : World) (z : z5.grownBy w2 none) => rcont_any w2 a n c L x (HA.out.keep0 (gb_trans GZ5.out z)) (by have := N1.out; omega) bl)
      have RB := Lib.hid (fun (w2 : World) (z : z5.grownBy w2 none) => rcont_any w2 b m d M x (HB.out.keep0 (gb_trans GZ5.out z)) (by have := N2.out; omega) bl)
      have TA := Lib.hid (fun (w2 : World) (z : z5.grownBy w2 none) => restr_any w2 a n c k x L (HA.out.keep0 (gb_trans GZ5.out z)) (by have := N1.out; omega) bl hk1 hk2)
      have TB := Lib.hid (fun (w2 : World) (z : z5.grownBy w2 none) => restr_any w2 b m d k x M (HB.out.keep0 (gb_trans GZ5.out z)) (by have := N2.out; omega) bl hk1 hk2)
      have DU := Lib.hid (fun (w2 : World) (z : z5.grownBy w2 none) => cont_any w2 pU lu cU U x (QU.out.keep0 z) (by have := LU.out; omega) bl)
      have DI := Lib.hid (fun (w2 : World) (z : z5.grownBy w2 none) => cont_any w2 pI li cI I x (QI.out.keep0 z) (by have := LI.out; omega) bl)
      have DS := Lib.hid (fun (w2 : World) (z : z5.grownBy w2 none) => cont_any w2 pS ls cS S x (QS.out.keep0 z) (by have := LS.out; omega) bl)
      have DC := Lib.hid (fun (w2 : World) (z : z5.grownBy w2 none) => cont_any w2 pC lc cC C x (QC.out.keep0 z) (by have := LC.out; omega) bl)
      have DT := Lib.hid (fun (w2 : World) (z : z5.grownBy w2 none) => cont_any w2 pT lt cT T x (QT.out.keep0 z) (by have := LT.out; omega) bl)
      have EU := Lib.hid (FU.out x)
      have EI := Lib.hid (fun he => (FI.out x he).trans (show (anyN [] x || (anyN L x && anyN M x)) = (anyN L x && anyN M x) from rfl))
      have ES := Lib.hid (FS.out x)
      have EC := Lib.hid (FC.out x)
      have ET := Lib.hid (FT.out x)
      unfold RetV at RA RB TA TB DU DI DS DC DT
      generalize anyN L x = bL at *
      generalize anyN M x = bM at *
      generalize rstN k L x = rL at *
      generalize rstN k M x = rM at *
      generalize anyN U x = aU at *
      generalize anyN I x = aI at *
      generalize anyN S x = aS at *
      generalize anyN C x = aC at *
      generalize anyN T x = aT at *
      clear e0 hl bx bl
      go_wp2_with fail
      refine (LW.out _).mono ?_
      rintro e y0 ⟨rfl, rfl⟩
      go_wp2_with fail
      refine (RA.out _ HG.out).mono ?_
      rintro e y1 ⟨rfl, g1⟩
      have Y1 := Lib.hid (gb_trans HG.out g1)
      clear g1
      go_wp2_with fail
      refine (RB.out _ Y1.out).mono ?_
      rintro e y2 ⟨rfl, g2⟩
      have Y2 := Lib.hid (gb_trans Y1.out g2)
      clear g2 c0 k1
      go_upto_region 14 with fail
      go_cut [116] from 84 to 115 (fun s116 wx => s116 = .bool false ∧ z5.grownBy wx none)
      case first =>
        have GX := Y2
        have EU2 := EU.out
        have EI2 := EI.out
        have ET2 := ET.out
        clear EU EI ET ES EC
        by_cases he1 : eu = 0
        · by_cases he2 : ei = 0
          · have e1 := EU2 he1
            have e2 := EI2 he2
            subst he1
            subst he2
            subst e1 e2
            rw [ET2] at DT
            clear EU2 EI2 ET2
            cases bL <;> cases bM
            all_goals (
              try (
                go_wp2_with fail
                first
                  | refine (DU.out _ GX.out).mono ?_
                  | refine (DI.out _ GX.out).mono ?_
                  | refine (DT.out _ GX.out).mono ?_
                rintro e wz ⟨rfl, gz⟩
                have GX := Lib.hid (gb_trans GX.out gz)
                clear gz)
              try (
                go_wp2_with fail
                first
                  | refine (DU.out _ GX.out).mono ?_
                  | refine (DI.out _ GX.out).mono ?_
                  | refine (DT.out _ GX.out).mono ?_
                rintro e wz ⟨rfl, gz⟩
                have GX := Lib.hid (gb_trans GX.out gz)
                clear gz)
              try (
                go_wp2_with fail
                first
                  | refine (DU.out _ GX.out).mono ?_
                  | refine (DI.out _ GX.out).mono ?_
                  | refine (DT.out _ GX.out).mono ?_
                rintro e wz ⟨rfl, gz⟩
                have GX := Lib.hid (gb_trans GX.out gz)
                clear gz)
              go_wp2_with fail
              go_meet
              exact ⟨rfl, GX.out⟩)
          · have e1 := EU2 he1
            have n2 : (ei == 0) = false := by rw [beq_eq_false_iff_ne]; exact he2
            have n2' : ¬ ei = 0 := he2
            subst he1
            subst e1
            rw [ET2] at DT
            clear EU2 EI2 he2 ET2
            cases bL <;> cases bM
            all_goals (
              try (
                go_wp2_with fail
                first
                  | refine (DU.out _ GX.out).mono ?_
                  | refine (DI.out _ GX.out).mono ?_
                  | refine (DT.out _ GX.out).mono ?_
                rintro e wz ⟨rfl, gz⟩
                have GX := Lib.hid (gb_trans GX.out gz)
                clear gz)
              try (
                go_wp2_with fail
                first
                  | refine (DU.out _ GX.out).mono ?_
                  | refine (DI.out _ GX.out).mono ?_
                  | refine (DT.out _ GX.out).mono ?_
                rintro e wz ⟨rfl, gz⟩
                have GX := Lib.hid (gb_trans GX.out gz)
                clear gz)
              try (
                go_wp2_with fail
                first
                  | refine (DU.out _ GX.out).mono ?_
                  | refine (DI.out _ GX.out).mono ?_
                  | refine (DT.out _ GX.out).mono ?_
                rintro e wz ⟨rfl, gz⟩
                have GX := Lib.hid (gb_trans GX.out gz)
                clear gz)
              go_wp2_with fail
              go_meet
              exact ⟨rfl, GX.out⟩)
        · by_cases he2 : ei = 0
          · have e2 := EI2 he2
            have n1 : (eu == 0) = false := by rw [beq_eq_false_iff_ne]; exact he1
            have n1' : ¬ eu = 0 := he1
            subst he2
            subst e2
            rw [ET2] at DT
            clear EU2 EI2 he1 ET2
            cases bL <;> cases bM
            all_goals (
              try (
                go_wp2_with fail
                first
                  | refine (DU.out _ GX.out).mono ?_
                  | refine (DI.out _ GX.out).mono ?_
                  | refine (DT.out _ GX.out).mono ?_
                rintro e wz ⟨rfl, gz⟩
                have GX := Lib.hid (gb_trans GX.out gz)
                clear gz)
              try (
                go_wp2_with fail
                first
                  | refine (DU.out _ GX.out).mono ?_
                  | refine (DI.out _ GX.out).mono ?_
                  | refine (DT.out _ GX.out).mono ?_
                rintro e wz ⟨rfl, gz⟩
                have GX := Lib.hid (gb_trans GX.out gz)
                clear gz)
              try (
                go_wp2_with fail
                first
                  | refine (DU.out _ GX.out).mono ?_
                  | refine (DI.out _ GX.out).mono ?_
                  | refine (DT.out _ GX.out).mono ?_
                rintro e wz ⟨rfl, gz⟩
                have GX := Lib.hid (gb_trans GX.out gz)
                clear gz)
              go_wp2_with fail
              go_meet
              exact ⟨rfl, GX.out⟩)
          · have n1 : (eu == 0) = false := by rw [beq_eq_false_iff_ne]; exact he1
            have n1' : ¬ eu = 0 := he1
            have n2 : (ei == 0) = false := by rw [beq_eq_false_iff_ne]; exact he2
            have n2' : ¬ ei = 0 := he2
            rw [ET2] at DT
            clear EU2 EI2 he1 he2 ET2
            cases bL <;> cases bM
            all_goals (
              try (
                go_wp2_with fail
                first
                  | refine (DU.out _ GX.out).mono ?_
                  | refine (DI.out _ GX.out).mono ?_
                  | refine (DT.out _ GX.out).mono ?_
                rintro e wz ⟨rfl, gz⟩
                have GX := Lib.hid (gb_trans GX.out gz)
                clear gz)
              try (
                go_wp2_with fail
                first
                  | refine (DU.out _ GX.out).mono ?_
                  | refine (DI.out _ GX.out).mono ?_
                  | refine (DT.out _ GX.out).mono ?_
                rintro e wz ⟨rfl, gz⟩
                have GX := Lib.hid (gb_trans GX.out gz)
                clear gz)
              try (
                go_wp2_with fail
                first
                  | refine (DU.out _ GX.out).mono ?_
                  | refine (DI.out _ GX.out).mono ?_
                  | refine (DT.out _ GX.out).mono ?_
                rintro e wz ⟨rfl, gz⟩
                have GX := Lib.hid (gb_trans GX.out gz)
                clear gz)
              go_wp2_with fail
              go_meet
              exact ⟨rfl, GX.out⟩)
      case rest =>
        obtain ⟨rfl, gc⟩ := hcut
        have Y3 := Lib.hid gc
        clear gc
        go_wp2_with fail
        refine (TA.out _ Y3.out).mono ?_
        rintro e y4 ⟨rfl, g4⟩
        have Y4 := Lib.hid (gb_trans Y3.out g4)
        clear g4
        go_wp2_with fail
        refine (TB.out _ Y4.out).mono ?_
        rintro e y5 ⟨rfl, g5⟩
        have Y5 := Lib.hid (gb_trans Y4.out g5)
        clear g5
        go_upto_region 17 with fail
        go_cut [149] from 125 to 148 (fun s149 wx => s149 = .bool false ∧ z5.grownBy wx none)
        case first =>
          have GX := Y5
          have ES2 := ES.out
          have EC2 := EC.out
          clear EU EI ET ES EC
          by_cases he1 : es = 0
          · by_cases he2 : ec = 0
            · have e1 := ES2 he1
              have e2 := EC2 he2
              subst he1
              subst he2
              subst e1 e2
              clear ES2 EC2
              cases rL <;> cases rM
              all_goals (
                try (
                  go_wp2_with fail
                  first
                    | refine (DS.out _ GX.out).mono ?_
                    | refine (DC.out _ GX.out).mono ?_
                  rintro e wz ⟨rfl, gz⟩
                  have GX := Lib.hid (gb_trans GX.out gz)
                  clear gz)
                try (
                  go_wp2_with fail
                  first
                    | refine (DS.out _ GX.out).mono ?_
                    | refine (DC.out _ GX.out).mono ?_
                  rintro e wz ⟨rfl, gz⟩
                  have GX := Lib.hid (gb_trans GX.out gz)
                  clear gz)
                try (
                  go_wp2_with fail
                  first
                    | refine (DS.out _ GX.out).mono ?_
                    | refine (DC.out _ GX.out).mono ?_
                  rintro e wz ⟨rfl, gz⟩
                  have GX := Lib.hid (gb_trans GX.out gz)
                  clear gz)
                go_wp2_with fail
                go_meet
                exact ⟨rfl, GX.out⟩)
            · have e1 := ES2 he1
              have n2 : (ec == 0) = false := by rw [beq_eq_false_iff_ne]; exact he2
              have n2' : ¬ ec = 0 := he2
              subst he1
              subst e1
              clear ES2 EC2 he2
              cases rL <;> cases rM
              all_goals (
                try (
                  go_wp2_with fail
                  first
                    | refine (DS.out _ GX.out).mono ?_
                    | refine (DC.out _ GX.out).mono ?_
                  rintro e wz ⟨rfl, gz⟩
                  have GX := Lib.hid (gb_trans GX.out gz)
                  clear gz)
                try (
                  go_wp2_with fail
                  first
                    | refine (DS.out _ GX.out).mono ?_
                    | refine (DC.out _ GX.out).mono ?_
                  rintro e wz ⟨rfl, gz⟩
                  have GX := Lib.hid (gb_trans GX.out gz)
                  clear gz)
                try (
                  go_wp2_with fail
                  first
                    | refine (DS.out _ GX.out).mono ?_
                    | refine (DC.out _ GX.out).mono ?_
                  rintro e wz ⟨rfl, gz⟩
                  have GX := Lib.hid (gb_trans GX.out gz)
                  clear gz)
                go_wp2_with fail
                go_meet
                exact ⟨rfl, GX.out⟩)
          · by_cases he2 : ec = 0
            · have e2 := EC2 he2
              have n1 : (es == 0) = false := by rw [beq_eq_false_iff_ne]; exact he1
              have n1' : ¬ es = 0 := he1
              subst he2
              subst e2
              clear ES2 EC2 he1
              cases rL <;> cases rM
              all_goals (
                try (
                  go_wp2_with fail
                  first
                    | refine (DS.out _ GX.out).mono ?_
                    | refine (DC.out _ GX.out).mono ?_
                  rintro e wz ⟨rfl, gz⟩
                  have GX := Lib.hid (gb_trans GX.out gz)
                  clear gz)
                try (
                  go_wp2_with fail
                  first
                    | refine (DS.out _ GX.out).mono ?_
                    | refine (DC.out _ GX.out).mono ?_
                  rintro e wz ⟨rfl, gz⟩
                  have GX := Lib.hid (gb_trans GX.out gz)
                  clear gz)
                try (
                  go_wp2_with fail
                  first
                    | refine (DS.out _ GX.out).mono ?_
                    | refine (DC.out _ GX.out).mono ?_
                  rintro e wz ⟨rfl, gz⟩
                  have GX := Lib.hid (gb_trans GX.out gz)
                  clear gz)
                go_wp2_with fail
                go_meet
                exact ⟨rfl, GX.out⟩)
            · have n1 : (es == 0) = false := by rw [beq_eq_false_iff_ne]; exact he1
              have n1' : ¬ es = 0 := he1
              have n2 : (ec == 0) = false := by rw [beq_eq_false_iff_ne]; exact he2
              have n2' : ¬ ec = 0 := he2
              clear ES2 EC2 he1 he2
              cases rL <;> cases rM
              all_goals (
                try (
                  go_wp2_with fail
                  first
                    | refine (DS.out _ GX.out).mono ?_
                    | refine (DC.out _ GX.out).mono ?_
                  rintro e wz ⟨rfl, gz⟩
                  have GX := Lib.hid (gb_trans GX.out gz)
                  clear gz)
                try (
                  go_wp2_with fail
                  first
                    | refine (DS.out _ GX.out).mono ?_
                    | refine (DC.out _ GX.out).mono ?_
                  rintro e wz ⟨rfl, gz⟩
                  have GX := Lib.hid (gb_trans GX.out gz)
                  clear gz)
                try (
                  go_wp2_with fail
                  first
                    | refine (DS.out _ GX.out).mono ?_
                    | refine (DC.out _ GX.out).mono ?_
                  rintro e wz ⟨rfl, gz⟩
                  have GX := Lib.hid (gb_trans GX.out gz)
                  clear gz)
                go_wp2_with fail
                go_meet
                exact ⟨rfl, GX.out⟩)
        case rest =>
          obtain ⟨rfl, gc⟩ := hcut
          have Y6 := Lib.hid gc
          clear gc
          go_wp2
          go_roundw
          case rel => exact ⟨j + 1, by omega, by go_num, Y6.out⟩
          case measure => simp [intOf]; omega
    · have hje : j = nn := by omega
      subst hje
      go_wp2_with fail
      refine (WK.out _).mono ?_
      rintro e y7 ⟨rfl, g7⟩
      have Y7 := Lib.hid (gb_trans GZ5.out (gb_trans HG.out g7))
      clear g7
      go_wp2
      go_ret
      exact ⟨rfl, Y7.out⟩
end Go.Proofs.Ytnilcpmnjlcpnaa
