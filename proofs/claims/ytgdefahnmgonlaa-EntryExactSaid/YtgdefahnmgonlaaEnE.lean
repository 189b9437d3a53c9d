/- Entries: Precedes on both sides; no condition but sizes. -/
import Derived.Test.YtgdefahnmgonlaaEnD
namespace Go.Proofs.Ytgdefahnmgonlaa
open Go.RowKit
set_option linter.unusedVariables false
theorem prec_pr {P : Pg} {t ia ib : Int} {a b : En} (h : a.pr ≠ b.pr) : precE P t ia a ib b = decide (b.pr < a.pr) := by unfold precE; rw [if_neg h]
theorem prec_on {P : Pg} {t ia ib : Int} {a b : En} (h : a.pr = b.pr) (k : onesE a.ks (lpmT P t) ≠ onesE b.ks (lpmT P t)) : precE P t ia a ib b = decide (onesE b.ks (lpmT P t) < onesE a.ks (lpmT P t)) := by unfold precE; rw [if_pos h, if_neg k]
theorem prec_id {P : Pg} {t ia ib : Int} {a b : En} (h : a.pr = b.pr) (k : onesE a.ks (lpmT P t) = onesE b.ks (lpmT P t)) : precE P t ia a ib b = decide (ia < ib) := by unfold precE; rw [if_pos h, if_pos k]
set_option maxRecDepth 100000 in
set_option maxHeartbeats 4000000 in
theorem pprec_any (w : World) (X : PX) (P : Pg) (hp : SP w X P) (hz : szT P) (t : Int) (ia ib : Int) (Y Z : EX) (a b : En) (ha : SE w Y a) (hb : SE w Z b) : Calls Try.prog 16 #[.agg #[.string X.nm, .slice X.ha X.hn X.hc, .slice X.ma X.mn X.mc, .slice X.ra X.rn X.rc, .slice X.aa X.an X.ac, .slice X.ta X.tn X.tc, .slice X.sa X.sn X.sc, .slice X.ca X.cn X.cc, .slice X.da X.dn X.dc], .int .i64 t, .agg #[.int .i64 ia, .slice Y.ka Y.kn Y.kc, .int .i64 a.pr, .int .i64 a.ac, .slice Y.ra Y.rn Y.rc], .agg #[.int .i64 ib, .slice Z.ka Z.kn Z.kc, .int .i64 b.pr, .int .i64 b.ac, .slice Z.ra Z.rn Z.rc]] w (RetV (.bool (precE P t ia a ib b)) w) := by
  have HP := Lib.hid hp
  have HZ := Lib.hid hz
  have HA := Lib.hid ha
  have HB := Lib.hid hb
  obtain ⟨R, hR⟩ : ∃ R, R = precE P t ia a ib b := ⟨_, rfl⟩
  have HR := Lib.hid hR
  rw [← hR]
  have G2 := Lib.hid (gb_trans (gb_trans (gb_alloc w (.cells #[.string X.nm, .slice X.ha X.hn X.hc, .slice X.ma X.mn X.mc, .slice X.ra X.rn X.rc, .slice X.aa X.an X.ac, .slice X.ta X.tn X.tc, .slice X.sa X.sn X.sc, .slice X.ca X.cn X.cc, .slice X.da X.dn X.dc] 31) none) (gb_alloc _ (.cells #[.int .i64 ia, .slice Y.ka Y.kn Y.kc, .int .i64 a.pr, .int .i64 a.ac, .slice Y.ra Y.rn Y.rc] 46) none)) (gb_alloc _ (.cells #[.int .i64 ib, .slice Z.ka Z.kn Z.kc, .int .i64 b.pr, .int .i64 b.ac, .slice Z.ra Z.rn Z.rc] 46) none))
  have B0 := ((IsB.new w 31 #[.string X.nm, .slice X.ha X.hn X.hc, .slice X.ma X.mn X.mc, .slice X.ra X.rn X.rc, .slice X.aa X.an X.ac, .slice X.ta X.tn X.tc, .slice X.sa X.sn X.sc, .slice X.ca X.cn X.cc, .slice X.da X.dn X.dc]).alloc (.cells #[.int .i64 ia, .slice Y.ka Y.kn Y.kc, .int .i64 a.pr, .int .i64 a.ac, .slice Y.ra Y.rn Y.rc] 46)).alloc (.cells #[.int .i64 ib, .slice Z.ka Z.kn Z.kc, .int .i64 b.pr, .int .i64 b.ac, .slice Z.ra Z.rn Z.rc] 46)
  have B1 := (IsB.new (w.alloc (.cells #[.string X.nm, .slice X.ha X.hn X.hc, .slice X.ma X.mn X.mc, .slice X.ra X.rn X.rc, .slice X.aa X.an X.ac, .slice X.ta X.tn X.tc, .slice X.sa X.sn X.sc, .slice X.ca X.cn X.cc, .slice X.da X.dn X.dc] 31)) 46 #[.int .i64 ia, .slice Y.ka Y.kn Y.kc, .int .i64 a.pr, .int .i64 a.ac, .slice Y.ra Y.rn Y.rc]).alloc (.cells #[.int .i64 ib, .slice Z.ka Z.kn Z.kc, .int .i64 b.pr, .int .i64 b.ac, .slice Z.ra Z.rn Z.rc] 46)
  have B2 := IsB.new ((w.alloc (.cells #[.string X.nm, .slice X.ha X.hn X.hc, .slice X.ma X.mn X.mc, .slice X.ra X.rn X.rc, .slice X.aa X.an X.ac, .slice X.ta X.tn X.tc, .slice X.sa X.sn X.sc, .slice X.ca X.cn X.cc, .slice X.da X.dn X.dc] 31)).alloc (.cells #[.int .i64 ia, .slice Y.ka Y.kn Y.kc, .int .i64 a.pr, .int .i64 a.ac, .slice Y.ra Y.rn Y.rc] 46)) 46 #[.int .i64 ib, .slice Z.ka Z.kn Z.kc, .int .i64 b.pr, .int .i64 b.ac, .slice Z.ra Z.rn Z.rc]
  simp only [sz_al] at B1 B2
  replace B0 := Lib.hid B0
  replace B1 := Lib.hid B1
  replace B2 := Lib.hid B2
  clear hp hz ha hb hR
  go_enter Try.func16, Try.ntmps16
  go_upto_region 1 with fail
  generalize ((w.alloc (.cells #[.string X.nm, .slice X.ha X.hn X.hc, .slice X.ma X.mn X.mc, .slice X.ra X.rn X.rc, .slice X.aa X.an X.ac, .slice X.ta X.tn X.tc, .slice X.sa X.sn X.sc, .slice X.ca X.cn X.cc, .slice X.da X.dn X.dc] 31)).alloc (.cells #[.int .i64 ia, .slice Y.ka Y.kn Y.kc, .int .i64 a.pr, .int .i64 a.ac, .slice Y.ra Y.rn Y.rc] 46)).alloc (.cells #[.int .i64 ib, .slice Z.ka Z.kn Z.kc, .int .i64 b.pr, .int .i64 b.ac, .slice Z.ra Z.rn Z.rc] 46) = w2 at *
  obtain ⟨bx, hbx⟩ : ∃ b, b = w.heap.size := ⟨_, rfl⟩
  have Lbx := Lib.hid (show w.heap.size ≤ bx by rw [hbx]; exact Nat.le_refl _)
  rw [← hbx] at B0 B1 B2 ⊢
  clear hbx
  replace HP := Lib.hid (HP.out.keep0 G2.out)
  replace HA := Lib.hid (HA.out.keep0 G2.out)
  replace HB := Lib.hid (HB.out.keep0 G2.out)
  have d0 := (B1.out.keep0 (gb_refl _ _)).cell 0
  have e0 := (B2.out.keep0 (gb_refl _ _)).cell 0
  have d1 := (B1.out.keep0 (gb_refl _ _)).cell 1
  have e1 := (B2.out.keep0 (gb_refl _ _)).cell 1
  have d2 := (B1.out.keep0 (gb_refl _ _)).cell 2
  have e2 := (B2.out.keep0 (gb_refl _ _)).cell 2
  have d3 := (B1.out.keep0 (gb_refl _ _)).cell 3
  have e3 := (B2.out.keep0 (gb_refl _ _)).cell 3
  have d4 := (B1.out.keep0 (gb_refl _ _)).cell 4
  have e4 := (B2.out.keep0 (gb_refl _ _)).cell 4
  dsimp at d0 e0 d1 e1 d2 e2 d3 e3 d4 e4
  by_cases hp : a.pr = b.pr
  · have pe : (a.pr != b.pr) = false := by rw [bne_eq_false_iff_eq]; exact hp
    have HE := Lib.hid hp
    clear hp
    have c0 := (B0.out.keep0 (gb_refl _ _)).cell 0
    have c1 := (B0.out.keep0 (gb_refl _ _)).cell 1
    have c2 := (B0.out.keep0 (gb_refl _ _)).cell 2
    have c3 := (B0.out.keep0 (gb_refl _ _)).cell 3
    have c4 := (B0.out.keep0 (gb_refl _ _)).cell 4
    have c5 := (B0.out.keep0 (gb_refl _ _)).cell 5
    have c6 := (B0.out.keep0 (gb_refl _ _)).cell 6
    have c7 := (B0.out.keep0 (gb_refl _ _)).cell 7
    have c8 := (B0.out.keep0 (gb_refl _ _)).cell 8
    dsimp at c0 c1 c2 c3 c4 c5 c6 c7 c8
    go_wp2_with fail
    refine (plpm_any w2 X P HP.out HZ.out t).mono ?_
    rintro e w3 ⟨rfl, g⟩
    have G3 := Lib.hid g
    clear g
    clear c0 c1 c2 c3 c4 c5 c6 c7 c8
    clear d0 e0 d1 e1 d2 e2 d3 e3 d4 e4
    have O1 := Lib.hid (fun (W : World) (g : w3.grownBy W none) => pones_any W Y a (HA.out.keep0 (gb_trans G3.out g)) (lpmT P t))
    have O2 := Lib.hid (fun (W : World) (g : w3.grownBy W none) => pones_any W Z b (HB.out.keep0 (gb_trans G3.out g)) (lpmT P t))
    have RO := Lib.hid (fun (k : onesE a.ks (lpmT P t) ≠ onesE b.ks (lpmT P t)) => show R = decide (onesE b.ks (lpmT P t) < onesE a.ks (lpmT P t)) by rw [HR.out]; exact prec_on HE.out k)
    have RI_ := Lib.hid (fun (k : onesE a.ks (lpmT P t) = onesE b.ks (lpmT P t)) => show R = decide (ia < ib) by rw [HR.out]; exact prec_id HE.out k)
    clear HR HE HP HZ
    generalize lpmT P t = lp at *
    generalize onesE a.ks lp = m1 at *
    generalize onesE b.ks lp = m2 at *
    go_upto_region 4 with fail
    have KQ := Lib.hid (fun (w' : World) (q0 : w3.grownBy w' none) => (⟨(B1.out.keep0 (gb_trans G3.out q0)).cell 1, (B1.out.keep0 (gb_trans G3.out q0)).cell 2, (B1.out.keep0 (gb_trans G3.out q0)).cell 3, (B1.out.keep0 (gb_trans G3.out q0)).cell 4, (B2.out.keep0 (gb_trans G3.out q0)).cell 1, (B2.out.keep0 (gb_trans G3.out q0)).cell 2, (B2.out.keep0 (gb_trans G3.out q0)).cell 3, (B2.out.keep0 (gb_trans G3.out q0)).cell 4, q0⟩ : (fun w' : World => w'.cell? ⟨bx + 1, 1, none⟩ = some (.slice Y.ka Y.kn Y.kc) ∧ w'.cell? ⟨bx + 1, 2, none⟩ = some (.int .i64 a.pr) ∧ w'.cell? ⟨bx + 1, 3, none⟩ = some (.int .i64 a.ac) ∧ w'.cell? ⟨bx + 1, 4, none⟩ = some (.slice Y.ra Y.rn Y.rc) ∧ w'.cell? ⟨bx + 1 + 1, 1, none⟩ = some (.slice Z.ka Z.kn Z.kc) ∧ w'.cell? ⟨bx + 1 + 1, 2, none⟩ = some (.int .i64 b.pr) ∧ w'.cell? ⟨bx + 1 + 1, 3, none⟩ = some (.int .i64 b.ac) ∧ w'.cell? ⟨bx + 1 + 1, 4, none⟩ = some (.slice Z.ra Z.rn Z.rc) ∧ w3.grownBy w' none) w'))
    have Q0 := Lib.hid (gb_drew w3 none)
    refine wp_region_held_drew (S := (fun w' : World => w'.cell? ⟨bx + 1, 1, none⟩ = some (.slice Y.ka Y.kn Y.kc) ∧ w'.cell? ⟨bx + 1, 2, none⟩ = some (.int .i64 a.pr) ∧ w'.cell? ⟨bx + 1, 3, none⟩ = some (.int .i64 a.ac) ∧ w'.cell? ⟨bx + 1, 4, none⟩ = some (.slice Y.ra Y.rn Y.rc) ∧ w'.cell? ⟨bx + 1 + 1, 1, none⟩ = some (.slice Z.ka Z.kn Z.kc) ∧ w'.cell? ⟨bx + 1 + 1, 2, none⟩ = some (.int .i64 b.pr) ∧ w'.cell? ⟨bx + 1 + 1, 3, none⟩ = some (.int .i64 b.ac) ∧ w'.cell? ⟨bx + 1 + 1, 4, none⟩ = some (.slice Z.ra Z.rn Z.rc) ∧ w3.grownBy w' none)) (by kernel_rfl) (KQ.out _ Q0.out) (fun hH0 => ?_)
    refine wpAnyH_take (i := 0) (v := ?v1) rfl (by kernel_rfl) (by kernel_rfl) (by kernel_rfl) (fun _ _ _ h => h) (Or.inl ⟨by rfl, ?hy1⟩) (by assumption) ?rest1
    case hy1 => (intro wz hSw; (try dsimp only at hSw); first | (go_simp; done) | (go_simp; with_reducible rfl))
    try simp only [Act.put, List.getElem_toArray, List.getElem_cons_zero, List.setIfInBounds_toArray, List.set_cons_zero, List.set_cons_succ]
    refine wpAnyH_take (i := 1) (v := ?v2) rfl (by kernel_rfl) (by kernel_rfl) (by kernel_rfl) (fun _ _ _ h => h) (Or.inl ⟨by rfl, ?hy2⟩) (by assumption) ?rest2
    case hy2 => (intro wz hSw; (try dsimp only at hSw); first | (go_simp; done) | (go_simp; with_reducible rfl))
    try simp only [Act.put, List.getElem_toArray, List.getElem_cons_succ, List.getElem_cons_zero, List.setIfInBounds_toArray, List.set_cons_zero, List.set_cons_succ]
    refine wpAnyH_take (i := 2) (v := ?v3) rfl (by kernel_rfl) (by kernel_rfl) (by kernel_rfl) (fun _ _ _ h => h) (Or.inl ⟨by rfl, ?hy3⟩) (by assumption) ?rest3
    case hy3 => (intro wz hSw; (try dsimp only at hSw); first | (go_simp; done) | (go_simp; with_reducible rfl))
    try simp only [Act.put, List.getElem_toArray, List.getElem_cons_succ, List.getElem_cons_zero, List.setIfInBounds_toArray, List.set_cons_zero, List.set_cons_succ]
    refine wpAnyH_take (i := 4) (v := ?v4) rfl (by kernel_rfl) (by kernel_rfl) (by kernel_rfl) (fun _ _ _ h => h) (Or.inl ⟨by rfl, ?hy4⟩) (by assumption) ?rest4
    case hy4 => (intro wz hSw; (try dsimp only at hSw); first | (go_simp; done) | (go_simp; with_reducible rfl))
    try simp only [Act.put, List.getElem_toArray, List.getElem_cons_succ, List.getElem_cons_zero, List.setIfInBounds_toArray, List.set_cons_zero, List.set_cons_succ]
    refine wpAnyH_take (i := 5) (v := ?v5) rfl (by kernel_rfl) (by kernel_rfl) (by kernel_rfl) (fun _ _ _ h => h) (Or.inl ⟨by rfl, ?hy5⟩) (by assumption) ?rest5
    case hy5 => (intro wz hSw; (try dsimp only at hSw); first | (go_simp; done) | (go_simp; with_reducible rfl))
    try simp only [Act.put, List.getElem_toArray, List.getElem_cons_succ, List.getElem_cons_zero, List.setIfInBounds_toArray, List.set_cons_zero, List.set_cons_succ]
    refine wpAnyH_take (i := 6) (v := ?v6) rfl (by kernel_rfl) (by kernel_rfl) (by kernel_rfl) (fun _ _ _ h => h) (Or.inl ⟨by rfl, ?hy6⟩) (by assumption) ?rest6
    case hy6 => (intro wz hSw; (try dsimp only at hSw); first | (go_simp; done) | (go_simp; with_reducible rfl))
    try simp only [Act.put, List.getElem_toArray, List.getElem_cons_succ, List.getElem_cons_zero, List.setIfInBounds_toArray, List.set_cons_zero, List.set_cons_succ]
    refine wpAnyH_ready (rs := [3]) (by kernel_rfl) (by simp) ?_
    refine AllReadyH.cons (o := _) rfl (fun K hK => ?_) AllReadyH.nil
    go_simp
    (with_reducible refine (O1.out _ Q0.out).mono ?_)
    rintro e qw1 ⟨rfl, g⟩
    have Q1 := Lib.hid (gb_trans Q0.out g)
    clear g
    try dsimp only
    refine hK.out _ _ (KQ.out _ Q1.out) (fun hH1 => ?_)
    clear hK K hH0
    try simp only [Act.put, List.getElem_toArray, List.getElem_cons_succ, List.getElem_cons_zero, List.setIfInBounds_toArray, List.set_cons_zero, List.set_cons_succ]
    refine wpAnyH_ready (rs := [7]) (by kernel_rfl) (by simp) ?_
    refine AllReadyH.cons (o := _) rfl (fun K hK => ?_) AllReadyH.nil
    go_simp
    (with_reducible refine (O2.out _ Q1.out).mono ?_)
    rintro e qw2 ⟨rfl, g⟩
    have Q2 := Lib.hid (gb_trans Q1.out g)
    clear g
    try dsimp only
    refine hK.out _ _ (KQ.out _ Q2.out) (fun hH2 => ?_)
    clear hK K hH1
    try simp only [Act.put, List.getElem_toArray, List.getElem_cons_succ, List.getElem_cons_zero, List.setIfInBounds_toArray, List.set_cons_zero, List.set_cons_succ]
    refine wpAnyH_take (i := 8) (v := ?v7) rfl (by kernel_rfl) (by kernel_rfl) (by kernel_rfl) (fun _ _ _ h => h) (Or.inl ⟨by rfl, ?hy7⟩) (by assumption) ?rest7
    case hy7 => (intro wz hSw; (try dsimp only at hSw); first | (go_simp; done) | (go_simp; with_reducible rfl))
    try simp only [Act.put, List.getElem_toArray, List.getElem_cons_succ, List.getElem_cons_zero, List.setIfInBounds_toArray, List.set_cons_zero, List.set_cons_succ]
    refine wpAnyH_take (i := 9) (v := ?v8) rfl (by kernel_rfl) (by kernel_rfl) (by kernel_rfl) (fun _ _ _ h => h) (Or.inl ⟨by rfl, ?hy8⟩) (by assumption) ?rest8
    case hy8 => (intro wz hSw; (try dsimp only at hSw); first | (go_simp; done) | (go_simp; with_reducible rfl))
    try simp only [Act.put, List.getElem_toArray, List.getElem_cons_succ, List.getElem_cons_zero, List.setIfInBounds_toArray, List.set_cons_zero, List.set_cons_succ]
    refine wpAnyH_done (by kernel_rfl) ?_ _
    clear hH2
    have G4 := Lib.hid (gb_trans G3.out Q2.out)
    by_cases hm : m1 = m2
    · have me : (m1 != m2) = false := by rw [bne_eq_false_iff_eq]; exact hm
      have RX := Lib.hid (RI_.out hm)
      clear hm RO RI_
      have d0 := (B1.out.keep0 G4.out).cell 0
      have e0 := (B2.out.keep0 G4.out).cell 0
      have d1 := (B1.out.keep0 G4.out).cell 1
      have e1 := (B2.out.keep0 G4.out).cell 1
      have d2 := (B1.out.keep0 G4.out).cell 2
      have e2 := (B2.out.keep0 G4.out).cell 2
      have d3 := (B1.out.keep0 G4.out).cell 3
      have e3 := (B2.out.keep0 G4.out).cell 3
      have d4 := (B1.out.keep0 G4.out).cell 4
      have e4 := (B2.out.keep0 G4.out).cell 4
      dsimp at d0 e0 d1 e1 d2 e2 d3 e3 d4 e4
      by_cases hi : ia < ib
      · have RT := Lib.hid (show R = true by rw [RX.out]; exact decide_eq_true hi)
        clear RX
        go_wp2
        go_ret
        exact ⟨by rw [RT.out]; rfl, gb_trans G2.out G4.out⟩
      · have RT := Lib.hid (show R = false by rw [RX.out]; exact decide_eq_false hi)
        clear RX
        go_wp2
        go_ret
        exact ⟨by rw [RT.out]; rfl, gb_trans G2.out G4.out⟩
    · have me : (m1 != m2) = true := by rw [bne_iff_ne]; exact hm
      have RX := Lib.hid (RO.out hm)
      clear hm RO RI_
      by_cases hi : m2 < m1
      · have RT := Lib.hid (show R = true by rw [RX.out]; exact decide_eq_true hi)
        clear RX
        go_wp2
        go_ret
        exact ⟨by rw [RT.out]; rfl, gb_trans G2.out G4.out⟩
      · have RT := Lib.hid (show R = false by rw [RX.out]; exact decide_eq_false hi)
        clear RX
        go_wp2
        go_ret
        exact ⟨by rw [RT.out]; rfl, gb_trans G2.out G4.out⟩
  · have RX := Lib.hid (show R = decide (b.pr < a.pr) by rw [HR.out]; exact prec_pr hp)
    have pe : (a.pr != b.pr) = true := by rw [bne_iff_ne]; exact hp
    clear hp HR
    by_cases hi : b.pr < a.pr
    · have RT := Lib.hid (show R = true by rw [RX.out]; exact decide_eq_true hi)
      clear RX
      go_wp2
      go_ret
      exact ⟨by rw [RT.out]; rfl, gb_trans G2.out (gb_refl _ _)⟩
    · have RT := Lib.hid (show R = false by rw [RX.out]; exact decide_eq_false hi)
      clear RX
      go_wp2
      go_ret
      exact ⟨by rw [RT.out]; rfl, gb_trans G2.out (gb_refl _ _)⟩
set_option maxRecDepth 100000 in
set_option maxHeartbeats 4000000 in
theorem rprec_any (w : World) (X : PX) (P : Pg) (hp : SP w X P) (hz : szT P) (t : Int) (ia ib : Int) (Y Z : EX) (a b : En) (ha : SE w Y a) (hb : SE w Z b) : Calls Try.prog 17 #[.agg #[.string X.nm, .slice X.ha X.hn X.hc, .slice X.ma X.mn X.mc, .slice X.ra X.rn X.rc, .slice X.aa X.an X.ac, .slice X.ta X.tn X.tc, .slice X.sa X.sn X.sc, .slice X.ca X.cn X.cc, .slice X.da X.dn X.dc], .int .i64 t, .agg #[.int .i64 ia, .slice Y.ka Y.kn Y.kc, .int .i64 a.pr, .int .i64 a.ac, .slice Y.ra Y.rn Y.rc], .agg #[.int .i64 ib, .slice Z.ka Z.kn Z.kc, .int .i64 b.pr, .int .i64 b.ac, .slice Z.ra Z.rn Z.rc]] w (RetV (.bool (precE P t ia a ib b)) w) := by
  have HP := Lib.hid hp
  have HZ := Lib.hid hz
  have HA := Lib.hid ha
  have HB := Lib.hid hb
  obtain ⟨R, hR⟩ : ∃ R, R = precE P t ia a ib b := ⟨_, rfl⟩
  have HR := Lib.hid hR
  rw [← hR]
  have G2 := Lib.hid (gb_trans (gb_trans (gb_alloc w (.cells #[.string X.nm, .slice X.ha X.hn X.hc, .slice X.ma X.mn X.mc, .slice X.ra X.rn X.rc, .slice X.aa X.an X.ac, .slice X.ta X.tn X.tc, .slice X.sa X.sn X.sc, .slice X.ca X.cn X.cc, .slice X.da X.dn X.dc] 31) none) (gb_alloc _ (.cells #[.int .i64 ia, .slice Y.ka Y.kn Y.kc, .int .i64 a.pr, .int .i64 a.ac, .slice Y.ra Y.rn Y.rc] 46) none)) (gb_alloc _ (.cells #[.int .i64 ib, .slice Z.ka Z.kn Z.kc, .int .i64 b.pr, .int .i64 b.ac, .slice Z.ra Z.rn Z.rc] 46) none))
  have B0 := ((IsB.new w 31 #[.string X.nm, .slice X.ha X.hn X.hc, .slice X.ma X.mn X.mc, .slice X.ra X.rn X.rc, .slice X.aa X.an X.ac, .slice X.ta X.tn X.tc, .slice X.sa X.sn X.sc, .slice X.ca X.cn X.cc, .slice X.da X.dn X.dc]).alloc (.cells #[.int .i64 ia, .slice Y.ka Y.kn Y.kc, .int .i64 a.pr, .int .i64 a.ac, .slice Y.ra Y.rn Y.rc] 46)).alloc (.cells #[.int .i64 ib, .slice Z.ka Z.kn Z.kc, .int .i64 b.pr, .int .i64 b.ac, .slice Z.ra Z.rn Z.rc] 46)
  have B1 := (IsB.new (w.alloc (.cells #[.string X.nm, .slice X.ha X.hn X.hc, .slice X.ma X.mn X.mc, .slice X.ra X.rn X.rc, .slice X.aa X.an X.ac, .slice X.ta X.tn X.tc, .slice X.sa X.sn X.sc, .slice X.ca X.cn X.cc, .slice X.da X.dn X.dc] 31)) 46 #[.int .i64 ia, .slice Y.ka Y.kn Y.kc, .int .i64 a.pr, .int .i64 a.ac, .slice Y.ra Y.rn Y.rc]).alloc (.cells #[.int .i64 ib, .slice Z.ka Z.kn Z.kc, .int .i64 b.pr, .int .i64 b.ac, .slice Z.ra Z.rn Z.rc] 46)
  have B2 := IsB.new ((w.alloc (.cells #[.string X.nm, .slice X.ha X.hn X.hc, .slice X.ma X.mn X.mc, .slice X.ra X.rn X.rc, .slice X.aa X.an X.ac, .slice X.ta X.tn X.tc, .slice X.sa X.sn X.sc, .slice X.ca X.cn X.cc, .slice X.da X.dn X.dc] 31)).alloc (.cells #[.int .i64 ia, .slice Y.ka Y.kn Y.kc, .int .i64 a.pr, .int .i64 a.ac, .slice Y.ra Y.rn Y.rc] 46)) 46 #[.int .i64 ib, .slice Z.ka Z.kn Z.kc, .int .i64 b.pr, .int .i64 b.ac, .slice Z.ra Z.rn Z.rc]
  simp only [sz_al] at B1 B2
  replace B0 := Lib.hid B0
  replace B1 := Lib.hid B1
  replace B2 := Lib.hid B2
  clear hp hz ha hb hR
  go_enter Try.func17, Try.ntmps17
  go_upto_region 1 with fail
  generalize ((w.alloc (.cells #[.string X.nm, .slice X.ha X.hn X.hc, .slice X.ma X.mn X.mc, .slice X.ra X.rn X.rc, .slice X.aa X.an X.ac, .slice X.ta X.tn X.tc, .slice X.sa X.sn X.sc, .slice X.ca X.cn X.cc, .slice X.da X.dn X.dc] 31)).alloc (.cells #[.int .i64 ia, .slice Y.ka Y.kn Y.kc, .int .i64 a.pr, .int .i64 a.ac, .slice Y.ra Y.rn Y.rc] 46)).alloc (.cells #[.int .i64 ib, .slice Z.ka Z.kn Z.kc, .int .i64 b.pr, .int .i64 b.ac, .slice Z.ra Z.rn Z.rc] 46) = w2 at *
  obtain ⟨bx, hbx⟩ : ∃ b, b = w.heap.size := ⟨_, rfl⟩
  have Lbx := Lib.hid (show w.heap.size ≤ bx by rw [hbx]; exact Nat.le_refl _)
  rw [← hbx] at B0 B1 B2 ⊢
  clear hbx
  replace HP := Lib.hid (HP.out.keep0 G2.out)
  replace HA := Lib.hid (HA.out.keep0 G2.out)
  replace HB := Lib.hid (HB.out.keep0 G2.out)
  have O1 := Lib.hid (fun (W : World) (g : w2.grownBy W none) => rpre_any W X P (HP.out.keep0 g) HZ.out t Y a (HA.out.keep0 g))
  have O2 := Lib.hid (fun (W : World) (g : w2.grownBy W none) => rpre_any W X P (HP.out.keep0 g) HZ.out t Z b (HB.out.keep0 g))
  have RO := Lib.hid (fun (h : a.pr = b.pr) (k : onesE a.ks (lpmT P t) ≠ onesE b.ks (lpmT P t)) => show R = decide (onesE b.ks (lpmT P t) < onesE a.ks (lpmT P t)) by rw [HR.out]; exact prec_on h k)
  have RI_ := Lib.hid (fun (h : a.pr = b.pr) (k : onesE a.ks (lpmT P t) = onesE b.ks (lpmT P t)) => show R = decide (ia < ib) by rw [HR.out]; exact prec_id h k)
  generalize onesE a.ks (lpmT P t) = m1 at *
  generalize onesE b.ks (lpmT P t) = m2 at *
  have KQ := Lib.hid (fun (w' : World) (q0 : w2.grownBy w' none) => (⟨(B0.out.keep0 (gb_trans (gb_refl _ _) q0)).cell 0, (B0.out.keep0 (gb_trans (gb_refl _ _) q0)).cell 1, (B0.out.keep0 (gb_trans (gb_refl _ _) q0)).cell 2, (B0.out.keep0 (gb_trans (gb_refl _ _) q0)).cell 3, (B0.out.keep0 (gb_trans (gb_refl _ _) q0)).cell 4, (B0.out.keep0 (gb_trans (gb_refl _ _) q0)).cell 5, (B0.out.keep0 (gb_trans (gb_refl _ _) q0)).cell 6, (B0.out.keep0 (gb_trans (gb_refl _ _) q0)).cell 7, (B0.out.keep0 (gb_trans (gb_refl _ _) q0)).cell 8, (B1.out.keep0 (gb_trans (gb_refl _ _) q0)).cell 1, (B1.out.keep0 (gb_trans (gb_refl _ _) q0)).cell 2, (B1.out.keep0 (gb_trans (gb_refl _ _) q0)).cell 3, (B1.out.keep0 (gb_trans (gb_refl _ _) q0)).cell 4, (B2.out.keep0 (gb_trans (gb_refl _ _) q0)).cell 1, (B2.out.keep0 (gb_trans (gb_refl _ _) q0)).cell 2, (B2.out.keep0 (gb_trans (gb_refl _ _) q0)).cell 3, (B2.out.keep0 (gb_trans (gb_refl _ _) q0)).cell 4, q0⟩ : (fun w' : World => w'.cell? ⟨bx, 0, none⟩ = some (.string X.nm) ∧ w'.cell? ⟨bx, 1, none⟩ = some (.slice X.ha X.hn X.hc) ∧ w'.cell? ⟨bx, 2, none⟩ = some (.slice X.ma X.mn X.mc) ∧ w'.cell? ⟨bx, 3, none⟩ = some (.slice X.ra X.rn X.rc) ∧ w'.cell? ⟨bx, 4, none⟩ = some (.slice X.aa X.an X.ac) ∧ w'.cell? ⟨bx, 5, none⟩ = some (.slice X.ta X.tn X.tc) ∧ w'.cell? ⟨bx, 6, none⟩ = some (.slice X.sa X.sn X.sc) ∧ w'.cell? ⟨bx, 7, none⟩ = some (.slice X.ca X.cn X.cc) ∧ w'.cell? ⟨bx, 8, none⟩ = some (.slice X.da X.dn X.dc) ∧ w'.cell? ⟨bx + 1, 1, none⟩ = some (.slice Y.ka Y.kn Y.kc) ∧ w'.cell? ⟨bx + 1, 2, none⟩ = some (.int .i64 a.pr) ∧ w'.cell? ⟨bx + 1, 3, none⟩ = some (.int .i64 a.ac) ∧ w'.cell? ⟨bx + 1, 4, none⟩ = some (.slice Y.ra Y.rn Y.rc) ∧ w'.cell? ⟨bx + 1 + 1, 1, none⟩ = some (.slice Z.ka Z.kn Z.kc) ∧ w'.cell? ⟨bx + 1 + 1, 2, none⟩ = some (.int .i64 b.pr) ∧ w'.cell? ⟨bx + 1 + 1, 3, none⟩ = some (.int .i64 b.ac) ∧ w'.cell? ⟨bx + 1 + 1, 4, none⟩ = some (.slice Z.ra Z.rn Z.rc) ∧ w2.grownBy w' none) w'))
  have Q0 := Lib.hid (gb_drew w2 none)
  refine wp_region_held_drew (S := (fun w' : World => w'.cell? ⟨bx, 0, none⟩ = some (.string X.nm) ∧ w'.cell? ⟨bx, 1, none⟩ = some (.slice X.ha X.hn X.hc) ∧ w'.cell? ⟨bx, 2, none⟩ = some (.slice X.ma X.mn X.mc) ∧ w'.cell? ⟨bx, 3, none⟩ = some (.slice X.ra X.rn X.rc) ∧ w'.cell? ⟨bx, 4, none⟩ = some (.slice X.aa X.an X.ac) ∧ w'.cell? ⟨bx, 5, none⟩ = some (.slice X.ta X.tn X.tc) ∧ w'.cell? ⟨bx, 6, none⟩ = some (.slice X.sa X.sn X.sc) ∧ w'.cell? ⟨bx, 7, none⟩ = some (.slice X.ca X.cn X.cc) ∧ w'.cell? ⟨bx, 8, none⟩ = some (.slice X.da X.dn X.dc) ∧ w'.cell? ⟨bx + 1, 1, none⟩ = some (.slice Y.ka Y.kn Y.kc) ∧ w'.cell? ⟨bx + 1, 2, none⟩ = some (.int .i64 a.pr) ∧ w'.cell? ⟨bx + 1, 3, none⟩ = some (.int .i64 a.ac) ∧ w'.cell? ⟨bx + 1, 4, none⟩ = some (.slice Y.ra Y.rn Y.rc) ∧ w'.cell? ⟨bx + 1 + 1, 1, none⟩ = some (.slice Z.ka Z.kn Z.kc) ∧ w'.cell? ⟨bx + 1 + 1, 2, none⟩ = some (.int .i64 b.pr) ∧ w'.cell? ⟨bx + 1 + 1, 3, none⟩ = some (.int .i64 b.ac) ∧ w'.cell? ⟨bx + 1 + 1, 4, none⟩ = some (.slice Z.ra Z.rn Z.rc) ∧ w2.grownBy w' none)) (by kernel_rfl) (KQ.out _ Q0.out) (fun hH0 => ?_)
  refine wpAnyH_take (i := 0) (v := ?v9) rfl (by kernel_rfl) (by kernel_rfl) (by kernel_rfl) (fun _ _ _ h => h) (Or.inl ⟨by rfl, ?hy9⟩) (by assumption) ?rest9
  case hy9 => (intro wz hSw; (try dsimp only at hSw); first | (go_simp; done) | (go_simp; with_reducible rfl))
  try simp only [Act.put, List.getElem_toArray, List.getElem_cons_zero, List.setIfInBounds_toArray, List.set_cons_zero, List.set_cons_succ]
  refine wpAnyH_take (i := 1) (v := ?v10) rfl (by kernel_rfl) (by kernel_rfl) (by kernel_rfl) (fun _ _ _ h => h) (Or.inl ⟨by rfl, ?hy10⟩) (by assumption) ?rest10
  case hy10 => (intro wz hSw; (try dsimp only at hSw); first | (go_simp; done) | (go_simp; with_reducible rfl))
  try simp only [Act.put, List.getElem_toArray, List.getElem_cons_succ, List.getElem_cons_zero, List.setIfInBounds_toArray, List.set_cons_zero, List.set_cons_succ]
  refine wpAnyH_take (i := 2) (v := ?v11) rfl (by kernel_rfl) (by kernel_rfl) (by kernel_rfl) (fun _ _ _ h => h) (Or.inl ⟨by rfl, ?hy11⟩) (by assumption) ?rest11
  case hy11 => (intro wz hSw; (try dsimp only at hSw); first | (go_simp; done) | (go_simp; with_reducible rfl))
  try simp only [Act.put, List.getElem_toArray, List.getElem_cons_succ, List.getElem_cons_zero, List.setIfInBounds_toArray, List.set_cons_zero, List.set_cons_succ]
  refine wpAnyH_take (i := 3) (v := ?v12) rfl (by kernel_rfl) (by kernel_rfl) (by kernel_rfl) (fun _ _ _ h => h) (Or.inl ⟨by rfl, ?hy12⟩) (by assumption) ?rest12
  case hy12 => (intro wz hSw; (try dsimp only at hSw); first | (go_simp; done) | (go_simp; with_reducible rfl))
  try simp only [Act.put, List.getElem_toArray, List.getElem_cons_succ, List.getElem_cons_zero, List.setIfInBounds_toArray, List.set_cons_zero, List.set_cons_succ]
  refine wpAnyH_take (i := 5) (v := ?v13) rfl (by kernel_rfl) (by kernel_rfl) (by kernel_rfl) (fun _ _ _ h => h) (Or.inl ⟨by rfl, ?hy13⟩) (by assumption) ?rest13
  case hy13 => (intro wz hSw; (try dsimp only at hSw); first | (go_simp; done) | (go_simp; with_reducible rfl))
  try simp only [Act.put, List.getElem_toArray, List.getElem_cons_succ, List.getElem_cons_zero, List.setIfInBounds_toArray, List.set_cons_zero, List.set_cons_succ]
  refine wpAnyH_take (i := 6) (v := ?v14) rfl (by kernel_rfl) (by kernel_rfl) (by kernel_rfl) (fun _ _ _ h => h) (Or.inl ⟨by rfl, ?hy14⟩) (by assumption) ?rest14
  case hy14 => (intro wz hSw; (try dsimp only at hSw); first | (go_simp; done) | (go_simp; with_reducible rfl))
  try simp only [Act.put, List.getElem_toArray, List.getElem_cons_succ, List.getElem_cons_zero, List.setIfInBounds_toArray, List.set_cons_zero, List.set_cons_succ]
  refine wpAnyH_take (i := 7) (v := ?v15) rfl (by kernel_rfl) (by kernel_rfl) (by kernel_rfl) (fun _ _ _ h => h) (Or.inl ⟨by rfl, ?hy15⟩) (by assumption) ?rest15
  case hy15 => (intro wz hSw; (try dsimp only at hSw); first | (go_simp; done) | (go_simp; with_reducible rfl))
  try simp only [Act.put, List.getElem_toArray, List.getElem_cons_succ, List.getElem_cons_zero, List.setIfInBounds_toArray, List.set_cons_zero, List.set_cons_succ]
  refine wpAnyH_take (i := 8) (v := ?v16) rfl (by kernel_rfl) (by kernel_rfl) (by kernel_rfl) (fun _ _ _ h => h) (Or.inl ⟨by rfl, ?hy16⟩) (by assumption) ?rest16
  case hy16 => (intro wz hSw; (try dsimp only at hSw); first | (go_simp; done) | (go_simp; with_reducible rfl))
  try simp only [Act.put, List.getElem_toArray, List.getElem_cons_succ, List.getElem_cons_zero, List.setIfInBounds_toArray, List.set_cons_zero, List.set_cons_succ]
  refine wpAnyH_ready (rs := [4]) (by kernel_rfl) (by simp) ?_
  refine AllReadyH.cons (o := _) rfl (fun K hK => ?_) AllReadyH.nil
  go_simp
  (with_reducible refine (O1.out _ Q0.out).mono ?_)
  rintro e qw1 ⟨rfl, g⟩
  have Q1 := Lib.hid (gb_trans Q0.out g)
  clear g
  try dsimp only
  refine hK.out _ _ (KQ.out _ Q1.out) (fun hH1 => ?_)
  clear hK K hH0
  try simp only [Act.put, List.getElem_toArray, List.getElem_cons_succ, List.getElem_cons_zero, List.setIfInBounds_toArray, List.set_cons_zero, List.set_cons_succ]
  refine wpAnyH_ready (rs := [9]) (by kernel_rfl) (by simp) ?_
  refine AllReadyH.cons (o := _) rfl (fun K hK => ?_) AllReadyH.nil
  go_simp
  (with_reducible refine (O2.out _ Q1.out).mono ?_)
  rintro e qw2 ⟨rfl, g⟩
  have Q2 := Lib.hid (gb_trans Q1.out g)
  clear g
  try dsimp only
  refine hK.out _ _ (KQ.out _ Q2.out) (fun hH2 => ?_)
  clear hK K hH1
  try simp only [Act.put, List.getElem_toArray, List.getElem_cons_succ, List.getElem_cons_zero, List.setIfInBounds_toArray, List.set_cons_zero, List.set_cons_succ]
  refine wpAnyH_take (i := 10) (v := ?v17) rfl (by kernel_rfl) (by kernel_rfl) (by kernel_rfl) (fun _ _ _ h => h) (Or.inl ⟨by rfl, ?hy17⟩) (by assumption) ?rest17
  case hy17 => (intro wz hSw; (try dsimp only at hSw); first | (go_simp; done) | (go_simp; with_reducible rfl))
  try simp only [Act.put, List.getElem_toArray, List.getElem_cons_succ, List.getElem_cons_zero, List.setIfInBounds_toArray, List.set_cons_zero, List.set_cons_succ]
  refine wpAnyH_take (i := 11) (v := ?v18) rfl (by kernel_rfl) (by kernel_rfl) (by kernel_rfl) (fun _ _ _ h => h) (Or.inl ⟨by rfl, ?hy18⟩) (by assumption) ?rest18
  case hy18 => (intro wz hSw; (try dsimp only at hSw); first | (go_simp; done) | (go_simp; with_reducible rfl))
  try simp only [Act.put, List.getElem_toArray, List.getElem_cons_succ, List.getElem_cons_zero, List.setIfInBounds_toArray, List.set_cons_zero, List.set_cons_succ]
  refine wpAnyH_done (by kernel_rfl) ?_ _
  clear hH2
  have G3 := Lib.hid Q2.out
  have d0 := (B1.out.keep0 G3.out).cell 0
  have e0 := (B2.out.keep0 G3.out).cell 0
  have d1 := (B1.out.keep0 G3.out).cell 1
  have e1 := (B2.out.keep0 G3.out).cell 1
  have d2 := (B1.out.keep0 G3.out).cell 2
  have e2 := (B2.out.keep0 G3.out).cell 2
  have d3 := (B1.out.keep0 G3.out).cell 3
  have e3 := (B2.out.keep0 G3.out).cell 3
  have d4 := (B1.out.keep0 G3.out).cell 4
  have e4 := (B2.out.keep0 G3.out).cell 4
  dsimp at d0 e0 d1 e1 d2 e2 d3 e3 d4 e4
  by_cases hp : a.pr = b.pr
  · have pe : (a.pr != b.pr) = false := by rw [bne_eq_false_iff_eq]; exact hp
    replace RO := Lib.hid (RO.out hp)
    replace RI_ := Lib.hid (RI_.out hp)
    clear hp HR
    have G4 := Lib.hid (gb_trans G3.out (gb_refl _ _))
    by_cases hm : m1 = m2
    · have me : (m1 != m2) = false := by rw [bne_eq_false_iff_eq]; exact hm
      have RX := Lib.hid (RI_.out hm)
      clear hm RO RI_
      by_cases hi : ia < ib
      · have RT := Lib.hid (show R = true by rw [RX.out]; exact decide_eq_true hi)
        clear RX
        go_wp2
        go_ret
        exact ⟨by rw [RT.out]; rfl, gb_trans G2.out G4.out⟩
      · have RT := Lib.hid (show R = false by rw [RX.out]; exact decide_eq_false hi)
        clear RX
        go_wp2
        go_ret
        exact ⟨by rw [RT.out]; rfl, gb_trans G2.out G4.out⟩
    · have me : (m1 != m2) = true := by rw [bne_iff_ne]; exact hm
      have RX := Lib.hid (RO.out hm)
      clear hm RO RI_
      by_cases hi : m2 < m1
      · have RT := Lib.hid (show R = true by rw [RX.out]; exact decide_eq_true hi)
        clear RX
        go_wp2
        go_ret
        exact ⟨by rw [RT.out]; rfl, gb_trans G2.out G4.out⟩
      · have RT := Lib.hid (show R = false by rw [RX.out]; exact decide_eq_false hi)
        clear RX
        go_wp2
        go_ret
        exact ⟨by rw [RT.out]; rfl, gb_trans G2.out G4.out⟩
  · have RX := Lib.hid (show R = decide (b.pr < a.pr) by rw [HR.out]; exact prec_pr hp)
    have pe : (a.pr != b.pr) = true := by rw [bne_iff_ne]; exact hp
    clear hp HR
    by_cases hi : b.pr < a.pr
    · have RT := Lib.hid (show R = true by rw [RX.out]; exact decide_eq_true hi)
      clear RX
      go_wp2
      go_ret
      exact ⟨by rw [RT.out]; rfl, gb_trans G2.out G3.out⟩
    · have RT := Lib.hid (show R = false by rw [RX.out]; exact decide_eq_false hi)
      clear RX
      go_wp2
      go_ret
      exact ⟨by rw [RT.out]; rfl, gb_trans G2.out G3.out⟩
end Go.Proofs.Ytgdefahnmgonlaa
