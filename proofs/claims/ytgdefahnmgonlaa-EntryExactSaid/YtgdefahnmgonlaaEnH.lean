/- Entries: the check of an entry, in the program; no condition but sizes. -/
import Derived.Test.YtgdefahnmgonlaaEnG
import Derived.Test.YtgdefahnmgonlaaTbJ
import Derived.Deep.QuietTactic
import Derived.BigQuiet
namespace Go.Proofs.Ytgdefahnmgonlaa
open Go.RowKit
set_option linter.unusedVariables false
/-- What Check answers behind the check of the table. -/
def chkX (P : Pg) (t : Int) (x : En) : Int :=
  if ckL (tabV P t).ks (wsT P.H P.M (tabV P t).ks) x.ks = 0 then (if prE x.pr (kindT P t) = 0 then (if x.ac ∈ (tabV P t).acs then callE P.A x.ac x.ar else 8) else prE x.pr (kindT P t)) else ckL (tabV P t).ks (wsT P.H P.M (tabV P t).ks) x.ks
def chkN (P : Pg) (t : Int) (x : En) : Int := if (chkT P t).2 = 0 then chkX P t x else (chkT P t).2
theorem chkN_bad {P : Pg} {t : Int} {x : En} (h : (chkT P t).2 ≠ 0) : chkN P t x = (chkT P t).2 := by unfold chkN; rw [if_neg h]
theorem chkN_key {P : Pg} {t : Int} {x : En} (h : (chkT P t).2 = 0) (k : ckL (tabV P t).ks (wsT P.H P.M (tabV P t).ks) x.ks ≠ 0) : chkN P t x = ckL (tabV P t).ks (wsT P.H P.M (tabV P t).ks) x.ks := by unfold chkN chkX; rw [if_pos h, if_neg k]
theorem chkN_pr {P : Pg} {t : Int} {x : En} (h : (chkT P t).2 = 0) (k : ckL (tabV P t).ks (wsT P.H P.M (tabV P t).ks) x.ks = 0) (p : prE x.pr (kindT P t) ≠ 0) : chkN P t x = prE x.pr (kindT P t) := by unfold chkN chkX; rw [if_pos h, if_pos k, if_neg p]
theorem chkN_al {P : Pg} {t : Int} {x : En} (h : (chkT P t).2 = 0) (k : ckL (tabV P t).ks (wsT P.H P.M (tabV P t).ks) x.ks = 0) (p : prE x.pr (kindT P t) = 0) (a : ¬ x.ac ∈ (tabV P t).acs) : chkN P t x = 8 := by unfold chkN chkX; rw [if_pos h, if_pos k, if_pos p, if_neg a]
theorem chkN_call {P : Pg} {t : Int} {x : En} (h : (chkT P t).2 = 0) (k : ckL (tabV P t).ks (wsT P.H P.M (tabV P t).ks) x.ks = 0) (p : prE x.pr (kindT P t) = 0) (a : x.ac ∈ (tabV P t).acs) : chkN P t x = callE P.A x.ac x.ar := by unfold chkN chkX; rw [if_pos h, if_pos k, if_pos p, if_pos a]
set_option maxRecDepth 100000 in
set_option maxHeartbeats 20000000 in
theorem pcheck_any (w : World) (X : PX) (P : Pg) (hp : SP w X P) (hz : szT P) (t : Int) (Y : EX) (x : En) (h : SE w Y x) (hn : Y.rn ≤ 1000) : Calls Try.prog 12 #[.agg #[.string X.nm, .slice X.ha X.hn X.hc, .slice X.ma X.mn X.mc, .slice X.ra X.rn X.rc, .slice X.aa X.an X.ac, .slice X.ta X.tn X.tc, .slice X.sa X.sn X.sc, .slice X.ca X.cn X.cc, .slice X.da X.dn X.dc], .int .i64 t, .agg #[.slice Y.ka Y.kn Y.kc, .int .i64 x.pr, .int .i64 x.ac, .slice Y.ra Y.rn Y.rc]] w (RetV (.int .i64 (chkN P t x)) w) := by
  have HP := Lib.hid hp
  have HZ := Lib.hid hz
  have HE := Lib.hid h
  have HN := Lib.hid hn
  obtain ⟨R, hR⟩ : ∃ R, R = chkN P t x := ⟨_, rfl⟩
  have HR := Lib.hid hR
  rw [← hR]
  have G2 := Lib.hid (gb_trans (gb_alloc w (.cells #[.string X.nm, .slice X.ha X.hn X.hc, .slice X.ma X.mn X.mc, .slice X.ra X.rn X.rc, .slice X.aa X.an X.ac, .slice X.ta X.tn X.tc, .slice X.sa X.sn X.sc, .slice X.ca X.cn X.cc, .slice X.da X.dn X.dc] 31) none) (gb_alloc _ (.cells #[.slice Y.ka Y.kn Y.kc, .int .i64 x.pr, .int .i64 x.ac, .slice Y.ra Y.rn Y.rc] 37) none))
  have B1 := (IsB.new w 31 #[.string X.nm, .slice X.ha X.hn X.hc, .slice X.ma X.mn X.mc, .slice X.ra X.rn X.rc, .slice X.aa X.an X.ac, .slice X.ta X.tn X.tc, .slice X.sa X.sn X.sc, .slice X.ca X.cn X.cc, .slice X.da X.dn X.dc]).alloc (.cells #[.slice Y.ka Y.kn Y.kc, .int .i64 x.pr, .int .i64 x.ac, .slice Y.ra Y.rn Y.rc] 37)
  have B2 := IsB.new (w.alloc (.cells #[.string X.nm, .slice X.ha X.hn X.hc, .slice X.ma X.mn X.mc, .slice X.ra X.rn X.rc, .slice X.aa X.an X.ac, .slice X.ta X.tn X.tc, .slice X.sa X.sn X.sc, .slice X.ca X.cn X.cc, .slice X.da X.dn X.dc] 31)) 37 #[.slice Y.ka Y.kn Y.kc, .int .i64 x.pr, .int .i64 x.ac, .slice Y.ra Y.rn Y.rc]
  simp only [sz_al] at B2
  replace B1 := Lib.hid B1
  replace B2 := Lib.hid B2
  clear hp hz h hn hR
  go_enter Try.func12, Try.ntmps12
  go_upto_region 1 with fail
  generalize (w.alloc (.cells #[.string X.nm, .slice X.ha X.hn X.hc, .slice X.ma X.mn X.mc, .slice X.ra X.rn X.rc, .slice X.aa X.an X.ac, .slice X.ta X.tn X.tc, .slice X.sa X.sn X.sc, .slice X.ca X.cn X.cc, .slice X.da X.dn X.dc] 31)).alloc (.cells #[.slice Y.ka Y.kn Y.kc, .int .i64 x.pr, .int .i64 x.ac, .slice Y.ra Y.rn Y.rc] 37) = w2 at *
  obtain ⟨bx, hbx⟩ : ∃ b, b = w.heap.size := ⟨_, rfl⟩
  have Lbx := Lib.hid (show w.heap.size ≤ bx by rw [hbx]; exact Nat.le_refl _)
  rw [← hbx] at B1 B2 ⊢
  clear hbx
  replace HP := Lib.hid (fun (W : World) (g : w2.grownBy W none) => HP.out.keep0 (gb_trans G2.out g))
  replace HE := Lib.hid (fun (W : World) (g : w2.grownBy W none) => HE.out.keep0 (gb_trans G2.out g))
  have R1 := Lib.hid (fun (h : (chkT P t).2 ≠ 0) => show R = (chkT P t).2 by rw [HR.out]; exact chkN_bad h)
  obtain ⟨e1, he1⟩ : ∃ e, e = (chkT P t).2 := ⟨_, rfl⟩
  have E1 := Lib.hid he1
  have TC := pchk_any w2 X P (HP.out _ (gb_refl _ _)) HZ.out t
  rw [← he1] at TC R1
  replace TC := Lib.hid TC
  generalize (chkT P t).1 = r1 at *
  clear he1
  have c0 := (B1.out.keep0 (gb_refl _ _)).cell 0
  have c1 := (B1.out.keep0 (gb_refl _ _)).cell 1
  have c2 := (B1.out.keep0 (gb_refl _ _)).cell 2
  have c3 := (B1.out.keep0 (gb_refl _ _)).cell 3
  have c4 := (B1.out.keep0 (gb_refl _ _)).cell 4
  have c5 := (B1.out.keep0 (gb_refl _ _)).cell 5
  have c6 := (B1.out.keep0 (gb_refl _ _)).cell 6
  have c7 := (B1.out.keep0 (gb_refl _ _)).cell 7
  have c8 := (B1.out.keep0 (gb_refl _ _)).cell 8
  have d0 := (B2.out.keep0 (gb_refl _ _)).cell 0
  have d1 := (B2.out.keep0 (gb_refl _ _)).cell 1
  have d2 := (B2.out.keep0 (gb_refl _ _)).cell 2
  have d3 := (B2.out.keep0 (gb_refl _ _)).cell 3
  dsimp at c0 c1 c2 c3 c4 c5 c6 c7 c8 d0 d1 d2 d3
  go_wp2_with fail
  refine (TC.out).mono ?_
  rintro e x1 ⟨rfl, g⟩
  have K1 := Lib.hid (gb_trans (gb_refl _ _) g)
  clear g
  clear c0 c1 c2 c3 c4 c5 c6 c7 c8 d0 d1 d2 d3
  by_cases q1 : e1 = 0
  · have ne1 : (e1 != 0) = false := by rw [q1]; rfl
    have OK := Lib.hid (show okT P t = true by unfold okT; exact decide_eq_true (by rw [← E1.out]; exact q1))
    have TZ := Lib.hid (show (chkT P t).2 = 0 by rw [← E1.out]; exact q1)
    clear q1 R1
    obtain ⟨k, rfl, hk⟩ := ok_in OK.out
    have HK := Lib.hid (show k < X.tn by rw [← (HP.out _ (gb_refl _ _)).t.len]; exact hk)
    clear hk
    have CL := Lib.hid (fun (W : World) (g : w2.grownBy W none) => (by have q := pckl_any W X P (HP.out _ g) HZ.out k HK.out OK.out Y.ka Y.kn Y.kc x.ks (HE.out _ g).k; rw [← ok_tabV OK.out] at q; exact q : Calls Try.prog 26 #[.agg #[.string X.nm, .slice X.ha X.hn X.hc, .slice X.ma X.mn X.mc, .slice X.ra X.rn X.rc, .slice X.aa X.an X.ac, .slice X.ta X.tn X.tc, .slice X.sa X.sn X.sc, .slice X.ca X.cn X.cc, .slice X.da X.dn X.dc], .int .i64 k, .slice Y.ka Y.kn Y.kc] W (RetV (.int .i64 (ckL (tabV P k).ks (wsT P.H P.M (tabV P k).ks) x.ks)) W)))
    have R2 := Lib.hid (fun (q : ckL (tabV P k).ks (wsT P.H P.M (tabV P k).ks) x.ks ≠ 0) => show R = ckL (tabV P k).ks (wsT P.H P.M (tabV P k).ks) x.ks by rw [HR.out]; exact chkN_key TZ.out q)
    have R3 := Lib.hid (fun (q : ckL (tabV P k).ks (wsT P.H P.M (tabV P k).ks) x.ks = 0) (p : prE x.pr (kindT P k) ≠ 0) => show R = prE x.pr (kindT P k) by rw [HR.out]; exact chkN_pr TZ.out q p)
    have R4 := Lib.hid (fun (q : ckL (tabV P k).ks (wsT P.H P.M (tabV P k).ks) x.ks = 0) (p : prE x.pr (kindT P k) = 0) (a : ¬ x.ac ∈ (tabV P k).acs) => show R = 8 by rw [HR.out]; exact chkN_al TZ.out q p a)
    have R5 := Lib.hid (fun (q : ckL (tabV P k).ks (wsT P.H P.M (tabV P k).ks) x.ks = 0) (p : prE x.pr (kindT P k) = 0) (a : x.ac ∈ (tabV P k).acs) => show R = callE P.A x.ac x.ar by rw [HR.out]; exact chkN_call TZ.out q p a)
    generalize ckL (tabV P k).ks (wsT P.H P.M (tabV P k).ks) x.ks = e2 at *
    have c0 := (B1.out.keep0 K1.out).cell 0
    have c1 := (B1.out.keep0 K1.out).cell 1
    have c2 := (B1.out.keep0 K1.out).cell 2
    have c3 := (B1.out.keep0 K1.out).cell 3
    have c4 := (B1.out.keep0 K1.out).cell 4
    have c5 := (B1.out.keep0 K1.out).cell 5
    have c6 := (B1.out.keep0 K1.out).cell 6
    have c7 := (B1.out.keep0 K1.out).cell 7
    have c8 := (B1.out.keep0 K1.out).cell 8
    have d0 := (B2.out.keep0 K1.out).cell 0
    have d1 := (B2.out.keep0 K1.out).cell 1
    have d2 := (B2.out.keep0 K1.out).cell 2
    have d3 := (B2.out.keep0 K1.out).cell 3
    dsimp at c0 c1 c2 c3 c4 c5 c6 c7 c8 d0 d1 d2 d3
    go_wp2_with fail
    refine (CL.out _ K1.out).mono ?_
    rintro e x2 ⟨rfl, g⟩
    have K2 := Lib.hid (gb_trans K1.out g)
    clear g
    clear c0 c1 c2 c3 c4 c5 c6 c7 c8 d0 d1 d2 d3
    by_cases q2 : e2 = 0
    · have ne2 : (e2 != 0) = false := by rw [q2]; rfl
      replace R3 := Lib.hid (R3.out q2)
      replace R4 := Lib.hid (R4.out q2)
      replace R5 := Lib.hid (R5.out q2)
      clear q2 R2 CL
      have KD := Lib.hid (fun (W : World) (g : w2.grownBy W none) => pkind_any W X P (HP.out _ g) HZ.out (k : Int))
      generalize kindT P k = kd at *
      have PE := Lib.hid (fun W => pprio_any W x.pr kd)
      generalize prE x.pr kd = e3 at *
      have AL := Lib.hid (fun (W : World) (g : w2.grownBy W none) => pallows_any W X P (HP.out _ g) HZ.out (k : Int) x.ac (HE.out _ g).a)
      have CA := Lib.hid (fun (W : World) (g : w2.grownBy W none) => pcall_any W X P (HP.out _ g) x.ac Y.ra Y.rn Y.rc x.ar (HE.out _ g).r HN.out)
      generalize callE P.A x.ac x.ar = e5 at *
      go_upto_region 7 with fail
      have KQ := Lib.hid (fun (w' : World) (q0 : x2.grownBy w' none) => (⟨(B1.out.keep0 (gb_trans K2.out q0)).cell 0, (B1.out.keep0 (gb_trans K2.out q0)).cell 1, (B1.out.keep0 (gb_trans K2.out q0)).cell 2, (B1.out.keep0 (gb_trans K2.out q0)).cell 3, (B1.out.keep0 (gb_trans K2.out q0)).cell 4, (B1.out.keep0 (gb_trans K2.out q0)).cell 5, (B1.out.keep0 (gb_trans K2.out q0)).cell 6, (B1.out.keep0 (gb_trans K2.out q0)).cell 7, (B1.out.keep0 (gb_trans K2.out q0)).cell 8, (B2.out.keep0 (gb_trans K2.out q0)).cell 0, (B2.out.keep0 (gb_trans K2.out q0)).cell 1, (B2.out.keep0 (gb_trans K2.out q0)).cell 2, (B2.out.keep0 (gb_trans K2.out q0)).cell 3, q0⟩ : (fun w' : World => w'.cell? ⟨bx, 0, none⟩ = some (.string X.nm) ∧ w'.cell? ⟨bx, 1, none⟩ = some (.slice X.ha X.hn X.hc) ∧ w'.cell? ⟨bx, 2, none⟩ = some (.slice X.ma X.mn X.mc) ∧ w'.cell? ⟨bx, 3, none⟩ = some (.slice X.ra X.rn X.rc) ∧ w'.cell? ⟨bx, 4, none⟩ = some (.slice X.aa X.an X.ac) ∧ w'.cell? ⟨bx, 5, none⟩ = some (.slice X.ta X.tn X.tc) ∧ w'.cell? ⟨bx, 6, none⟩ = some (.slice X.sa X.sn X.sc) ∧ w'.cell? ⟨bx, 7, none⟩ = some (.slice X.ca X.cn X.cc) ∧ w'.cell? ⟨bx, 8, none⟩ = some (.slice X.da X.dn X.dc) ∧ w'.cell? ⟨bx + 1, 0, none⟩ = some (.slice Y.ka Y.kn Y.kc) ∧ w'.cell? ⟨bx + 1, 1, none⟩ = some (.int .i64 x.pr) ∧ w'.cell? ⟨bx + 1, 2, none⟩ = some (.int .i64 x.ac) ∧ w'.cell? ⟨bx + 1, 3, none⟩ = some (.slice Y.ra Y.rn Y.rc) ∧ x2.grownBy w' none) w'))
      have Q0 := Lib.hid (gb_drew x2 none)
      refine wp_region_held_drew (S := (fun w' : World => w'.cell? ⟨bx, 0, none⟩ = some (.string X.nm) ∧ w'.cell? ⟨bx, 1, none⟩ = some (.slice X.ha X.hn X.hc) ∧ w'.cell? ⟨bx, 2, none⟩ = some (.slice X.ma X.mn X.mc) ∧ w'.cell? ⟨bx, 3, none⟩ = some (.slice X.ra X.rn X.rc) ∧ w'.cell? ⟨bx, 4, none⟩ = some (.slice X.aa X.an X.ac) ∧ w'.cell? ⟨bx, 5, none⟩ = some (.slice X.ta X.tn X.tc) ∧ w'.cell? ⟨bx, 6, none⟩ = some (.slice X.sa X.sn X.sc) ∧ w'.cell? ⟨bx, 7, none⟩ = some (.slice X.ca X.cn X.cc) ∧ w'.cell? ⟨bx, 8, none⟩ = some (.slice X.da X.dn X.dc) ∧ w'.cell? ⟨bx + 1, 0, none⟩ = some (.slice Y.ka Y.kn Y.kc) ∧ w'.cell? ⟨bx + 1, 1, none⟩ = some (.int .i64 x.pr) ∧ w'.cell? ⟨bx + 1, 2, none⟩ = some (.int .i64 x.ac) ∧ w'.cell? ⟨bx + 1, 3, none⟩ = some (.slice Y.ra Y.rn Y.rc) ∧ x2.grownBy w' none)) (by kernel_rfl) (KQ.out _ Q0.out) (fun hH0 => ?_)
      refine wpAnyH_take (i := 0) (v := ?v97) rfl (by kernel_rfl) (by kernel_rfl) (by kernel_rfl) (fun _ _ _ h => h) (Or.inl ⟨by rfl, ?hy97⟩) (by assumption) ?rest97
      case hy97 => (intro wz hSw; (try dsimp only at hSw); first | (go_simp; done) | (go_simp; with_reducible rfl))
      try simp only [Act.put, List.getElem_toArray, List.getElem_cons_zero, List.setIfInBounds_toArray, List.set_cons_zero, List.set_cons_succ]
      refine wpAnyH_take (i := 1) (v := ?v98) rfl (by kernel_rfl) (by kernel_rfl) (by kernel_rfl) (fun _ _ _ h => h) (Or.inl ⟨by rfl, ?hy98⟩) (by assumption) ?rest98
      case hy98 => (intro wz hSw; (try dsimp only at hSw); first | (go_simp; done) | (go_simp; with_reducible rfl))
      try simp only [Act.put, List.getElem_toArray, List.getElem_cons_succ, List.getElem_cons_zero, List.setIfInBounds_toArray, List.set_cons_zero, List.set_cons_succ]
      refine wpAnyH_take (i := 2) (v := ?v99) rfl (by kernel_rfl) (by kernel_rfl) (by kernel_rfl) (fun _ _ _ h => h) (Or.inl ⟨by rfl, ?hy99⟩) (by assumption) ?rest99
      case hy99 => (intro wz hSw; (try dsimp only at hSw); first | (go_simp; done) | (go_simp; with_reducible rfl))
      try simp only [Act.put, List.getElem_toArray, List.getElem_cons_succ, List.getElem_cons_zero, List.setIfInBounds_toArray, List.set_cons_zero, List.set_cons_succ]
      refine wpAnyH_take (i := 3) (v := ?v100) rfl (by kernel_rfl) (by kernel_rfl) (by kernel_rfl) (fun _ _ _ h => h) (Or.inl ⟨by rfl, ?hy100⟩) (by assumption) ?rest100
      case hy100 => (intro wz hSw; (try dsimp only at hSw); first | (go_simp; done) | (go_simp; with_reducible rfl))
      try simp only [Act.put, List.getElem_toArray, List.getElem_cons_succ, List.getElem_cons_zero, List.setIfInBounds_toArray, List.set_cons_zero, List.set_cons_succ]
      refine wpAnyH_ready (rs := [4]) (by kernel_rfl) (by simp) ?_
      refine AllReadyH.cons (o := _) rfl (fun K hK => ?_) AllReadyH.nil
      go_simp
      (with_reducible refine (KD.out _ (gb_trans K2.out Q0.out)).mono ?_)
      rintro e qw1 ⟨rfl, g⟩
      have Q1 := Lib.hid (gb_trans Q0.out g)
      clear g
      try dsimp only
      refine hK.out _ _ (KQ.out _ Q1.out) (fun hH1 => ?_)
      clear hK K hH0
      try simp only [Act.put, List.getElem_toArray, List.getElem_cons_succ, List.getElem_cons_zero, List.setIfInBounds_toArray, List.set_cons_zero, List.set_cons_succ]
      refine wpAnyH_ready (rs := [5]) (by kernel_rfl) (by simp) ?_
      refine AllReadyH.cons (o := _) rfl (fun K hK => ?_) AllReadyH.nil
      go_simp
      (with_reducible refine (PE.out _).mono ?_)
      rintro e qw2 ⟨rfl, g⟩
      have Q2 := Lib.hid (gb_trans Q1.out g)
      clear g
      try dsimp only
      refine hK.out _ _ (KQ.out _ Q2.out) (fun hH2 => ?_)
      clear hK K hH1
      try simp only [Act.put, List.getElem_toArray, List.getElem_cons_succ, List.getElem_cons_zero, List.setIfInBounds_toArray, List.set_cons_zero, List.set_cons_succ]
      refine wpAnyH_take (i := 6) (v := ?v101) rfl (by kernel_rfl) (by kernel_rfl) (by kernel_rfl) (fun _ _ _ h => h) (Or.inl ⟨by rfl, ?hy101⟩) (by assumption) ?rest101
      case hy101 => (intro wz hSw; (try dsimp only at hSw); first | (go_simp; done) | (go_simp; with_reducible rfl))
      try simp only [Act.put, List.getElem_toArray, List.getElem_cons_succ, List.getElem_cons_zero, List.setIfInBounds_toArray, List.set_cons_zero, List.set_cons_succ]
      refine wpAnyH_done (by kernel_rfl) ?_ _
      clear hH2
      have K4 := Lib.hid (gb_trans K2.out Q2.out)
      by_cases q3 : e3 = 0
      · have ne3 : (e3 != 0) = false := by rw [q3]; rfl
        replace R4 := Lib.hid (R4.out q3)
        replace R5 := Lib.hid (R5.out q3)
        clear q3 R3 KD PE
        by_cases q4 : x.ac ∈ (tabV P k).acs
        · have RX := Lib.hid (R5.out q4)
          rw [decide_eq_true q4] at AL
          clear q4 R4 R5
          have c0 := (B1.out.keep0 K4.out).cell 0
          have c1 := (B1.out.keep0 K4.out).cell 1
          have c2 := (B1.out.keep0 K4.out).cell 2
          have c3 := (B1.out.keep0 K4.out).cell 3
          have c4 := (B1.out.keep0 K4.out).cell 4
          have c5 := (B1.out.keep0 K4.out).cell 5
          have c6 := (B1.out.keep0 K4.out).cell 6
          have c7 := (B1.out.keep0 K4.out).cell 7
          have c8 := (B1.out.keep0 K4.out).cell 8
          have d0 := (B2.out.keep0 K4.out).cell 0
          have d1 := (B2.out.keep0 K4.out).cell 1
          have d2 := (B2.out.keep0 K4.out).cell 2
          have d3 := (B2.out.keep0 K4.out).cell 3
          dsimp at c0 c1 c2 c3 c4 c5 c6 c7 c8 d0 d1 d2 d3
          go_wp2_with fail
          refine (AL.out _ K4.out).mono ?_
          rintro e x5 ⟨rfl, g⟩
          have K5 := Lib.hid (gb_trans K4.out g)
          clear g
          clear c0 c1 c2 c3 c4 c5 c6 c7 c8 d0 d1 d2 d3
          have c0 := (B1.out.keep0 K5.out).cell 0
          have c1 := (B1.out.keep0 K5.out).cell 1
          have c2 := (B1.out.keep0 K5.out).cell 2
          have c3 := (B1.out.keep0 K5.out).cell 3
          have c4 := (B1.out.keep0 K5.out).cell 4
          have c5 := (B1.out.keep0 K5.out).cell 5
          have c6 := (B1.out.keep0 K5.out).cell 6
          have c7 := (B1.out.keep0 K5.out).cell 7
          have c8 := (B1.out.keep0 K5.out).cell 8
          have d0 := (B2.out.keep0 K5.out).cell 0
          have d1 := (B2.out.keep0 K5.out).cell 1
          have d2 := (B2.out.keep0 K5.out).cell 2
          have d3 := (B2.out.keep0 K5.out).cell 3
          dsimp at c0 c1 c2 c3 c4 c5 c6 c7 c8 d0 d1 d2 d3
          go_wp2_with fail
          refine (CA.out _ K5.out).mono ?_
          rintro e x6 ⟨rfl, g⟩
          have K6 := Lib.hid (gb_trans K5.out g)
          clear g
          clear c0 c1 c2 c3 c4 c5 c6 c7 c8 d0 d1 d2 d3
          go_wp2
          go_ret
          exact ⟨by rw [RX.out] <;> rfl, gb_trans G2.out K6.out⟩
        · have RX := Lib.hid (R4.out q4)
          rw [decide_eq_false q4] at AL
          clear q4 R4 R5
          have c0 := (B1.out.keep0 K4.out).cell 0
          have c1 := (B1.out.keep0 K4.out).cell 1
          have c2 := (B1.out.keep0 K4.out).cell 2
          have c3 := (B1.out.keep0 K4.out).cell 3
          have c4 := (B1.out.keep0 K4.out).cell 4
          have c5 := (B1.out.keep0 K4.out).cell 5
          have c6 := (B1.out.keep0 K4.out).cell 6
          have c7 := (B1.out.keep0 K4.out).cell 7
          have c8 := (B1.out.keep0 K4.out).cell 8
          have d0 := (B2.out.keep0 K4.out).cell 0
          have d1 := (B2.out.keep0 K4.out).cell 1
          have d2 := (B2.out.keep0 K4.out).cell 2
          have d3 := (B2.out.keep0 K4.out).cell 3
          dsimp at c0 c1 c2 c3 c4 c5 c6 c7 c8 d0 d1 d2 d3
          go_wp2_with fail
          refine (AL.out _ K4.out).mono ?_
          rintro e x5 ⟨rfl, g⟩
          have K5 := Lib.hid (gb_trans K4.out g)
          clear g
          clear c0 c1 c2 c3 c4 c5 c6 c7 c8 d0 d1 d2 d3
          go_wp2
          go_ret
          exact ⟨by rw [RX.out] <;> rfl, gb_trans G2.out K5.out⟩
      · have ne3 : (e3 != 0) = true := by rw [bne_iff_ne]; exact q3
        have RX := Lib.hid (R3.out q3)
        clear q3 R3 R4 R5
        go_wp2
        go_ret
        exact ⟨by rw [RX.out] <;> rfl, gb_trans G2.out K4.out⟩
    · have ne2 : (e2 != 0) = true := by rw [bne_iff_ne]; exact q2
      have RX := Lib.hid (R2.out q2)
      clear q2 R2 R3 R4 R5
      go_wp2
      go_ret
      exact ⟨by rw [RX.out] <;> rfl, gb_trans G2.out K2.out⟩
  · have ne1 : (e1 != 0) = true := by rw [bne_iff_ne]; exact q1
    have RX := Lib.hid (R1.out q1)
    clear q1 R1
    go_wp2
    go_ret
    exact ⟨by rw [RX.out] <;> rfl, gb_trans G2.out K1.out⟩
end Go.Proofs.Ytgdefahnmgonlaa
