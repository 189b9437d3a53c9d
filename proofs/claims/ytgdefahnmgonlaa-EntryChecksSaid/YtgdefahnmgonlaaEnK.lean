/- Entries: the check of an entry, in the reference; no condition but sizes. -/
import Derived.Test.YtgdefahnmgonlaaEnH
import Derived.Deep.QuietTactic
import Derived.BigQuiet
namespace Go.Proofs.Ytgdefahnmgonlaa
open Go.RowKit
set_option linter.unusedVariables false
set_option maxRecDepth 100000 in
set_option maxHeartbeats 20000000 in
theorem rcheck_any (w : World) (X : PX) (P : Pg) (hp : SP w X P) (hz : szT P) (t : Int) (Y : EX) (x : En) (h : SE w Y x) (hn : Y.rn ≤ 1000) : Calls Try.prog 13 #[.agg #[.string X.nm, .slice X.ha X.hn X.hc, .slice X.ma X.mn X.mc, .slice X.ra X.rn X.rc, .slice X.aa X.an X.ac, .slice X.ta X.tn X.tc, .slice X.sa X.sn X.sc, .slice X.ca X.cn X.cc, .slice X.da X.dn X.dc], .int .i64 t, .agg #[.slice Y.ka Y.kn Y.kc, .int .i64 x.pr, .int .i64 x.ac, .slice Y.ra Y.rn Y.rc]] w (RetV (.int .i64 (chkN P t x)) w) := by
  have HP := Lib.hid hp
  have HZ := Lib.hid hz
  have HE := Lib.hid h
  have HN := Lib.hid hn
  obtain ⟨R, hR⟩ : ∃ R, R = chkN P t x := ⟨_, rfl⟩
  have HR := Lib.hid hR
  rw [← hR]
  have G2 := Lib.hid (gb_trans (gb_alloc w (.cells #[.string X.nm, .slice X.ha X.hn X.hc, .slice X.ma X.mn X.mc, .slice X.ra X.rn X.rc, .slice X.aa X.an X.ac, .slice X.ta X.tn X.tc, .slice X.sa X.sn X.sc, .slice X.ca X.cn X.cc, .slice X.da X.dn X.dc] 31) none) (gb_alloc _ (.cells #[.slice Y.ka Y.kn Y.kc, .int .i64 x.pr, .int .i64 x.ac, .slice Y.ra Y.rn Y.rc] 37) none))
  have B1 := (IsB.new w 31 #[.string X.nm, .slice X.ha X.hn X.hc, .slice X.ma X.mn X.mc, .slice X.ra X.rn X.rc, .slice X.aa X.an X.ac, .slice X.ta X.tn X.tc, .slice X.sa X.sn X.sc, .slice X.ca X.cn X.cc, .slice X.da X.dn X.dc]).alloc (.cells #[.slice Y.ka Y.kn Y.kc, .int .i64 x.pr, .int .i64 x.ac, .slice Y.ra Y.rn Y.rc] 37)
  have B2 := IsB.new (w.alloc (.cells #[.string X.nm, .slice X.ha X.hn X.hc, .slice X.ma X.mn X.mc, .slice X.ra X.rn X.rc, .slice X.aa X.an X.ac, .slice X.ta X.tn X.tc, .slice X.sa X.sn X.sc, .slice X.ca X.cn X.cc, .slice X.da X.dn X.dc] 31)) 37 #[.slice Y.ka Y.kn Y.kc, .int .i64 x.pr, .int .i64 x.ac, .slice Y.ra Y.rn Y.rc]
  simp only [sz_al] at B2
  replace B1 := Lib.hid B1
  replace B2 := Lib.hid B2
  clear hp hz h hn hR
  go_enter Try.func13, Try.ntmps13
  go_upto_region 1 with fail
  generalize (w.alloc (.cells #[.string X.nm, .slice X.ha X.hn X.hc, .slice X.ma X.mn X.mc, .slice X.ra X.rn X.rc, .slice X.aa X.an X.ac, .slice X.ta X.tn X.tc, .slice X.sa X.sn X.sc, .slice X.ca X.cn X.cc, .slice X.da X.dn X.dc] 31)).alloc (.cells #[.slice Y.ka Y.kn Y.kc, .int .i64 x.pr, .int .i64 x.ac, .slice Y.ra Y.rn Y.rc] 37) = w2 at *
  obtain ⟨bx, hbx⟩ : ∃ b, b = w.heap.size := ⟨_, rfl⟩
  have Lbx := Lib.hid (show w.heap.size ≤ bx by rw [hbx]; exact Nat.le_refl _)
  rw [← hbx] at B1 B2 ⊢
  clear hbx
  replace HP := Lib.hid (fun (W : World) (g : w2.grownBy W none) => HP.out.keep0 (gb_trans G2.out g))
  replace HE := Lib.hid (fun (W : World) (g : w2.grownBy W none) => HE.out.keep0 (gb_trans G2.out g))
  have R1 := Lib.hid (fun (h : (chkT P t).2 ≠ 0) => show R = (chkT P t).2 by rw [HR.out]; exact chkN_bad h)
  obtain ⟨e1, he1⟩ : ∃ e, e = (chkT P t).2 := ⟨_, rfl⟩
  have E1 := Lib.hid he1
  have TC := rchk17_any w2 X P (HP.out _ (gb_refl _ _)) HZ.out t
  rw [← he1] at TC R1
  replace TC := Lib.hid TC
  generalize (chkT P t).1 = r1 at *
  clear he1
  have c0 := (B1.out.keep0 (gb_refl _ _)).cell 0
  have c1 := (B1.out.keep0 (gb_refl _ _)).cell 1
  have c2 := (B1.out.keep0 (gb_refl _ _)).cell 2
  have c3 := (B1.out.keep0 (gb_refl _ _)).cell 3
  have c4 := (B1.out.keep0 (gb_refl _ _)).cell 4
  have c5 := (B1.out.keep0 (gb_refl _ _)).cell 5
  have c6 := (B1.out.keep0 (gb_refl _ _)).cell 6
  have c7 := (B1.out.keep0 (gb_refl _ _)).cell 7
  have c8 := (B1.out.keep0 (gb_refl _ _)).cell 8
  have d0 := (B2.out.keep0 (gb_refl _ _)).cell 0
  have d1 := (B2.out.keep0 (gb_refl _ _)).cell 1
  have d2 := (B2.out.keep0 (gb_refl _ _)).cell 2
  have d3 := (B2.out.keep0 (gb_refl _ _)).cell 3
  dsimp at c0 c1 c2 c3 c4 c5 c6 c7 c8 d0 d1 d2 d3
  go_wp2_with fail
  refine (TC.out).mono ?_
  rintro e x1 ⟨rfl, g⟩
  have K1 := Lib.hid (gb_trans (gb_refl _ _) g)
  clear g
  clear c0 c1 c2 c3 c4 c5 c6 c7 c8 d0 d1 d2 d3
  by_cases q1 : e1 = 0
  · have OK := Lib.hid (show okT P t = true by unfold okT; exact decide_eq_true (by rw [← E1.out]; exact q1))
    have TZ := Lib.hid (show (chkT P t).2 = 0 by rw [← E1.out]; exact q1)
    subst q1
    clear R1 E1 TC
    obtain ⟨k, rfl, hk⟩ := ok_in OK.out
    have HK := Lib.hid (show k < X.tn by rw [← (HP.out _ (gb_refl _ _)).t.len]; exact hk)
    clear hk
    have R2 := Lib.hid (fun (q : ckL (tabV P k).ks (wsT P.H P.M (tabV P k).ks) x.ks ≠ 0) => show R = ckL (tabV P k).ks (wsT P.H P.M (tabV P k).ks) x.ks by rw [HR.out]; exact chkN_key TZ.out q)
    have R3 := Lib.hid (fun (q : ckL (tabV P k).ks (wsT P.H P.M (tabV P k).ks) x.ks = 0) (p : prE x.pr (kindT P k) ≠ 0) => show R = prE x.pr (kindT P k) by rw [HR.out]; exact chkN_pr TZ.out q p)
    have R4 := Lib.hid (fun (q : ckL (tabV P k).ks (wsT P.H P.M (tabV P k).ks) x.ks = 0) (p : prE x.pr (kindT P k) = 0) (a : ¬ x.ac ∈ (tabV P k).acs) => show R = 8 by rw [HR.out]; exact chkN_al TZ.out q p a)
    have R5 := Lib.hid (fun (q : ckL (tabV P k).ks (wsT P.H P.M (tabV P k).ks) x.ks = 0) (p : prE x.pr (kindT P k) = 0) (a : x.ac ∈ (tabV P k).acs) => show R = callE P.A x.ac x.ar by rw [HR.out]; exact chkN_call TZ.out q p a)
    have WD := Lib.hid (fun (W : World) (g : w2.grownBy W none) => rwidths_any W X P (HP.out _ g) HZ.out (k : Int))
    have WR := Lib.hid (fun z hz => show -9223372036854775808 ≤ z ∧ z ≤ 9223372036854775807 by have := ws_rng P.H P.M (tabV P k).ks z hz; omega)
    have WL := Lib.hid (ws_len P.H P.M (tabV P k).ks)
    have TE := Lib.hid (ok_tabV OK.out)
    have KD := Lib.hid (fun (W : World) (g : w2.grownBy W none) => rkind_any W X P (HP.out _ g) HZ.out (k : Int))
    have AL := Lib.hid (fun (W : World) (g : w2.grownBy W none) => rallows_any W X P (HP.out _ g) HZ.out (k : Int) x.ac)
    have CA := Lib.hid (fun (W : World) (g : w2.grownBy W none) => rcall_any W X P (HP.out _ g) x.ac Y.ra Y.rn Y.rc x.ar (HE.out _ g).r HN.out)
    have CL := Lib.hid (show ckL (tabV P k).ks (wsT P.H P.M (tabV P k).ks) x.ks = if x.ks.length = (tabV P k).ks.length then fstV (fun i => ckE (x.ks.getD i kmz) ((tabV P k).ks.getD i tkz).k ((wsT P.H P.M (tabV P k).ks).getD i 0)) x.ks.length else 2 from rfl)
    have XL := Lib.hid (show x.ks.length = Y.kn from (HE.out _ (gb_refl _ _)).k.len)
    obtain ⟨tad, hta⟩ := (HP.out _ (gb_refl _ _)).t.some (by have := HK.out; omega)
    obtain ⟨Y0, st, x0, xx1, x2, x3, x4, x5⟩ := (HP.out _ (gb_refl _ _)).tab HK.out hta
    rw [← TE.out] at st
    have KN := Lib.hid (show Y0.kn ≤ 1000 from (HZ.out.at_ (X := X) (by rw [(HP.out _ (gb_refl _ _)).t.len]; exact HK.out) (by rw [← TE.out]; exact st)).1)
    have KL := Lib.hid (show (tabV P k).ks.length = Y0.kn from st.k.len)
    have SK := Lib.hid st.k
    have X1 := Lib.hid xx1
    have HTA := Lib.hid hta
    clear x0 xx1 x2 x3 x4 x5 st hta
    generalize kindT P k = kd at *
    generalize callE P.A x.ac x.ar = e5 at *
    generalize ckL (tabV P k).ks (wsT P.H P.M (tabV P k).ks) x.ks = e2 at *
    generalize (tabV P k).acs = acs at *
    generalize wsT P.H P.M (tabV P k).ks = ws at *
    generalize (tabV P k).ks = ks at *
    have c0 := (B1.out.keep0 K1.out).cell 0
    have c1 := (B1.out.keep0 K1.out).cell 1
    have c2 := (B1.out.keep0 K1.out).cell 2
    have c3 := (B1.out.keep0 K1.out).cell 3
    have c4 := (B1.out.keep0 K1.out).cell 4
    have c5 := (B1.out.keep0 K1.out).cell 5
    have c6 := (B1.out.keep0 K1.out).cell 6
    have c7 := (B1.out.keep0 K1.out).cell 7
    have c8 := (B1.out.keep0 K1.out).cell 8
    have d0 := (B2.out.keep0 K1.out).cell 0
    have d1 := (B2.out.keep0 K1.out).cell 1
    have d2 := (B2.out.keep0 K1.out).cell 2
    have d3 := (B2.out.keep0 K1.out).cell 3
    dsimp at c0 c1 c2 c3 c4 c5 c6 c7 c8 d0 d1 d2 d3
    go_wp2_with fail
    refine (WD.out _ K1.out).mono ?_
    rintro e x2 ⟨ia, ic, rfl, nl, g⟩
    have K2 := Lib.hid (gb_trans K1.out g)
    have IA := Lib.hid (nl.si rfl WR.out)
    clear nl
    clear g
    clear c0 c1 c2 c3 c4 c5 c6 c7 c8 d0 d1 d2 d3
    rw [WL.out, KL.out] at IA ⊢
    have c0 := (B1.out.keep0 K2.out).cell 0
    have c1 := (B1.out.keep0 K2.out).cell 1
    have c2 := (B1.out.keep0 K2.out).cell 2
    have c3 := (B1.out.keep0 K2.out).cell 3
    have c4 := (B1.out.keep0 K2.out).cell 4
    have c5 := (B1.out.keep0 K2.out).cell 5
    have c6 := (B1.out.keep0 K2.out).cell 6
    have c7 := (B1.out.keep0 K2.out).cell 7
    have c8 := (B1.out.keep0 K2.out).cell 8
    have d0 := (B2.out.keep0 K2.out).cell 0
    have d1 := (B2.out.keep0 K2.out).cell 1
    have d2 := (B2.out.keep0 K2.out).cell 2
    have d3 := (B2.out.keep0 K2.out).cell 3
    dsimp at c0 c1 c2 c3 c4 c5 c6 c7 c8 d0 d1 d2 d3
    by_cases hl : Y.kn = Y0.kn
    · have HL := Lib.hid hl
      have hl2 : ((Y.kn : Int) != Y0.kn) = false := by rw [bne_eq_false_iff_eq]; omega
      have CV := Lib.hid (show e2 = fstV (fun i => ckE (x.ks.getD i kmz) (ks.getD i tkz).k (ws.getD i 0)) Y0.kn by rw [CL.out, if_pos (by rw [XL.out, KL.out]; exact hl), XL.out, hl])
      clear hl
      go_wp2
      clear c0 c1 c2 c3 c4 c5 c6 c7 c8 d0 d1 d2 d3
      go_loopw [8, 10] (fun ev i wr => ∃ j : Nat, j ≤ Y0.kn ∧ ev = .int .i64 0 ∧ i = .int .i64 j ∧ (∀ i, i < j → ckE (x.ks.getD i kmz) (ks.getD i tkz).k (ws.getD i 0) = 0) ∧ x2.grownBy wr none) (fun _ i _ => Y0.kn - (intOf i).toNat)
      case atStart => exact ⟨0, Nat.zero_le _, rfl, rfl, (fun i hi => absurd hi (Nat.not_lt_zero _)), gb_refl _ _⟩
      case round =>
        obtain ⟨j, hj, rfl, rfl, hb, hg⟩ := hrel
        have HB := Lib.hid hb
        have G := Lib.hid hg
        clear hb hg
        by_cases hlt : j < Y0.kn
        · have i1 : (j : Int) < Y0.kn := by omega
          have i0 : (0 : Int) ≤ (j : Int) := by omega
          have i2 : (j : Int) < Y.kn := by have := HL.out; omega
          have k0 : (0 : Int) ≤ (k : Int) := by omega
          have k1 : (k : Int) < X.tn := by have := HK.out; omega
          have hw : IntKind.i64.wrap ((j : Int) + 1) = ((j + 1 : Nat) : Int) := by have := KN.out; rw [IntKind.wrap_i64]; omega
          have GG := Lib.hid (gb_trans K2.out G.out)
          obtain ⟨xad, hxd⟩ := (HE.out _ GG.out).k.some (by have := HL.out; omega)
          obtain ⟨kad, hkd⟩ := SK.out.some (by omega)
          obtain ⟨iad, hid⟩ := IA.out.some (by omega)
          obtain ⟨⟨y0, v0, v1⟩, y1, m0, m1⟩ := (HE.out _ GG.out).k.cells xad hxd j (by have := HL.out; omega)
          have Z2 := Lib.hid ((SK.out.keep0SKy GG.out).cells kad hkd j (by omega)).2.2
          have I2 := Lib.hid ((IA.out.keep0 G.out).cells iad hid j (by omega))
          have X2 := Lib.hid (show wr.cell? _ = _ from GG.out.cell X1.out (by simp))
          have V0 := Lib.hid y0
          have V1 := Lib.hid y1
          have CK := Lib.hid (fun W => rck_any W (x.ks.getD j kmz) (ks.getD j tkz).k (ws.getD j 0) v0 v1 m0 m1)
          have AN := Lib.hid (fun (q : ckE (x.ks.getD j kmz) (ks.getD j tkz).k (ws.getD j 0) ≠ 0) => show e2 = ckE (x.ks.getD j kmz) (ks.getD j tkz).k (ws.getD j 0) by rw [CV.out]; exact fstV_at (g := fun i => ckE (x.ks.getD i kmz) (ks.getD i tkz).k (ws.getD i 0)) hlt q HB.out)
          have NX := Lib.hid (fun (q : ckE (x.ks.getD j kmz) (ks.getD j tkz).k (ws.getD j 0) = 0) => (fun i hi => by rcases (show i < j ∨ i = j by omega) with r | rfl; exact HB.out i r; exact q : ∀ i, i < j + 1 → ckE (x.ks.getD i kmz) (ks.getD i tkz).k (ws.getD i 0) = 0))
          clear v0 v1 m0 m1 y0 y1
          generalize ckE (x.ks.getD j kmz) (ks.getD j tkz).k (ws.getD j 0) = ce at *
          generalize (x.ks.getD j kmz).v = mv at *
          generalize (x.ks.getD j kmz).m = mm at *
          generalize (ks.getD j tkz).k = kk at *
          generalize ws.getD j 0 = wd at *
          have HXD := Lib.hid hxd
          have HKD := Lib.hid hkd
          rw [hid]
          clear hxd hkd hid
          go_upto_region 10 with fail
          have KQ := Lib.hid (fun (w' : World) (q0 : wr.grownBy w' none) => (⟨(by have := (B1.out.keep0 (gb_trans GG.out q0)).cell 5; dsimp at this; rw [HTA.out] at this; exact this), (by have := (B2.out.keep0 (gb_trans GG.out q0)).cell 0; dsimp at this; rw [HXD.out] at this; exact this), (by have := q0.cell X2.out (by simp); rw [HKD.out] at this; exact this), q0.cell Z2.out (by simp), q0.cell V1.out (by simp), q0.cell I2.out (by simp), q0.cell V0.out (by simp), q0⟩ : (fun w' : World => w'.cell? ⟨bx, 5, none⟩ = some (.slice (some tad) X.tn X.tc) ∧ w'.cell? ⟨bx + 1, 0, none⟩ = some (.slice (some xad) Y.kn Y.kc) ∧ w'.cell? ⟨(tad.add (k * 6)).block, (tad.add (k * 6)).off + 1, none⟩ = some (.slice (some kad) Y0.kn Y0.kc) ∧ w'.cell? ⟨(kad.add (j * 3)).block, (kad.add (j * 3)).off + 2, none⟩ = some (.int .i64 kk) ∧ w'.cell? ⟨(xad.add (j * 2)).block, (xad.add (j * 2)).off + 1, none⟩ = some (.int .u32 mm) ∧ w'.cell? (iad.add j) = some (.int .i64 wd) ∧ w'.cell? (xad.add (j * 2)) = some (.int .u32 mv) ∧ wr.grownBy w' none) w'))
          have Q0 := Lib.hid (gb_drew wr none)
          refine wp_region_held_drew (S := (fun w' : World => w'.cell? ⟨bx, 5, none⟩ = some (.slice (some tad) X.tn X.tc) ∧ w'.cell? ⟨bx + 1, 0, none⟩ = some (.slice (some xad) Y.kn Y.kc) ∧ w'.cell? ⟨(tad.add (k * 6)).block, (tad.add (k * 6)).off + 1, none⟩ = some (.slice (some kad) Y0.kn Y0.kc) ∧ w'.cell? ⟨(kad.add (j * 3)).block, (kad.add (j * 3)).off + 2, none⟩ = some (.int .i64 kk) ∧ w'.cell? ⟨(xad.add (j * 2)).block, (xad.add (j * 2)).off + 1, none⟩ = some (.int .u32 mm) ∧ w'.cell? (iad.add j) = some (.int .i64 wd) ∧ w'.cell? (xad.add (j * 2)) = some (.int .u32 mv) ∧ wr.grownBy w' none)) (by kernel_rfl) (KQ.out _ Q0.out) (fun hH0 => ?_)
          refine wpAnyH_take (i := 0) (v := ?v102) rfl (by kernel_rfl) (by kernel_rfl) (by kernel_rfl) (fun _ _ _ h => h) (Or.inl ⟨by rfl, ?hy102⟩) (by assumption) ?rest102
          case hy102 => (intro wz hSw; (try dsimp only at hSw); first | (go_simp; done) | (go_simp; with_reducible rfl))
          try simp only [Act.put, List.getElem_toArray, List.getElem_cons_zero, List.setIfInBounds_toArray, List.set_cons_zero, List.set_cons_succ]
          refine wpAnyH_take (i := 1) (v := ?v103) rfl (by kernel_rfl) (by kernel_rfl) (by kernel_rfl) (fun _ _ _ h => h) (Or.inl ⟨by rfl, ?hy103⟩) (by assumption) ?rest103
          case hy103 => (intro wz hSw; (try dsimp only at hSw); first | (go_simp; done) | (go_simp; with_reducible rfl))
          try simp only [Act.put, List.getElem_toArray, List.getElem_cons_succ, List.getElem_cons_zero, List.setIfInBounds_toArray, List.set_cons_zero, List.set_cons_succ]
          refine wpAnyH_take (i := 2) (v := ?v104) rfl (by kernel_rfl) (by kernel_rfl) (by kernel_rfl) (fun _ _ _ h => h) (Or.inl ⟨by rfl, ?hy104⟩) (by assumption) ?rest104
          case hy104 => (intro wz hSw; (try dsimp only at hSw); first | (go_simp; done) | (go_simp; with_reducible rfl))
          try simp only [Act.put, List.getElem_toArray, List.getElem_cons_succ, List.getElem_cons_zero, List.setIfInBounds_toArray, List.set_cons_zero, List.set_cons_succ]
          refine wpAnyH_take (i := 3) (v := ?v105) rfl (by kernel_rfl) (by kernel_rfl) (by kernel_rfl) (fun _ _ _ h => h) (Or.inl ⟨by rfl, ?hy105⟩) (by assumption) ?rest105
          case hy105 => (intro wz hSw; (try dsimp only at hSw); first | (go_simp; done) | (go_simp; with_reducible rfl))
          try simp only [Act.put, List.getElem_toArray, List.getElem_cons_succ, List.getElem_cons_zero, List.setIfInBounds_toArray, List.set_cons_zero, List.set_cons_succ]
          refine wpAnyH_take (i := 4) (v := ?v106) rfl (by kernel_rfl) (by kernel_rfl) (by kernel_rfl) (fun _ _ _ h => h) (Or.inl ⟨by rfl, ?hy106⟩) (by assumption) ?rest106
          case hy106 => (intro wz hSw; (try dsimp only at hSw); first | (go_simp; done) | (go_simp; with_reducible rfl))
          try simp only [Act.put, List.getElem_toArray, List.getElem_cons_succ, List.getElem_cons_zero, List.setIfInBounds_toArray, List.set_cons_zero, List.set_cons_succ]
          refine wpAnyH_take (i := 5) (v := ?v107) rfl (by kernel_rfl) (by kernel_rfl) (by kernel_rfl) (fun _ _ _ h => h) (Or.inl ⟨by rfl, ?hy107⟩) (by assumption) ?rest107
          case hy107 => (intro wz hSw; (try dsimp only at hSw); first | (go_simp; done) | (go_simp; with_reducible rfl))
          try simp only [Act.put, List.getElem_toArray, List.getElem_cons_succ, List.getElem_cons_zero, List.setIfInBounds_toArray, List.set_cons_zero, List.set_cons_succ]
          refine wpAnyH_take (i := 6) (v := ?v108) rfl (by kernel_rfl) (by kernel_rfl) (by kernel_rfl) (fun _ _ _ h => h) (Or.inl ⟨by rfl, ?hy108⟩) (by assumption) ?rest108
          case hy108 => (intro wz hSw; (try dsimp only at hSw); first | (go_simp; done) | (go_simp; with_reducible rfl))
          try simp only [Act.put, List.getElem_toArray, List.getElem_cons_succ, List.getElem_cons_zero, List.setIfInBounds_toArray, List.set_cons_zero, List.set_cons_succ]
          refine wpAnyH_take (i := 7) (v := ?v109) rfl (by kernel_rfl) (by kernel_rfl) (by kernel_rfl) (fun _ _ _ h => h) (Or.inl ⟨by rfl, ?hy109⟩) (by assumption) ?rest109
          case hy109 => (intro wz hSw; (try dsimp only at hSw); first | (go_simp; done) | (go_simp; with_reducible rfl))
          try simp only [Act.put, List.getElem_toArray, List.getElem_cons_succ, List.getElem_cons_zero, List.setIfInBounds_toArray, List.set_cons_zero, List.set_cons_succ]
          refine wpAnyH_take (i := 8) (v := ?v110) rfl (by kernel_rfl) (by kernel_rfl) (by kernel_rfl) (fun _ _ _ h => h) (Or.inl ⟨by rfl, ?hy110⟩) (by assumption) ?rest110
          case hy110 => (intro wz hSw; (try dsimp only at hSw); first | (go_simp; done) | (go_simp; with_reducible rfl))
          try simp only [Act.put, List.getElem_toArray, List.getElem_cons_succ, List.getElem_cons_zero, List.setIfInBounds_toArray, List.set_cons_zero, List.set_cons_succ]
          refine wpAnyH_take (i := 9) (v := ?v111) rfl (by kernel_rfl) (by kernel_rfl) (by kernel_rfl) (fun _ _ _ h => h) (Or.inl ⟨by rfl, ?hy111⟩) (by assumption) ?rest111
          case hy111 => (intro wz hSw; (try dsimp only at hSw); first | (go_simp; done) | (go_simp; with_reducible rfl))
          try simp only [Act.put, List.getElem_toArray, List.getElem_cons_succ, List.getElem_cons_zero, List.setIfInBounds_toArray, List.set_cons_zero, List.set_cons_succ]
          refine wpAnyH_take (i := 10) (v := ?v112) rfl (by kernel_rfl) (by kernel_rfl) (by kernel_rfl) (fun _ _ _ h => h) (Or.inl ⟨by rfl, ?hy112⟩) (by assumption) ?rest112
          case hy112 => (intro wz hSw; (try dsimp only at hSw); first | (go_simp; done) | (go_simp; with_reducible rfl))
          try simp only [Act.put, List.getElem_toArray, List.getElem_cons_succ, List.getElem_cons_zero, List.setIfInBounds_toArray, List.set_cons_zero, List.set_cons_succ]
          refine wpAnyH_take (i := 11) (v := ?v113) rfl (by kernel_rfl) (by kernel_rfl) (by kernel_rfl) (fun _ _ _ h => h) (Or.inl ⟨by rfl, ?hy113⟩) (by assumption) ?rest113
          case hy113 => (intro wz hSw; (try dsimp only at hSw); first | (go_simp; done) | (go_simp; with_reducible rfl))
          try simp only [Act.put, List.getElem_toArray, List.getElem_cons_succ, List.getElem_cons_zero, List.setIfInBounds_toArray, List.set_cons_zero, List.set_cons_succ]
          refine wpAnyH_take (i := 12) (v := ?v114) rfl (by kernel_rfl) (by kernel_rfl) (by kernel_rfl) (fun _ _ _ h => h) (Or.inl ⟨by rfl, ?hy114⟩) (by assumption) ?rest114
          case hy114 => (intro wz hSw; (try dsimp only at hSw); first | (go_simp; done) | (go_simp; with_reducible rfl))
          try simp only [Act.put, List.getElem_toArray, List.getElem_cons_succ, List.getElem_cons_zero, List.setIfInBounds_toArray, List.set_cons_zero, List.set_cons_succ]
          refine wpAnyH_take (i := 13) (v := ?v115) rfl (by kernel_rfl) (by kernel_rfl) (by kernel_rfl) (fun _ _ _ h => h) (Or.inl ⟨by rfl, ?hy115⟩) (by assumption) ?rest115
          case hy115 => (intro wz hSw; (try dsimp only at hSw); first | (go_simp; done) | (go_simp; with_reducible rfl))
          try simp only [Act.put, List.getElem_toArray, List.getElem_cons_succ, List.getElem_cons_zero, List.setIfInBounds_toArray, List.set_cons_zero, List.set_cons_succ]
          refine wpAnyH_take (i := 14) (v := ?v116) rfl (by kernel_rfl) (by kernel_rfl) (by kernel_rfl) (fun _ _ _ h => h) (Or.inl ⟨by rfl, ?hy116⟩) (by assumption) ?rest116
          case hy116 => (intro wz hSw; (try dsimp only at hSw); first | (go_simp; done) | (go_simp; with_reducible rfl))
          try simp only [Act.put, List.getElem_toArray, List.getElem_cons_succ, List.getElem_cons_zero, List.setIfInBounds_toArray, List.set_cons_zero, List.set_cons_succ]
          refine wpAnyH_take (i := 15) (v := ?v117) rfl (by kernel_rfl) (by kernel_rfl) (by kernel_rfl) (fun _ _ _ h => h) (Or.inl ⟨by rfl, ?hy117⟩) (by assumption) ?rest117
          case hy117 => (intro wz hSw; (try dsimp only at hSw); first | (go_simp; done) | (go_simp; with_reducible rfl))
          try simp only [Act.put, List.getElem_toArray, List.getElem_cons_succ, List.getElem_cons_zero, List.setIfInBounds_toArray, List.set_cons_zero, List.set_cons_succ]
          refine wpAnyH_take (i := 16) (v := ?v118) rfl (by kernel_rfl) (by kernel_rfl) (by kernel_rfl) (fun _ _ _ h => h) (Or.inl ⟨by rfl, ?hy118⟩) (by assumption) ?rest118
          case hy118 => (intro wz hSw; (try dsimp only at hSw); first | (go_simp; done) | (go_simp; with_reducible rfl))
          try simp only [Act.put, List.getElem_toArray, List.getElem_cons_succ, List.getElem_cons_zero, List.setIfInBounds_toArray, List.set_cons_zero, List.set_cons_succ]
          refine wpAnyH_take (i := 17) (v := ?v119) rfl (by kernel_rfl) (by kernel_rfl) (by kernel_rfl) (fun _ _ _ h => h) (Or.inl ⟨by rfl, ?hy119⟩) (by assumption) ?rest119
          case hy119 => (intro wz hSw; (try dsimp only at hSw); first | (go_simp; done) | (go_simp; with_reducible rfl))
          try simp only [Act.put, List.getElem_toArray, List.getElem_cons_succ, List.getElem_cons_zero, List.setIfInBounds_toArray, List.set_cons_zero, List.set_cons_succ]
          refine wpAnyH_take (i := 18) (v := ?v120) rfl (by kernel_rfl) (by kernel_rfl) (by kernel_rfl) (fun _ _ _ h => h) (Or.inl ⟨by rfl, ?hy120⟩) (by assumption) ?rest120
          case hy120 => (intro wz hSw; (try dsimp only at hSw); first | (go_simp; done) | (go_simp; with_reducible rfl))
          try simp only [Act.put, List.getElem_toArray, List.getElem_cons_succ, List.getElem_cons_zero, List.setIfInBounds_toArray, List.set_cons_zero, List.set_cons_succ]
          refine wpAnyH_ready (rs := [19]) (by kernel_rfl) (by simp) ?_
          refine AllReadyH.cons (o := _) rfl (fun K hK => ?_) AllReadyH.nil
          go_simp
          (with_reducible refine (CK.out _).mono ?_)
          rintro e qw1 ⟨rfl, g⟩
          have Q1 := Lib.hid (gb_trans Q0.out g)
          clear g
          try dsimp only
          refine hK.out _ _ (KQ.out _ Q1.out) (fun hH1 => ?_)
          clear hK K hH0
          try simp only [Act.put, List.getElem_toArray, List.getElem_cons_succ, List.getElem_cons_zero, List.setIfInBounds_toArray, List.set_cons_zero, List.set_cons_succ]
          refine wpAnyH_take (i := 20) (v := ?v121) rfl (by kernel_rfl) (by kernel_rfl) (by kernel_rfl) (fun _ _ _ h => h) (Or.inl ⟨by rfl, ?hy121⟩) (by assumption) ?rest121
          case hy121 => (intro wz hSw; (try dsimp only at hSw); first | (go_simp; done) | (go_simp; with_reducible rfl))
          try simp only [Act.put, List.getElem_toArray, List.getElem_cons_succ, List.getElem_cons_zero, List.setIfInBounds_toArray, List.set_cons_zero, List.set_cons_succ]
          refine wpAnyH_done (by kernel_rfl) ?_ _
          clear hH1
          have GJ := Lib.hid (gb_trans G.out Q1.out)
          by_cases c0 : ce = 0
          · have N2 := Lib.hid (NX.out c0)
            subst c0
            go_wp2
            exact ⟨⟨j + 1, by omega, rfl, by simp, N2.out, GJ.out⟩, by show Y0.kn - ((j : Int) + 1).toNat < Y0.kn - (j : Int).toNat; omega⟩
          · have ce0 : (ce != 0) = true := by rw [bne_iff_ne]; exact c0
            have RF := Lib.hid (show R = ce by have e := AN.out c0; rw [R2.out (by rw [e]; exact c0), e])
            clear c0
            go_wp2
            go_ret
            exact ⟨by rw [RF.out] <;> rfl, gb_trans G2.out (gb_trans K2.out GJ.out)⟩
        · have i1 : ¬ (j : Int) < Y0.kn := by omega
          have E2 := Lib.hid (show e2 = 0 by rw [CV.out]; exact fstV_no (fun i hi => HB.out i (by omega)))
          replace R3 := Lib.hid (R3.out E2.out)
          replace R4 := Lib.hid (R4.out E2.out)
          replace R5 := Lib.hid (R5.out E2.out)
          have K3 := Lib.hid (gb_trans K2.out G.out)
          clear R2 CL CV HB
          have c0 := (B1.out.keep0 K3.out).cell 0
          have c1 := (B1.out.keep0 K3.out).cell 1
          have c2 := (B1.out.keep0 K3.out).cell 2
          have c3 := (B1.out.keep0 K3.out).cell 3
          have c4 := (B1.out.keep0 K3.out).cell 4
          have c5 := (B1.out.keep0 K3.out).cell 5
          have c6 := (B1.out.keep0 K3.out).cell 6
          have c7 := (B1.out.keep0 K3.out).cell 7
          have c8 := (B1.out.keep0 K3.out).cell 8
          have d0 := (B2.out.keep0 K3.out).cell 0
          have d1 := (B2.out.keep0 K3.out).cell 1
          have d2 := (B2.out.keep0 K3.out).cell 2
          have d3 := (B2.out.keep0 K3.out).cell 3
          dsimp at c0 c1 c2 c3 c4 c5 c6 c7 c8 d0 d1 d2 d3
          by_cases p0 : x.pr < 0
          · have RX := Lib.hid (show R = 9 by rw [R3.out (by unfold prE; rw [if_pos (.inl p0)]; decide)]; unfold prE; rw [if_pos (.inl p0)])
            clear R3 R4 R5
            go_wp2
            go_ret
            exact ⟨by rw [RX.out] <;> rfl, gb_trans G2.out K3.out⟩
          · by_cases p1 : 255 < x.pr
            · have RX := Lib.hid (show R = 9 by rw [R3.out (by unfold prE; rw [if_pos (.inr p1)]; decide)]; unfold prE; rw [if_pos (.inr p1)])
              clear R3 R4 R5
              go_wp2
              go_ret
              exact ⟨by rw [RX.out] <;> rfl, gb_trans G2.out K3.out⟩
            · by_cases p2 : 0 < x.pr
              · by_cases p3 : kd = 3
                · have kne : (kd != 3) = false := by rw [p3]; rfl
                  have PE := Lib.hid (show prE x.pr kd = 0 by unfold prE; rw [if_neg (by omega), if_neg (by omega)])
                  clear p3 R3
                  go_wp2_with fail
                  refine (KD.out _ K3.out).mono ?_
                  rintro e x5 ⟨rfl, g⟩
                  have K5 := Lib.hid (gb_trans K3.out g)
                  clear g
                  clear c0 c1 c2 c3 c4 c5 c6 c7 c8 d0 d1 d2 d3
                  by_cases q4 : x.ac ∈ acs
                  · have RX := Lib.hid (R5.out PE.out q4)
                    rw [decide_eq_true q4] at AL
                    clear q4 R4 R5
                    have c0 := (B1.out.keep0 K5.out).cell 0
                    have c1 := (B1.out.keep0 K5.out).cell 1
                    have c2 := (B1.out.keep0 K5.out).cell 2
                    have c3 := (B1.out.keep0 K5.out).cell 3
                    have c4 := (B1.out.keep0 K5.out).cell 4
                    have c5 := (B1.out.keep0 K5.out).cell 5
                    have c6 := (B1.out.keep0 K5.out).cell 6
                    have c7 := (B1.out.keep0 K5.out).cell 7
                    have c8 := (B1.out.keep0 K5.out).cell 8
                    have d0 := (B2.out.keep0 K5.out).cell 0
                    have d1 := (B2.out.keep0 K5.out).cell 1
                    have d2 := (B2.out.keep0 K5.out).cell 2
                    have d3 := (B2.out.keep0 K5.out).cell 3
                    dsimp at c0 c1 c2 c3 c4 c5 c6 c7 c8 d0 d1 d2 d3
                    go_wp2_with fail
                    refine (AL.out _ K5.out).mono ?_
                    rintro e x6 ⟨rfl, g⟩
                    have K6 := Lib.hid (gb_trans K5.out g)
                    clear g
                    clear c0 c1 c2 c3 c4 c5 c6 c7 c8 d0 d1 d2 d3
                    have c0 := (B1.out.keep0 K6.out).cell 0
                    have c1 := (B1.out.keep0 K6.out).cell 1
                    have c2 := (B1.out.keep0 K6.out).cell 2
                    have c3 := (B1.out.keep0 K6.out).cell 3
                    have c4 := (B1.out.keep0 K6.out).cell 4
                    have c5 := (B1.out.keep0 K6.out).cell 5
                    have c6 := (B1.out.keep0 K6.out).cell 6
                    have c7 := (B1.out.keep0 K6.out).cell 7
                    have c8 := (B1.out.keep0 K6.out).cell 8
                    have d0 := (B2.out.keep0 K6.out).cell 0
                    have d1 := (B2.out.keep0 K6.out).cell 1
                    have d2 := (B2.out.keep0 K6.out).cell 2
                    have d3 := (B2.out.keep0 K6.out).cell 3
                    dsimp at c0 c1 c2 c3 c4 c5 c6 c7 c8 d0 d1 d2 d3
                    go_wp2_with fail
                    refine (CA.out _ K6.out).mono ?_
                    rintro e x7 ⟨rfl, g⟩
                    have K7 := Lib.hid (gb_trans K6.out g)
                    clear g
                    clear c0 c1 c2 c3 c4 c5 c6 c7 c8 d0 d1 d2 d3
                    go_wp2
                    go_ret
                    exact ⟨by rw [RX.out] <;> rfl, gb_trans G2.out K7.out⟩
                  · have RX := Lib.hid (R4.out PE.out q4)
                    rw [decide_eq_false q4] at AL
                    clear q4 R4 R5
                    have c0 := (B1.out.keep0 K5.out).cell 0
                    have c1 := (B1.out.keep0 K5.out).cell 1
                    have c2 := (B1.out.keep0 K5.out).cell 2
                    have c3 := (B1.out.keep0 K5.out).cell 3
                    have c4 := (B1.out.keep0 K5.out).cell 4
                    have c5 := (B1.out.keep0 K5.out).cell 5
                    have c6 := (B1.out.keep0 K5.out).cell 6
                    have c7 := (B1.out.keep0 K5.out).cell 7
                    have c8 := (B1.out.keep0 K5.out).cell 8
                    have d0 := (B2.out.keep0 K5.out).cell 0
                    have d1 := (B2.out.keep0 K5.out).cell 1
                    have d2 := (B2.out.keep0 K5.out).cell 2
                    have d3 := (B2.out.keep0 K5.out).cell 3
                    dsimp at c0 c1 c2 c3 c4 c5 c6 c7 c8 d0 d1 d2 d3
                    go_wp2_with fail
                    refine (AL.out _ K5.out).mono ?_
                    rintro e x6 ⟨rfl, g⟩
                    have K6 := Lib.hid (gb_trans K5.out g)
                    clear g
                    clear c0 c1 c2 c3 c4 c5 c6 c7 c8 d0 d1 d2 d3
                    go_wp2
                    go_ret
                    exact ⟨by rw [RX.out] <;> rfl, gb_trans G2.out K6.out⟩
                · have kne : (kd != 3) = true := by rw [bne_iff_ne]; exact p3
                  have RX := Lib.hid (show R = 11 by rw [R3.out (by unfold prE; rw [if_neg (by omega), if_pos ⟨by omega, p3⟩]; decide)]; unfold prE; rw [if_neg (by omega), if_pos ⟨by omega, p3⟩])
                  clear p3 R3 R4 R5
                  go_wp2_with fail
                  refine (KD.out _ K3.out).mono ?_
                  rintro e x5 ⟨rfl, g⟩
                  have K5 := Lib.hid (gb_trans K3.out g)
                  clear g
                  clear c0 c1 c2 c3 c4 c5 c6 c7 c8 d0 d1 d2 d3
                  go_wp2
                  go_ret
                  exact ⟨by rw [RX.out] <;> rfl, gb_trans G2.out K5.out⟩
              · have PE := Lib.hid (show prE x.pr kd = 0 by unfold prE; rw [if_neg (by omega), if_neg (by omega)])
                clear R3
                go_upto_region 17 with fail
                clear c0 c1 c2 c3 c4 c5 c6 c7 c8 d0 d1 d2 d3
                by_cases q4 : x.ac ∈ acs
                · have RX := Lib.hid (R5.out PE.out q4)
                  rw [decide_eq_true q4] at AL
                  clear q4 R4 R5
                  have c0 := (B1.out.keep0 K3.out).cell 0
                  have c1 := (B1.out.keep0 K3.out).cell 1
                  have c2 := (B1.out.keep0 K3.out).cell 2
                  have c3 := (B1.out.keep0 K3.out).cell 3
                  have c4 := (B1.out.keep0 K3.out).cell 4
                  have c5 := (B1.out.keep0 K3.out).cell 5
                  have c6 := (B1.out.keep0 K3.out).cell 6
                  have c7 := (B1.out.keep0 K3.out).cell 7
                  have c8 := (B1.out.keep0 K3.out).cell 8
                  have d0 := (B2.out.keep0 K3.out).cell 0
                  have d1 := (B2.out.keep0 K3.out).cell 1
                  have d2 := (B2.out.keep0 K3.out).cell 2
                  have d3 := (B2.out.keep0 K3.out).cell 3
                  dsimp at c0 c1 c2 c3 c4 c5 c6 c7 c8 d0 d1 d2 d3
                  go_wp2_with fail
                  refine (AL.out _ K3.out).mono ?_
                  rintro e x6 ⟨rfl, g⟩
                  have K6 := Lib.hid (gb_trans K3.out g)
                  clear g
                  clear c0 c1 c2 c3 c4 c5 c6 c7 c8 d0 d1 d2 d3
                  have c0 := (B1.out.keep0 K6.out).cell 0
                  have c1 := (B1.out.keep0 K6.out).cell 1
                  have c2 := (B1.out.keep0 K6.out).cell 2
                  have c3 := (B1.out.keep0 K6.out).cell 3
                  have c4 := (B1.out.keep0 K6.out).cell 4
                  have c5 := (B1.out.keep0 K6.out).cell 5
                  have c6 := (B1.out.keep0 K6.out).cell 6
                  have c7 := (B1.out.keep0 K6.out).cell 7
                  have c8 := (B1.out.keep0 K6.out).cell 8
                  have d0 := (B2.out.keep0 K6.out).cell 0
                  have d1 := (B2.out.keep0 K6.out).cell 1
                  have d2 := (B2.out.keep0 K6.out).cell 2
                  have d3 := (B2.out.keep0 K6.out).cell 3
                  dsimp at c0 c1 c2 c3 c4 c5 c6 c7 c8 d0 d1 d2 d3
                  go_wp2_with fail
                  refine (CA.out _ K6.out).mono ?_
                  rintro e x7 ⟨rfl, g⟩
                  have K7 := Lib.hid (gb_trans K6.out g)
                  clear g
                  clear c0 c1 c2 c3 c4 c5 c6 c7 c8 d0 d1 d2 d3
                  go_wp2
                  go_ret
                  exact ⟨by rw [RX.out] <;> rfl, gb_trans G2.out K7.out⟩
                · have RX := Lib.hid (R4.out PE.out q4)
                  rw [decide_eq_false q4] at AL
                  clear q4 R4 R5
                  have c0 := (B1.out.keep0 K3.out).cell 0
                  have c1 := (B1.out.keep0 K3.out).cell 1
                  have c2 := (B1.out.keep0 K3.out).cell 2
                  have c3 := (B1.out.keep0 K3.out).cell 3
                  have c4 := (B1.out.keep0 K3.out).cell 4
                  have c5 := (B1.out.keep0 K3.out).cell 5
                  have c6 := (B1.out.keep0 K3.out).cell 6
                  have c7 := (B1.out.keep0 K3.out).cell 7
                  have c8 := (B1.out.keep0 K3.out).cell 8
                  have d0 := (B2.out.keep0 K3.out).cell 0
                  have d1 := (B2.out.keep0 K3.out).cell 1
                  have d2 := (B2.out.keep0 K3.out).cell 2
                  have d3 := (B2.out.keep0 K3.out).cell 3
                  dsimp at c0 c1 c2 c3 c4 c5 c6 c7 c8 d0 d1 d2 d3
                  go_wp2_with fail
                  refine (AL.out _ K3.out).mono ?_
                  rintro e x6 ⟨rfl, g⟩
                  have K6 := Lib.hid (gb_trans K3.out g)
                  clear g
                  clear c0 c1 c2 c3 c4 c5 c6 c7 c8 d0 d1 d2 d3
                  go_wp2
                  go_ret
                  exact ⟨by rw [RX.out] <;> rfl, gb_trans G2.out K6.out⟩
    · have hl2 : ((Y.kn : Int) != Y0.kn) = true := by rw [bne_iff_ne]; intro e; exact hl (by omega)
      have E2 := Lib.hid (show e2 = 2 by rw [CL.out, if_neg (by rw [XL.out, KL.out]; exact hl)])
      have RX := Lib.hid (show R = 2 by rw [R2.out (by rw [E2.out]; decide), E2.out])
      clear R2 R3 R4 R5
      go_wp2
      go_ret
      exact ⟨by rw [RX.out] <;> rfl, gb_trans G2.out K2.out⟩
  · have ne1 : (e1 != 0) = true := by rw [bne_iff_ne]; exact q1
    have RX := Lib.hid (R1.out q1)
    clear q1 R1
    go_wp2
    go_ret
    exact ⟨by rw [RX.out] <;> rfl, gb_trans G2.out K1.out⟩
end Go.Proofs.Ytgdefahnmgonlaa
