/- Entries: which of two rows takes precedence, on both sides; no condition but sizes. -/
import Derived.Test.YtgdefahnmgonlaaEnC
import Derived.Test.YtgdefahnmgonlaaTbG
import Derived.Deep.QuietTactic
import Derived.BigQuiet
namespace Go.Proofs.Ytgdefahnmgonlaa
open Go.RowKit
set_option linter.unusedVariables false
/-- The first LPM key of a list, or -1. -/
def lpmI (ks : List TKy) : Int := idxI (ks.map fun x => x.k) 2
theorem mk_at (ks : List TKy) (j : Nat) : (ks.map fun x => x.k).getD j 0 = (ks.getD j tkz).k := by
  rw [List.getD_eq_getElem?_getD, List.getElem?_map, List.getD_eq_getElem?_getD]
  cases ks[j]? <;> rfl
theorem lpm_yes {ks : List TKy} {j : Nat} (h : j < ks.length) (e : (ks.getD j tkz).k = 2) (b : ∀ i, i < j → (ks.getD i tkz).k ≠ 2) : lpmI ks = j :=
  idx_yes (by simpa using h) (by rw [mk_at]; exact e) (fun i hi => by rw [mk_at]; exact b i hi)
theorem lpm_no {ks : List TKy} (b : ∀ i, i < ks.length → (ks.getD i tkz).k ≠ 2) : lpmI ks = -1 :=
  idx_no (fun i hi => by rw [mk_at]; exact b i (by simpa using hi))
def lpmT (P : Pg) (t : Int) : Int := if 0 ≤ t ∧ t < P.T.length then lpmI (P.T.getD t.toNat tbz).ks else -1
def onesE (ks : List Km) (i : Int) : Int := if 0 ≤ i ∧ i < ks.length then onesB (ks.getD i.toNat kmz).m else 0
/-- Row a (its ID ia) takes precedence over row b. -/
def precE (P : Pg) (t : Int) (ia : Int) (a : En) (ib : Int) (b : En) : Bool :=
  if a.pr = b.pr then (if onesE a.ks (lpmT P t) = onesE b.ks (lpmT P t) then decide (ia < ib) else decide (onesE b.ks (lpmT P t) < onesE a.ks (lpmT P t))) else decide (b.pr < a.pr)
theorem onesE_rng (ks : List Km) (i : Int) : 0 ≤ onesE ks i ∧ onesE ks i ≤ 32 := by
  unfold onesE
  split
  · exact onesTo_range 32 _
  · omega
theorem lk1_any (w : World) (h f k : Int) : Calls Try.prog 65 #[.agg #[.int .i64 h, .int .i64 f, .int .i64 k]] w (RetV (.bool (k == 2)) w) := by
  go_enter Try.func65, Try.ntmps65
  go_wp2
  go_ret
  exact ⟨rfl, gb_alloc _ _ _⟩
set_option maxRecDepth 100000 in
set_option maxHeartbeats 4000000 in
theorem idxk_any (w : World) (a : Option Addr) (n c : Nat) (ks : List TKy) (h : SKy w a n c ks) (hn : n ≤ 1000) : Calls Try.prog 64 #[.slice a n c, .func (.func 65) #[] #[]] w (RetV (.int .i64 (lpmI ks)) w) := by
  have HK := Lib.hid h
  have HN := Lib.hid hn
  have KL := Lib.hid (show ks.length = n from h.len)
  obtain ⟨R, hR⟩ : ∃ R, R = lpmI ks := ⟨_, rfl⟩
  have HR := Lib.hid hR
  rw [← hR]
  clear h hn hR
  go_enter Try.func64, Try.ntmps64
  go_wp2
  go_loopw [8] (fun i wr => ∃ j : Nat, j ≤ n ∧ i = .int .i64 j ∧ (∀ i, i < j → (ks.getD i tkz).k ≠ 2) ∧ w.grownBy wr none) (fun i _ => n - (intOf i).toNat)
  case atStart => exact ⟨0, Nat.zero_le _, rfl, (fun i hi => absurd hi (Nat.not_lt_zero _)), gb_refl _ _⟩
  case round =>
    obtain ⟨j, hj, rfl, hb, hg⟩ := hrel
    have HB := Lib.hid hb
    have G := Lib.hid hg
    clear hb hg
    by_cases hlt : j < n
    · have i1 : (j : Int) < n := by omega
      have i0 : (0 : Int) ≤ (j : Int) := by omega
      have hw : IntKind.i64.wrap ((j : Int) + 1) = ((j + 1 : Nat) : Int) := by have := HN.out; rw [IntKind.wrap_i64]; omega
      obtain ⟨ad, rfl⟩ := HK.out.some (by omega)
      obtain ⟨y0, y1, y2⟩ := (HK.out.keep0SKy G.out).cells ad rfl j hlt
      have YS := Lib.hid (fun (q : (ks.getD j tkz).k = 2) => show R = j by rw [HR.out]; exact lpm_yes (by have := KL.out; omega) q HB.out)
      have NX := Lib.hid (fun (q : (ks.getD j tkz).k ≠ 2) => (fun i hi => by rcases (show i < j ∨ i = j by omega) with r | rfl; exact HB.out i r; exact q : ∀ i, i < j + 1 → (ks.getD i tkz).k ≠ 2))
      generalize (ks.getD j tkz).h = kh at *
      generalize (ks.getD j tkz).f = kf at *
      generalize (ks.getD j tkz).k = kk at *
      have L1 := Lib.hid (lk1_any wr kh kf kk)
      cases e : kk == 2
      · rw [e] at L1
        have N2 := Lib.hid (NX.out (by simpa using e))
        clear e
        go_wp2_with fail
        refine L1.out.mono ?_
        rintro e w3 ⟨rfl, g⟩
        have G3 := Lib.hid (gb_trans G.out g)
        clear g
        go_wp2
        exact ⟨⟨j + 1, by omega, by simp, N2.out, G3.out⟩, by show n - ((j : Int) + 1).toNat < n - (j : Int).toNat; omega⟩
      · rw [e] at L1
        have RY := Lib.hid (YS.out (by simpa using e))
        clear e
        go_wp2_with fail
        refine L1.out.mono ?_
        rintro e w3 ⟨rfl, g⟩
        have G3 := Lib.hid (gb_trans G.out g)
        clear g
        go_wp2
        go_ret
        exact ⟨by rw [RY.out]; rfl, G3.out⟩
    · have i1 : ¬ (j : Int) < n := by omega
      have RN := Lib.hid (show R = -1 by rw [HR.out]; exact lpm_no (fun i hi => HB.out i (by have := KL.out; omega)))
      go_wp2
      go_ret
      exact ⟨by rw [RN.out]; rfl, G.out⟩
set_option maxRecDepth 100000 in
set_option maxHeartbeats 4000000 in
theorem plpm_any (w : World) (X : PX) (P : Pg) (hp : SP w X P) (hz : szT P) (t : Int) : Calls Try.prog 37 #[.agg #[.string X.nm, .slice X.ha X.hn X.hc, .slice X.ma X.mn X.mc, .slice X.ra X.rn X.rc, .slice X.aa X.an X.ac, .slice X.ta X.tn X.tc, .slice X.sa X.sn X.sc, .slice X.ca X.cn X.cc, .slice X.da X.dn X.dc], .int .i64 t] w (RetV (.int .i64 (lpmT P t)) w) := by
  have HP := Lib.hid hp
  have HZ := Lib.hid hz
  have TL := Lib.hid (show P.T.length = X.tn from hp.t.len)
  obtain ⟨R, hR⟩ : ∃ R, R = lpmT P t := ⟨_, rfl⟩
  have HR := Lib.hid hR
  rw [← hR]
  have G2 := Lib.hid (gb_alloc w (.cells #[.string X.nm, .slice X.ha X.hn X.hc, .slice X.ma X.mn X.mc, .slice X.ra X.rn X.rc, .slice X.aa X.an X.ac, .slice X.ta X.tn X.tc, .slice X.sa X.sn X.sc, .slice X.ca X.cn X.cc, .slice X.da X.dn X.dc] 31) none)
  have B1 := IsB.new w 31 #[.string X.nm, .slice X.ha X.hn X.hc, .slice X.ma X.mn X.mc, .slice X.ra X.rn X.rc, .slice X.aa X.an X.ac, .slice X.ta X.tn X.tc, .slice X.sa X.sn X.sc, .slice X.ca X.cn X.cc, .slice X.da X.dn X.dc]
  replace B1 := Lib.hid B1
  clear hp hz hR
  go_enter Try.func37, Try.ntmps37
  go_upto_region 1 with fail
  generalize w.alloc (.cells #[.string X.nm, .slice X.ha X.hn X.hc, .slice X.ma X.mn X.mc, .slice X.ra X.rn X.rc, .slice X.aa X.an X.ac, .slice X.ta X.tn X.tc, .slice X.sa X.sn X.sc, .slice X.ca X.cn X.cc, .slice X.da X.dn X.dc] 31) = w2 at *
  obtain ⟨bx, hbx⟩ : ∃ b, b = w.heap.size := ⟨_, rfl⟩
  have Lbx := Lib.hid (show w.heap.size ≤ bx by rw [hbx]; exact Nat.le_refl _)
  rw [← hbx] at B1 ⊢
  clear hbx
  replace HP := Lib.hid (HP.out.keep0 G2.out)
  have c0 := (B1.out.keep0 (gb_refl _ _)).cell 0
  have c1 := (B1.out.keep0 (gb_refl _ _)).cell 1
  have c2 := (B1.out.keep0 (gb_refl _ _)).cell 2
  have c3 := (B1.out.keep0 (gb_refl _ _)).cell 3
  have c4 := (B1.out.keep0 (gb_refl _ _)).cell 4
  have c5 := (B1.out.keep0 (gb_refl _ _)).cell 5
  have c6 := (B1.out.keep0 (gb_refl _ _)).cell 6
  have c7 := (B1.out.keep0 (gb_refl _ _)).cell 7
  have c8 := (B1.out.keep0 (gb_refl _ _)).cell 8
  dsimp at c0 c1 c2 c3 c4 c5 c6 c7 c8
  by_cases t0 : t < 0
  · have RN := Lib.hid (show R = -1 by rw [HR.out]; unfold lpmT; rw [if_neg (by rw [TL.out]; omega)])
    go_wp2
    go_ret
    exact ⟨by rw [RN.out]; rfl, G2.out⟩
  · by_cases t1 : (X.tn : Int) ≤ t
    · have RN := Lib.hid (show R = -1 by rw [HR.out]; unfold lpmT; rw [if_neg (by rw [TL.out]; omega)])
      go_wp2
      go_ret
      exact ⟨by rw [RN.out]; rfl, G2.out⟩
    · obtain ⟨k, rfl⟩ : ∃ k : Nat, t = (k : Int) := ⟨t.toNat, by omega⟩
      have hk : k < X.tn := by omega
      have k0 : (0 : Int) ≤ (k : Int) := by omega
      have k1 : (k : Int) < X.tn := by omega
      obtain ⟨tad, hta⟩ := HP.out.t.some (by omega)
      obtain ⟨Y0, st, x0, x1, x2, x3, x4, x5⟩ := HP.out.tab hk hta
      have KN := Lib.hid (show Y0.kn ≤ 1000 from (HZ.out.at_ (X := X) (by rw [TL.out]; exact hk) st).1)
      have RK := Lib.hid (show R = lpmI (P.T.getD k tbz).ks by rw [HR.out]; unfold lpmT; rw [if_pos (by rw [TL.out]; omega), Int.toNat_natCast])
      have SK := Lib.hid st.k
      generalize P.T.getD k tbz = tb at *
      clear x0 x2 x3 x4 x5 st HR
      rw [hta] at c5 ⊢
      go_wp2_with fail
      refine (idxk_any w2 _ _ _ _ SK.out KN.out).mono ?_
      rintro e w3 ⟨rfl, g⟩
      have G3 := Lib.hid (gb_trans G2.out g)
      clear g
      go_wp2
      go_ret
      exact ⟨by rw [RK.out]; rfl, G3.out⟩
set_option maxRecDepth 100000 in
set_option maxHeartbeats 4000000 in
theorem pones_any (w : World) (Y : EX) (x : En) (h : SE w Y x) (i : Int) : Calls Try.prog 38 #[.agg #[.slice Y.ka Y.kn Y.kc, .int .i64 x.pr, .int .i64 x.ac, .slice Y.ra Y.rn Y.rc], .int .i64 i] w (RetV (.int .i64 (onesE x.ks i)) w) := by
  have HE := Lib.hid h
  have KL := Lib.hid (show x.ks.length = Y.kn from h.k.len)
  obtain ⟨R, hR⟩ : ∃ R, R = onesE x.ks i := ⟨_, rfl⟩
  have HR := Lib.hid hR
  unfold onesE at HR
  rw [← hR]
  have G2 := Lib.hid (gb_alloc w (.cells #[.slice Y.ka Y.kn Y.kc, .int .i64 x.pr, .int .i64 x.ac, .slice Y.ra Y.rn Y.rc] 37) none)
  have B1 := IsB.new w 37 #[.slice Y.ka Y.kn Y.kc, .int .i64 x.pr, .int .i64 x.ac, .slice Y.ra Y.rn Y.rc]
  replace B1 := Lib.hid B1
  clear h hR
  go_enter Try.func38, Try.ntmps38
  go_upto_region 1 with fail
  generalize w.alloc (.cells #[.slice Y.ka Y.kn Y.kc, .int .i64 x.pr, .int .i64 x.ac, .slice Y.ra Y.rn Y.rc] 37) = w2 at *
  obtain ⟨bx, hbx⟩ : ∃ b, b = w.heap.size := ⟨_, rfl⟩
  have Lbx := Lib.hid (show w.heap.size ≤ bx by rw [hbx]; exact Nat.le_refl _)
  rw [← hbx] at B1 ⊢
  clear hbx
  replace HE := Lib.hid (HE.out.keep0 G2.out)
  have c0 := B1.out.cell 0
  dsimp at c0
  by_cases t0 : i < 0
  · have RN := Lib.hid (show R = 0 by rw [HR.out]; rw [if_neg (by omega)])
    go_wp2
    go_ret
    exact ⟨by rw [RN.out]; rfl, G2.out⟩
  · by_cases t1 : (Y.kn : Int) ≤ i
    · have RN := Lib.hid (show R = 0 by rw [HR.out]; rw [if_neg (by rw [KL.out]; omega)])
      go_wp2
      go_ret
      exact ⟨by rw [RN.out]; rfl, G2.out⟩
    · obtain ⟨k, rfl⟩ : ∃ k : Nat, i = (k : Int) := ⟨i.toNat, by omega⟩
      have hk : k < Y.kn := by omega
      have k0 : (0 : Int) ≤ (k : Int) := by omega
      have k1 : (k : Int) < Y.kn := by omega
      obtain ⟨ad, had⟩ := HE.out.k.some (by omega)
      obtain ⟨_, y1, m0, m1⟩ := HE.out.k.cells ad had k hk
      have RK := Lib.hid (show R = onesB (x.ks.getD k kmz).m by rw [HR.out, if_pos (by rw [KL.out]; omega), Int.toNat_natCast])
      have OC := Lib.hid (ones_any (x.ks.getD k kmz).m w2 m0 m1)
      generalize (x.ks.getD k kmz).m = mm at *
      clear HR m0 m1
      rw [had] at c0 ⊢
      go_wp2_with fail
      refine OC.out.mono ?_
      rintro e w3 ⟨rfl, rfl⟩
      go_wp2
      go_ret
      exact ⟨by rw [RK.out]; rfl, G2.out⟩
set_option maxRecDepth 100000 in
set_option maxHeartbeats 4000000 in
theorem rpre_any (w : World) (X : PX) (P : Pg) (hp : SP w X P) (hz : szT P) (t : Int) (Y : EX) (x : En) (h : SE w Y x) : Calls Try.prog 39 #[.agg #[.string X.nm, .slice X.ha X.hn X.hc, .slice X.ma X.mn X.mc, .slice X.ra X.rn X.rc, .slice X.aa X.an X.ac, .slice X.ta X.tn X.tc, .slice X.sa X.sn X.sc, .slice X.ca X.cn X.cc, .slice X.da X.dn X.dc], .int .i64 t, .agg #[.slice Y.ka Y.kn Y.kc, .int .i64 x.pr, .int .i64 x.ac, .slice Y.ra Y.rn Y.rc]] w (RetV (.int .i64 (onesE x.ks (lpmT P t))) w) := by
  have HP := Lib.hid hp
  have HZ := Lib.hid hz
  have HE := Lib.hid h
  have KL := Lib.hid (show x.ks.length = Y.kn from h.k.len)
  have TL := Lib.hid (show P.T.length = X.tn from hp.t.len)
  obtain ⟨R, hR⟩ : ∃ R, R = onesE x.ks (lpmT P t) := ⟨_, rfl⟩
  have HR := Lib.hid hR
  rw [← hR]
  have G2 := Lib.hid (gb_trans (gb_alloc w (.cells #[.string X.nm, .slice X.ha X.hn X.hc, .slice X.ma X.mn X.mc, .slice X.ra X.rn X.rc, .slice X.aa X.an X.ac, .slice X.ta X.tn X.tc, .slice X.sa X.sn X.sc, .slice X.ca X.cn X.cc, .slice X.da X.dn X.dc] 31) none) (gb_alloc _ (.cells #[.slice Y.ka Y.kn Y.kc, .int .i64 x.pr, .int .i64 x.ac, .slice Y.ra Y.rn Y.rc] 37) none))
  have B1 := (IsB.new w 31 #[.string X.nm, .slice X.ha X.hn X.hc, .slice X.ma X.mn X.mc, .slice X.ra X.rn X.rc, .slice X.aa X.an X.ac, .slice X.ta X.tn X.tc, .slice X.sa X.sn X.sc, .slice X.ca X.cn X.cc, .slice X.da X.dn X.dc]).alloc (.cells #[.slice Y.ka Y.kn Y.kc, .int .i64 x.pr, .int .i64 x.ac, .slice Y.ra Y.rn Y.rc] 37)
  have B2 := IsB.new (w.alloc (.cells #[.string X.nm, .slice X.ha X.hn X.hc, .slice X.ma X.mn X.mc, .slice X.ra X.rn X.rc, .slice X.aa X.an X.ac, .slice X.ta X.tn X.tc, .slice X.sa X.sn X.sc, .slice X.ca X.cn X.cc, .slice X.da X.dn X.dc] 31)) 37 #[.slice Y.ka Y.kn Y.kc, .int .i64 x.pr, .int .i64 x.ac, .slice Y.ra Y.rn Y.rc]
  simp only [sz_al] at B2
  replace B1 := Lib.hid B1
  replace B2 := Lib.hid B2
  clear hp hz hR h
  go_enter Try.func39, Try.ntmps39
  go_upto_region 1 with fail
  generalize (w.alloc (.cells #[.string X.nm, .slice X.ha X.hn X.hc, .slice X.ma X.mn X.mc, .slice X.ra X.rn X.rc, .slice X.aa X.an X.ac, .slice X.ta X.tn X.tc, .slice X.sa X.sn X.sc, .slice X.ca X.cn X.cc, .slice X.da X.dn X.dc] 31)).alloc (.cells #[.slice Y.ka Y.kn Y.kc, .int .i64 x.pr, .int .i64 x.ac, .slice Y.ra Y.rn Y.rc] 37) = w2 at *
  obtain ⟨bx, hbx⟩ : ∃ b, b = w.heap.size := ⟨_, rfl⟩
  have Lbx := Lib.hid (show w.heap.size ≤ bx by rw [hbx]; exact Nat.le_refl _)
  rw [← hbx] at B1 B2 ⊢
  clear hbx
  replace HP := Lib.hid (HP.out.keep0 G2.out)
  replace HE := Lib.hid (HE.out.keep0 G2.out)
  have c0 := (B1.out.keep0 (gb_refl _ _)).cell 0
  have c1 := (B1.out.keep0 (gb_refl _ _)).cell 1
  have c2 := (B1.out.keep0 (gb_refl _ _)).cell 2
  have c3 := (B1.out.keep0 (gb_refl _ _)).cell 3
  have c4 := (B1.out.keep0 (gb_refl _ _)).cell 4
  have c5 := (B1.out.keep0 (gb_refl _ _)).cell 5
  have c6 := (B1.out.keep0 (gb_refl _ _)).cell 6
  have c7 := (B1.out.keep0 (gb_refl _ _)).cell 7
  have c8 := (B1.out.keep0 (gb_refl _ _)).cell 8
  dsimp at c0 c1 c2 c3 c4 c5 c6 c7 c8
  by_cases t0 : t < 0
  · have RN := Lib.hid (show R = 0 by rw [HR.out]; rw [show lpmT P t = -1 by unfold lpmT; rw [if_neg (by rw [TL.out]; omega)]]; unfold onesE; rw [if_neg (by omega)])
    go_wp2
    go_ret
    exact ⟨by rw [RN.out]; rfl, G2.out⟩
  · by_cases t1 : (X.tn : Int) ≤ t
    · have RN := Lib.hid (show R = 0 by rw [HR.out]; rw [show lpmT P t = -1 by unfold lpmT; rw [if_neg (by rw [TL.out]; omega)]]; unfold onesE; rw [if_neg (by omega)])
      go_wp2
      go_ret
      exact ⟨by rw [RN.out]; rfl, G2.out⟩
    · obtain ⟨k, rfl⟩ : ∃ k : Nat, t = (k : Int) := ⟨t.toNat, by omega⟩
      have hk : k < X.tn := by omega
      have k0 : (0 : Int) ≤ (k : Int) := by omega
      have k1 : (k : Int) < X.tn := by omega
      obtain ⟨tad, hta⟩ := HP.out.t.some (by omega)
      obtain ⟨Y0, st, x0, x1, x2, x3, x4, x5⟩ := HP.out.tab hk hta
      have KN := Lib.hid (show Y0.kn ≤ 1000 from (HZ.out.at_ (X := X) (by rw [TL.out]; exact hk) st).1)
      have RK := Lib.hid (show R = onesE x.ks (lpmI (P.T.getD k tbz).ks) by rw [HR.out]; congr 1; unfold lpmT; rw [if_pos (by rw [TL.out]; omega), Int.toNat_natCast])
      have SK := Lib.hid st.k
      generalize P.T.getD k tbz = tb at *
      clear x0 x2 x3 x4 x5 st HR
      rw [hta] at c5 ⊢
      have KS := Lib.hid (show tb.ks.length = Y0.kn from SK.out.len)
      have X1 := Lib.hid x1
      clear x1
      go_wp2
      clear c0 c1 c2 c3 c4 c5 c6 c7 c8
      go_loopw [7] (fun i wr => ∃ j : Nat, j ≤ Y0.kn ∧ i = .int .i64 j ∧ (∀ i, i < j → (tb.ks.getD i tkz).k ≠ 2) ∧ w2.grownBy wr none) (fun i _ => Y0.kn - (intOf i).toNat)
      case atStart => exact ⟨0, Nat.zero_le _, rfl, (fun i hi => absurd hi (Nat.not_lt_zero _)), gb_refl _ _⟩
      case round =>
        obtain ⟨j, hj, rfl, hb, hg⟩ := hrel
        have HB := Lib.hid hb
        have G := Lib.hid hg
        clear hb hg
        have c5 := (B1.out.keep0 G.out).cell 5
        have d0 := (B2.out.keep0 G.out).cell 0
        have x1 := G.out.cell X1.out (by simp)
        dsimp at c5 d0
        rw [hta] at c5
        by_cases hlt : j < Y0.kn
        · have i1 : (j : Int) < Y0.kn := by omega
          have i0 : (0 : Int) ≤ (j : Int) := by omega
          have hw : IntKind.i64.wrap ((j : Int) + 1) = ((j + 1 : Nat) : Int) := by have := KN.out; rw [IntKind.wrap_i64]; omega
          obtain ⟨kad, hkd⟩ := SK.out.some (by omega)
          obtain ⟨_, _, y2⟩ := (SK.out.keep0SKy G.out).cells kad hkd j hlt
          have YS := Lib.hid (fun (q : (tb.ks.getD j tkz).k = 2) => show R = onesE x.ks j by rw [RK.out, lpm_yes (by have := KS.out; omega) q HB.out])
          have NX := Lib.hid (fun (q : (tb.ks.getD j tkz).k ≠ 2) => (fun i hi => by rcases (show i < j ∨ i = j by omega) with r | rfl; exact HB.out i r; exact q : ∀ i, i < j + 1 → (tb.ks.getD i tkz).k ≠ 2))
          generalize (tb.ks.getD j tkz).k = kk at *
          rw [hkd] at x1
          cases e : kk == 2
          · have N2 := Lib.hid (NX.out (by simpa using e))
            go_wp2
            exact ⟨⟨j + 1, by omega, by simp, N2.out, G.out⟩, by show Y0.kn - ((j : Int) + 1).toNat < Y0.kn - (j : Int).toNat; omega⟩
          · have RY := Lib.hid (YS.out (by simpa using e))
            unfold onesE at RY
            by_cases q : (Y.kn : Int) ≤ j
            · have RN := Lib.hid (show R = 0 by rw [RY.out]; rw [if_neg (by rw [KL.out]; omega)])
              go_wp2
              go_ret
              exact ⟨by rw [RN.out]; rfl, gb_trans G2.out G.out⟩
            · have q1 : (j : Int) < Y.kn := by omega
              obtain ⟨ad, had⟩ := HE.out.k.some (by omega)
              obtain ⟨_, y1, m0, m1⟩ := (HE.out.keep0 G.out).k.cells ad had j (by omega)
              have RW := Lib.hid (show R = onesB (x.ks.getD j kmz).m by rw [RY.out, if_pos (by rw [KL.out]; omega), Int.toNat_natCast])
              have OC := Lib.hid (rones_any (x.ks.getD j kmz).m wr m0 m1)
              generalize (x.ks.getD j kmz).m = mm at *
              clear m0 m1
              rw [had] at d0 ⊢
              go_wp2_with fail
              refine OC.out.mono ?_
              rintro e w3 ⟨rfl, rfl⟩
              go_wp2
              go_ret
              exact ⟨by rw [RW.out]; rfl, gb_trans G2.out G.out⟩
        · have i1 : ¬ (j : Int) < Y0.kn := by omega
          have RN := Lib.hid (show R = 0 by rw [RK.out, lpm_no (fun i hi => HB.out i (by have := KS.out; omega))]; unfold onesE; rw [if_neg (by omega)])
          go_wp2
          go_ret
          exact ⟨by rw [RN.out]; rfl, gb_trans G2.out G.out⟩
end Go.Proofs.Ytgdefahnmgonlaa
