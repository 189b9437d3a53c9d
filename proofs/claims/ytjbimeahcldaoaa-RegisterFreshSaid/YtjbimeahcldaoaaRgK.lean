/- Register: load, store, apply of the program; no condition but sizes. -/
import Derived.Test.YtjbimeahcldaoaaRgJ
namespace Go.Proofs.Ytjbimeahcldaoaa
open Go.RowKit
set_option linter.unusedVariables false
set_option maxRecDepth 100000 in
set_option maxHeartbeats 4000000 in
theorem load_any (w : World) (fa : Addr) (fn fc : Nat) (l : List Int) (j : Nat) (wd v : Int) (h : SU w (some fa) fn fc l) (hj : j < fn) (hb : (j : Int) < 4294967296) : Calls Try.prog 36 #[.agg #[.slice (some fa) fn fc, .int .u32 j, .int .i64 wd], .int .u32 v] w (RetV (.int .u32 (l.getD j 0)) w) := by
  have c0 := h.cells fa rfl j hj
  obtain ⟨y, hy⟩ : ∃ y, y = l.getD j 0 := ⟨_, rfl⟩
  rw [← hy] at c0 ⊢
  have c1 := (gb_alloc w (.cells #[.slice (some fa) fn fc, .int .u32 j, .int .i64 wd] 66) none).cell c0 (by simp)
  have j1 : (j : Int) < (fn : Int) := by omega
  clear h hy c0
  go_enter Try.func36, Try.ntmps36
  go_wp2
  go_ret
  exact ⟨rfl, gb_alloc _ _ _⟩
theorem nu_cell {w : World} {base g fn fc : Nat} {l : List Int} (h : NU w base (.slice (some ⟨g, 0, none⟩) fn fc) l) (hn : l.length = fn) (j : Nat) (hj : j < fn) : w.cell? ⟨g, j, none⟩ = some (.int .u32 (l.getD j 0)) ∧ w.frozen? ⟨g, j, none⟩ = false := by
  subst hn
  exact ⟨own_cell h j hj, World.ownsRow.frozenAt h j⟩
def stoL (l : List Int) (j : Nat) (v wd : Int) : List Int := if okW wd then l.set j (redB v wd) else l
set_option maxRecDepth 100000 in
set_option maxHeartbeats 8000000 in
theorem store_any (w : World) (base g fn fc : Nat) (l : List Int) (j : Nat) (wd v : Int) (h : NU w base (.slice (some ⟨g, 0, none⟩) fn fc) l) (hn : l.length = fn) (hj : j < fn) (hb : (j : Int) < 4294967296) (v0 : 0 ≤ v) (v1 : v < 4294967296) :
    Calls Try.prog 39 #[.agg #[.slice (some ⟨g, 0, none⟩) fn fc, .int .u32 j, .int .i64 wd], .int .u32 v] w (fun e w' => (∃ y : Int, e = .returned (.int .u32 y)) ∧ NU w' base (.slice (some ⟨g, 0, none⟩) fn fc) (stoL l j v wd) ∧ w.grownBy w' (some g)) := by
  have IW := Lib.hid (fun W => isw_any W wd)
  unfold RetV at IW
  have MK := Lib.hid (fun W => mask_any wd W)
  have AM := Lib.hid (and_mask v wd v0 v1)
  have LG := Lib.hid (World.ownsRow.lt h g rfl).2
  have H := Lib.hid h
  clear h
  have j1 : (j : Int) < (fn : Int) := by omega
  obtain ⟨A, hA⟩ : ∃ A, A = w.heap.size := ⟨_, rfl⟩
  obtain ⟨w1, hw1⟩ : ∃ w1, w1 = w.alloc (.cells #[.slice (some ⟨g, 0, none⟩) fn fc, .int .u32 j, .int .i64 wd] 66) := ⟨_, rfl⟩
  have BA := Lib.hid (show IsB w1 A 66 #[.slice (some ⟨g, 0, none⟩) fn fc, .int .u32 j, .int .i64 wd] from by rw [hw1, hA]; exact IsB.new _ _ _)
  have GZ := Lib.hid (show w.grownBy w1 none from by rw [hw1]; exact gb_al (gb_refl _ _))
  have NE := Lib.hid (show A ≠ g from by rw [hA]; have := LG.out; omega)
  go_enter Try.func39, Try.ntmps39
  go_upto_region 1 with fail
  rw [← hw1, ← hA]
  clear hw1 hA
  have s2 : w1.cell? ⟨A, 2, none⟩ = some (.int .i64 wd) := BA.out.cell 2
  cases hw : okW wd
  · rw [hw] at IW
    have ES := Lib.hid (show stoL l j v wd = l from by unfold stoL; rw [hw]; rfl)
    clear hw
    go_wp2_with fail
    refine (IW.out _).mono ?_
    rintro e w3 ⟨rfl, g3⟩
    have G3 := Lib.hid (gb_trans GZ.out g3)
    have B3 := BA.out.keep0 g3
    have t0 : w3.cell? ⟨A, 0, none⟩ = some (.slice (some ⟨g, 0, none⟩) fn fc) := B3.cell 0
    have t1 : w3.cell? ⟨A, 1, none⟩ = some (.int .u32 j) := B3.cell 1
    have N3 := Lib.hid (H.out.keep0 G3.out)
    have d0 := (nu_cell N3.out hn j hj).1
    clear g3 B3 s2
    generalize l.getD j 0 = y at d0
    go_wp2
    go_ret
    exact ⟨⟨_, rfl⟩, by rw [ES.out]; exact N3.out, gb_any G3.out⟩
  · rw [hw] at IW
    have ES := Lib.hid (show stoL l j v wd = l.set j (redB v wd) from by unfold stoL; rw [hw]; rfl)
    clear hw
    go_wp2_with fail
    refine (IW.out _).mono ?_
    rintro e w3 ⟨rfl, g3⟩
    have G3 := Lib.hid (gb_trans GZ.out g3)
    have B3 := Lib.hid (BA.out.keep0 g3)
    have t0 : w3.cell? ⟨A, 0, none⟩ = some (.slice (some ⟨g, 0, none⟩) fn fc) := B3.out.cell 0
    have t1 : w3.cell? ⟨A, 1, none⟩ = some (.int .u32 j) := B3.out.cell 1
    have t2 : w3.cell? ⟨A, 2, none⟩ = some (.int .i64 wd) := B3.out.cell 2
    have N3 := Lib.hid (H.out.keep0 G3.out)
    obtain ⟨d0, f0⟩ := nu_cell N3.out hn j hj
    clear g3 s2
    generalize l.getD j 0 = y at d0
    have f1 := (redB_range v wd).1
    have f2 : redB v wd < 4294967296 := by have := (redB_range v wd).2; omega
    have AM2 := AM.out
    have NE2 := NE.out
    go_upto_region 2 with fail
    have KT := Lib.hid (fun (w' : World) (h : IsB w' A 66 #[.slice (some ⟨g, 0, none⟩) fn fc, .int .u32 j, .int .i64 wd]) => (⟨h.cell 0, h.cell 1, h.cell 2, trivial⟩ : (fun w' : World => w'.cell? ⟨A, 0, none⟩ = some (.slice (some ⟨g, 0, none⟩) fn fc) ∧ w'.cell? ⟨A, 1, none⟩ = some (.int .u32 j) ∧ w'.cell? ⟨A, 2, none⟩ = some (.int .i64 wd) ∧ True) w'))
    refine wp_region_held_drew (S := (fun w' : World => w'.cell? ⟨A, 0, none⟩ = some (.slice (some ⟨g, 0, none⟩) fn fc) ∧ w'.cell? ⟨A, 1, none⟩ = some (.int .u32 j) ∧ w'.cell? ⟨A, 2, none⟩ = some (.int .i64 wd) ∧ True)) (by kernel_rfl) (KT.out _ (B3.out.keep0 (gb_drew w3 none))) (fun hH0 => ?_)
    refine wpAnyH_take (i := 0) (v := ?v1) rfl (by kernel_rfl) (by kernel_rfl) (by kernel_rfl) (fun _ _ _ h => h) (Or.inl ⟨by rfl, ?hy1⟩) (by assumption) ?rest1
    case hy1 => (intro wz hSw; (try dsimp only at hSw); first | (go_simp; done) | (go_simp; with_reducible rfl))
    try simp only [Act.put, List.getElem_toArray, List.getElem_cons_zero, List.setIfInBounds_toArray, List.set_cons_zero, List.set_cons_succ]
    refine wpAnyH_take (i := 1) (v := ?v2) rfl (by kernel_rfl) (by kernel_rfl) (by kernel_rfl) (fun _ _ _ h => h) (Or.inl ⟨by rfl, ?hy2⟩) (by assumption) ?rest2
    case hy2 => (intro wz hSw; (try dsimp only at hSw); first | (go_simp; done) | (go_simp; with_reducible rfl))
    try simp only [Act.put, List.getElem_toArray, List.getElem_cons_succ, List.getElem_cons_zero, List.setIfInBounds_toArray, List.set_cons_zero, List.set_cons_succ]
    refine wpAnyH_take (i := 2) (v := ?v3) rfl (by kernel_rfl) (by kernel_rfl) (by kernel_rfl) (fun _ _ _ h => h) (Or.inl ⟨by rfl, ?hy3⟩) (by assumption) ?rest3
    case hy3 => (intro wz hSw; (try dsimp only at hSw); first | (go_simp; done) | (go_simp; with_reducible rfl))
    try simp only [Act.put, List.getElem_toArray, List.getElem_cons_succ, List.getElem_cons_zero, List.setIfInBounds_toArray, List.set_cons_zero, List.set_cons_succ]
    refine wpAnyH_take (i := 3) (v := ?v4) rfl (by kernel_rfl) (by kernel_rfl) (by kernel_rfl) (fun _ _ _ h => h) (Or.inl ⟨by rfl, ?hy4⟩) (by assumption) ?rest4
    case hy4 => (intro wz hSw; (try dsimp only at hSw); first | (go_simp; done) | (go_simp; with_reducible rfl))
    try simp only [Act.put, List.getElem_toArray, List.getElem_cons_succ, List.getElem_cons_zero, List.setIfInBounds_toArray, List.set_cons_zero, List.set_cons_succ]
    refine wpAnyH_take (i := 4) (v := ?v5) rfl (by kernel_rfl) (by kernel_rfl) (by kernel_rfl) (fun _ _ _ h => h) (Or.inl ⟨by rfl, ?hy5⟩) (by assumption) ?rest5
    case hy5 => (intro wz hSw; (try dsimp only at hSw); first | (go_simp; done) | (go_simp; with_reducible rfl))
    try simp only [Act.put, List.getElem_toArray, List.getElem_cons_succ, List.getElem_cons_zero, List.setIfInBounds_toArray, List.set_cons_zero, List.set_cons_succ]
    refine wpAnyH_take (i := 5) (v := ?v6) rfl (by kernel_rfl) (by kernel_rfl) (by kernel_rfl) (fun _ _ _ h => h) (Or.inl ⟨by rfl, ?hy6⟩) (by assumption) ?rest6
    case hy6 => (intro wz hSw; (try dsimp only at hSw); first | (go_simp; done) | (go_simp; with_reducible rfl))
    try simp only [Act.put, List.getElem_toArray, List.getElem_cons_succ, List.getElem_cons_zero, List.setIfInBounds_toArray, List.set_cons_zero, List.set_cons_succ]
    refine wpAnyH_take (i := 6) (v := ?v7) rfl (by kernel_rfl) (by kernel_rfl) (by kernel_rfl) (fun _ _ _ h => h) (Or.inl ⟨by rfl, ?hy7⟩) (by assumption) ?rest7
    case hy7 => (intro wz hSw; (try dsimp only at hSw); first | (go_simp; done) | (go_simp; with_reducible rfl))
    try simp only [Act.put, List.getElem_toArray, List.getElem_cons_succ, List.getElem_cons_zero, List.setIfInBounds_toArray, List.set_cons_zero, List.set_cons_succ]
    refine wpAnyH_ready (rs := [7]) (by kernel_rfl) (by simp) ?_
    refine AllReadyH.cons (o := _) rfl (fun K hK => ?_) AllReadyH.nil
    go_simp
    refine (MK.out _).mono ?_
    rintro e w4 ⟨rfl, q4⟩
    have g4 := gb_trans (gb_drew w3 none) (gb_gr q4 none)
    have B4 := Lib.hid (B3.out.keep0 g4)
    have N4 := Lib.hid (N3.out.keep0 g4)
    have G4 := Lib.hid (gb_trans G3.out g4)
    clear q4 g4
    try dsimp only
    refine hK.out _ _ (KT.out _ B4.out) (fun hH1 => ?_)
    clear hK K hH0
    try simp only [Act.put, List.getElem_toArray, List.getElem_cons_succ, List.getElem_cons_zero, List.setIfInBounds_toArray, List.set_cons_zero, List.set_cons_succ]
    refine wpAnyH_take (i := 8) (v := ?v8) rfl (by kernel_rfl) (by kernel_rfl) (by kernel_rfl) (fun _ _ _ h => h) (Or.inl ⟨by rfl, ?hy8⟩) (by assumption) ?rest8
    case hy8 => (intro wz hSw; (try dsimp only at hSw); first | (go_simp; done) | (go_simp; with_reducible rfl))
    try simp only [Act.put, List.getElem_toArray, List.getElem_cons_succ, List.getElem_cons_zero, List.setIfInBounds_toArray, List.set_cons_zero, List.set_cons_succ]
    refine wpAnyH_take (i := 9) (v := ?v9) rfl (by kernel_rfl) (by kernel_rfl) (by kernel_rfl) (fun _ _ _ h => h) (Or.inl ⟨by rfl, ?hy9⟩) (by assumption) ?rest9
    case hy9 => (intro wz hSw; (try dsimp only at hSw); first | (go_simp; done) | (go_simp; with_reducible rfl))
    try simp only [Act.put, List.getElem_toArray, List.getElem_cons_succ, List.getElem_cons_zero, List.setIfInBounds_toArray, List.set_cons_zero, List.set_cons_succ]
    refine wpAnyH_ready (rs := [10]) (by kernel_rfl) (by simp) ?_
    refine AllReadyH.cons (o := _) rfl (fun K hK => ?_) AllReadyH.nil
    obtain ⟨d4, f4⟩ := nu_cell N4.out hn j hj
    generalize l.getD j 0 = y4 at d4
    go_simp
    try dsimp only
    refine hK.out _ _ (KT.out _ (B4.out.set_far NE2 _ _)) (fun hH2 => ?_)
    clear hK K hH1
    try simp only [Act.put, List.getElem_toArray, List.getElem_cons_succ, List.getElem_cons_zero, List.setIfInBounds_toArray, List.set_cons_zero, List.set_cons_succ]
    refine wpAnyH_done (by kernel_rfl) ?_ _
    clear hH2 KT
    have N5 := Lib.hid (NU.put N4.out hn.symm j (redB v wd))
    have B5 := Lib.hid (B4.out.set_far NE2 j (.int .u32 (redB v wd)))
    have G5 := Lib.hid (gb_trans (gb_any (row := some g) G4.out) (gb_set w4 g j (.int .u32 (redB v wd))))
    obtain ⟨w5, hw5⟩ : ∃ w5, w5 = w4.setCell ⟨g, j, none⟩ (.int .u32 (redB v wd)) := ⟨_, rfl⟩
    rw [← hw5] at N5 B5 G5 ⊢
    clear hw5
    have t0 : w5.cell? ⟨A, 0, none⟩ = some (.slice (some ⟨g, 0, none⟩) fn fc) := B5.out.cell 0
    have t1 : w5.cell? ⟨A, 1, none⟩ = some (.int .u32 j) := B5.out.cell 1
    have d5 := (nu_cell N5.out (by rw [List.length_set]; exact hn) j hj).1
    generalize (l.set j (redB v wd)).getD j 0 = y5 at d5
    go_wp2
    go_ret
    exact ⟨⟨_, rfl⟩, by rw [ES.out]; exact N5.out, G5.out⟩
set_option maxRecDepth 100000 in
set_option maxHeartbeats 8000000 in
theorem apload_any (w : World) (X : PX) (L : List Rg) (a : Option Addr) (n c : Nat) (R : List (List Int)) (r i : Int) (h : SG w X.ra X.rn X.rc L) (g : SR w a n c R) (hn : X.rn ≤ 100000) (hm : n ≤ 100000) (hr : -9223372036854775808 ≤ r ∧ r ≤ 9223372036854775807) (i0 : 0 ≤ i) (i1 : i < 4294967296) (hrow : ∀ j, (R.getD j []).length ≤ 1000000) (y : Int) (hb : readL L R r i = y) :
    Calls Try.prog 35 #[.func (.func 36) #[] #[], .agg #[.string X.nm, .slice X.ha X.hn X.hc, .slice X.ma X.mn X.mc, .slice X.ra X.rn X.rc, .slice X.aa X.an X.ac, .slice X.ta X.tn X.tc, .slice X.sa X.sn X.sc, .slice X.ca X.cn X.cc, .slice X.da X.dn X.dc], .slice a n c, .int .i64 r, .int .u32 i, .int .u32 0] w (RetV (.int .u32 y) w) := by
  have H := Lib.hid h
  have K := Lib.hid g
  have LN := Lib.hid h.len
  have RN := Lib.hid g.len
  have HR := Lib.hid hrow
  have HB := Lib.hid hb
  have IL := Lib.hid (fun W => isi_any W r X.rn)
  have IR := Lib.hid (fun W => isi_any W r n)
  unfold RetS at IL IR
  clear h g hrow hb
  obtain ⟨A, hA⟩ : ∃ A, A = w.heap.size := ⟨_, rfl⟩
  obtain ⟨w1, hw1⟩ : ∃ w1, w1 = w.alloc (.cells #[.string X.nm, .slice X.ha X.hn X.hc, .slice X.ma X.mn X.mc, .slice X.ra X.rn X.rc, .slice X.aa X.an X.ac, .slice X.ta X.tn X.tc, .slice X.sa X.sn X.sc, .slice X.ca X.cn X.cc, .slice X.da X.dn X.dc] 37) := ⟨_, rfl⟩
  have BA := Lib.hid (show IsB w1 A 37 #[.string X.nm, .slice X.ha X.hn X.hc, .slice X.ma X.mn X.mc, .slice X.ra X.rn X.rc, .slice X.aa X.an X.ac, .slice X.ta X.tn X.tc, .slice X.sa X.sn X.sc, .slice X.ca X.cn X.cc, .slice X.da X.dn X.dc] from by rw [hw1, hA]; exact IsB.new _ _ _)
  have GZ := Lib.hid (show w.grownBy w1 none from by rw [hw1]; exact gb_al (gb_refl _ _))
  have LA := Lib.hid (show A < w1.heap.size from by rw [hw1, hA]; simp)
  go_enter Try.func35, Try.ntmps35
  go_upto_region 1 with fail
  rw [← hw1, ← hA]

  clear hw1 hA
  have s3 : w1.cell? ⟨A, 3, none⟩ = some (.slice X.ra X.rn X.rc) := BA.out.cell 3
  cases hx : isX r X.rn
  · rw [hx] at IL
    obtain rfl : y = 0 := by
      rw [← HB.out]; apply read_no; apply cell_no
      rw [isX_not] at hx; rw [LN.out]; omega
    clear HB hx
    go_wp2_with fail
    refine (IL.out _).mono ?_
    rintro e w3 ⟨rfl, rfl⟩
    go_wp2
    go_ret
    exact ⟨rfl, GZ.out⟩
  rw [hx] at IL
  obtain ⟨h0, h1⟩ := (isX_iff _ _).1 hx
  obtain ⟨q, rfl⟩ : ∃ q : Nat, r = q := ⟨r.toNat, by omega⟩
  have h1 : q < X.rn := by omega
  clear hx
  cases hx : isX (q : Int) n
  · rw [hx] at IR
    obtain rfl : y = 0 := by
      rw [← HB.out]; apply read_no; rw [cell_iff]
      rw [isX_not] at hx; exact decide_eq_false fun k => hx (by have := k.2.1; rw [RN.out] at this; omega)
    clear HB hx
    go_wp2_with fail
    refine (IL.out _).mono ?_
    rintro e w3 ⟨rfl, rfl⟩
    go_wp2_with fail
    refine (IR.out _).mono ?_
    rintro e w3 ⟨rfl, rfl⟩
    go_wp2
    go_ret
    exact ⟨rfl, GZ.out⟩
  rw [hx] at IR
  have h2 : q < n := by have := ((isX_iff _ _).1 hx).2; omega
  clear hx
  obtain ⟨ar, har⟩ := H.out.some (by omega)
  obtain ⟨br, rfl⟩ := K.out.some (by omega)
  have hgo := H.out.at_ q h1
  obtain ⟨x0, x1, x2⟩ := (H.out.keep0 GZ.out).cells ar har q h1
  obtain ⟨fa, fn, fc, y0, y1⟩ := (K.out.keep0 GZ.out).cells br rfl q h2
  have j1 : (q : Int) < (X.rn : Int) := by omega
  have j2 : (q : Int) < (n : Int) := by omega
  have fb : fn ≤ 1000000 := by rw [← y1.len]; exact HR.out q
  have CI := Lib.hid (cell_iff L R q i)
  rw [y1.len, LN.out, RN.out] at CI
  obtain ⟨g0, hg0⟩ : ∃ g, g = L.getD q rz := ⟨_, rfl⟩
  rw [← hg0] at x0 x1 x2 CI hgo
  clear hg0
  obtain ⟨nm, wd, sz⟩ := g0
  obtain ⟨w2, hw2⟩ : ∃ w2, w2 = w1.alloc (.cells #[.string nm, .int .i64 wd, .int .i64 sz] 23) := ⟨_, rfl⟩
  obtain ⟨D, hD⟩ : ∃ D, D = w1.heap.size := ⟨_, rfl⟩
  have BD := Lib.hid (show IsB w2 D 23 #[.string nm, .int .i64 wd, .int .i64 sz] from by rw [hw2, hD]; exact IsB.new _ _ _)
  have G2 := Lib.hid (show w.grownBy w2 none from by rw [hw2]; exact gb_al GZ.out)
  have Y1 := Lib.hid (show SU w2 fa fn fc (R.getD q []) from y1.keep0 (by rw [hw2]; exact gb_alloc _ _ _))
  have Y0 := Lib.hid (show w2.cell? (br.add q) = some (.slice fa fn fc) from by rw [hw2]; exact (gb_alloc _ _ none).cell y0 (by simp))
  rw [har] at s3 ⊢
  go_wp2_with fail
  refine (IL.out _).mono ?_
  rintro e w3 ⟨rfl, rfl⟩
  go_wp2_with fail
  refine (IR.out _).mono ?_
  rintro e w3 ⟨rfl, rfl⟩
  go_upto_region 4 with fail
  rw [← hw2, ← hD]
  clear hw2 hD s3 x0 x1 x2 BA
  have z2 : w2.cell? ⟨D, 2, none⟩ = some (.int .i64 sz) := BD.out.cell 2
  have z1 : w2.cell? ⟨D, 1, none⟩ = some (.int .i64 wd) := BD.out.cell 1
  have Y0' := Y0.out
  by_cases ha : i < sz ∧ i < (fn : Int)
  · obtain ⟨ha1, ha2⟩ := ha
    obtain ⟨j, rfl⟩ : ∃ j : Nat, i = j := ⟨i.toNat, by omega⟩
    have hj : j < fn := by omega
    obtain ⟨fa, rfl⟩ := Y1.out.some (by omega)
    have YE := Lib.hid (show (R.getD q []).getD j 0 = y from by
      rw [← HB.out]
      exact (read_yes L R q j (by rw [CI.out]; exact decide_eq_true ⟨h1, h2, ha1, ha2⟩)).symm)
    have LO := Lib.hid (fun (w' : World) (k : w2.grownBy w' none) => load_any w' fa fn fc (R.getD q []) j wd 0 (Y1.out.keep0 k) hj i1)
    unfold RetV at LO
    rw [YE.out] at LO
    rcases (show sz ≤ (fn : Int) ∨ (fn : Int) < sz by omega) with hs | hs
    · have hc1 : decide (sz ≤ (j : Int)) = false := decide_eq_false (by omega)
      have hc2 : decide (fn ≤ j) = false := decide_eq_false (by omega)
      go_region
      clear ha1 hj hs ha2
      clear hc1 hc2
      go_upto_region 6 with fail
      have KT := Lib.hid (fun (w' : World) (k : w2.grownBy w' none) => (⟨k.cell z1 (by simp), k.cell Y0.out (by simp), trivial⟩ : (fun w' : World => w'.cell? ⟨D, 1, none⟩ = some (.int .i64 wd) ∧ w'.cell? (br.add q) = some (.slice (some fa) fn fc) ∧ True) w'))
      refine wp_region_held_drew (S := (fun w' : World => w'.cell? ⟨D, 1, none⟩ = some (.int .i64 wd) ∧ w'.cell? (br.add q) = some (.slice (some fa) fn fc) ∧ True)) (by kernel_rfl) (KT.out _ (gb_trans (gb_drew w2 none) (gb_drew _ none))) (fun hH0 => ?_)
      refine wpAnyH_take (i := 0) (v := ?v101) rfl (by kernel_rfl) (by kernel_rfl) (by kernel_rfl) (fun _ _ _ h => h) (Or.inl ⟨by rfl, ?hy101⟩) (by assumption) ?rest101
      case hy101 => (intro wz hSw; (try dsimp only at hSw); first | (go_simp; done) | (go_simp; with_reducible rfl))
      try simp only [Act.put, List.getElem_toArray, List.getElem_cons_zero, List.setIfInBounds_toArray, List.set_cons_zero, List.set_cons_succ]
      refine wpAnyH_take (i := 1) (v := ?v102) rfl (by kernel_rfl) (by kernel_rfl) (by kernel_rfl) (fun _ _ _ h => h) (Or.inl ⟨by rfl, ?hy102⟩) (by assumption) ?rest102
      case hy102 => (intro wz hSw; (try dsimp only at hSw); first | (go_simp; done) | (go_simp; with_reducible rfl))
      try simp only [Act.put, List.getElem_toArray, List.getElem_cons_succ, List.getElem_cons_zero, List.setIfInBounds_toArray, List.set_cons_zero, List.set_cons_succ]
      refine wpAnyH_take (i := 2) (v := ?v103) rfl (by kernel_rfl) (by kernel_rfl) (by kernel_rfl) (fun _ _ _ h => h) (Or.inl ⟨by rfl, ?hy103⟩) (by assumption) ?rest103
      case hy103 => (intro wz hSw; (try dsimp only at hSw); first | (go_simp; done) | (go_simp; with_reducible rfl))
      try simp only [Act.put, List.getElem_toArray, List.getElem_cons_succ, List.getElem_cons_zero, List.setIfInBounds_toArray, List.set_cons_zero, List.set_cons_succ]
      refine wpAnyH_take (i := 3) (v := ?v104) rfl (by kernel_rfl) (by kernel_rfl) (by kernel_rfl) (fun _ _ _ h => h) (Or.inl ⟨by rfl, ?hy104⟩) (by assumption) ?rest104
      case hy104 => (intro wz hSw; (try dsimp only at hSw); first | (go_simp; done) | (go_simp; with_reducible rfl))
      try simp only [Act.put, List.getElem_toArray, List.getElem_cons_succ, List.getElem_cons_zero, List.setIfInBounds_toArray, List.set_cons_zero, List.set_cons_succ]
      refine wpAnyH_take (i := 4) (v := ?v105) rfl (by kernel_rfl) (by kernel_rfl) (by kernel_rfl) (fun _ _ _ h => h) (Or.inl ⟨by rfl, ?hy105⟩) (by assumption) ?rest105
      case hy105 => (intro wz hSw; (try dsimp only at hSw); first | (go_simp; done) | (go_simp; with_reducible rfl))
      try simp only [Act.put, List.getElem_toArray, List.getElem_cons_succ, List.getElem_cons_zero, List.setIfInBounds_toArray, List.set_cons_zero, List.set_cons_succ]
      refine wpAnyH_take (i := 5) (v := ?v106) rfl (by kernel_rfl) (by kernel_rfl) (by kernel_rfl) (fun _ _ _ h => h) (Or.inl ⟨by rfl, ?hy106⟩) (by assumption) ?rest106
      case hy106 => (intro wz hSw; (try dsimp only at hSw); first | (go_simp; done) | (go_simp; with_reducible rfl))
      try simp only [Act.put, List.getElem_toArray, List.getElem_cons_succ, List.getElem_cons_zero, List.setIfInBounds_toArray, List.set_cons_zero, List.set_cons_succ]
      refine wpAnyH_take (i := 6) (v := ?v107) rfl (by kernel_rfl) (by kernel_rfl) (by kernel_rfl) (fun _ _ _ h => h) (Or.inl ⟨by rfl, ?hy107⟩) (by assumption) ?rest107
      case hy107 => (intro wz hSw; (try dsimp only at hSw); first | (go_simp; done) | (go_simp; with_reducible rfl))
      try simp only [Act.put, List.getElem_toArray, List.getElem_cons_succ, List.getElem_cons_zero, List.setIfInBounds_toArray, List.set_cons_zero, List.set_cons_succ]
      refine wpAnyH_take (i := 7) (v := ?v108) rfl (by kernel_rfl) (by kernel_rfl) (by kernel_rfl) (fun _ _ _ h => h) (Or.inl ⟨by rfl, ?hy108⟩) (by assumption) ?rest108
      case hy108 => (intro wz hSw; (try dsimp only at hSw); first | (go_simp; done) | (go_simp; with_reducible rfl))
      try simp only [Act.put, List.getElem_toArray, List.getElem_cons_succ, List.getElem_cons_zero, List.setIfInBounds_toArray, List.set_cons_zero, List.set_cons_succ]
      refine wpAnyH_take (i := 8) (v := ?v109) rfl (by kernel_rfl) (by kernel_rfl) (by kernel_rfl) (fun _ _ _ h => h) (Or.inl ⟨by rfl, ?hy109⟩) (by assumption) ?rest109
      case hy109 => (intro wz hSw; (try dsimp only at hSw); first | (go_simp; done) | (go_simp; with_reducible rfl))
      try simp only [Act.put, List.getElem_toArray, List.getElem_cons_succ, List.getElem_cons_zero, List.setIfInBounds_toArray, List.set_cons_zero, List.set_cons_succ]
      refine wpAnyH_take (i := 9) (v := ?v110) rfl (by kernel_rfl) (by kernel_rfl) (by kernel_rfl) (fun _ _ _ h => h) (Or.inl ⟨by rfl, ?hy110⟩) (by assumption) ?rest110
      case hy110 => (intro wz hSw; (try dsimp only at hSw); first | (go_simp; done) | (go_simp; with_reducible rfl))
      try simp only [Act.put, List.getElem_toArray, List.getElem_cons_succ, List.getElem_cons_zero, List.setIfInBounds_toArray, List.set_cons_zero, List.set_cons_succ]
      refine wpAnyH_ready (rs := [10]) (by kernel_rfl) (by simp) ?_
      refine AllReadyH.cons (o := _) rfl (fun K hK => ?_) AllReadyH.nil
      go_simp
      refine (LO.out _ (gb_trans (gb_drew w2 none) (gb_drew _ none))).mono ?_
      rintro e w4 ⟨rfl, g4⟩
      have G4 := Lib.hid (gb_trans (gb_trans (gb_drew w2 none) (gb_drew _ none)) g4)
      clear g4
      try dsimp only
      refine hK.out _ _ (KT.out _ G4.out) (fun hH1 => ?_)
      clear hK K hH0
      try simp only [Act.put, List.getElem_toArray, List.getElem_cons_succ, List.getElem_cons_zero, List.setIfInBounds_toArray, List.set_cons_zero, List.set_cons_succ]
      refine wpAnyH_take (i := 11) (v := ?v111) rfl (by kernel_rfl) (by kernel_rfl) (by kernel_rfl) (fun _ _ _ h => h) (Or.inl ⟨by rfl, ?hy111⟩) (by assumption) ?rest111
      case hy111 => (intro wz hSw; (try dsimp only at hSw); first | (go_simp; done) | (go_simp; with_reducible rfl))
      try simp only [Act.put, List.getElem_toArray, List.getElem_cons_succ, List.getElem_cons_zero, List.setIfInBounds_toArray, List.set_cons_zero, List.set_cons_succ]
      refine wpAnyH_done (by kernel_rfl) ?_ _
      clear hH1 KT
      go_wp2
      go_ret
      exact ⟨rfl, gb_trans G2.out G4.out⟩
    · have hc1 : decide (sz ≤ (j : Int)) = false := decide_eq_false (by omega)
      have hc2 : decide (fn ≤ j) = false := decide_eq_false (by omega)
      go_region
      clear ha1 hj hs ha2
      clear hc1 hc2
      go_upto_region 6 with fail
      have KT := Lib.hid (fun (w' : World) (k : w2.grownBy w' none) => (⟨k.cell z1 (by simp), k.cell Y0.out (by simp), trivial⟩ : (fun w' : World => w'.cell? ⟨D, 1, none⟩ = some (.int .i64 wd) ∧ w'.cell? (br.add q) = some (.slice (some fa) fn fc) ∧ True) w'))
      refine wp_region_held_drew (S := (fun w' : World => w'.cell? ⟨D, 1, none⟩ = some (.int .i64 wd) ∧ w'.cell? (br.add q) = some (.slice (some fa) fn fc) ∧ True)) (by kernel_rfl) (KT.out _ (gb_trans (gb_drew w2 none) (gb_drew _ none))) (fun hH0 => ?_)
      refine wpAnyH_take (i := 0) (v := ?v112) rfl (by kernel_rfl) (by kernel_rfl) (by kernel_rfl) (fun _ _ _ h => h) (Or.inl ⟨by rfl, ?hy112⟩) (by assumption) ?rest112
      case hy112 => (intro wz hSw; (try dsimp only at hSw); first | (go_simp; done) | (go_simp; with_reducible rfl))
      try simp only [Act.put, List.getElem_toArray, List.getElem_cons_zero, List.setIfInBounds_toArray, List.set_cons_zero, List.set_cons_succ]
      refine wpAnyH_take (i := 1) (v := ?v113) rfl (by kernel_rfl) (by kernel_rfl) (by kernel_rfl) (fun _ _ _ h => h) (Or.inl ⟨by rfl, ?hy113⟩) (by assumption) ?rest113
      case hy113 => (intro wz hSw; (try dsimp only at hSw); first | (go_simp; done) | (go_simp; with_reducible rfl))
      try simp only [Act.put, List.getElem_toArray, List.getElem_cons_succ, List.getElem_cons_zero, List.setIfInBounds_toArray, List.set_cons_zero, List.set_cons_succ]
      refine wpAnyH_take (i := 2) (v := ?v114) rfl (by kernel_rfl) (by kernel_rfl) (by kernel_rfl) (fun _ _ _ h => h) (Or.inl ⟨by rfl, ?hy114⟩) (by assumption) ?rest114
      case hy114 => (intro wz hSw; (try dsimp only at hSw); first | (go_simp; done) | (go_simp; with_reducible rfl))
      try simp only [Act.put, List.getElem_toArray, List.getElem_cons_succ, List.getElem_cons_zero, List.setIfInBounds_toArray, List.set_cons_zero, List.set_cons_succ]
      refine wpAnyH_take (i := 3) (v := ?v115) rfl (by kernel_rfl) (by kernel_rfl) (by kernel_rfl) (fun _ _ _ h => h) (Or.inl ⟨by rfl, ?hy115⟩) (by assumption) ?rest115
      case hy115 => (intro wz hSw; (try dsimp only at hSw); first | (go_simp; done) | (go_simp; with_reducible rfl))
      try simp only [Act.put, List.getElem_toArray, List.getElem_cons_succ, List.getElem_cons_zero, List.setIfInBounds_toArray, List.set_cons_zero, List.set_cons_succ]
      refine wpAnyH_take (i := 4) (v := ?v116) rfl (by kernel_rfl) (by kernel_rfl) (by kernel_rfl) (fun _ _ _ h => h) (Or.inl ⟨by rfl, ?hy116⟩) (by assumption) ?rest116
      case hy116 => (intro wz hSw; (try dsimp only at hSw); first | (go_simp; done) | (go_simp; with_reducible rfl))
      try simp only [Act.put, List.getElem_toArray, List.getElem_cons_succ, List.getElem_cons_zero, List.setIfInBounds_toArray, List.set_cons_zero, List.set_cons_succ]
      refine wpAnyH_take (i := 5) (v := ?v117) rfl (by kernel_rfl) (by kernel_rfl) (by kernel_rfl) (fun _ _ _ h => h) (Or.inl ⟨by rfl, ?hy117⟩) (by assumption) ?rest117
      case hy117 => (intro wz hSw; (try dsimp only at hSw); first | (go_simp; done) | (go_simp; with_reducible rfl))
      try simp only [Act.put, List.getElem_toArray, List.getElem_cons_succ, List.getElem_cons_zero, List.setIfInBounds_toArray, List.set_cons_zero, List.set_cons_succ]
      refine wpAnyH_take (i := 6) (v := ?v118) rfl (by kernel_rfl) (by kernel_rfl) (by kernel_rfl) (fun _ _ _ h => h) (Or.inl ⟨by rfl, ?hy118⟩) (by assumption) ?rest118
      case hy118 => (intro wz hSw; (try dsimp only at hSw); first | (go_simp; done) | (go_simp; with_reducible rfl))
      try simp only [Act.put, List.getElem_toArray, List.getElem_cons_succ, List.getElem_cons_zero, List.setIfInBounds_toArray, List.set_cons_zero, List.set_cons_succ]
      refine wpAnyH_take (i := 7) (v := ?v119) rfl (by kernel_rfl) (by kernel_rfl) (by kernel_rfl) (fun _ _ _ h => h) (Or.inl ⟨by rfl, ?hy119⟩) (by assumption) ?rest119
      case hy119 => (intro wz hSw; (try dsimp only at hSw); first | (go_simp; done) | (go_simp; with_reducible rfl))
      try simp only [Act.put, List.getElem_toArray, List.getElem_cons_succ, List.getElem_cons_zero, List.setIfInBounds_toArray, List.set_cons_zero, List.set_cons_succ]
      refine wpAnyH_take (i := 8) (v := ?v120) rfl (by kernel_rfl) (by kernel_rfl) (by kernel_rfl) (fun _ _ _ h => h) (Or.inl ⟨by rfl, ?hy120⟩) (by assumption) ?rest120
      case hy120 => (intro wz hSw; (try dsimp only at hSw); first | (go_simp; done) | (go_simp; with_reducible rfl))
      try simp only [Act.put, List.getElem_toArray, List.getElem_cons_succ, List.getElem_cons_zero, List.setIfInBounds_toArray, List.set_cons_zero, List.set_cons_succ]
      refine wpAnyH_take (i := 9) (v := ?v121) rfl (by kernel_rfl) (by kernel_rfl) (by kernel_rfl) (fun _ _ _ h => h) (Or.inl ⟨by rfl, ?hy121⟩) (by assumption) ?rest121
      case hy121 => (intro wz hSw; (try dsimp only at hSw); first | (go_simp; done) | (go_simp; with_reducible rfl))
      try simp only [Act.put, List.getElem_toArray, List.getElem_cons_succ, List.getElem_cons_zero, List.setIfInBounds_toArray, List.set_cons_zero, List.set_cons_succ]
      refine wpAnyH_ready (rs := [10]) (by kernel_rfl) (by simp) ?_
      refine AllReadyH.cons (o := _) rfl (fun K hK => ?_) AllReadyH.nil
      go_simp
      refine (LO.out _ (gb_trans (gb_drew w2 none) (gb_drew _ none))).mono ?_
      rintro e w4 ⟨rfl, g4⟩
      have G4 := Lib.hid (gb_trans (gb_trans (gb_drew w2 none) (gb_drew _ none)) g4)
      clear g4
      try dsimp only
      refine hK.out _ _ (KT.out _ G4.out) (fun hH1 => ?_)
      clear hK K hH0
      try simp only [Act.put, List.getElem_toArray, List.getElem_cons_succ, List.getElem_cons_zero, List.setIfInBounds_toArray, List.set_cons_zero, List.set_cons_succ]
      refine wpAnyH_take (i := 11) (v := ?v122) rfl (by kernel_rfl) (by kernel_rfl) (by kernel_rfl) (fun _ _ _ h => h) (Or.inl ⟨by rfl, ?hy122⟩) (by assumption) ?rest122
      case hy122 => (intro wz hSw; (try dsimp only at hSw); first | (go_simp; done) | (go_simp; with_reducible rfl))
      try simp only [Act.put, List.getElem_toArray, List.getElem_cons_succ, List.getElem_cons_zero, List.setIfInBounds_toArray, List.set_cons_zero, List.set_cons_succ]
      refine wpAnyH_done (by kernel_rfl) ?_ _
      clear hH1 KT
      go_wp2
      go_ret
      exact ⟨rfl, gb_trans G2.out G4.out⟩
  · obtain rfl : y = 0 := by
      rw [← HB.out]; apply read_no; rw [CI.out]
      exact decide_eq_false fun k => ha ⟨k.2.2.1, k.2.2.2⟩
    rcases (show sz ≤ (fn : Int) ∨ (fn : Int) < sz by omega) with hs | hs
    · have hc : sz ≤ i := by omega
      go_region
      go_wp2
      go_ret
      exact ⟨rfl, gb_dr1 G2.out⟩
    · have hc : (fn : Int) ≤ i := by omega
      go_region
      go_wp2
      go_ret
      exact ⟨rfl, gb_dr1 G2.out⟩
end Go.Proofs.Ytjbimeahcldaoaa
