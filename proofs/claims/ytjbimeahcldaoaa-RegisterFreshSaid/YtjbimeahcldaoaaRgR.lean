/- Register: the laws Checks and Contents; no condition. -/
import Derived.Test.YtjbimeahcldaoaaFrG
namespace Go.Proofs.Ytjbimeahcldaoaa
open Go.RowKit
set_option linter.unusedVariables false
theorem low_of {W W' : World} {b : Bool} {e : Ending} (h : RetV (.bool true) W e W') : e = .returned (.bool true) ∧ Below W.heap.size W W' := ⟨h.1, (gr_gb h.2).below⟩
set_option maxRecDepth 100000 in
set_option maxHeartbeats 4000000 in
theorem checks_walk (nm : ByteArray) (wd sz : Int) (w : World) : Calls Try.prog 3 #[.agg #[.string nm, .int .i64 wd, .int .i64 sz]] w (RetV (.bool true) w) := by
  have WK := Lib.hid (fun W => works_any W)
  unfold RetV at WK
  obtain ⟨A, hA⟩ : ∃ A, A = w.heap.size := ⟨_, rfl⟩
  obtain ⟨w1, hw1⟩ : ∃ w1, w1 = w.alloc (.cells #[.string nm, .int .i64 wd, .int .i64 sz] 23) := ⟨_, rfl⟩
  have BA := Lib.hid (show IsB w1 A 23 #[.string nm, .int .i64 wd, .int .i64 sz] from by rw [hw1, hA]; exact IsB.new _ _ _)
  have GZ := Lib.hid (show w.grownBy w1 none from by rw [hw1]; exact gb_al (gb_refl _ _))
  go_enter Try.func3, Try.ntmps3
  go_upto_region 1 with fail
  rw [← hw1, ← hA]
  clear hw1 hA
  have s0 : w1.cell? ⟨A, 0, none⟩ = some (.string nm) := BA.out.cell 0
  by_cases hb : 100 < nm.size
  · have hb2 : (100 : Int) < (nm.size : Int) := by omega
    go_wp2_with fail
    refine (WK.out _).mono ?_
    rintro e w3 ⟨rfl, g⟩
    have G3 := Lib.hid (gb_trans GZ.out g)
    clear g
    go_wp2
    go_ret
    exact ⟨rfl, G3.out⟩
  · have hb2 : ¬ (100 : Int) < (nm.size : Int) := by omega
    have CP := Lib.hid (fun W => check_b W nm wd sz (by omega) _ rfl)
    have CQ := Lib.hid (fun W => rcheck_b W nm wd sz (by omega) _ rfl)
    unfold RetV at CP CQ
    generalize chkG (nm, wd, sz) = e0 at CP CQ
    have KT := Lib.hid (fun (w' : World) (k : w1.grownBy w' none) => (⟨(BA.out.keep0 k).cell 0, (BA.out.keep0 k).cell 1, (BA.out.keep0 k).cell 2, trivial⟩ : (fun w' : World => w'.cell? ⟨A, 0, none⟩ = some (.string nm) ∧ w'.cell? ⟨A, 1, none⟩ = some (.int .i64 wd) ∧ w'.cell? ⟨A, 2, none⟩ = some (.int .i64 sz) ∧ True) w'))
    go_upto_region 3 with fail
    have G0 := Lib.hid (gb_drew w1 none)
    refine wp_region_held_drew (S := (fun w' : World => w'.cell? ⟨A, 0, none⟩ = some (.string nm) ∧ w'.cell? ⟨A, 1, none⟩ = some (.int .i64 wd) ∧ w'.cell? ⟨A, 2, none⟩ = some (.int .i64 sz) ∧ True)) (by kernel_rfl) (KT.out _ G0.out) (fun hH0 => ?_)
    refine wpAnyH_take (i := 0) (v := ?v1) rfl (by kernel_rfl) (by kernel_rfl) (by kernel_rfl) (fun _ _ _ h => h) (Or.inl ⟨by rfl, ?hy1⟩) (by assumption) ?rest1
    case hy1 => (intro wz hSw; (try dsimp only at hSw); first | (go_simp; done) | (go_simp; with_reducible rfl))
    try simp only [Act.put, List.getElem_toArray, List.getElem_cons_zero, List.setIfInBounds_toArray, List.set_cons_zero, List.set_cons_succ]
    refine wpAnyH_take (i := 2) (v := ?v2) rfl (by kernel_rfl) (by kernel_rfl) (by kernel_rfl) (fun _ _ _ h => h) (Or.inl ⟨by rfl, ?hy2⟩) (by assumption) ?rest2
    case hy2 => (intro wz hSw; (try dsimp only at hSw); first | (go_simp; done) | (go_simp; with_reducible rfl))
    try simp only [Act.put, List.getElem_toArray, List.getElem_cons_succ, List.getElem_cons_zero, List.setIfInBounds_toArray, List.set_cons_zero, List.set_cons_succ]
    refine wpAnyH_ready (rs := [1]) (by kernel_rfl) (by simp) ?_
    refine AllReadyH.cons (o := _) rfl (fun K hK => ?_) AllReadyH.nil
    go_simp
    refine (CP.out _).mono ?_
    rintro e wh1 ⟨rfl, g⟩
    have G1 := Lib.hid (gb_trans G0.out g)
    clear g
    try dsimp only
    refine hK.out _ _ (KT.out _ G1.out) (fun hH1 => ?_)
    clear hK K hH0
    try simp only [Act.put, List.getElem_toArray, List.getElem_cons_succ, List.getElem_cons_zero, List.setIfInBounds_toArray, List.set_cons_zero, List.set_cons_succ]
    refine wpAnyH_ready (rs := [3]) (by kernel_rfl) (by simp) ?_
    refine AllReadyH.cons (o := _) rfl (fun K hK => ?_) AllReadyH.nil
    go_simp
    refine (CQ.out _).mono ?_
    rintro e wh2 ⟨rfl, g⟩
    have G2 := Lib.hid (gb_trans G1.out g)
    clear g
    try dsimp only
    refine hK.out _ _ (KT.out _ G2.out) (fun hH2 => ?_)
    clear hK K hH1
    try simp only [Act.put, List.getElem_toArray, List.getElem_cons_succ, List.getElem_cons_zero, List.setIfInBounds_toArray, List.set_cons_zero, List.set_cons_succ]
    refine wpAnyH_take (i := 4) (v := ?v3) rfl (by kernel_rfl) (by kernel_rfl) (by kernel_rfl) (fun _ _ _ h => h) (Or.inl ⟨by rfl, ?hy3⟩) (by assumption) ?rest3
    case hy3 => (intro wz hSw; (try dsimp only at hSw); first | (go_simp; done) | (go_simp; with_reducible rfl))
    try simp only [Act.put, List.getElem_toArray, List.getElem_cons_succ, List.getElem_cons_zero, List.setIfInBounds_toArray, List.set_cons_zero, List.set_cons_succ]
    refine wpAnyH_take (i := 5) (v := ?v4) rfl (by kernel_rfl) (by kernel_rfl) (by kernel_rfl) (fun _ _ _ h => h) (Or.inl ⟨by rfl, ?hy4⟩) (by assumption) ?rest4
    case hy4 => (intro wz hSw; (try dsimp only at hSw); first | (go_simp; done) | (go_simp; with_reducible rfl))
    try simp only [Act.put, List.getElem_toArray, List.getElem_cons_succ, List.getElem_cons_zero, List.setIfInBounds_toArray, List.set_cons_zero, List.set_cons_succ]
    refine wpAnyH_ready (rs := [6]) (by kernel_rfl) (by simp) ?_
    refine AllReadyH.cons (o := _) rfl (fun K hK => ?_) AllReadyH.nil
    go_simp
    refine (WK.out _).mono ?_
    rintro e wh3 ⟨rfl, g⟩
    have G3 := Lib.hid (gb_trans G2.out g)
    clear g
    try dsimp only
    refine hK.out _ _ (KT.out _ G3.out) (fun hH3 => ?_)
    clear hK K hH2
    try simp only [Act.put, List.getElem_toArray, List.getElem_cons_succ, List.getElem_cons_zero, List.setIfInBounds_toArray, List.set_cons_zero, List.set_cons_succ]
    refine wpAnyH_take (i := 7) (v := ?v5) rfl (by kernel_rfl) (by kernel_rfl) (by kernel_rfl) (fun _ _ _ h => h) (Or.inl ⟨by rfl, ?hy5⟩) (by assumption) ?rest5
    case hy5 => (intro wz hSw; (try dsimp only at hSw); first | (go_simp; done) | (go_simp; with_reducible rfl))
    try simp only [Act.put, List.getElem_toArray, List.getElem_cons_succ, List.getElem_cons_zero, List.setIfInBounds_toArray, List.set_cons_zero, List.set_cons_succ]
    refine wpAnyH_take (i := 8) (v := ?v6) rfl (by kernel_rfl) (by kernel_rfl) (by kernel_rfl) (fun _ _ _ h => h) (Or.inl ⟨by rfl, ?hy6⟩) (by assumption) ?rest6
    case hy6 => (intro wz hSw; (try dsimp only at hSw); first | (go_simp; done) | (go_simp; with_reducible rfl))
    try simp only [Act.put, List.getElem_toArray, List.getElem_cons_succ, List.getElem_cons_zero, List.setIfInBounds_toArray, List.set_cons_zero, List.set_cons_succ]
    refine wpAnyH_done (by kernel_rfl) ?_ _
    clear hH3
    go_wp2
    go_ret
    exact ⟨rfl, gb_trans GZ.out G3.out⟩
set_option maxRecDepth 100000 in
set_option maxHeartbeats 4000000 in
theorem contents_walk (w : World) (X : PX) (L : List Rg) (a b : Option Addr) (n c m d : Nat) (Ra Rb : List (List Int)) (h : SG w X.ra X.rn X.rc L) (ga : SR w a n c Ra) (gb : SR w b m d Rb) :
    Calls Try.prog 4 #[.agg #[.string X.nm, .slice X.ha X.hn X.hc, .slice X.ma X.mn X.mc, .slice X.ra X.rn X.rc, .slice X.aa X.an X.ac, .slice X.ta X.tn X.tc, .slice X.sa X.sn X.sc, .slice X.ca X.cn X.cc, .slice X.da X.dn X.dc], .slice a n c, .slice b m d] w (RetV (.bool true) w) := by
  have WK := Lib.hid (fun W => works_any W)
  have T1 := Lib.hid (fun (W : World) (k : w.grownBy W none) => big_b W X L a n c Ra (h.keep0 k) (ga.keep0 k) _ rfl)
  have T2 := Lib.hid (fun (W : World) (k : w.grownBy W none) => big_b W X L b m d Rb (h.keep0 k) (gb.keep0 k) _ rfl)
  unfold RetV at WK T1 T2
  have HH := Lib.hid h
  have HA := Lib.hid ga
  have HB := Lib.hid gb
  clear h ga gb
  obtain ⟨A, hA⟩ : ∃ A, A = w.heap.size := ⟨_, rfl⟩
  obtain ⟨w1, hw1⟩ : ∃ w1, w1 = w.alloc (.cells #[.string X.nm, .slice X.ha X.hn X.hc, .slice X.ma X.mn X.mc, .slice X.ra X.rn X.rc, .slice X.aa X.an X.ac, .slice X.ta X.tn X.tc, .slice X.sa X.sn X.sc, .slice X.ca X.cn X.cc, .slice X.da X.dn X.dc] 37) := ⟨_, rfl⟩
  have BA := Lib.hid (show IsB w1 A 37 #[.string X.nm, .slice X.ha X.hn X.hc, .slice X.ma X.mn X.mc, .slice X.ra X.rn X.rc, .slice X.aa X.an X.ac, .slice X.ta X.tn X.tc, .slice X.sa X.sn X.sc, .slice X.ca X.cn X.cc, .slice X.da X.dn X.dc] from by rw [hw1, hA]; exact IsB.new _ _ _)
  have GZ := Lib.hid (show w.grownBy w1 none from by rw [hw1]; exact gb_al (gb_refl _ _))
  have LA := Lib.hid (show A < w1.heap.size from by rw [hw1, hA]; simp)
  go_enter Try.func4, Try.ntmps4
  go_upto_region 1 with fail
  rw [← hw1, ← hA]

  clear hw1 hA
  have s0 : w1.cell? ⟨A, 0, none⟩ = some (.string X.nm) := (BA.out).cell 0
  have s1 : w1.cell? ⟨A, 1, none⟩ = some (.slice X.ha X.hn X.hc) := (BA.out).cell 1
  have s2 : w1.cell? ⟨A, 2, none⟩ = some (.slice X.ma X.mn X.mc) := (BA.out).cell 2
  have s3 : w1.cell? ⟨A, 3, none⟩ = some (.slice X.ra X.rn X.rc) := (BA.out).cell 3
  have s4 : w1.cell? ⟨A, 4, none⟩ = some (.slice X.aa X.an X.ac) := (BA.out).cell 4
  have s5 : w1.cell? ⟨A, 5, none⟩ = some (.slice X.ta X.tn X.tc) := (BA.out).cell 5
  have s6 : w1.cell? ⟨A, 6, none⟩ = some (.slice X.sa X.sn X.sc) := (BA.out).cell 6
  have s7 : w1.cell? ⟨A, 7, none⟩ = some (.slice X.ca X.cn X.cc) := (BA.out).cell 7
  have s8 : w1.cell? ⟨A, 8, none⟩ = some (.slice X.da X.dn X.dc) := (BA.out).cell 8
  cases h1 : bigB L Ra
  rotate_left
  · rw [h1] at T1
    clear h1
    go_wp2_with fail
    refine (T1.out _ GZ.out).mono ?_
    rintro e w3 ⟨rfl, g⟩
    have G3 := Lib.hid (gb_trans GZ.out g)
    clear g s0 s1 s2 s3 s4 s5 s6 s7 s8
    go_wp2_with fail
    refine (WK.out _).mono ?_
    rintro e w4 ⟨rfl, g⟩
    have G4 := Lib.hid (gb_trans G3.out g)
    clear g
    go_wp2
    go_ret
    exact ⟨rfl, G4.out⟩
  rw [h1] at T1
  cases h2 : bigB L Rb
  rotate_left
  · rw [h2] at T2
    clear h1 h2
    go_wp2_with fail
    refine (T1.out _ GZ.out).mono ?_
    rintro e w3 ⟨rfl, g⟩
    have G3 := Lib.hid (gb_trans GZ.out g)
    have B3 := BA.out.keep0 g
    clear g s0 s1 s2 s3 s4 s5 s6 s7 s8
    have s0 : w3.cell? ⟨A, 0, none⟩ = some (.string X.nm) := (B3).cell 0
    have s1 : w3.cell? ⟨A, 1, none⟩ = some (.slice X.ha X.hn X.hc) := (B3).cell 1
    have s2 : w3.cell? ⟨A, 2, none⟩ = some (.slice X.ma X.mn X.mc) := (B3).cell 2
    have s3 : w3.cell? ⟨A, 3, none⟩ = some (.slice X.ra X.rn X.rc) := (B3).cell 3
    have s4 : w3.cell? ⟨A, 4, none⟩ = some (.slice X.aa X.an X.ac) := (B3).cell 4
    have s5 : w3.cell? ⟨A, 5, none⟩ = some (.slice X.ta X.tn X.tc) := (B3).cell 5
    have s6 : w3.cell? ⟨A, 6, none⟩ = some (.slice X.sa X.sn X.sc) := (B3).cell 6
    have s7 : w3.cell? ⟨A, 7, none⟩ = some (.slice X.ca X.cn X.cc) := (B3).cell 7
    have s8 : w3.cell? ⟨A, 8, none⟩ = some (.slice X.da X.dn X.dc) := (B3).cell 8
    clear B3
    go_wp2_with fail
    refine (T2.out _ G3.out).mono ?_
    rintro e w5 ⟨rfl, g⟩
    have G5 := Lib.hid (gb_trans G3.out g)
    clear g s0 s1 s2 s3 s4 s5 s6 s7 s8
    go_wp2_with fail
    refine (WK.out _).mono ?_
    rintro e w4 ⟨rfl, g⟩
    have G4 := Lib.hid (gb_trans G5.out g)
    clear g
    go_wp2
    go_ret
    exact ⟨rfl, G4.out⟩
  rw [h2] at T2
  obtain ⟨b1, b2, b3⟩ := not_big h1
  obtain ⟨b4, b5, b6⟩ := not_big h2
  have LN := HH.out.len
  have RA := HA.out.len
  have RB := HB.out.len
  clear h1 h2
  go_wp2_with fail
  refine (T1.out _ GZ.out).mono ?_
  rintro e wa ⟨rfl, g⟩
  replace BA := Lib.hid (BA.out.keep0 g)
  replace GZ := Lib.hid (gb_trans GZ.out g)
  clear g s0 s1 s2 s3 s4 s5 s6 s7 s8
  have s0 : wa.cell? ⟨A, 0, none⟩ = some (.string X.nm) := (BA.out).cell 0
  have s1 : wa.cell? ⟨A, 1, none⟩ = some (.slice X.ha X.hn X.hc) := (BA.out).cell 1
  have s2 : wa.cell? ⟨A, 2, none⟩ = some (.slice X.ma X.mn X.mc) := (BA.out).cell 2
  have s3 : wa.cell? ⟨A, 3, none⟩ = some (.slice X.ra X.rn X.rc) := (BA.out).cell 3
  have s4 : wa.cell? ⟨A, 4, none⟩ = some (.slice X.aa X.an X.ac) := (BA.out).cell 4
  have s5 : wa.cell? ⟨A, 5, none⟩ = some (.slice X.ta X.tn X.tc) := (BA.out).cell 5
  have s6 : wa.cell? ⟨A, 6, none⟩ = some (.slice X.sa X.sn X.sc) := (BA.out).cell 6
  have s7 : wa.cell? ⟨A, 7, none⟩ = some (.slice X.ca X.cn X.cc) := (BA.out).cell 7
  have s8 : wa.cell? ⟨A, 8, none⟩ = some (.slice X.da X.dn X.dc) := (BA.out).cell 8
  go_wp2_with fail
  refine (T2.out _ GZ.out).mono ?_
  rintro e wb ⟨rfl, g⟩
  replace BA := Lib.hid (BA.out.keep0 g)
  replace GZ := Lib.hid (gb_trans GZ.out g)
  clear g s0 s1 s2 s3 s4 s5 s6 s7 s8
  go_upto_region 3 with fail
  have big0 : ∀ (l : List Rg) (j : Nat), ((newL l).getD j []).length ≤ 1000000 := by
    intro l j
    by_cases hj : j < l.length
    · rw [newL_at l j hj, List.length_replicate]; have := szN_le (l.getD j rz).2.2; omega
    · rw [List.getD_eq_getElem?_getD, List.getElem?_eq_none (by rw [newL_len]; omega)]; exact Nat.zero_le _
  have NP := Lib.hid (fun (W : World) (k : wb.grownBy W none) => new_any W X L (HH.out.keep0 (gb_trans GZ.out k)) (by omega))
  have NQ := Lib.hid (fun (W : World) (k : wb.grownBy W none) => rnew_any W X L (HH.out.keep0 (gb_trans GZ.out k)) (by omega))
  unfold RetR at NP NQ
  have EN := Lib.hid (fun (W : World) (a1 a2 : Option Addr) (c1 c2 : Nat) (u : SR W a1 (newL L).length c1 (newL L)) (v : SR W a2 (newL L).length c2 (newL L)) => requr_any W a1 a2 _ c1 _ c2 (newL L) (newL L) u v (by rw [newL_len]; omega) (by rw [newL_len]; omega) (big0 L) (big0 L))
  rw [show decide (newL L = newL L) = true from decide_eq_true rfl] at EN
  have CP := Lib.hid (fun (W : World) (k : wb.grownBy W none) => cont_b W X L a n c Ra (HH.out.keep0 (gb_trans GZ.out k)) (HA.out.keep0 (gb_trans GZ.out k)) (by omega) (by omega) (fun j => by have := b3 j; omega) _ rfl)
  have CQ := Lib.hid (fun (W : World) (k : wb.grownBy W none) => rcont_b W X L a n c Ra (HH.out.keep0 (gb_trans GZ.out k)) (HA.out.keep0 (gb_trans GZ.out k)) (by omega) (by omega) (fun j => by have := b3 j; omega) _ rfl)
  have EP := Lib.hid (fun (W : World) (k : wb.grownBy W none) => gequr_any W a b n c m d Ra Rb (HA.out.keep0 (gb_trans GZ.out k)) (HB.out.keep0 (gb_trans GZ.out k)) (by omega) (by omega) (fun j => by have := b3 j; omega) (fun j => by have := b6 j; omega))
  have EQ := Lib.hid (fun (W : World) (k : wb.grownBy W none) => requr_any W a b n c m d Ra Rb (HA.out.keep0 (gb_trans GZ.out k)) (HB.out.keep0 (gb_trans GZ.out k)) (by omega) (by omega) (fun j => by have := b3 j; omega) (fun j => by have := b6 j; omega))
  have EA := Lib.hid (fun (W : World) (k : wb.grownBy W none) => gequr_any W a a n c n c Ra Ra (HA.out.keep0 (gb_trans GZ.out k)) (HA.out.keep0 (gb_trans GZ.out k)) (by omega) (by omega) (fun j => by have := b3 j; omega) (fun j => by have := b3 j; omega))
  rw [show decide (Ra = Ra) = true from decide_eq_true rfl] at EA
  unfold RetV at CP CQ
  unfold RetD at EN EP EQ EA
  generalize contZ L Ra = e0 at CP CQ
  generalize decide (Ra = Rb) = e1 at EP EQ
  generalize hN : newL L = N0 at NP NQ EN
  clear hN big0 LN RA RB b1 b2 b3 b4 b5 b6
  have KT := Lib.hid (fun (w' : World) (k : wb.grownBy w' none) => (⟨(BA.out.keep0 k).cell 0, (BA.out.keep0 k).cell 1, (BA.out.keep0 k).cell 2, (BA.out.keep0 k).cell 3, (BA.out.keep0 k).cell 4, (BA.out.keep0 k).cell 5, (BA.out.keep0 k).cell 6, (BA.out.keep0 k).cell 7, (BA.out.keep0 k).cell 8, trivial⟩ : (fun w' : World => w'.cell? ⟨A, 0, none⟩ = some (.string X.nm) ∧ w'.cell? ⟨A, 1, none⟩ = some (.slice X.ha X.hn X.hc) ∧ w'.cell? ⟨A, 2, none⟩ = some (.slice X.ma X.mn X.mc) ∧ w'.cell? ⟨A, 3, none⟩ = some (.slice X.ra X.rn X.rc) ∧ w'.cell? ⟨A, 4, none⟩ = some (.slice X.aa X.an X.ac) ∧ w'.cell? ⟨A, 5, none⟩ = some (.slice X.ta X.tn X.tc) ∧ w'.cell? ⟨A, 6, none⟩ = some (.slice X.sa X.sn X.sc) ∧ w'.cell? ⟨A, 7, none⟩ = some (.slice X.ca X.cn X.cc) ∧ w'.cell? ⟨A, 8, none⟩ = some (.slice X.da X.dn X.dc) ∧ True) w'))
  have G0 := Lib.hid (gb_drew wb none)
  refine wp_region_held_drew (S := (fun w' : World => w'.cell? ⟨A, 0, none⟩ = some (.string X.nm) ∧ w'.cell? ⟨A, 1, none⟩ = some (.slice X.ha X.hn X.hc) ∧ w'.cell? ⟨A, 2, none⟩ = some (.slice X.ma X.mn X.mc) ∧ w'.cell? ⟨A, 3, none⟩ = some (.slice X.ra X.rn X.rc) ∧ w'.cell? ⟨A, 4, none⟩ = some (.slice X.aa X.an X.ac) ∧ w'.cell? ⟨A, 5, none⟩ = some (.slice X.ta X.tn X.tc) ∧ w'.cell? ⟨A, 6, none⟩ = some (.slice X.sa X.sn X.sc) ∧ w'.cell? ⟨A, 7, none⟩ = some (.slice X.ca X.cn X.cc) ∧ w'.cell? ⟨A, 8, none⟩ = some (.slice X.da X.dn X.dc) ∧ True)) (by kernel_rfl) (KT.out _ G0.out) (fun hH0 => ?_)
  refine wpAnyH_take (i := 0) (v := ?v101) rfl (by kernel_rfl) (by kernel_rfl) (by kernel_rfl) (fun _ _ _ h => h) (Or.inl ⟨by rfl, ?hy101⟩) (by assumption) ?rest101
  case hy101 => (intro wz hSw; (try dsimp only at hSw); first | (go_simp; done) | (go_simp; with_reducible rfl))
  try simp only [Act.put, List.getElem_toArray, List.getElem_cons_zero, List.setIfInBounds_toArray, List.set_cons_zero, List.set_cons_succ]
  refine wpAnyH_take (i := 2) (v := ?v102) rfl (by kernel_rfl) (by kernel_rfl) (by kernel_rfl) (fun _ _ _ h => h) (Or.inl ⟨by rfl, ?hy102⟩) (by assumption) ?rest102
  case hy102 => (intro wz hSw; (try dsimp only at hSw); first | (go_simp; done) | (go_simp; with_reducible rfl))
  try simp only [Act.put, List.getElem_toArray, List.getElem_cons_succ, List.getElem_cons_zero, List.setIfInBounds_toArray, List.set_cons_zero, List.set_cons_succ]
  refine wpAnyH_ready (rs := [1]) (by kernel_rfl) (by simp) ?_
  refine AllReadyH.cons (o := _) rfl (fun K hK => ?_) AllReadyH.nil
  go_simp
  refine (NP.out _ G0.out).mono ?_
  rintro e wh1 ⟨V1, Vs1, rfl, o1, g⟩
  obtain ⟨a1, c1, rfl⟩ := o1.shape
  have S1 := Lib.hid (o1.sr rfl)
  clear o1
  have G1 := Lib.hid (gb_trans G0.out g)
  clear g
  try dsimp only
  refine hK.out _ _ (KT.out _ G1.out) (fun hH1 => ?_)
  clear hK K hH0
  try simp only [Act.put, List.getElem_toArray, List.getElem_cons_succ, List.getElem_cons_zero, List.setIfInBounds_toArray, List.set_cons_zero, List.set_cons_succ]
  refine wpAnyH_ready (rs := [3]) (by kernel_rfl) (by simp) ?_
  refine AllReadyH.cons (o := _) rfl (fun K hK => ?_) AllReadyH.nil
  go_simp
  refine (NQ.out _ G1.out).mono ?_
  rintro e wh2 ⟨V2, Vs2, rfl, o2, g⟩
  obtain ⟨a2, c2, rfl⟩ := o2.shape
  replace S1 := Lib.hid (S1.out.keep0 g)
  have S2 := Lib.hid (o2.sr rfl)
  clear o2
  have G2 := Lib.hid (gb_trans G1.out g)
  clear g
  try dsimp only
  refine hK.out _ _ (KT.out _ G2.out) (fun hH2 => ?_)
  clear hK K hH1
  try simp only [Act.put, List.getElem_toArray, List.getElem_cons_succ, List.getElem_cons_zero, List.setIfInBounds_toArray, List.set_cons_zero, List.set_cons_succ]
  refine wpAnyH_ready (rs := [4]) (by kernel_rfl) (by simp) ?_
  refine AllReadyH.cons (o := _) rfl (fun K hK => ?_) AllReadyH.nil
  go_simp
  refine (EN.out _ a1 a2 c1 c2 S1.out S2.out).mono ?_
  rintro e wh3 ⟨rfl, m⟩
  have g := dn_gb m none
  clear m
  have G3 := Lib.hid (gb_trans G2.out g)
  clear g
  try dsimp only
  refine hK.out _ _ (KT.out _ G3.out) (fun hH3 => ?_)
  clear hK K hH2
  try simp only [Act.put, List.getElem_toArray, List.getElem_cons_succ, List.getElem_cons_zero, List.setIfInBounds_toArray, List.set_cons_zero, List.set_cons_succ]
  refine wpAnyH_take (i := 5) (v := ?v103) rfl (by kernel_rfl) (by kernel_rfl) (by kernel_rfl) (fun _ _ _ h => h) (Or.inl ⟨by rfl, ?hy103⟩) (by assumption) ?rest103
  case hy103 => (intro wz hSw; (try dsimp only at hSw); first | (go_simp; done) | (go_simp; with_reducible rfl))
  try simp only [Act.put, List.getElem_toArray, List.getElem_cons_succ, List.getElem_cons_zero, List.setIfInBounds_toArray, List.set_cons_zero, List.set_cons_succ]
  refine wpAnyH_take (i := 6) (v := ?v104) rfl (by kernel_rfl) (by kernel_rfl) (by kernel_rfl) (fun _ _ _ h => h) (Or.inl ⟨by rfl, ?hy104⟩) (by assumption) ?rest104
  case hy104 => (intro wz hSw; (try dsimp only at hSw); first | (go_simp; done) | (go_simp; with_reducible rfl))
  try simp only [Act.put, List.getElem_toArray, List.getElem_cons_succ, List.getElem_cons_zero, List.setIfInBounds_toArray, List.set_cons_zero, List.set_cons_succ]
  refine wpAnyH_take (i := 7) (v := ?v105) rfl (by kernel_rfl) (by kernel_rfl) (by kernel_rfl) (fun _ _ _ h => h) (Or.inl ⟨by rfl, ?hy105⟩) (by assumption) ?rest105
  case hy105 => (intro wz hSw; (try dsimp only at hSw); first | (go_simp; done) | (go_simp; with_reducible rfl))
  try simp only [Act.put, List.getElem_toArray, List.getElem_cons_succ, List.getElem_cons_zero, List.setIfInBounds_toArray, List.set_cons_zero, List.set_cons_succ]
  refine wpAnyH_take (i := 9) (v := ?v106) rfl (by kernel_rfl) (by kernel_rfl) (by kernel_rfl) (fun _ _ _ h => h) (Or.inl ⟨by rfl, ?hy106⟩) (by assumption) ?rest106
  case hy106 => (intro wz hSw; (try dsimp only at hSw); first | (go_simp; done) | (go_simp; with_reducible rfl))
  try simp only [Act.put, List.getElem_toArray, List.getElem_cons_succ, List.getElem_cons_zero, List.setIfInBounds_toArray, List.set_cons_zero, List.set_cons_succ]
  refine wpAnyH_take (i := 10) (v := ?v107) rfl (by kernel_rfl) (by kernel_rfl) (by kernel_rfl) (fun _ _ _ h => h) (Or.inl ⟨by rfl, ?hy107⟩) (by assumption) ?rest107
  case hy107 => (intro wz hSw; (try dsimp only at hSw); first | (go_simp; done) | (go_simp; with_reducible rfl))
  try simp only [Act.put, List.getElem_toArray, List.getElem_cons_succ, List.getElem_cons_zero, List.setIfInBounds_toArray, List.set_cons_zero, List.set_cons_succ]
  refine wpAnyH_ready (rs := [8]) (by kernel_rfl) (by simp) ?_
  refine AllReadyH.cons (o := _) rfl (fun K hK => ?_) AllReadyH.nil
  go_simp
  refine (CP.out _ G3.out).mono ?_
  rintro e wh4 ⟨rfl, g⟩
  have G4 := Lib.hid (gb_trans G3.out g)
  clear g
  try dsimp only
  refine hK.out _ _ (KT.out _ G4.out) (fun hH4 => ?_)
  clear hK K hH3
  try simp only [Act.put, List.getElem_toArray, List.getElem_cons_succ, List.getElem_cons_zero, List.setIfInBounds_toArray, List.set_cons_zero, List.set_cons_succ]
  refine wpAnyH_ready (rs := [11]) (by kernel_rfl) (by simp) ?_
  refine AllReadyH.cons (o := _) rfl (fun K hK => ?_) AllReadyH.nil
  go_simp
  refine (CQ.out _ G4.out).mono ?_
  rintro e wh5 ⟨rfl, g⟩
  have G5 := Lib.hid (gb_trans G4.out g)
  clear g
  try dsimp only
  refine hK.out _ _ (KT.out _ G5.out) (fun hH5 => ?_)
  clear hK K hH4
  try simp only [Act.put, List.getElem_toArray, List.getElem_cons_succ, List.getElem_cons_zero, List.setIfInBounds_toArray, List.set_cons_zero, List.set_cons_succ]
  refine wpAnyH_take (i := 12) (v := ?v108) rfl (by kernel_rfl) (by kernel_rfl) (by kernel_rfl) (fun _ _ _ h => h) (Or.inl ⟨by rfl, ?hy108⟩) (by assumption) ?rest108
  case hy108 => (intro wz hSw; (try dsimp only at hSw); first | (go_simp; done) | (go_simp; with_reducible rfl))
  try simp only [Act.put, List.getElem_toArray, List.getElem_cons_succ, List.getElem_cons_zero, List.setIfInBounds_toArray, List.set_cons_zero, List.set_cons_succ]
  refine wpAnyH_take (i := 13) (v := ?v109) rfl (by kernel_rfl) (by kernel_rfl) (by kernel_rfl) (fun _ _ _ h => h) (Or.inl ⟨by rfl, ?hy109⟩) (by assumption) ?rest109
  case hy109 => (intro wz hSw; (try dsimp only at hSw); first | (go_simp; done) | (go_simp; with_reducible rfl))
  try simp only [Act.put, List.getElem_toArray, List.getElem_cons_succ, List.getElem_cons_zero, List.setIfInBounds_toArray, List.set_cons_zero, List.set_cons_succ]
  refine wpAnyH_take (i := 14) (v := ?v110) rfl (by kernel_rfl) (by kernel_rfl) (by kernel_rfl) (fun _ _ _ h => h) (Or.inl ⟨by rfl, ?hy110⟩) (by assumption) ?rest110
  case hy110 => (intro wz hSw; (try dsimp only at hSw); first | (go_simp; done) | (go_simp; with_reducible rfl))
  try simp only [Act.put, List.getElem_toArray, List.getElem_cons_succ, List.getElem_cons_zero, List.setIfInBounds_toArray, List.set_cons_zero, List.set_cons_succ]
  refine wpAnyH_take (i := 15) (v := ?v111) rfl (by kernel_rfl) (by kernel_rfl) (by kernel_rfl) (fun _ _ _ h => h) (Or.inl ⟨by rfl, ?hy111⟩) (by assumption) ?rest111
  case hy111 => (intro wz hSw; (try dsimp only at hSw); first | (go_simp; done) | (go_simp; with_reducible rfl))
  try simp only [Act.put, List.getElem_toArray, List.getElem_cons_succ, List.getElem_cons_zero, List.setIfInBounds_toArray, List.set_cons_zero, List.set_cons_succ]
  refine wpAnyH_take (i := 16) (v := ?v112) rfl (by kernel_rfl) (by kernel_rfl) (by kernel_rfl) (fun _ _ _ h => h) (Or.inl ⟨by rfl, ?hy112⟩) (by assumption) ?rest112
  case hy112 => (intro wz hSw; (try dsimp only at hSw); first | (go_simp; done) | (go_simp; with_reducible rfl))
  try simp only [Act.put, List.getElem_toArray, List.getElem_cons_succ, List.getElem_cons_zero, List.setIfInBounds_toArray, List.set_cons_zero, List.set_cons_succ]
  refine wpAnyH_take (i := 18) (v := ?v113) rfl (by kernel_rfl) (by kernel_rfl) (by kernel_rfl) (fun _ _ _ h => h) (Or.inl ⟨by rfl, ?hy113⟩) (by assumption) ?rest113
  case hy113 => (intro wz hSw; (try dsimp only at hSw); first | (go_simp; done) | (go_simp; with_reducible rfl))
  try simp only [Act.put, List.getElem_toArray, List.getElem_cons_succ, List.getElem_cons_zero, List.setIfInBounds_toArray, List.set_cons_zero, List.set_cons_succ]
  refine wpAnyH_take (i := 19) (v := ?v114) rfl (by kernel_rfl) (by kernel_rfl) (by kernel_rfl) (fun _ _ _ h => h) (Or.inl ⟨by rfl, ?hy114⟩) (by assumption) ?rest114
  case hy114 => (intro wz hSw; (try dsimp only at hSw); first | (go_simp; done) | (go_simp; with_reducible rfl))
  try simp only [Act.put, List.getElem_toArray, List.getElem_cons_succ, List.getElem_cons_zero, List.setIfInBounds_toArray, List.set_cons_zero, List.set_cons_succ]
  refine wpAnyH_ready (rs := [17]) (by kernel_rfl) (by simp) ?_
  refine AllReadyH.cons (o := _) rfl (fun K hK => ?_) AllReadyH.nil
  go_simp
  refine (EP.out _ G5.out).mono ?_
  rintro e wh6 ⟨rfl, m⟩
  have g := dn_gb m none
  clear m
  have G6 := Lib.hid (gb_trans G5.out g)
  clear g
  try dsimp only
  refine hK.out _ _ (KT.out _ G6.out) (fun hH6 => ?_)
  clear hK K hH5
  try simp only [Act.put, List.getElem_toArray, List.getElem_cons_succ, List.getElem_cons_zero, List.setIfInBounds_toArray, List.set_cons_zero, List.set_cons_succ]
  refine wpAnyH_ready (rs := [20]) (by kernel_rfl) (by simp) ?_
  refine AllReadyH.cons (o := _) rfl (fun K hK => ?_) AllReadyH.nil
  go_simp
  refine (EQ.out _ G6.out).mono ?_
  rintro e wh7 ⟨rfl, m⟩
  have g := dn_gb m none
  clear m
  have G7 := Lib.hid (gb_trans G6.out g)
  clear g
  try dsimp only
  refine hK.out _ _ (KT.out _ G7.out) (fun hH7 => ?_)
  clear hK K hH6
  try simp only [Act.put, List.getElem_toArray, List.getElem_cons_succ, List.getElem_cons_zero, List.setIfInBounds_toArray, List.set_cons_zero, List.set_cons_succ]
  refine wpAnyH_take (i := 21) (v := ?v115) rfl (by kernel_rfl) (by kernel_rfl) (by kernel_rfl) (fun _ _ _ h => h) (Or.inl ⟨by rfl, ?hy115⟩) (by assumption) ?rest115
  case hy115 => (intro wz hSw; (try dsimp only at hSw); first | (go_simp; done) | (go_simp; with_reducible rfl))
  try simp only [Act.put, List.getElem_toArray, List.getElem_cons_succ, List.getElem_cons_zero, List.setIfInBounds_toArray, List.set_cons_zero, List.set_cons_succ]
  refine wpAnyH_take (i := 22) (v := ?v116) rfl (by kernel_rfl) (by kernel_rfl) (by kernel_rfl) (fun _ _ _ h => h) (Or.inl ⟨by rfl, ?hy116⟩) (by assumption) ?rest116
  case hy116 => (intro wz hSw; (try dsimp only at hSw); first | (go_simp; done) | (go_simp; with_reducible rfl))
  try simp only [Act.put, List.getElem_toArray, List.getElem_cons_succ, List.getElem_cons_zero, List.setIfInBounds_toArray, List.set_cons_zero, List.set_cons_succ]
  refine wpAnyH_take (i := 23) (v := ?v117) rfl (by kernel_rfl) (by kernel_rfl) (by kernel_rfl) (fun _ _ _ h => h) (Or.inl ⟨by rfl, ?hy117⟩) (by assumption) ?rest117
  case hy117 => (intro wz hSw; (try dsimp only at hSw); first | (go_simp; done) | (go_simp; with_reducible rfl))
  try simp only [Act.put, List.getElem_toArray, List.getElem_cons_succ, List.getElem_cons_zero, List.setIfInBounds_toArray, List.set_cons_zero, List.set_cons_succ]
  refine wpAnyH_take (i := 24) (v := ?v118) rfl (by kernel_rfl) (by kernel_rfl) (by kernel_rfl) (fun _ _ _ h => h) (Or.inl ⟨by rfl, ?hy118⟩) (by assumption) ?rest118
  case hy118 => (intro wz hSw; (try dsimp only at hSw); first | (go_simp; done) | (go_simp; with_reducible rfl))
  try simp only [Act.put, List.getElem_toArray, List.getElem_cons_succ, List.getElem_cons_zero, List.setIfInBounds_toArray, List.set_cons_zero, List.set_cons_succ]
  refine wpAnyH_take (i := 25) (v := ?v119) rfl (by kernel_rfl) (by kernel_rfl) (by kernel_rfl) (fun _ _ _ h => h) (Or.inl ⟨by rfl, ?hy119⟩) (by assumption) ?rest119
  case hy119 => (intro wz hSw; (try dsimp only at hSw); first | (go_simp; done) | (go_simp; with_reducible rfl))
  try simp only [Act.put, List.getElem_toArray, List.getElem_cons_succ, List.getElem_cons_zero, List.setIfInBounds_toArray, List.set_cons_zero, List.set_cons_succ]
  refine wpAnyH_ready (rs := [26]) (by kernel_rfl) (by simp) ?_
  refine AllReadyH.cons (o := _) rfl (fun K hK => ?_) AllReadyH.nil
  go_simp
  refine (EA.out _ G7.out).mono ?_
  rintro e wh8 ⟨rfl, m⟩
  have g := dn_gb m none
  clear m
  have G8 := Lib.hid (gb_trans G7.out g)
  clear g
  try dsimp only
  refine hK.out _ _ (KT.out _ G8.out) (fun hH8 => ?_)
  clear hK K hH7
  try simp only [Act.put, List.getElem_toArray, List.getElem_cons_succ, List.getElem_cons_zero, List.setIfInBounds_toArray, List.set_cons_zero, List.set_cons_succ]
  refine wpAnyH_take (i := 27) (v := ?v120) rfl (by kernel_rfl) (by kernel_rfl) (by kernel_rfl) (fun _ _ _ h => h) (Or.inl ⟨by rfl, ?hy120⟩) (by assumption) ?rest120
  case hy120 => (intro wz hSw; (try dsimp only at hSw); first | (go_simp; done) | (go_simp; with_reducible rfl))
  try simp only [Act.put, List.getElem_toArray, List.getElem_cons_succ, List.getElem_cons_zero, List.setIfInBounds_toArray, List.set_cons_zero, List.set_cons_succ]
  refine wpAnyH_take (i := 28) (v := ?v121) rfl (by kernel_rfl) (by kernel_rfl) (by kernel_rfl) (fun _ _ _ h => h) (Or.inl ⟨by rfl, ?hy121⟩) (by assumption) ?rest121
  case hy121 => (intro wz hSw; (try dsimp only at hSw); first | (go_simp; done) | (go_simp; with_reducible rfl))
  try simp only [Act.put, List.getElem_toArray, List.getElem_cons_succ, List.getElem_cons_zero, List.setIfInBounds_toArray, List.set_cons_zero, List.set_cons_succ]
  refine wpAnyH_ready (rs := [29]) (by kernel_rfl) (by simp) ?_
  refine AllReadyH.cons (o := _) rfl (fun K hK => ?_) AllReadyH.nil
  go_simp
  refine (WK.out _).mono ?_
  rintro e wh9 ⟨rfl, g⟩
  have G9 := Lib.hid (gb_trans G8.out g)
  clear g
  try dsimp only
  refine hK.out _ _ (KT.out _ G9.out) (fun hH9 => ?_)
  clear hK K hH8
  try simp only [Act.put, List.getElem_toArray, List.getElem_cons_succ, List.getElem_cons_zero, List.setIfInBounds_toArray, List.set_cons_zero, List.set_cons_succ]
  refine wpAnyH_take (i := 30) (v := ?v122) rfl (by kernel_rfl) (by kernel_rfl) (by kernel_rfl) (fun _ _ _ h => h) (Or.inl ⟨by rfl, ?hy122⟩) (by assumption) ?rest122
  case hy122 => (intro wz hSw; (try dsimp only at hSw); first | (go_simp; done) | (go_simp; with_reducible rfl))
  try simp only [Act.put, List.getElem_toArray, List.getElem_cons_succ, List.getElem_cons_zero, List.setIfInBounds_toArray, List.set_cons_zero, List.set_cons_succ]
  refine wpAnyH_take (i := 31) (v := ?v123) rfl (by kernel_rfl) (by kernel_rfl) (by kernel_rfl) (fun _ _ _ h => h) (Or.inl ⟨by rfl, ?hy123⟩) (by assumption) ?rest123
  case hy123 => (intro wz hSw; (try dsimp only at hSw); first | (go_simp; done) | (go_simp; with_reducible rfl))
  try simp only [Act.put, List.getElem_toArray, List.getElem_cons_succ, List.getElem_cons_zero, List.setIfInBounds_toArray, List.set_cons_zero, List.set_cons_succ]
  refine wpAnyH_done (by kernel_rfl) ?_ _
  clear hH9
  go_wp2
  go_ret
  exact ⟨rfl, gb_trans GZ.out G9.out⟩
end Go.Proofs.Ytjbimeahcldaoaa
