/- Register: the law Operations; no condition. -/
import Derived.Test.YtjbimeahcldaoaaRgR
namespace Go.Proofs.Ytjbimeahcldaoaa
open Go.RowKit
set_option linter.unusedVariables false
theorem wr_rows (L : List Rg) (R : List (List Int)) (r i v : Int) (n : Nat) (h : ∀ j, (R.getD j []).length ≤ n) : ∀ j, ((writeL L R r i v).getD j []).length ≤ n := by
  intro j
  unfold writeL
  split
  · by_cases e : j = r.toNat
    · subst e
      by_cases hj : r.toNat < R.length
      · rw [getD_set_at _ _ _ _ hj, List.length_set]; exact h _
      · rw [List.getD_eq_getElem?_getD, List.getElem?_eq_none (by rw [List.length_set]; omega)]; exact Nat.zero_le _
    · rw [getD_set_off _ _ _ _ _ e]; exact h j
  · exact h j
set_option maxRecDepth 100000 in
set_option maxHeartbeats 4000000 in
theorem operations_walk (w : World) (X : PX) (L : List Rg) (a : Option Addr) (n c : Nat) (R : List (List Int)) (x : Ac) (h : SG w X.ra X.rn X.rc L) (g : SR w a n c R) (hx : AcOk x) :
    Calls Try.prog 5 #[.agg #[.string X.nm, .slice X.ha X.hn X.hc, .slice X.ma X.mn X.mc, .slice X.ra X.rn X.rc, .slice X.aa X.an X.ac, .slice X.ta X.tn X.tc, .slice X.sa X.sn X.sc, .slice X.ca X.cn X.cc, .slice X.da X.dn X.dc], .slice a n c, .agg #[.int .i64 x.1, .int .u32 x.2.1, .int .u32 x.2.2]] w (RetV (.bool true) w) := by
  have WK := Lib.hid (fun W => works_any W)
  have T1 := Lib.hid (fun (W : World) (k : w.grownBy W none) => big_b W X L a n c R (h.keep0 k) (g.keep0 k) _ rfl)
  unfold RetV at WK T1
  have HH := Lib.hid h
  have HA := Lib.hid g
  have HX := Lib.hid hx
  clear h g hx
  obtain ⟨A, hA⟩ : ∃ A, A = w.heap.size := ⟨_, rfl⟩
  obtain ⟨D, hD⟩ : ∃ D, D = A + 1 := ⟨_, rfl⟩
  obtain ⟨w1, hw1⟩ : ∃ w1, w1 = (w.alloc (.cells #[.string X.nm, .slice X.ha X.hn X.hc, .slice X.ma X.mn X.mc, .slice X.ra X.rn X.rc, .slice X.aa X.an X.ac, .slice X.ta X.tn X.tc, .slice X.sa X.sn X.sc, .slice X.ca X.cn X.cc, .slice X.da X.dn X.dc] 37)).alloc (.cells #[.int .i64 x.1, .int .u32 x.2.1, .int .u32 x.2.2] 46) := ⟨_, rfl⟩
  have BA := Lib.hid (show IsB w1 A 37 #[.string X.nm, .slice X.ha X.hn X.hc, .slice X.ma X.mn X.mc, .slice X.ra X.rn X.rc, .slice X.aa X.an X.ac, .slice X.ta X.tn X.tc, .slice X.sa X.sn X.sc, .slice X.ca X.cn X.cc, .slice X.da X.dn X.dc] from by rw [hw1, hA]; exact (IsB.new _ _ _).alloc _)
  have BD := Lib.hid (show IsB w1 D 46 #[.int .i64 x.1, .int .u32 x.2.1, .int .u32 x.2.2] from by rw [hw1, hD, hA, ← sz_al w (.cells #[.string X.nm, .slice X.ha X.hn X.hc, .slice X.ma X.mn X.mc, .slice X.ra X.rn X.rc, .slice X.aa X.an X.ac, .slice X.ta X.tn X.tc, .slice X.sa X.sn X.sc, .slice X.ca X.cn X.cc, .slice X.da X.dn X.dc] 37)]; exact IsB.new _ _ _)
  have GZ := Lib.hid (show w.grownBy w1 none from by rw [hw1]; exact gb_al (gb_al (gb_refl _ _)))
  go_enter Try.func5, Try.ntmps5
  go_upto_region 1 with fail
  rw [← hA, ← hD, ← hw1]
  clear hw1 hD hA
  have s0 : w1.cell? ⟨A, 0, none⟩ = some (.string X.nm) := (BA.out).cell 0
  have s1 : w1.cell? ⟨A, 1, none⟩ = some (.slice X.ha X.hn X.hc) := (BA.out).cell 1
  have s2 : w1.cell? ⟨A, 2, none⟩ = some (.slice X.ma X.mn X.mc) := (BA.out).cell 2
  have s3 : w1.cell? ⟨A, 3, none⟩ = some (.slice X.ra X.rn X.rc) := (BA.out).cell 3
  have s4 : w1.cell? ⟨A, 4, none⟩ = some (.slice X.aa X.an X.ac) := (BA.out).cell 4
  have s5 : w1.cell? ⟨A, 5, none⟩ = some (.slice X.ta X.tn X.tc) := (BA.out).cell 5
  have s6 : w1.cell? ⟨A, 6, none⟩ = some (.slice X.sa X.sn X.sc) := (BA.out).cell 6
  have s7 : w1.cell? ⟨A, 7, none⟩ = some (.slice X.ca X.cn X.cc) := (BA.out).cell 7
  have s8 : w1.cell? ⟨A, 8, none⟩ = some (.slice X.da X.dn X.dc) := (BA.out).cell 8
  cases h1 : bigB L R
  rotate_left
  · rw [h1] at T1
    clear h1
    go_wp2_with fail
    refine (T1.out _ GZ.out).mono ?_
    rintro e w3 ⟨rfl, g⟩
    have G3 := Lib.hid (gb_trans GZ.out g)
    clear g s0 s1 s2 s3 s4 s5 s6 s7 s8
    go_wp2_with fail
    refine (WK.out _).mono ?_
    rintro e w4 ⟨rfl, g⟩
    have G4 := Lib.hid (gb_trans G3.out g)
    clear g
    go_wp2
    go_ret
    exact ⟨rfl, G4.out⟩
  rw [h1] at T1
  obtain ⟨b1, b2, b3⟩ := not_big h1
  have LN := HH.out.len
  have RA := HA.out.len
  clear h1
  go_wp2_with fail
  refine (T1.out _ GZ.out).mono ?_
  rintro e wb ⟨rfl, g⟩
  replace BA := Lib.hid (BA.out.keep0 g)
  replace BD := Lib.hid (BD.out.keep0 g)
  replace GZ := Lib.hid (gb_trans GZ.out g)
  clear g s0 s1 s2 s3 s4 s5 s6 s7 s8
  go_upto_region 3 with fail
  have RP := Lib.hid (fun (W : World) (k : wb.grownBy W none) => pread_any W X L a n c R x.1 x.2.1 (HH.out.keep0 (gb_trans GZ.out k)) (HA.out.keep0 (gb_trans GZ.out k)) (by omega) (by omega) HX.out.1 HX.out.2.1.1 HX.out.2.1.2 (fun j => by have := b3 j; omega))
  have RQ := Lib.hid (fun (W : World) (k : wb.grownBy W none) => rread_any W X L a n c R x.1 x.2.1 (HH.out.keep0 (gb_trans GZ.out k)) (HA.out.keep0 (gb_trans GZ.out k)) (by omega) (by omega) HX.out.1 HX.out.2.1.1 HX.out.2.1.2 (fun j => by have := b3 j; omega))
  have WP := Lib.hid (fun (W : World) (k : wb.grownBy W none) => pwrite_any W X L a n c R x.1 x.2.1 x.2.2 (HH.out.keep0 (gb_trans GZ.out k)) (HA.out.keep0 (gb_trans GZ.out k)) (by omega) (by omega) HX.out.1 HX.out.2.1.1 HX.out.2.1.2 HX.out.2.2.1 HX.out.2.2.2 (fun j => by have := b3 j; omega))
  have WQ := Lib.hid (fun (W : World) (k : wb.grownBy W none) => rwrite_any W X L a n c R x.1 x.2.1 x.2.2 (HH.out.keep0 (gb_trans GZ.out k)) (HA.out.keep0 (gb_trans GZ.out k)) (by omega) (by omega) HX.out.1 HX.out.2.1.1 HX.out.2.1.2 HX.out.2.2.1 HX.out.2.2.2 (fun j => by have := b3 j; omega))
  have EN := Lib.hid (fun (W : World) (a1 a2 : Option Addr) (c1 c2 : Nat) (u : SR W a1 R.length c1 (writeL L R x.1 x.2.1 x.2.2)) (v : SR W a2 R.length c2 (writeL L R x.1 x.2.1 x.2.2)) => requr_any W a1 a2 _ c1 _ c2 _ _ u v (by omega) (by omega) (fun j => by have := wr_rows L R x.1 x.2.1 x.2.2 100 b3 j; omega) (fun j => by have := wr_rows L R x.1 x.2.1 x.2.2 100 b3 j; omega))
  rw [show decide (writeL L R x.1 x.2.1 x.2.2 = writeL L R x.1 x.2.1 x.2.2) = true from decide_eq_true rfl] at EN
  unfold RetV at RP RQ
  unfold RetR at WP WQ
  unfold RetD at EN
  generalize readL L R x.1 x.2.1 = e0 at RP RQ
  clear LN RA b1 b2 b3
  have KT := Lib.hid (fun (w' : World) (k : wb.grownBy w' none) => (⟨(BA.out.keep0 k).cell 0, (BA.out.keep0 k).cell 1, (BA.out.keep0 k).cell 2, (BA.out.keep0 k).cell 3, (BA.out.keep0 k).cell 4, (BA.out.keep0 k).cell 5, (BA.out.keep0 k).cell 6, (BA.out.keep0 k).cell 7, (BA.out.keep0 k).cell 8, (BD.out.keep0 k).cell 0, (BD.out.keep0 k).cell 1, (BD.out.keep0 k).cell 2, trivial⟩ : (fun w' : World => w'.cell? ⟨A, 0, none⟩ = some (.string X.nm) ∧ w'.cell? ⟨A, 1, none⟩ = some (.slice X.ha X.hn X.hc) ∧ w'.cell? ⟨A, 2, none⟩ = some (.slice X.ma X.mn X.mc) ∧ w'.cell? ⟨A, 3, none⟩ = some (.slice X.ra X.rn X.rc) ∧ w'.cell? ⟨A, 4, none⟩ = some (.slice X.aa X.an X.ac) ∧ w'.cell? ⟨A, 5, none⟩ = some (.slice X.ta X.tn X.tc) ∧ w'.cell? ⟨A, 6, none⟩ = some (.slice X.sa X.sn X.sc) ∧ w'.cell? ⟨A, 7, none⟩ = some (.slice X.ca X.cn X.cc) ∧ w'.cell? ⟨A, 8, none⟩ = some (.slice X.da X.dn X.dc) ∧ w'.cell? ⟨D, 0, none⟩ = some (.int .i64 x.1) ∧ w'.cell? ⟨D, 1, none⟩ = some (.int .u32 x.2.1) ∧ w'.cell? ⟨D, 2, none⟩ = some (.int .u32 x.2.2) ∧ True) w'))
  have G0 := Lib.hid (gb_drew wb none)
  refine wp_region_held_drew (S := (fun w' : World => w'.cell? ⟨A, 0, none⟩ = some (.string X.nm) ∧ w'.cell? ⟨A, 1, none⟩ = some (.slice X.ha X.hn X.hc) ∧ w'.cell? ⟨A, 2, none⟩ = some (.slice X.ma X.mn X.mc) ∧ w'.cell? ⟨A, 3, none⟩ = some (.slice X.ra X.rn X.rc) ∧ w'.cell? ⟨A, 4, none⟩ = some (.slice X.aa X.an X.ac) ∧ w'.cell? ⟨A, 5, none⟩ = some (.slice X.ta X.tn X.tc) ∧ w'.cell? ⟨A, 6, none⟩ = some (.slice X.sa X.sn X.sc) ∧ w'.cell? ⟨A, 7, none⟩ = some (.slice X.ca X.cn X.cc) ∧ w'.cell? ⟨A, 8, none⟩ = some (.slice X.da X.dn X.dc) ∧ w'.cell? ⟨D, 0, none⟩ = some (.int .i64 x.1) ∧ w'.cell? ⟨D, 1, none⟩ = some (.int .u32 x.2.1) ∧ w'.cell? ⟨D, 2, none⟩ = some (.int .u32 x.2.2) ∧ True)) (by kernel_rfl) (KT.out _ G0.out) (fun hH0 => ?_)
  refine wpAnyH_take (i := 0) (v := ?v1) rfl (by kernel_rfl) (by kernel_rfl) (by kernel_rfl) (fun _ _ _ h => h) (Or.inl ⟨by rfl, ?hy1⟩) (by assumption) ?rest1
  case hy1 => (intro wz hSw; (try dsimp only at hSw); first | (go_simp; done) | (go_simp; with_reducible rfl))
  try simp only [Act.put, List.getElem_toArray, List.getElem_cons_zero, List.setIfInBounds_toArray, List.set_cons_zero, List.set_cons_succ]
  refine wpAnyH_take (i := 1) (v := ?v2) rfl (by kernel_rfl) (by kernel_rfl) (by kernel_rfl) (fun _ _ _ h => h) (Or.inl ⟨by rfl, ?hy2⟩) (by assumption) ?rest2
  case hy2 => (intro wz hSw; (try dsimp only at hSw); first | (go_simp; done) | (go_simp; with_reducible rfl))
  try simp only [Act.put, List.getElem_toArray, List.getElem_cons_succ, List.getElem_cons_zero, List.setIfInBounds_toArray, List.set_cons_zero, List.set_cons_succ]
  refine wpAnyH_take (i := 2) (v := ?v3) rfl (by kernel_rfl) (by kernel_rfl) (by kernel_rfl) (fun _ _ _ h => h) (Or.inl ⟨by rfl, ?hy3⟩) (by assumption) ?rest3
  case hy3 => (intro wz hSw; (try dsimp only at hSw); first | (go_simp; done) | (go_simp; with_reducible rfl))
  try simp only [Act.put, List.getElem_toArray, List.getElem_cons_succ, List.getElem_cons_zero, List.setIfInBounds_toArray, List.set_cons_zero, List.set_cons_succ]
  refine wpAnyH_take (i := 3) (v := ?v4) rfl (by kernel_rfl) (by kernel_rfl) (by kernel_rfl) (fun _ _ _ h => h) (Or.inl ⟨by rfl, ?hy4⟩) (by assumption) ?rest4
  case hy4 => (intro wz hSw; (try dsimp only at hSw); first | (go_simp; done) | (go_simp; with_reducible rfl))
  try simp only [Act.put, List.getElem_toArray, List.getElem_cons_succ, List.getElem_cons_zero, List.setIfInBounds_toArray, List.set_cons_zero, List.set_cons_succ]
  refine wpAnyH_take (i := 4) (v := ?v5) rfl (by kernel_rfl) (by kernel_rfl) (by kernel_rfl) (fun _ _ _ h => h) (Or.inl ⟨by rfl, ?hy5⟩) (by assumption) ?rest5
  case hy5 => (intro wz hSw; (try dsimp only at hSw); first | (go_simp; done) | (go_simp; with_reducible rfl))
  try simp only [Act.put, List.getElem_toArray, List.getElem_cons_succ, List.getElem_cons_zero, List.setIfInBounds_toArray, List.set_cons_zero, List.set_cons_succ]
  refine wpAnyH_take (i := 5) (v := ?v6) rfl (by kernel_rfl) (by kernel_rfl) (by kernel_rfl) (fun _ _ _ h => h) (Or.inl ⟨by rfl, ?hy6⟩) (by assumption) ?rest6
  case hy6 => (intro wz hSw; (try dsimp only at hSw); first | (go_simp; done) | (go_simp; with_reducible rfl))
  try simp only [Act.put, List.getElem_toArray, List.getElem_cons_succ, List.getElem_cons_zero, List.setIfInBounds_toArray, List.set_cons_zero, List.set_cons_succ]
  refine wpAnyH_take (i := 7) (v := ?v7) rfl (by kernel_rfl) (by kernel_rfl) (by kernel_rfl) (fun _ _ _ h => h) (Or.inl ⟨by rfl, ?hy7⟩) (by assumption) ?rest7
  case hy7 => (intro wz hSw; (try dsimp only at hSw); first | (go_simp; done) | (go_simp; with_reducible rfl))
  try simp only [Act.put, List.getElem_toArray, List.getElem_cons_succ, List.getElem_cons_zero, List.setIfInBounds_toArray, List.set_cons_zero, List.set_cons_succ]
  refine wpAnyH_take (i := 8) (v := ?v8) rfl (by kernel_rfl) (by kernel_rfl) (by kernel_rfl) (fun _ _ _ h => h) (Or.inl ⟨by rfl, ?hy8⟩) (by assumption) ?rest8
  case hy8 => (intro wz hSw; (try dsimp only at hSw); first | (go_simp; done) | (go_simp; with_reducible rfl))
  try simp only [Act.put, List.getElem_toArray, List.getElem_cons_succ, List.getElem_cons_zero, List.setIfInBounds_toArray, List.set_cons_zero, List.set_cons_succ]
  refine wpAnyH_take (i := 9) (v := ?v9) rfl (by kernel_rfl) (by kernel_rfl) (by kernel_rfl) (fun _ _ _ h => h) (Or.inl ⟨by rfl, ?hy9⟩) (by assumption) ?rest9
  case hy9 => (intro wz hSw; (try dsimp only at hSw); first | (go_simp; done) | (go_simp; with_reducible rfl))
  try simp only [Act.put, List.getElem_toArray, List.getElem_cons_succ, List.getElem_cons_zero, List.setIfInBounds_toArray, List.set_cons_zero, List.set_cons_succ]
  refine wpAnyH_take (i := 10) (v := ?v10) rfl (by kernel_rfl) (by kernel_rfl) (by kernel_rfl) (fun _ _ _ h => h) (Or.inl ⟨by rfl, ?hy10⟩) (by assumption) ?rest10
  case hy10 => (intro wz hSw; (try dsimp only at hSw); first | (go_simp; done) | (go_simp; with_reducible rfl))
  try simp only [Act.put, List.getElem_toArray, List.getElem_cons_succ, List.getElem_cons_zero, List.setIfInBounds_toArray, List.set_cons_zero, List.set_cons_succ]
  refine wpAnyH_take (i := 11) (v := ?v11) rfl (by kernel_rfl) (by kernel_rfl) (by kernel_rfl) (fun _ _ _ h => h) (Or.inl ⟨by rfl, ?hy11⟩) (by assumption) ?rest11
  case hy11 => (intro wz hSw; (try dsimp only at hSw); first | (go_simp; done) | (go_simp; with_reducible rfl))
  try simp only [Act.put, List.getElem_toArray, List.getElem_cons_succ, List.getElem_cons_zero, List.setIfInBounds_toArray, List.set_cons_zero, List.set_cons_succ]
  refine wpAnyH_take (i := 12) (v := ?v12) rfl (by kernel_rfl) (by kernel_rfl) (by kernel_rfl) (fun _ _ _ h => h) (Or.inl ⟨by rfl, ?hy12⟩) (by assumption) ?rest12
  case hy12 => (intro wz hSw; (try dsimp only at hSw); first | (go_simp; done) | (go_simp; with_reducible rfl))
  try simp only [Act.put, List.getElem_toArray, List.getElem_cons_succ, List.getElem_cons_zero, List.setIfInBounds_toArray, List.set_cons_zero, List.set_cons_succ]
  refine wpAnyH_ready (rs := [6]) (by kernel_rfl) (by simp) ?_
  refine AllReadyH.cons (o := _) rfl (fun K hK => ?_) AllReadyH.nil
  go_simp
  refine (RP.out _ G0.out).mono ?_
  rintro e wh1 ⟨rfl, g⟩
  have G1 := Lib.hid (gb_trans G0.out g)
  clear g
  try dsimp only
  refine hK.out _ _ (KT.out _ G1.out) (fun hH1 => ?_)
  clear hK K hH0
  try simp only [Act.put, List.getElem_toArray, List.getElem_cons_succ, List.getElem_cons_zero, List.setIfInBounds_toArray, List.set_cons_zero, List.set_cons_succ]
  refine wpAnyH_ready (rs := [13]) (by kernel_rfl) (by simp) ?_
  refine AllReadyH.cons (o := _) rfl (fun K hK => ?_) AllReadyH.nil
  go_simp
  refine (RQ.out _ G1.out).mono ?_
  rintro e wh2 ⟨rfl, g⟩
  have G2 := Lib.hid (gb_trans G1.out g)
  clear g
  try dsimp only
  refine hK.out _ _ (KT.out _ G2.out) (fun hH2 => ?_)
  clear hK K hH1
  try simp only [Act.put, List.getElem_toArray, List.getElem_cons_succ, List.getElem_cons_zero, List.setIfInBounds_toArray, List.set_cons_zero, List.set_cons_succ]
  refine wpAnyH_take (i := 14) (v := ?v13) rfl (by kernel_rfl) (by kernel_rfl) (by kernel_rfl) (fun _ _ _ h => h) (Or.inl ⟨by rfl, ?hy13⟩) (by assumption) ?rest13
  case hy13 => (intro wz hSw; (try dsimp only at hSw); first | (go_simp; done) | (go_simp; with_reducible rfl))
  try simp only [Act.put, List.getElem_toArray, List.getElem_cons_succ, List.getElem_cons_zero, List.setIfInBounds_toArray, List.set_cons_zero, List.set_cons_succ]
  refine wpAnyH_take (i := 15) (v := ?v14) rfl (by kernel_rfl) (by kernel_rfl) (by kernel_rfl) (fun _ _ _ h => h) (Or.inl ⟨by rfl, ?hy14⟩) (by assumption) ?rest14
  case hy14 => (intro wz hSw; (try dsimp only at hSw); first | (go_simp; done) | (go_simp; with_reducible rfl))
  try simp only [Act.put, List.getElem_toArray, List.getElem_cons_succ, List.getElem_cons_zero, List.setIfInBounds_toArray, List.set_cons_zero, List.set_cons_succ]
  refine wpAnyH_take (i := 16) (v := ?v15) rfl (by kernel_rfl) (by kernel_rfl) (by kernel_rfl) (fun _ _ _ h => h) (Or.inl ⟨by rfl, ?hy15⟩) (by assumption) ?rest15
  case hy15 => (intro wz hSw; (try dsimp only at hSw); first | (go_simp; done) | (go_simp; with_reducible rfl))
  try simp only [Act.put, List.getElem_toArray, List.getElem_cons_succ, List.getElem_cons_zero, List.setIfInBounds_toArray, List.set_cons_zero, List.set_cons_succ]
  refine wpAnyH_take (i := 17) (v := ?v16) rfl (by kernel_rfl) (by kernel_rfl) (by kernel_rfl) (fun _ _ _ h => h) (Or.inl ⟨by rfl, ?hy16⟩) (by assumption) ?rest16
  case hy16 => (intro wz hSw; (try dsimp only at hSw); first | (go_simp; done) | (go_simp; with_reducible rfl))
  try simp only [Act.put, List.getElem_toArray, List.getElem_cons_succ, List.getElem_cons_zero, List.setIfInBounds_toArray, List.set_cons_zero, List.set_cons_succ]
  refine wpAnyH_take (i := 18) (v := ?v17) rfl (by kernel_rfl) (by kernel_rfl) (by kernel_rfl) (fun _ _ _ h => h) (Or.inl ⟨by rfl, ?hy17⟩) (by assumption) ?rest17
  case hy17 => (intro wz hSw; (try dsimp only at hSw); first | (go_simp; done) | (go_simp; with_reducible rfl))
  try simp only [Act.put, List.getElem_toArray, List.getElem_cons_succ, List.getElem_cons_zero, List.setIfInBounds_toArray, List.set_cons_zero, List.set_cons_succ]
  refine wpAnyH_take (i := 19) (v := ?v18) rfl (by kernel_rfl) (by kernel_rfl) (by kernel_rfl) (fun _ _ _ h => h) (Or.inl ⟨by rfl, ?hy18⟩) (by assumption) ?rest18
  case hy18 => (intro wz hSw; (try dsimp only at hSw); first | (go_simp; done) | (go_simp; with_reducible rfl))
  try simp only [Act.put, List.getElem_toArray, List.getElem_cons_succ, List.getElem_cons_zero, List.setIfInBounds_toArray, List.set_cons_zero, List.set_cons_succ]
  refine wpAnyH_take (i := 20) (v := ?v19) rfl (by kernel_rfl) (by kernel_rfl) (by kernel_rfl) (fun _ _ _ h => h) (Or.inl ⟨by rfl, ?hy19⟩) (by assumption) ?rest19
  case hy19 => (intro wz hSw; (try dsimp only at hSw); first | (go_simp; done) | (go_simp; with_reducible rfl))
  try simp only [Act.put, List.getElem_toArray, List.getElem_cons_succ, List.getElem_cons_zero, List.setIfInBounds_toArray, List.set_cons_zero, List.set_cons_succ]
  refine wpAnyH_take (i := 21) (v := ?v20) rfl (by kernel_rfl) (by kernel_rfl) (by kernel_rfl) (fun _ _ _ h => h) (Or.inl ⟨by rfl, ?hy20⟩) (by assumption) ?rest20
  case hy20 => (intro wz hSw; (try dsimp only at hSw); first | (go_simp; done) | (go_simp; with_reducible rfl))
  try simp only [Act.put, List.getElem_toArray, List.getElem_cons_succ, List.getElem_cons_zero, List.setIfInBounds_toArray, List.set_cons_zero, List.set_cons_succ]
  refine wpAnyH_take (i := 22) (v := ?v21) rfl (by kernel_rfl) (by kernel_rfl) (by kernel_rfl) (fun _ _ _ h => h) (Or.inl ⟨by rfl, ?hy21⟩) (by assumption) ?rest21
  case hy21 => (intro wz hSw; (try dsimp only at hSw); first | (go_simp; done) | (go_simp; with_reducible rfl))
  try simp only [Act.put, List.getElem_toArray, List.getElem_cons_succ, List.getElem_cons_zero, List.setIfInBounds_toArray, List.set_cons_zero, List.set_cons_succ]
  refine wpAnyH_take (i := 23) (v := ?v22) rfl (by kernel_rfl) (by kernel_rfl) (by kernel_rfl) (fun _ _ _ h => h) (Or.inl ⟨by rfl, ?hy22⟩) (by assumption) ?rest22
  case hy22 => (intro wz hSw; (try dsimp only at hSw); first | (go_simp; done) | (go_simp; with_reducible rfl))
  try simp only [Act.put, List.getElem_toArray, List.getElem_cons_succ, List.getElem_cons_zero, List.setIfInBounds_toArray, List.set_cons_zero, List.set_cons_succ]
  refine wpAnyH_take (i := 25) (v := ?v23) rfl (by kernel_rfl) (by kernel_rfl) (by kernel_rfl) (fun _ _ _ h => h) (Or.inl ⟨by rfl, ?hy23⟩) (by assumption) ?rest23
  case hy23 => (intro wz hSw; (try dsimp only at hSw); first | (go_simp; done) | (go_simp; with_reducible rfl))
  try simp only [Act.put, List.getElem_toArray, List.getElem_cons_succ, List.getElem_cons_zero, List.setIfInBounds_toArray, List.set_cons_zero, List.set_cons_succ]
  refine wpAnyH_take (i := 26) (v := ?v24) rfl (by kernel_rfl) (by kernel_rfl) (by kernel_rfl) (fun _ _ _ h => h) (Or.inl ⟨by rfl, ?hy24⟩) (by assumption) ?rest24
  case hy24 => (intro wz hSw; (try dsimp only at hSw); first | (go_simp; done) | (go_simp; with_reducible rfl))
  try simp only [Act.put, List.getElem_toArray, List.getElem_cons_succ, List.getElem_cons_zero, List.setIfInBounds_toArray, List.set_cons_zero, List.set_cons_succ]
  refine wpAnyH_take (i := 27) (v := ?v25) rfl (by kernel_rfl) (by kernel_rfl) (by kernel_rfl) (fun _ _ _ h => h) (Or.inl ⟨by rfl, ?hy25⟩) (by assumption) ?rest25
  case hy25 => (intro wz hSw; (try dsimp only at hSw); first | (go_simp; done) | (go_simp; with_reducible rfl))
  try simp only [Act.put, List.getElem_toArray, List.getElem_cons_succ, List.getElem_cons_zero, List.setIfInBounds_toArray, List.set_cons_zero, List.set_cons_succ]
  refine wpAnyH_take (i := 28) (v := ?v26) rfl (by kernel_rfl) (by kernel_rfl) (by kernel_rfl) (fun _ _ _ h => h) (Or.inl ⟨by rfl, ?hy26⟩) (by assumption) ?rest26
  case hy26 => (intro wz hSw; (try dsimp only at hSw); first | (go_simp; done) | (go_simp; with_reducible rfl))
  try simp only [Act.put, List.getElem_toArray, List.getElem_cons_succ, List.getElem_cons_zero, List.setIfInBounds_toArray, List.set_cons_zero, List.set_cons_succ]
  refine wpAnyH_take (i := 29) (v := ?v27) rfl (by kernel_rfl) (by kernel_rfl) (by kernel_rfl) (fun _ _ _ h => h) (Or.inl ⟨by rfl, ?hy27⟩) (by assumption) ?rest27
  case hy27 => (intro wz hSw; (try dsimp only at hSw); first | (go_simp; done) | (go_simp; with_reducible rfl))
  try simp only [Act.put, List.getElem_toArray, List.getElem_cons_succ, List.getElem_cons_zero, List.setIfInBounds_toArray, List.set_cons_zero, List.set_cons_succ]
  refine wpAnyH_take (i := 30) (v := ?v28) rfl (by kernel_rfl) (by kernel_rfl) (by kernel_rfl) (fun _ _ _ h => h) (Or.inl ⟨by rfl, ?hy28⟩) (by assumption) ?rest28
  case hy28 => (intro wz hSw; (try dsimp only at hSw); first | (go_simp; done) | (go_simp; with_reducible rfl))
  try simp only [Act.put, List.getElem_toArray, List.getElem_cons_succ, List.getElem_cons_zero, List.setIfInBounds_toArray, List.set_cons_zero, List.set_cons_succ]
  refine wpAnyH_take (i := 31) (v := ?v29) rfl (by kernel_rfl) (by kernel_rfl) (by kernel_rfl) (fun _ _ _ h => h) (Or.inl ⟨by rfl, ?hy29⟩) (by assumption) ?rest29
  case hy29 => (intro wz hSw; (try dsimp only at hSw); first | (go_simp; done) | (go_simp; with_reducible rfl))
  try simp only [Act.put, List.getElem_toArray, List.getElem_cons_succ, List.getElem_cons_zero, List.setIfInBounds_toArray, List.set_cons_zero, List.set_cons_succ]
  refine wpAnyH_take (i := 32) (v := ?v30) rfl (by kernel_rfl) (by kernel_rfl) (by kernel_rfl) (fun _ _ _ h => h) (Or.inl ⟨by rfl, ?hy30⟩) (by assumption) ?rest30
  case hy30 => (intro wz hSw; (try dsimp only at hSw); first | (go_simp; done) | (go_simp; with_reducible rfl))
  try simp only [Act.put, List.getElem_toArray, List.getElem_cons_succ, List.getElem_cons_zero, List.setIfInBounds_toArray, List.set_cons_zero, List.set_cons_succ]
  refine wpAnyH_ready (rs := [24]) (by kernel_rfl) (by simp) ?_
  refine AllReadyH.cons (o := _) rfl (fun K hK => ?_) AllReadyH.nil
  go_simp
  refine (WP.out _ G2.out).mono ?_
  rintro e wh3 ⟨V1, Vs1, rfl, o1, g⟩
  obtain ⟨a1, c1, hV⟩ := o1.shape
  rw [keep_rows] at hV
  subst hV
  have S1 := Lib.hid (o1.sr keep_rows)
  clear o1
  have G3 := Lib.hid (gb_trans G2.out g)
  clear g
  try dsimp only
  refine hK.out _ _ (KT.out _ G3.out) (fun hH3 => ?_)
  clear hK K hH2
  try simp only [Act.put, List.getElem_toArray, List.getElem_cons_succ, List.getElem_cons_zero, List.setIfInBounds_toArray, List.set_cons_zero, List.set_cons_succ]
  refine wpAnyH_ready (rs := [33]) (by kernel_rfl) (by simp) ?_
  refine AllReadyH.cons (o := _) rfl (fun K hK => ?_) AllReadyH.nil
  go_simp
  refine (WQ.out _ G3.out).mono ?_
  rintro e wh4 ⟨V2, Vs2, rfl, o2, g⟩
  obtain ⟨a2, c2, hV⟩ := o2.shape
  rw [keep_rows] at hV
  subst hV
  replace S1 := Lib.hid (S1.out.keep0 g)
  have S2 := Lib.hid (o2.sr keep_rows)
  clear o2
  have G4 := Lib.hid (gb_trans G3.out g)
  clear g
  try dsimp only
  refine hK.out _ _ (KT.out _ G4.out) (fun hH4 => ?_)
  clear hK K hH3
  try simp only [Act.put, List.getElem_toArray, List.getElem_cons_succ, List.getElem_cons_zero, List.setIfInBounds_toArray, List.set_cons_zero, List.set_cons_succ]
  refine wpAnyH_ready (rs := [34]) (by kernel_rfl) (by simp) ?_
  refine AllReadyH.cons (o := _) rfl (fun K hK => ?_) AllReadyH.nil
  go_simp
  refine (EN.out _ a1 a2 c1 c2 S1.out S2.out).mono ?_
  rintro e wh5 ⟨rfl, m⟩
  have g := dn_gb m none
  clear m
  have G5 := Lib.hid (gb_trans G4.out g)
  clear g
  try dsimp only
  refine hK.out _ _ (KT.out _ G5.out) (fun hH5 => ?_)
  clear hK K hH4
  try simp only [Act.put, List.getElem_toArray, List.getElem_cons_succ, List.getElem_cons_zero, List.setIfInBounds_toArray, List.set_cons_zero, List.set_cons_succ]
  refine wpAnyH_take (i := 35) (v := ?v31) rfl (by kernel_rfl) (by kernel_rfl) (by kernel_rfl) (fun _ _ _ h => h) (Or.inl ⟨by rfl, ?hy31⟩) (by assumption) ?rest31
  case hy31 => (intro wz hSw; (try dsimp only at hSw); first | (go_simp; done) | (go_simp; with_reducible rfl))
  try simp only [Act.put, List.getElem_toArray, List.getElem_cons_succ, List.getElem_cons_zero, List.setIfInBounds_toArray, List.set_cons_zero, List.set_cons_succ]
  refine wpAnyH_take (i := 36) (v := ?v32) rfl (by kernel_rfl) (by kernel_rfl) (by kernel_rfl) (fun _ _ _ h => h) (Or.inl ⟨by rfl, ?hy32⟩) (by assumption) ?rest32
  case hy32 => (intro wz hSw; (try dsimp only at hSw); first | (go_simp; done) | (go_simp; with_reducible rfl))
  try simp only [Act.put, List.getElem_toArray, List.getElem_cons_succ, List.getElem_cons_zero, List.setIfInBounds_toArray, List.set_cons_zero, List.set_cons_succ]
  refine wpAnyH_ready (rs := [37]) (by kernel_rfl) (by simp) ?_
  refine AllReadyH.cons (o := _) rfl (fun K hK => ?_) AllReadyH.nil
  go_simp
  refine (WK.out _).mono ?_
  rintro e wh6 ⟨rfl, g⟩
  have G6 := Lib.hid (gb_trans G5.out g)
  clear g
  try dsimp only
  refine hK.out _ _ (KT.out _ G6.out) (fun hH6 => ?_)
  clear hK K hH5
  try simp only [Act.put, List.getElem_toArray, List.getElem_cons_succ, List.getElem_cons_zero, List.setIfInBounds_toArray, List.set_cons_zero, List.set_cons_succ]
  refine wpAnyH_take (i := 38) (v := ?v33) rfl (by kernel_rfl) (by kernel_rfl) (by kernel_rfl) (fun _ _ _ h => h) (Or.inl ⟨by rfl, ?hy33⟩) (by assumption) ?rest33
  case hy33 => (intro wz hSw; (try dsimp only at hSw); first | (go_simp; done) | (go_simp; with_reducible rfl))
  try simp only [Act.put, List.getElem_toArray, List.getElem_cons_succ, List.getElem_cons_zero, List.setIfInBounds_toArray, List.set_cons_zero, List.set_cons_succ]
  refine wpAnyH_take (i := 39) (v := ?v34) rfl (by kernel_rfl) (by kernel_rfl) (by kernel_rfl) (fun _ _ _ h => h) (Or.inl ⟨by rfl, ?hy34⟩) (by assumption) ?rest34
  case hy34 => (intro wz hSw; (try dsimp only at hSw); first | (go_simp; done) | (go_simp; with_reducible rfl))
  try simp only [Act.put, List.getElem_toArray, List.getElem_cons_succ, List.getElem_cons_zero, List.setIfInBounds_toArray, List.set_cons_zero, List.set_cons_succ]
  refine wpAnyH_done (by kernel_rfl) ?_ _
  clear hH6
  go_wp2
  go_ret
  exact ⟨rfl, gb_trans GZ.out G6.out⟩
end Go.Proofs.Ytjbimeahcldaoaa
