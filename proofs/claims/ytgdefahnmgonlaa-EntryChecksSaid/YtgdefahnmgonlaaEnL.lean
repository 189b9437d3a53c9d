/- Entries: the law Checks; no condition. -/
import Derived.Test.YtgdefahnmgonlaaEnK
import Derived.Test.YtgdefahnmgonlaaEnJ
import Derived.Deep.QuietTactic
import Derived.BigQuiet
namespace Go.Proofs.Ytgdefahnmgonlaa
open Go.RowKit
set_option linter.unusedVariables false
set_option maxRecDepth 100000 in
set_option maxHeartbeats 4000000 in
theorem checks_walk (w : World) (X : PX) (P : Pg) (hp : SP w X P) (t : Int) (Y : EX) (x : En) (h : SE w Y x) : Calls Try.prog 3 #[.agg #[.string X.nm, .slice X.ha X.hn X.hc, .slice X.ma X.mn X.mc, .slice X.ra X.rn X.rc, .slice X.aa X.an X.ac, .slice X.ta X.tn X.tc, .slice X.sa X.sn X.sc, .slice X.ca X.cn X.cc, .slice X.da X.dn X.dc], .int .i64 t, .agg #[.slice Y.ka Y.kn Y.kc, .int .i64 x.pr, .int .i64 x.ac, .slice Y.ra Y.rn Y.rc]] w (RetV (.bool true) w) := by
  have HP := Lib.hid hp
  have HE := Lib.hid h
  have G1 := Lib.hid (gb_trans (gb_alloc w (.cells #[.string X.nm, .slice X.ha X.hn X.hc, .slice X.ma X.mn X.mc, .slice X.ra X.rn X.rc, .slice X.aa X.an X.ac, .slice X.ta X.tn X.tc, .slice X.sa X.sn X.sc, .slice X.ca X.cn X.cc, .slice X.da X.dn X.dc] 31) none) (gb_alloc _ (.cells #[.slice Y.ka Y.kn Y.kc, .int .i64 x.pr, .int .i64 x.ac, .slice Y.ra Y.rn Y.rc] 37) none))
  have B1 := (IsB.new w 31 #[.string X.nm, .slice X.ha X.hn X.hc, .slice X.ma X.mn X.mc, .slice X.ra X.rn X.rc, .slice X.aa X.an X.ac, .slice X.ta X.tn X.tc, .slice X.sa X.sn X.sc, .slice X.ca X.cn X.cc, .slice X.da X.dn X.dc]).alloc (.cells #[.slice Y.ka Y.kn Y.kc, .int .i64 x.pr, .int .i64 x.ac, .slice Y.ra Y.rn Y.rc] 37)
  have B2 := IsB.new (w.alloc (.cells #[.string X.nm, .slice X.ha X.hn X.hc, .slice X.ma X.mn X.mc, .slice X.ra X.rn X.rc, .slice X.aa X.an X.ac, .slice X.ta X.tn X.tc, .slice X.sa X.sn X.sc, .slice X.ca X.cn X.cc, .slice X.da X.dn X.dc] 31)) 37 #[.slice Y.ka Y.kn Y.kc, .int .i64 x.pr, .int .i64 x.ac, .slice Y.ra Y.rn Y.rc]
  simp only [sz_al] at B2
  replace B1 := Lib.hid B1
  replace B2 := Lib.hid B2
  clear hp h
  go_enter Try.func3, Try.ntmps3
  go_upto_region 1 with fail
  generalize (w.alloc (.cells #[.string X.nm, .slice X.ha X.hn X.hc, .slice X.ma X.mn X.mc, .slice X.ra X.rn X.rc, .slice X.aa X.an X.ac, .slice X.ta X.tn X.tc, .slice X.sa X.sn X.sc, .slice X.ca X.cn X.cc, .slice X.da X.dn X.dc] 31)).alloc (.cells #[.slice Y.ka Y.kn Y.kc, .int .i64 x.pr, .int .i64 x.ac, .slice Y.ra Y.rn Y.rc] 37) = w1 at *
  obtain ⟨bx, hbx⟩ : ∃ b, b = w.heap.size := ⟨_, rfl⟩
  have Lbx := Lib.hid (show w.heap.size ≤ bx by rw [hbx]; exact Nat.le_refl _)
  rw [← hbx] at B1 B2 ⊢
  clear hbx
  have SX := Lib.hid (fun W => smallx_any W Y x)
  obtain ⟨b, hb⟩ : ∃ b, b = decide (Y.kn ≤ 10 ∧ Y.rn ≤ 10) := ⟨_, rfl⟩
  rw [← hb] at SX
  have HB := Lib.hid hb
  clear hb
  have c0 := (B1.out.keep0 (gb_refl _ _)).cell 0
  have c1 := (B1.out.keep0 (gb_refl _ _)).cell 1
  have c2 := (B1.out.keep0 (gb_refl _ _)).cell 2
  have c3 := (B1.out.keep0 (gb_refl _ _)).cell 3
  have c4 := (B1.out.keep0 (gb_refl _ _)).cell 4
  have c5 := (B1.out.keep0 (gb_refl _ _)).cell 5
  have c6 := (B1.out.keep0 (gb_refl _ _)).cell 6
  have c7 := (B1.out.keep0 (gb_refl _ _)).cell 7
  have c8 := (B1.out.keep0 (gb_refl _ _)).cell 8
  dsimp at c0 c1 c2 c3 c4 c5 c6 c7 c8
  have d0 := (B2.out.keep0 (gb_refl _ _)).cell 0
  have d1 := (B2.out.keep0 (gb_refl _ _)).cell 1
  have d2 := (B2.out.keep0 (gb_refl _ _)).cell 2
  have d3 := (B2.out.keep0 (gb_refl _ _)).cell 3
  dsimp at d0 d1 d2 d3
  go_wp2_with fail
  refine (small_any w1 X P (HP.out.keep0 G1.out)).mono ?_
  rintro e w2 ⟨s0, rfl, g, hq⟩
  have G2 := Lib.hid g
  have HQ := Lib.hid hq
  clear g hq
  clear c0 c1 c2 c3 c4 c5 c6 c7 c8 d0 d1 d2 d3
  have c0 := (B1.out.keep0 G2.out).cell 0
  have c1 := (B1.out.keep0 G2.out).cell 1
  have c2 := (B1.out.keep0 G2.out).cell 2
  have c3 := (B1.out.keep0 G2.out).cell 3
  have c4 := (B1.out.keep0 G2.out).cell 4
  have c5 := (B1.out.keep0 G2.out).cell 5
  have c6 := (B1.out.keep0 G2.out).cell 6
  have c7 := (B1.out.keep0 G2.out).cell 7
  have c8 := (B1.out.keep0 G2.out).cell 8
  dsimp at c0 c1 c2 c3 c4 c5 c6 c7 c8
  have d0 := (B2.out.keep0 G2.out).cell 0
  have d1 := (B2.out.keep0 G2.out).cell 1
  have d2 := (B2.out.keep0 G2.out).cell 2
  have d3 := (B2.out.keep0 G2.out).cell 3
  dsimp at d0 d1 d2 d3
  cases s0
  · go_wp2_with fail
    refine (works_any _).mono ?_
    rintro e w9 ⟨rfl, g⟩
    have G9 := Lib.hid (gb_trans G2.out g)
    clear g
    go_wp2
    go_ret
    exact ⟨rfl, gb_trans G1.out G9.out⟩
  · have ZZ := Lib.hid (HQ.out rfl).sz
    go_wp2_with fail
    refine (SX.out _).mono ?_
    rintro e w3 ⟨rfl, g⟩
    have G3 := Lib.hid (gb_trans G2.out g)
    clear g
    clear c0 c1 c2 c3 c4 c5 c6 c7 c8 d0 d1 d2 d3
    cases b
    · go_wp2_with fail
      refine (works_any _).mono ?_
      rintro e w9 ⟨rfl, g⟩
      have G9 := Lib.hid (gb_trans G3.out g)
      clear g
      go_wp2
      go_ret
      exact ⟨rfl, gb_trans G1.out G9.out⟩
    · have RN := Lib.hid (show Y.rn ≤ 1000 by have := of_decide_eq_true HB.out.symm; omega)
      have PA := Lib.hid (fun (W : World) (g : w1.grownBy W none) => (⟨pcheck_any W X P (HP.out.keep0 (gb_trans G1.out g)) ZZ.out t Y x (HE.out.keep0 (gb_trans G1.out g)) RN.out, rcheck_any W X P (HP.out.keep0 (gb_trans G1.out g)) ZZ.out t Y x (HE.out.keep0 (gb_trans G1.out g)) RN.out⟩ : _ ∧ _))
      generalize chkN P t x = r1 at *
      have rr : (r1 == r1) = true := by simp
      go_upto_region 3 with fail
      have KQ := Lib.hid (fun (w' : World) (q0 : w3.grownBy w' none) => (⟨(B1.out.keep0 (gb_trans G3.out q0)).cell 0, (B1.out.keep0 (gb_trans G3.out q0)).cell 1, (B1.out.keep0 (gb_trans G3.out q0)).cell 2, (B1.out.keep0 (gb_trans G3.out q0)).cell 3, (B1.out.keep0 (gb_trans G3.out q0)).cell 4, (B1.out.keep0 (gb_trans G3.out q0)).cell 5, (B1.out.keep0 (gb_trans G3.out q0)).cell 6, (B1.out.keep0 (gb_trans G3.out q0)).cell 7, (B1.out.keep0 (gb_trans G3.out q0)).cell 8, (B2.out.keep0 (gb_trans G3.out q0)).cell 0, (B2.out.keep0 (gb_trans G3.out q0)).cell 1, (B2.out.keep0 (gb_trans G3.out q0)).cell 2, (B2.out.keep0 (gb_trans G3.out q0)).cell 3, q0⟩ : (fun w' : World => w'.cell? ⟨bx, 0, none⟩ = some (.string X.nm) ∧ w'.cell? ⟨bx, 1, none⟩ = some (.slice X.ha X.hn X.hc) ∧ w'.cell? ⟨bx, 2, none⟩ = some (.slice X.ma X.mn X.mc) ∧ w'.cell? ⟨bx, 3, none⟩ = some (.slice X.ra X.rn X.rc) ∧ w'.cell? ⟨bx, 4, none⟩ = some (.slice X.aa X.an X.ac) ∧ w'.cell? ⟨bx, 5, none⟩ = some (.slice X.ta X.tn X.tc) ∧ w'.cell? ⟨bx, 6, none⟩ = some (.slice X.sa X.sn X.sc) ∧ w'.cell? ⟨bx, 7, none⟩ = some (.slice X.ca X.cn X.cc) ∧ w'.cell? ⟨bx, 8, none⟩ = some (.slice X.da X.dn X.dc) ∧ w'.cell? ⟨bx + 1, 0, none⟩ = some (.slice Y.ka Y.kn Y.kc) ∧ w'.cell? ⟨bx + 1, 1, none⟩ = some (.int .i64 x.pr) ∧ w'.cell? ⟨bx + 1, 2, none⟩ = some (.int .i64 x.ac) ∧ w'.cell? ⟨bx + 1, 3, none⟩ = some (.slice Y.ra Y.rn Y.rc) ∧ w3.grownBy w' none) w'))
      have Q0 := Lib.hid (gb_drew w3 none)
      refine wp_region_held_drew (S := (fun w' : World => w'.cell? ⟨bx, 0, none⟩ = some (.string X.nm) ∧ w'.cell? ⟨bx, 1, none⟩ = some (.slice X.ha X.hn X.hc) ∧ w'.cell? ⟨bx, 2, none⟩ = some (.slice X.ma X.mn X.mc) ∧ w'.cell? ⟨bx, 3, none⟩ = some (.slice X.ra X.rn X.rc) ∧ w'.cell? ⟨bx, 4, none⟩ = some (.slice X.aa X.an X.ac) ∧ w'.cell? ⟨bx, 5, none⟩ = some (.slice X.ta X.tn X.tc) ∧ w'.cell? ⟨bx, 6, none⟩ = some (.slice X.sa X.sn X.sc) ∧ w'.cell? ⟨bx, 7, none⟩ = some (.slice X.ca X.cn X.cc) ∧ w'.cell? ⟨bx, 8, none⟩ = some (.slice X.da X.dn X.dc) ∧ w'.cell? ⟨bx + 1, 0, none⟩ = some (.slice Y.ka Y.kn Y.kc) ∧ w'.cell? ⟨bx + 1, 1, none⟩ = some (.int .i64 x.pr) ∧ w'.cell? ⟨bx + 1, 2, none⟩ = some (.int .i64 x.ac) ∧ w'.cell? ⟨bx + 1, 3, none⟩ = some (.slice Y.ra Y.rn Y.rc) ∧ w3.grownBy w' none)) (by kernel_rfl) (KQ.out _ Q0.out) (fun hH0 => ?_)
      refine wpAnyH_take (i := 0) (v := ?v77) rfl (by kernel_rfl) (by kernel_rfl) (by kernel_rfl) (fun _ _ _ h => h) (Or.inl ⟨by rfl, ?hy77⟩) (by assumption) ?rest77
      case hy77 => (intro wz hSw; (try dsimp only at hSw); first | (go_simp; done) | (go_simp; with_reducible rfl))
      try simp only [Act.put, List.getElem_toArray, List.getElem_cons_zero, List.setIfInBounds_toArray, List.set_cons_zero, List.set_cons_succ]
      refine wpAnyH_take (i := 1) (v := ?v78) rfl (by kernel_rfl) (by kernel_rfl) (by kernel_rfl) (fun _ _ _ h => h) (Or.inl ⟨by rfl, ?hy78⟩) (by assumption) ?rest78
      case hy78 => (intro wz hSw; (try dsimp only at hSw); first | (go_simp; done) | (go_simp; with_reducible rfl))
      try simp only [Act.put, List.getElem_toArray, List.getElem_cons_succ, List.getElem_cons_zero, List.setIfInBounds_toArray, List.set_cons_zero, List.set_cons_succ]
      refine wpAnyH_take (i := 2) (v := ?v79) rfl (by kernel_rfl) (by kernel_rfl) (by kernel_rfl) (fun _ _ _ h => h) (Or.inl ⟨by rfl, ?hy79⟩) (by assumption) ?rest79
      case hy79 => (intro wz hSw; (try dsimp only at hSw); first | (go_simp; done) | (go_simp; with_reducible rfl))
      try simp only [Act.put, List.getElem_toArray, List.getElem_cons_succ, List.getElem_cons_zero, List.setIfInBounds_toArray, List.set_cons_zero, List.set_cons_succ]
      refine wpAnyH_take (i := 4) (v := ?v80) rfl (by kernel_rfl) (by kernel_rfl) (by kernel_rfl) (fun _ _ _ h => h) (Or.inl ⟨by rfl, ?hy80⟩) (by assumption) ?rest80
      case hy80 => (intro wz hSw; (try dsimp only at hSw); first | (go_simp; done) | (go_simp; with_reducible rfl))
      try simp only [Act.put, List.getElem_toArray, List.getElem_cons_succ, List.getElem_cons_zero, List.setIfInBounds_toArray, List.set_cons_zero, List.set_cons_succ]
      refine wpAnyH_take (i := 5) (v := ?v81) rfl (by kernel_rfl) (by kernel_rfl) (by kernel_rfl) (fun _ _ _ h => h) (Or.inl ⟨by rfl, ?hy81⟩) (by assumption) ?rest81
      case hy81 => (intro wz hSw; (try dsimp only at hSw); first | (go_simp; done) | (go_simp; with_reducible rfl))
      try simp only [Act.put, List.getElem_toArray, List.getElem_cons_succ, List.getElem_cons_zero, List.setIfInBounds_toArray, List.set_cons_zero, List.set_cons_succ]
      refine wpAnyH_take (i := 6) (v := ?v82) rfl (by kernel_rfl) (by kernel_rfl) (by kernel_rfl) (fun _ _ _ h => h) (Or.inl ⟨by rfl, ?hy82⟩) (by assumption) ?rest82
      case hy82 => (intro wz hSw; (try dsimp only at hSw); first | (go_simp; done) | (go_simp; with_reducible rfl))
      try simp only [Act.put, List.getElem_toArray, List.getElem_cons_succ, List.getElem_cons_zero, List.setIfInBounds_toArray, List.set_cons_zero, List.set_cons_succ]
      refine wpAnyH_ready (rs := [3]) (by kernel_rfl) (by simp) ?_
      refine AllReadyH.cons (o := _) rfl (fun K hK => ?_) AllReadyH.nil
      go_simp
      (with_reducible refine ((PA.out _ (gb_trans G3.out Q0.out)).1).mono ?_)
      rintro e qw1 ⟨rfl, g⟩
      have Q1 := Lib.hid (gb_trans Q0.out g)
      clear g
      try dsimp only
      refine hK.out _ _ (KQ.out _ Q1.out) (fun hH1 => ?_)
      clear hK K hH0
      try simp only [Act.put, List.getElem_toArray, List.getElem_cons_succ, List.getElem_cons_zero, List.setIfInBounds_toArray, List.set_cons_zero, List.set_cons_succ]
      refine wpAnyH_ready (rs := [7]) (by kernel_rfl) (by simp) ?_
      refine AllReadyH.cons (o := _) rfl (fun K hK => ?_) AllReadyH.nil
      go_simp
      (with_reducible refine ((PA.out _ (gb_trans G3.out Q1.out)).2).mono ?_)
      rintro e qw2 ⟨rfl, g⟩
      have Q2 := Lib.hid (gb_trans Q1.out g)
      clear g
      try dsimp only
      refine hK.out _ _ (KQ.out _ Q2.out) (fun hH2 => ?_)
      clear hK K hH1
      try simp only [Act.put, List.getElem_toArray, List.getElem_cons_succ, List.getElem_cons_zero, List.setIfInBounds_toArray, List.set_cons_zero, List.set_cons_succ]
      refine wpAnyH_take (i := 8) (v := ?v83) rfl (by kernel_rfl) (by kernel_rfl) (by kernel_rfl) (fun _ _ _ h => h) (Or.inl ⟨by rfl, ?hy83⟩) (by assumption) ?rest83
      case hy83 => (intro wz hSw; (try dsimp only at hSw); first | (go_simp; done) | (go_simp; with_reducible rfl))
      try simp only [Act.put, List.getElem_toArray, List.getElem_cons_succ, List.getElem_cons_zero, List.setIfInBounds_toArray, List.set_cons_zero, List.set_cons_succ]
      refine wpAnyH_take (i := 9) (v := ?v84) rfl (by kernel_rfl) (by kernel_rfl) (by kernel_rfl) (fun _ _ _ h => h) (Or.inl ⟨by rfl, ?hy84⟩) (by assumption) ?rest84
      case hy84 => (intro wz hSw; (try dsimp only at hSw); first | (go_simp; done) | (go_simp; with_reducible rfl))
      try simp only [Act.put, List.getElem_toArray, List.getElem_cons_succ, List.getElem_cons_zero, List.setIfInBounds_toArray, List.set_cons_zero, List.set_cons_succ]
      refine wpAnyH_ready (rs := [10]) (by kernel_rfl) (by simp) ?_
      refine AllReadyH.cons (o := _) rfl (fun K hK => ?_) AllReadyH.nil
      go_simp
      (with_reducible refine (works_any _).mono ?_)
      rintro e qw3 ⟨rfl, g⟩
      have Q3 := Lib.hid (gb_trans Q2.out g)
      clear g
      try dsimp only
      refine hK.out _ _ (KQ.out _ Q3.out) (fun hH3 => ?_)
      clear hK K hH2
      try simp only [Act.put, List.getElem_toArray, List.getElem_cons_succ, List.getElem_cons_zero, List.setIfInBounds_toArray, List.set_cons_zero, List.set_cons_succ]
      refine wpAnyH_take (i := 11) (v := ?v85) rfl (by kernel_rfl) (by kernel_rfl) (by kernel_rfl) (fun _ _ _ h => h) (Or.inl ⟨by rfl, ?hy85⟩) (by assumption) ?rest85
      case hy85 => (intro wz hSw; (try dsimp only at hSw); first | (go_simp; done) | (go_simp; with_reducible rfl))
      try simp only [Act.put, List.getElem_toArray, List.getElem_cons_succ, List.getElem_cons_zero, List.setIfInBounds_toArray, List.set_cons_zero, List.set_cons_succ]
      refine wpAnyH_take (i := 12) (v := ?v86) rfl (by kernel_rfl) (by kernel_rfl) (by kernel_rfl) (fun _ _ _ h => h) (Or.inl ⟨by rfl, ?hy86⟩) (by assumption) ?rest86
      case hy86 => (intro wz hSw; (try dsimp only at hSw); first | (go_simp; done) | (go_simp; with_reducible rfl))
      try simp only [Act.put, List.getElem_toArray, List.getElem_cons_succ, List.getElem_cons_zero, List.setIfInBounds_toArray, List.set_cons_zero, List.set_cons_succ]
      refine wpAnyH_done (by kernel_rfl) ?_ _
      clear hH3
      go_wp2
      go_ret
      exact ⟨rfl, gb_trans G1.out (gb_trans G3.out Q3.out)⟩
end Go.Proofs.Ytgdefahnmgonlaa
