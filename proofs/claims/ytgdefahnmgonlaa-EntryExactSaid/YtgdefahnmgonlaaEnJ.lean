/- Entries: the laws Matches, Compares and Precedes; no condition. -/
import Derived.Test.YtgdefahnmgonlaaEnI
import Derived.Deep.QuietTactic
import Derived.BigQuiet
namespace Go.Proofs.Ytgdefahnmgonlaa
open Go.RowKit
set_option linter.unusedVariables false
theorem low_of {W W' : World} {e : Ending} (h : RetV (.bool true) W e W') : e = .returned (.bool true) ∧ Below W.heap.size W W' := ⟨h.1, (gr_gb h.2).below⟩
set_option maxRecDepth 100000 in
set_option maxHeartbeats 4000000 in
theorem matches_walk (w : World) (Y : EX) (x : En) (h : SE w Y x) (ka : Option Addr) (kn kc : Nat) (key : List Int) (hk : SU w ka kn kc key) : Calls Try.prog 4 #[.agg #[.slice Y.ka Y.kn Y.kc, .int .i64 x.pr, .int .i64 x.ac, .slice Y.ra Y.rn Y.rc], .slice ka kn kc] w (RetV (.bool true) w) := by
  have HE := Lib.hid h
  have HK := Lib.hid hk
  have G1 := Lib.hid (gb_alloc w (.cells #[.slice Y.ka Y.kn Y.kc, .int .i64 x.pr, .int .i64 x.ac, .slice Y.ra Y.rn Y.rc] 37) none)
  have B1 := IsB.new w 37 #[.slice Y.ka Y.kn Y.kc, .int .i64 x.pr, .int .i64 x.ac, .slice Y.ra Y.rn Y.rc]
  replace B1 := Lib.hid B1
  clear h hk
  go_enter Try.func4, Try.ntmps4
  go_upto_region 1 with fail
  generalize w.alloc (.cells #[.slice Y.ka Y.kn Y.kc, .int .i64 x.pr, .int .i64 x.ac, .slice Y.ra Y.rn Y.rc] 37) = w1 at *
  obtain ⟨bx, hbx⟩ : ∃ b, b = w.heap.size := ⟨_, rfl⟩
  have Lbx := Lib.hid (show w.heap.size ≤ bx by rw [hbx]; exact Nat.le_refl _)
  rw [← hbx] at B1 ⊢
  clear hbx
  have SX := Lib.hid (smallx_any w1 Y x)
  obtain ⟨b, hb⟩ : ∃ b, b = decide (Y.kn ≤ 10 ∧ Y.rn ≤ 10) := ⟨_, rfl⟩
  rw [← hb] at SX
  have HB := Lib.hid hb
  clear hb
  have c0 := (B1.out.keep0 (gb_refl _ _)).cell 0
  have c1 := (B1.out.keep0 (gb_refl _ _)).cell 1
  have c2 := (B1.out.keep0 (gb_refl _ _)).cell 2
  have c3 := (B1.out.keep0 (gb_refl _ _)).cell 3
  dsimp at c0 c1 c2 c3
  cases b
  · go_wp2_with fail
    refine SX.out.mono ?_
    rintro e w2 ⟨rfl, g⟩
    have G2 := Lib.hid g
    clear g
    go_wp2_with fail
    refine (works_any _).mono ?_
    rintro e w9 ⟨rfl, g⟩
    have G9 := Lib.hid (gb_trans G2.out g)
    clear g
    go_wp2
    go_ret
    exact ⟨rfl, gb_trans G1.out G9.out⟩
  · have KN := Lib.hid (show Y.kn ≤ 1000 by have := of_decide_eq_true HB.out.symm; omega)
    by_cases h10 : (10 : Int) < (kn : Int)
    · go_wp2_with fail
      refine SX.out.mono ?_
      rintro e w2 ⟨rfl, g⟩
      have G2 := Lib.hid g
      clear g
      go_wp2_with fail
      refine (works_any _).mono ?_
      rintro e w9 ⟨rfl, g⟩
      have G9 := Lib.hid (gb_trans G2.out g)
      clear g
      go_wp2
      go_ret
      exact ⟨rfl, gb_trans G1.out G9.out⟩
    · have MC := Lib.hid (fun (W : World) (g : w1.grownBy W none) => (⟨pmat_any W Y x (HE.out.keep0 (gb_trans G1.out g)) ka kn kc key (HK.out.keep0 (gb_trans G1.out g)) KN.out, rmat_any W Y x (HE.out.keep0 (gb_trans G1.out g)) ka kn kc key (HK.out.keep0 (gb_trans G1.out g)) KN.out⟩ : _ ∧ _))
      generalize matE x.ks key = r at *
      have rr : (r == r) = true := by simp
      go_wp2_with fail
      refine SX.out.mono ?_
      rintro e w2 ⟨rfl, g⟩
      have G2 := Lib.hid g
      clear g c0 c1 c2 c3
      go_upto_region 3 with fail
      have KQ := Lib.hid (fun (w' : World) (q0 : w2.grownBy w' none) => (⟨(B1.out.keep0 (gb_trans G2.out q0)).cell 0, (B1.out.keep0 (gb_trans G2.out q0)).cell 1, (B1.out.keep0 (gb_trans G2.out q0)).cell 2, (B1.out.keep0 (gb_trans G2.out q0)).cell 3, q0⟩ : (fun w' : World => w'.cell? ⟨bx, 0, none⟩ = some (.slice Y.ka Y.kn Y.kc) ∧ w'.cell? ⟨bx, 1, none⟩ = some (.int .i64 x.pr) ∧ w'.cell? ⟨bx, 2, none⟩ = some (.int .i64 x.ac) ∧ w'.cell? ⟨bx, 3, none⟩ = some (.slice Y.ra Y.rn Y.rc) ∧ w2.grownBy w' none) w'))
      have Q0 := Lib.hid (gb_drew w2 none)
      refine wp_region_held_drew (S := (fun w' : World => w'.cell? ⟨bx, 0, none⟩ = some (.slice Y.ka Y.kn Y.kc) ∧ w'.cell? ⟨bx, 1, none⟩ = some (.int .i64 x.pr) ∧ w'.cell? ⟨bx, 2, none⟩ = some (.int .i64 x.ac) ∧ w'.cell? ⟨bx, 3, none⟩ = some (.slice Y.ra Y.rn Y.rc) ∧ w2.grownBy w' none)) (by kernel_rfl) (KQ.out _ Q0.out) (fun hH0 => ?_)
      refine wpAnyH_take (i := 0) (v := ?v1) rfl (by kernel_rfl) (by kernel_rfl) (by kernel_rfl) (fun _ _ _ h => h) (Or.inl ⟨by rfl, ?hy1⟩) (by assumption) ?rest1
      case hy1 => (intro wz hSw; (try dsimp only at hSw); first | (go_simp; done) | (go_simp; with_reducible rfl))
      try simp only [Act.put, List.getElem_toArray, List.getElem_cons_zero, List.setIfInBounds_toArray, List.set_cons_zero, List.set_cons_succ]
      refine wpAnyH_take (i := 1) (v := ?v2) rfl (by kernel_rfl) (by kernel_rfl) (by kernel_rfl) (fun _ _ _ h => h) (Or.inl ⟨by rfl, ?hy2⟩) (by assumption) ?rest2
      case hy2 => (intro wz hSw; (try dsimp only at hSw); first | (go_simp; done) | (go_simp; with_reducible rfl))
      try simp only [Act.put, List.getElem_toArray, List.getElem_cons_succ, List.getElem_cons_zero, List.setIfInBounds_toArray, List.set_cons_zero, List.set_cons_succ]
      refine wpAnyH_take (i := 3) (v := ?v3) rfl (by kernel_rfl) (by kernel_rfl) (by kernel_rfl) (fun _ _ _ h => h) (Or.inl ⟨by rfl, ?hy3⟩) (by assumption) ?rest3
      case hy3 => (intro wz hSw; (try dsimp only at hSw); first | (go_simp; done) | (go_simp; with_reducible rfl))
      try simp only [Act.put, List.getElem_toArray, List.getElem_cons_succ, List.getElem_cons_zero, List.setIfInBounds_toArray, List.set_cons_zero, List.set_cons_succ]
      refine wpAnyH_take (i := 4) (v := ?v4) rfl (by kernel_rfl) (by kernel_rfl) (by kernel_rfl) (fun _ _ _ h => h) (Or.inl ⟨by rfl, ?hy4⟩) (by assumption) ?rest4
      case hy4 => (intro wz hSw; (try dsimp only at hSw); first | (go_simp; done) | (go_simp; with_reducible rfl))
      try simp only [Act.put, List.getElem_toArray, List.getElem_cons_succ, List.getElem_cons_zero, List.setIfInBounds_toArray, List.set_cons_zero, List.set_cons_succ]
      refine wpAnyH_ready (rs := [2]) (by kernel_rfl) (by simp) ?_
      refine AllReadyH.cons (o := _) rfl (fun K hK => ?_) AllReadyH.nil
      go_simp
      (with_reducible refine ((MC.out _ (gb_trans G2.out Q0.out)).1).mono ?_)
      rintro e qw1 ⟨rfl, g⟩
      have Q1 := Lib.hid (gb_trans Q0.out g)
      clear g
      try dsimp only
      refine hK.out _ _ (KQ.out _ Q1.out) (fun hH1 => ?_)
      clear hK K hH0
      try simp only [Act.put, List.getElem_toArray, List.getElem_cons_succ, List.getElem_cons_zero, List.setIfInBounds_toArray, List.set_cons_zero, List.set_cons_succ]
      refine wpAnyH_ready (rs := [5]) (by kernel_rfl) (by simp) ?_
      refine AllReadyH.cons (o := _) rfl (fun K hK => ?_) AllReadyH.nil
      go_simp
      (with_reducible refine ((MC.out _ (gb_trans G2.out Q1.out)).2).mono ?_)
      rintro e qw2 ⟨rfl, g⟩
      have Q2 := Lib.hid (gb_trans Q1.out g)
      clear g
      try dsimp only
      refine hK.out _ _ (KQ.out _ Q2.out) (fun hH2 => ?_)
      clear hK K hH1
      try simp only [Act.put, List.getElem_toArray, List.getElem_cons_succ, List.getElem_cons_zero, List.setIfInBounds_toArray, List.set_cons_zero, List.set_cons_succ]
      refine wpAnyH_take (i := 6) (v := ?v5) rfl (by kernel_rfl) (by kernel_rfl) (by kernel_rfl) (fun _ _ _ h => h) (Or.inl ⟨by rfl, ?hy5⟩) (by assumption) ?rest5
      case hy5 => (intro wz hSw; (try dsimp only at hSw); first | (go_simp; done) | (go_simp; with_reducible rfl))
      try simp only [Act.put, List.getElem_toArray, List.getElem_cons_succ, List.getElem_cons_zero, List.setIfInBounds_toArray, List.set_cons_zero, List.set_cons_succ]
      refine wpAnyH_take (i := 7) (v := ?v6) rfl (by kernel_rfl) (by kernel_rfl) (by kernel_rfl) (fun _ _ _ h => h) (Or.inl ⟨by rfl, ?hy6⟩) (by assumption) ?rest6
      case hy6 => (intro wz hSw; (try dsimp only at hSw); first | (go_simp; done) | (go_simp; with_reducible rfl))
      try simp only [Act.put, List.getElem_toArray, List.getElem_cons_succ, List.getElem_cons_zero, List.setIfInBounds_toArray, List.set_cons_zero, List.set_cons_succ]
      refine wpAnyH_ready (rs := [8]) (by kernel_rfl) (by simp) ?_
      refine AllReadyH.cons (o := _) rfl (fun K hK => ?_) AllReadyH.nil
      go_simp
      (with_reducible refine (works_any _).mono ?_)
      rintro e qw3 ⟨rfl, g⟩
      have Q3 := Lib.hid (gb_trans Q2.out g)
      clear g
      try dsimp only
      refine hK.out _ _ (KQ.out _ Q3.out) (fun hH3 => ?_)
      clear hK K hH2
      try simp only [Act.put, List.getElem_toArray, List.getElem_cons_succ, List.getElem_cons_zero, List.setIfInBounds_toArray, List.set_cons_zero, List.set_cons_succ]
      refine wpAnyH_take (i := 9) (v := ?v7) rfl (by kernel_rfl) (by kernel_rfl) (by kernel_rfl) (fun _ _ _ h => h) (Or.inl ⟨by rfl, ?hy7⟩) (by assumption) ?rest7
      case hy7 => (intro wz hSw; (try dsimp only at hSw); first | (go_simp; done) | (go_simp; with_reducible rfl))
      try simp only [Act.put, List.getElem_toArray, List.getElem_cons_succ, List.getElem_cons_zero, List.setIfInBounds_toArray, List.set_cons_zero, List.set_cons_succ]
      refine wpAnyH_take (i := 10) (v := ?v8) rfl (by kernel_rfl) (by kernel_rfl) (by kernel_rfl) (fun _ _ _ h => h) (Or.inl ⟨by rfl, ?hy8⟩) (by assumption) ?rest8
      case hy8 => (intro wz hSw; (try dsimp only at hSw); first | (go_simp; done) | (go_simp; with_reducible rfl))
      try simp only [Act.put, List.getElem_toArray, List.getElem_cons_succ, List.getElem_cons_zero, List.setIfInBounds_toArray, List.set_cons_zero, List.set_cons_succ]
      refine wpAnyH_done (by kernel_rfl) ?_ _
      clear hH3
      go_wp2
      go_ret
      exact ⟨rfl, gb_trans G1.out (gb_trans G2.out Q3.out)⟩
set_option maxRecDepth 100000 in
set_option maxHeartbeats 20000000 in
theorem compares_walk (w : World) (Y Z : EX) (x y : En) (h : SE w Y x) (k : SE w Z y) : Calls Try.prog 6 #[.agg #[.slice Y.ka Y.kn Y.kc, .int .i64 x.pr, .int .i64 x.ac, .slice Y.ra Y.rn Y.rc], .agg #[.slice Z.ka Z.kn Z.kc, .int .i64 y.pr, .int .i64 y.ac, .slice Z.ra Z.rn Z.rc]] w (RetV (.bool true) w) := by
  have HE := Lib.hid h
  have HF := Lib.hid k
  have G1 := Lib.hid (gb_trans (gb_alloc w (.cells #[.slice Y.ka Y.kn Y.kc, .int .i64 x.pr, .int .i64 x.ac, .slice Y.ra Y.rn Y.rc] 37) none) (gb_alloc _ (.cells #[.slice Z.ka Z.kn Z.kc, .int .i64 y.pr, .int .i64 y.ac, .slice Z.ra Z.rn Z.rc] 37) none))
  have B1 := (IsB.new w 37 #[.slice Y.ka Y.kn Y.kc, .int .i64 x.pr, .int .i64 x.ac, .slice Y.ra Y.rn Y.rc]).alloc (.cells #[.slice Z.ka Z.kn Z.kc, .int .i64 y.pr, .int .i64 y.ac, .slice Z.ra Z.rn Z.rc] 37)
  have B2 := IsB.new (w.alloc (.cells #[.slice Y.ka Y.kn Y.kc, .int .i64 x.pr, .int .i64 x.ac, .slice Y.ra Y.rn Y.rc] 37)) 37 #[.slice Z.ka Z.kn Z.kc, .int .i64 y.pr, .int .i64 y.ac, .slice Z.ra Z.rn Z.rc]
  simp only [sz_al] at B2
  replace B1 := Lib.hid B1
  replace B2 := Lib.hid B2
  clear h k
  go_enter Try.func6, Try.ntmps6
  go_upto_region 1 with fail
  generalize (w.alloc (.cells #[.slice Y.ka Y.kn Y.kc, .int .i64 x.pr, .int .i64 x.ac, .slice Y.ra Y.rn Y.rc] 37)).alloc (.cells #[.slice Z.ka Z.kn Z.kc, .int .i64 y.pr, .int .i64 y.ac, .slice Z.ra Z.rn Z.rc] 37) = w1 at *
  obtain ⟨bx, hbx⟩ : ∃ b, b = w.heap.size := ⟨_, rfl⟩
  have Lbx := Lib.hid (show w.heap.size ≤ bx by rw [hbx]; exact Nat.le_refl _)
  rw [← hbx] at B1 B2 ⊢
  clear hbx
  have SX := Lib.hid (fun W => smallx_any W Y x)
  have SY := Lib.hid (fun W => smallx_any W Z y)
  obtain ⟨b, hb⟩ : ∃ b, b = decide (Y.kn ≤ 10 ∧ Y.rn ≤ 10) := ⟨_, rfl⟩
  obtain ⟨b2, hb2⟩ : ∃ b, b = decide (Z.kn ≤ 10 ∧ Z.rn ≤ 10) := ⟨_, rfl⟩
  rw [← hb] at SX
  rw [← hb2] at SY
  have HB := Lib.hid hb
  have HB2 := Lib.hid hb2
  clear hb hb2
  have c0 := (B1.out.keep0 (gb_refl _ _)).cell 0
  have c1 := (B1.out.keep0 (gb_refl _ _)).cell 1
  have c2 := (B1.out.keep0 (gb_refl _ _)).cell 2
  have c3 := (B1.out.keep0 (gb_refl _ _)).cell 3
  dsimp at c0 c1 c2 c3
  have d0 := (B2.out.keep0 (gb_refl _ _)).cell 0
  have d1 := (B2.out.keep0 (gb_refl _ _)).cell 1
  have d2 := (B2.out.keep0 (gb_refl _ _)).cell 2
  have d3 := (B2.out.keep0 (gb_refl _ _)).cell 3
  dsimp at d0 d1 d2 d3
  cases b
  · go_wp2_with fail
    refine (SX.out _).mono ?_
    rintro e w2 ⟨rfl, g⟩
    have G2 := Lib.hid g
    clear g
    go_wp2_with fail
    refine (works_any _).mono ?_
    rintro e w9 ⟨rfl, g⟩
    have G9 := Lib.hid (gb_trans G2.out g)
    clear g
    go_wp2
    go_ret
    exact ⟨rfl, gb_trans G1.out G9.out⟩
  · go_wp2_with fail
    refine (SX.out _).mono ?_
    rintro e w2 ⟨rfl, g⟩
    have G2 := Lib.hid g
    clear g c0 c1 c2 c3 d0 d1 d2 d3
    have c0 := (B1.out.keep0 G2.out).cell 0
    have c1 := (B1.out.keep0 G2.out).cell 1
    have c2 := (B1.out.keep0 G2.out).cell 2
    have c3 := (B1.out.keep0 G2.out).cell 3
    dsimp at c0 c1 c2 c3
    have d0 := (B2.out.keep0 G2.out).cell 0
    have d1 := (B2.out.keep0 G2.out).cell 1
    have d2 := (B2.out.keep0 G2.out).cell 2
    have d3 := (B2.out.keep0 G2.out).cell 3
    dsimp at d0 d1 d2 d3
    cases b2
    · go_wp2_with fail
      refine (SY.out _).mono ?_
      rintro e w3 ⟨rfl, g⟩
      have G3 := Lib.hid (gb_trans G2.out g)
      clear g
      go_wp2_with fail
      refine (works_any _).mono ?_
      rintro e w9 ⟨rfl, g⟩
      have G9 := Lib.hid (gb_trans G3.out g)
      clear g
      go_wp2
      go_ret
      exact ⟨rfl, gb_trans G1.out G9.out⟩
    · go_wp2_with fail
      refine (SY.out _).mono ?_
      rintro e w3 ⟨rfl, g⟩
      have G3 := Lib.hid (gb_trans G2.out g)
      clear g c0 c1 c2 c3 d0 d1 d2 d3
      have N1 := Lib.hid (show Y.kn ≤ 1000 ∧ Y.rn ≤ 1000 by have := of_decide_eq_true HB.out.symm; omega)
      have N2 := Lib.hid (show Z.kn ≤ 1000 ∧ Z.rn ≤ 1000 by have := of_decide_eq_true HB2.out.symm; omega)
      have EA := Lib.hid (fun (W : World) (g : w1.grownBy W none) => HE.out.keep0 (gb_trans G1.out g))
      have EB := Lib.hid (fun (W : World) (g : w1.grownBy W none) => HF.out.keep0 (gb_trans G1.out g))
      have S1 := Lib.hid (fun (W : World) (g : w1.grownBy W none) => (⟨psame_any W Y Z x y (EA.out W g) (EB.out W g) N1.out.1, rsame_any W Y Z x y (EA.out W g) (EB.out W g) N1.out.1⟩ : _ ∧ _))
      have S2 := Lib.hid (fun (W : World) (g : w1.grownBy W none) => (by have k := psame_any W Z Y y x (EB.out W g) (EA.out W g) N2.out.1; rw [samE_symm y x] at k; exact k : Calls Try.prog 18 #[.agg #[.slice Z.ka Z.kn Z.kc, .int .i64 y.pr, .int .i64 y.ac, .slice Z.ra Z.rn Z.rc], .agg #[.slice Y.ka Y.kn Y.kc, .int .i64 x.pr, .int .i64 x.ac, .slice Y.ra Y.rn Y.rc]] W (RetV (.bool (samE x y)) W)))
      have S3 := Lib.hid (fun (W : World) (g : w1.grownBy W none) => (by have k := psame_any W Y Y x x (EA.out W g) (EA.out W g) N1.out.1; rw [samE_refl x] at k; exact k : Calls Try.prog 18 #[.agg #[.slice Y.ka Y.kn Y.kc, .int .i64 x.pr, .int .i64 x.ac, .slice Y.ra Y.rn Y.rc], .agg #[.slice Y.ka Y.kn Y.kc, .int .i64 x.pr, .int .i64 x.ac, .slice Y.ra Y.rn Y.rc]] W (RetV (.bool true) W)))
      have U1 := Lib.hid (fun (W : World) (g : w1.grownBy W none) => (⟨pequ_any W Y Z x y (EA.out W g) (EB.out W g) N1.out.1 N1.out.2, requ_any W Y Z x y (EA.out W g) (EB.out W g) N1.out.1 N1.out.2⟩ : _ ∧ _))
      have U2 := Lib.hid (fun (W : World) (g : w1.grownBy W none) => (by have k := pequ_any W Z Y y x (EB.out W g) (EA.out W g) N2.out.1 N2.out.2; rw [eqE_symm y x] at k; exact k : Calls Try.prog 20 #[.agg #[.slice Z.ka Z.kn Z.kc, .int .i64 y.pr, .int .i64 y.ac, .slice Z.ra Z.rn Z.rc], .agg #[.slice Y.ka Y.kn Y.kc, .int .i64 x.pr, .int .i64 x.ac, .slice Y.ra Y.rn Y.rc]] W (RetV (.bool (eqE x y)) W)))
      have U3 := Lib.hid (fun (W : World) (g : w1.grownBy W none) => (by have k := pequ_any W Y Y x x (EA.out W g) (EA.out W g) N1.out.1 N1.out.2; rw [eqE_refl x] at k; exact k : Calls Try.prog 20 #[.agg #[.slice Y.ka Y.kn Y.kc, .int .i64 x.pr, .int .i64 x.ac, .slice Y.ra Y.rn Y.rc], .agg #[.slice Y.ka Y.kn Y.kc, .int .i64 x.pr, .int .i64 x.ac, .slice Y.ra Y.rn Y.rc]] W (RetV (.bool true) W)))
      generalize samE x y = sm at *
      generalize eqE x y = eq at *
      have rr : (sm == sm) = true := by simp
      have r2 : (eq == eq) = true := by simp
      go_upto_region 3 with fail
      have KQ := Lib.hid (fun (w' : World) (q0 : w3.grownBy w' none) => (⟨(B1.out.keep0 (gb_trans G3.out q0)).cell 0, (B1.out.keep0 (gb_trans G3.out q0)).cell 1, (B1.out.keep0 (gb_trans G3.out q0)).cell 2, (B1.out.keep0 (gb_trans G3.out q0)).cell 3, (B2.out.keep0 (gb_trans G3.out q0)).cell 0, (B2.out.keep0 (gb_trans G3.out q0)).cell 1, (B2.out.keep0 (gb_trans G3.out q0)).cell 2, (B2.out.keep0 (gb_trans G3.out q0)).cell 3, q0⟩ : (fun w' : World => w'.cell? ⟨bx, 0, none⟩ = some (.slice Y.ka Y.kn Y.kc) ∧ w'.cell? ⟨bx, 1, none⟩ = some (.int .i64 x.pr) ∧ w'.cell? ⟨bx, 2, none⟩ = some (.int .i64 x.ac) ∧ w'.cell? ⟨bx, 3, none⟩ = some (.slice Y.ra Y.rn Y.rc) ∧ w'.cell? ⟨bx + 1, 0, none⟩ = some (.slice Z.ka Z.kn Z.kc) ∧ w'.cell? ⟨bx + 1, 1, none⟩ = some (.int .i64 y.pr) ∧ w'.cell? ⟨bx + 1, 2, none⟩ = some (.int .i64 y.ac) ∧ w'.cell? ⟨bx + 1, 3, none⟩ = some (.slice Z.ra Z.rn Z.rc) ∧ w3.grownBy w' none) w'))
      have Q0 := Lib.hid (gb_drew w3 none)
      refine wp_region_held_drew (S := (fun w' : World => w'.cell? ⟨bx, 0, none⟩ = some (.slice Y.ka Y.kn Y.kc) ∧ w'.cell? ⟨bx, 1, none⟩ = some (.int .i64 x.pr) ∧ w'.cell? ⟨bx, 2, none⟩ = some (.int .i64 x.ac) ∧ w'.cell? ⟨bx, 3, none⟩ = some (.slice Y.ra Y.rn Y.rc) ∧ w'.cell? ⟨bx + 1, 0, none⟩ = some (.slice Z.ka Z.kn Z.kc) ∧ w'.cell? ⟨bx + 1, 1, none⟩ = some (.int .i64 y.pr) ∧ w'.cell? ⟨bx + 1, 2, none⟩ = some (.int .i64 y.ac) ∧ w'.cell? ⟨bx + 1, 3, none⟩ = some (.slice Z.ra Z.rn Z.rc) ∧ w3.grownBy w' none)) (by kernel_rfl) (KQ.out _ Q0.out) (fun hH0 => ?_)
      refine wpAnyH_take (i := 0) (v := ?v9) rfl (by kernel_rfl) (by kernel_rfl) (by kernel_rfl) (fun _ _ _ h => h) (Or.inl ⟨by rfl, ?hy9⟩) (by assumption) ?rest9
      case hy9 => (intro wz hSw; (try dsimp only at hSw); first | (go_simp; done) | (go_simp; with_reducible rfl))
      try simp only [Act.put, List.getElem_toArray, List.getElem_cons_zero, List.setIfInBounds_toArray, List.set_cons_zero, List.set_cons_succ]
      refine wpAnyH_take (i := 1) (v := ?v10) rfl (by kernel_rfl) (by kernel_rfl) (by kernel_rfl) (fun _ _ _ h => h) (Or.inl ⟨by rfl, ?hy10⟩) (by assumption) ?rest10
      case hy10 => (intro wz hSw; (try dsimp only at hSw); first | (go_simp; done) | (go_simp; with_reducible rfl))
      try simp only [Act.put, List.getElem_toArray, List.getElem_cons_succ, List.getElem_cons_zero, List.setIfInBounds_toArray, List.set_cons_zero, List.set_cons_succ]
      refine wpAnyH_take (i := 3) (v := ?v11) rfl (by kernel_rfl) (by kernel_rfl) (by kernel_rfl) (fun _ _ _ h => h) (Or.inl ⟨by rfl, ?hy11⟩) (by assumption) ?rest11
      case hy11 => (intro wz hSw; (try dsimp only at hSw); first | (go_simp; done) | (go_simp; with_reducible rfl))
      try simp only [Act.put, List.getElem_toArray, List.getElem_cons_succ, List.getElem_cons_zero, List.setIfInBounds_toArray, List.set_cons_zero, List.set_cons_succ]
      refine wpAnyH_take (i := 4) (v := ?v12) rfl (by kernel_rfl) (by kernel_rfl) (by kernel_rfl) (fun _ _ _ h => h) (Or.inl ⟨by rfl, ?hy12⟩) (by assumption) ?rest12
      case hy12 => (intro wz hSw; (try dsimp only at hSw); first | (go_simp; done) | (go_simp; with_reducible rfl))
      try simp only [Act.put, List.getElem_toArray, List.getElem_cons_succ, List.getElem_cons_zero, List.setIfInBounds_toArray, List.set_cons_zero, List.set_cons_succ]
      refine wpAnyH_ready (rs := [2]) (by kernel_rfl) (by simp) ?_
      refine AllReadyH.cons (o := _) rfl (fun K hK => ?_) AllReadyH.nil
      go_simp
      (with_reducible refine ((S1.out _ (gb_trans G3.out Q0.out)).1).mono ?_)
      rintro e qw1 ⟨rfl, g⟩
      have Q1 := Lib.hid (gb_trans Q0.out g)
      clear g
      try dsimp only
      refine hK.out _ _ (KQ.out _ Q1.out) (fun hH1 => ?_)
      clear hK K hH0
      try simp only [Act.put, List.getElem_toArray, List.getElem_cons_succ, List.getElem_cons_zero, List.setIfInBounds_toArray, List.set_cons_zero, List.set_cons_succ]
      refine wpAnyH_ready (rs := [5]) (by kernel_rfl) (by simp) ?_
      refine AllReadyH.cons (o := _) rfl (fun K hK => ?_) AllReadyH.nil
      go_simp
      (with_reducible refine ((S1.out _ (gb_trans G3.out Q1.out)).2).mono ?_)
      rintro e qw2 ⟨rfl, g⟩
      have Q2 := Lib.hid (gb_trans Q1.out g)
      clear g
      try dsimp only
      refine hK.out _ _ (KQ.out _ Q2.out) (fun hH2 => ?_)
      clear hK K hH1
      try simp only [Act.put, List.getElem_toArray, List.getElem_cons_succ, List.getElem_cons_zero, List.setIfInBounds_toArray, List.set_cons_zero, List.set_cons_succ]
      refine wpAnyH_take (i := 6) (v := ?v13) rfl (by kernel_rfl) (by kernel_rfl) (by kernel_rfl) (fun _ _ _ h => h) (Or.inl ⟨by rfl, ?hy13⟩) (by assumption) ?rest13
      case hy13 => (intro wz hSw; (try dsimp only at hSw); first | (go_simp; done) | (go_simp; with_reducible rfl))
      try simp only [Act.put, List.getElem_toArray, List.getElem_cons_succ, List.getElem_cons_zero, List.setIfInBounds_toArray, List.set_cons_zero, List.set_cons_succ]
      refine wpAnyH_take (i := 7) (v := ?v14) rfl (by kernel_rfl) (by kernel_rfl) (by kernel_rfl) (fun _ _ _ h => h) (Or.inl ⟨by rfl, ?hy14⟩) (by assumption) ?rest14
      case hy14 => (intro wz hSw; (try dsimp only at hSw); first | (go_simp; done) | (go_simp; with_reducible rfl))
      try simp only [Act.put, List.getElem_toArray, List.getElem_cons_succ, List.getElem_cons_zero, List.setIfInBounds_toArray, List.set_cons_zero, List.set_cons_succ]
      refine wpAnyH_take (i := 8) (v := ?v15) rfl (by kernel_rfl) (by kernel_rfl) (by kernel_rfl) (fun _ _ _ h => h) (Or.inl ⟨by rfl, ?hy15⟩) (by assumption) ?rest15
      case hy15 => (intro wz hSw; (try dsimp only at hSw); first | (go_simp; done) | (go_simp; with_reducible rfl))
      try simp only [Act.put, List.getElem_toArray, List.getElem_cons_succ, List.getElem_cons_zero, List.setIfInBounds_toArray, List.set_cons_zero, List.set_cons_succ]
      refine wpAnyH_take (i := 9) (v := ?v16) rfl (by kernel_rfl) (by kernel_rfl) (by kernel_rfl) (fun _ _ _ h => h) (Or.inl ⟨by rfl, ?hy16⟩) (by assumption) ?rest16
      case hy16 => (intro wz hSw; (try dsimp only at hSw); first | (go_simp; done) | (go_simp; with_reducible rfl))
      try simp only [Act.put, List.getElem_toArray, List.getElem_cons_succ, List.getElem_cons_zero, List.setIfInBounds_toArray, List.set_cons_zero, List.set_cons_succ]
      refine wpAnyH_take (i := 11) (v := ?v17) rfl (by kernel_rfl) (by kernel_rfl) (by kernel_rfl) (fun _ _ _ h => h) (Or.inl ⟨by rfl, ?hy17⟩) (by assumption) ?rest17
      case hy17 => (intro wz hSw; (try dsimp only at hSw); first | (go_simp; done) | (go_simp; with_reducible rfl))
      try simp only [Act.put, List.getElem_toArray, List.getElem_cons_succ, List.getElem_cons_zero, List.setIfInBounds_toArray, List.set_cons_zero, List.set_cons_succ]
      refine wpAnyH_take (i := 12) (v := ?v18) rfl (by kernel_rfl) (by kernel_rfl) (by kernel_rfl) (fun _ _ _ h => h) (Or.inl ⟨by rfl, ?hy18⟩) (by assumption) ?rest18
      case hy18 => (intro wz hSw; (try dsimp only at hSw); first | (go_simp; done) | (go_simp; with_reducible rfl))
      try simp only [Act.put, List.getElem_toArray, List.getElem_cons_succ, List.getElem_cons_zero, List.setIfInBounds_toArray, List.set_cons_zero, List.set_cons_succ]
      refine wpAnyH_ready (rs := [10]) (by kernel_rfl) (by simp) ?_
      refine AllReadyH.cons (o := _) rfl (fun K hK => ?_) AllReadyH.nil
      go_simp
      (with_reducible refine ((U1.out _ (gb_trans G3.out Q2.out)).1).mono ?_)
      rintro e qw3 ⟨rfl, g⟩
      have Q3 := Lib.hid (gb_trans Q2.out g)
      clear g
      try dsimp only
      refine hK.out _ _ (KQ.out _ Q3.out) (fun hH3 => ?_)
      clear hK K hH2
      try simp only [Act.put, List.getElem_toArray, List.getElem_cons_succ, List.getElem_cons_zero, List.setIfInBounds_toArray, List.set_cons_zero, List.set_cons_succ]
      refine wpAnyH_ready (rs := [13]) (by kernel_rfl) (by simp) ?_
      refine AllReadyH.cons (o := _) rfl (fun K hK => ?_) AllReadyH.nil
      go_simp
      (with_reducible refine ((U1.out _ (gb_trans G3.out Q3.out)).2).mono ?_)
      rintro e qw4 ⟨rfl, g⟩
      have Q4 := Lib.hid (gb_trans Q3.out g)
      clear g
      try dsimp only
      refine hK.out _ _ (KQ.out _ Q4.out) (fun hH4 => ?_)
      clear hK K hH3
      try simp only [Act.put, List.getElem_toArray, List.getElem_cons_succ, List.getElem_cons_zero, List.setIfInBounds_toArray, List.set_cons_zero, List.set_cons_succ]
      refine wpAnyH_take (i := 14) (v := ?v19) rfl (by kernel_rfl) (by kernel_rfl) (by kernel_rfl) (fun _ _ _ h => h) (Or.inl ⟨by rfl, ?hy19⟩) (by assumption) ?rest19
      case hy19 => (intro wz hSw; (try dsimp only at hSw); first | (go_simp; done) | (go_simp; with_reducible rfl))
      try simp only [Act.put, List.getElem_toArray, List.getElem_cons_succ, List.getElem_cons_zero, List.setIfInBounds_toArray, List.set_cons_zero, List.set_cons_succ]
      refine wpAnyH_take (i := 15) (v := ?v20) rfl (by kernel_rfl) (by kernel_rfl) (by kernel_rfl) (fun _ _ _ h => h) (Or.inl ⟨by rfl, ?hy20⟩) (by assumption) ?rest20
      case hy20 => (intro wz hSw; (try dsimp only at hSw); first | (go_simp; done) | (go_simp; with_reducible rfl))
      try simp only [Act.put, List.getElem_toArray, List.getElem_cons_succ, List.getElem_cons_zero, List.setIfInBounds_toArray, List.set_cons_zero, List.set_cons_succ]
      refine wpAnyH_take (i := 16) (v := ?v21) rfl (by kernel_rfl) (by kernel_rfl) (by kernel_rfl) (fun _ _ _ h => h) (Or.inl ⟨by rfl, ?hy21⟩) (by assumption) ?rest21
      case hy21 => (intro wz hSw; (try dsimp only at hSw); first | (go_simp; done) | (go_simp; with_reducible rfl))
      try simp only [Act.put, List.getElem_toArray, List.getElem_cons_succ, List.getElem_cons_zero, List.setIfInBounds_toArray, List.set_cons_zero, List.set_cons_succ]
      refine wpAnyH_take (i := 17) (v := ?v22) rfl (by kernel_rfl) (by kernel_rfl) (by kernel_rfl) (fun _ _ _ h => h) (Or.inl ⟨by rfl, ?hy22⟩) (by assumption) ?rest22
      case hy22 => (intro wz hSw; (try dsimp only at hSw); first | (go_simp; done) | (go_simp; with_reducible rfl))
      try simp only [Act.put, List.getElem_toArray, List.getElem_cons_succ, List.getElem_cons_zero, List.setIfInBounds_toArray, List.set_cons_zero, List.set_cons_succ]
      refine wpAnyH_take (i := 18) (v := ?v23) rfl (by kernel_rfl) (by kernel_rfl) (by kernel_rfl) (fun _ _ _ h => h) (Or.inl ⟨by rfl, ?hy23⟩) (by assumption) ?rest23
      case hy23 => (intro wz hSw; (try dsimp only at hSw); first | (go_simp; done) | (go_simp; with_reducible rfl))
      try simp only [Act.put, List.getElem_toArray, List.getElem_cons_succ, List.getElem_cons_zero, List.setIfInBounds_toArray, List.set_cons_zero, List.set_cons_succ]
      refine wpAnyH_take (i := 20) (v := ?v24) rfl (by kernel_rfl) (by kernel_rfl) (by kernel_rfl) (fun _ _ _ h => h) (Or.inl ⟨by rfl, ?hy24⟩) (by assumption) ?rest24
      case hy24 => (intro wz hSw; (try dsimp only at hSw); first | (go_simp; done) | (go_simp; with_reducible rfl))
      try simp only [Act.put, List.getElem_toArray, List.getElem_cons_succ, List.getElem_cons_zero, List.setIfInBounds_toArray, List.set_cons_zero, List.set_cons_succ]
      refine wpAnyH_take (i := 21) (v := ?v25) rfl (by kernel_rfl) (by kernel_rfl) (by kernel_rfl) (fun _ _ _ h => h) (Or.inl ⟨by rfl, ?hy25⟩) (by assumption) ?rest25
      case hy25 => (intro wz hSw; (try dsimp only at hSw); first | (go_simp; done) | (go_simp; with_reducible rfl))
      try simp only [Act.put, List.getElem_toArray, List.getElem_cons_succ, List.getElem_cons_zero, List.setIfInBounds_toArray, List.set_cons_zero, List.set_cons_succ]
      refine wpAnyH_ready (rs := [19]) (by kernel_rfl) (by simp) ?_
      refine AllReadyH.cons (o := _) rfl (fun K hK => ?_) AllReadyH.nil
      go_simp
      (with_reducible refine ((S2.out _ (gb_trans G3.out Q4.out))).mono ?_)
      rintro e qw5 ⟨rfl, g⟩
      have Q5 := Lib.hid (gb_trans Q4.out g)
      clear g
      try dsimp only
      refine hK.out _ _ (KQ.out _ Q5.out) (fun hH5 => ?_)
      clear hK K hH4
      try simp only [Act.put, List.getElem_toArray, List.getElem_cons_succ, List.getElem_cons_zero, List.setIfInBounds_toArray, List.set_cons_zero, List.set_cons_succ]
      refine wpAnyH_ready (rs := [22]) (by kernel_rfl) (by simp) ?_
      refine AllReadyH.cons (o := _) rfl (fun K hK => ?_) AllReadyH.nil
      go_simp
      (with_reducible refine ((S1.out _ (gb_trans G3.out Q5.out)).1).mono ?_)
      rintro e qw6 ⟨rfl, g⟩
      have Q6 := Lib.hid (gb_trans Q5.out g)
      clear g
      try dsimp only
      refine hK.out _ _ (KQ.out _ Q6.out) (fun hH6 => ?_)
      clear hK K hH5
      try simp only [Act.put, List.getElem_toArray, List.getElem_cons_succ, List.getElem_cons_zero, List.setIfInBounds_toArray, List.set_cons_zero, List.set_cons_succ]
      refine wpAnyH_take (i := 23) (v := ?v26) rfl (by kernel_rfl) (by kernel_rfl) (by kernel_rfl) (fun _ _ _ h => h) (Or.inl ⟨by rfl, ?hy26⟩) (by assumption) ?rest26
      case hy26 => (intro wz hSw; (try dsimp only at hSw); first | (go_simp; done) | (go_simp; with_reducible rfl))
      try simp only [Act.put, List.getElem_toArray, List.getElem_cons_succ, List.getElem_cons_zero, List.setIfInBounds_toArray, List.set_cons_zero, List.set_cons_succ]
      refine wpAnyH_take (i := 24) (v := ?v27) rfl (by kernel_rfl) (by kernel_rfl) (by kernel_rfl) (fun _ _ _ h => h) (Or.inl ⟨by rfl, ?hy27⟩) (by assumption) ?rest27
      case hy27 => (intro wz hSw; (try dsimp only at hSw); first | (go_simp; done) | (go_simp; with_reducible rfl))
      try simp only [Act.put, List.getElem_toArray, List.getElem_cons_succ, List.getElem_cons_zero, List.setIfInBounds_toArray, List.set_cons_zero, List.set_cons_succ]
      refine wpAnyH_take (i := 25) (v := ?v28) rfl (by kernel_rfl) (by kernel_rfl) (by kernel_rfl) (fun _ _ _ h => h) (Or.inl ⟨by rfl, ?hy28⟩) (by assumption) ?rest28
      case hy28 => (intro wz hSw; (try dsimp only at hSw); first | (go_simp; done) | (go_simp; with_reducible rfl))
      try simp only [Act.put, List.getElem_toArray, List.getElem_cons_succ, List.getElem_cons_zero, List.setIfInBounds_toArray, List.set_cons_zero, List.set_cons_succ]
      refine wpAnyH_take (i := 26) (v := ?v29) rfl (by kernel_rfl) (by kernel_rfl) (by kernel_rfl) (fun _ _ _ h => h) (Or.inl ⟨by rfl, ?hy29⟩) (by assumption) ?rest29
      case hy29 => (intro wz hSw; (try dsimp only at hSw); first | (go_simp; done) | (go_simp; with_reducible rfl))
      try simp only [Act.put, List.getElem_toArray, List.getElem_cons_succ, List.getElem_cons_zero, List.setIfInBounds_toArray, List.set_cons_zero, List.set_cons_succ]
      refine wpAnyH_take (i := 27) (v := ?v30) rfl (by kernel_rfl) (by kernel_rfl) (by kernel_rfl) (fun _ _ _ h => h) (Or.inl ⟨by rfl, ?hy30⟩) (by assumption) ?rest30
      case hy30 => (intro wz hSw; (try dsimp only at hSw); first | (go_simp; done) | (go_simp; with_reducible rfl))
      try simp only [Act.put, List.getElem_toArray, List.getElem_cons_succ, List.getElem_cons_zero, List.setIfInBounds_toArray, List.set_cons_zero, List.set_cons_succ]
      refine wpAnyH_take (i := 29) (v := ?v31) rfl (by kernel_rfl) (by kernel_rfl) (by kernel_rfl) (fun _ _ _ h => h) (Or.inl ⟨by rfl, ?hy31⟩) (by assumption) ?rest31
      case hy31 => (intro wz hSw; (try dsimp only at hSw); first | (go_simp; done) | (go_simp; with_reducible rfl))
      try simp only [Act.put, List.getElem_toArray, List.getElem_cons_succ, List.getElem_cons_zero, List.setIfInBounds_toArray, List.set_cons_zero, List.set_cons_succ]
      refine wpAnyH_take (i := 30) (v := ?v32) rfl (by kernel_rfl) (by kernel_rfl) (by kernel_rfl) (fun _ _ _ h => h) (Or.inl ⟨by rfl, ?hy32⟩) (by assumption) ?rest32
      case hy32 => (intro wz hSw; (try dsimp only at hSw); first | (go_simp; done) | (go_simp; with_reducible rfl))
      try simp only [Act.put, List.getElem_toArray, List.getElem_cons_succ, List.getElem_cons_zero, List.setIfInBounds_toArray, List.set_cons_zero, List.set_cons_succ]
      refine wpAnyH_ready (rs := [28]) (by kernel_rfl) (by simp) ?_
      refine AllReadyH.cons (o := _) rfl (fun K hK => ?_) AllReadyH.nil
      go_simp
      (with_reducible refine ((U2.out _ (gb_trans G3.out Q6.out))).mono ?_)
      rintro e qw7 ⟨rfl, g⟩
      have Q7 := Lib.hid (gb_trans Q6.out g)
      clear g
      try dsimp only
      refine hK.out _ _ (KQ.out _ Q7.out) (fun hH7 => ?_)
      clear hK K hH6
      try simp only [Act.put, List.getElem_toArray, List.getElem_cons_succ, List.getElem_cons_zero, List.setIfInBounds_toArray, List.set_cons_zero, List.set_cons_succ]
      refine wpAnyH_ready (rs := [31]) (by kernel_rfl) (by simp) ?_
      refine AllReadyH.cons (o := _) rfl (fun K hK => ?_) AllReadyH.nil
      go_simp
      (with_reducible refine ((U1.out _ (gb_trans G3.out Q7.out)).1).mono ?_)
      rintro e qw8 ⟨rfl, g⟩
      have Q8 := Lib.hid (gb_trans Q7.out g)
      clear g
      try dsimp only
      refine hK.out _ _ (KQ.out _ Q8.out) (fun hH8 => ?_)
      clear hK K hH7
      try simp only [Act.put, List.getElem_toArray, List.getElem_cons_succ, List.getElem_cons_zero, List.setIfInBounds_toArray, List.set_cons_zero, List.set_cons_succ]
      refine wpAnyH_take (i := 32) (v := ?v33) rfl (by kernel_rfl) (by kernel_rfl) (by kernel_rfl) (fun _ _ _ h => h) (Or.inl ⟨by rfl, ?hy33⟩) (by assumption) ?rest33
      case hy33 => (intro wz hSw; (try dsimp only at hSw); first | (go_simp; done) | (go_simp; with_reducible rfl))
      try simp only [Act.put, List.getElem_toArray, List.getElem_cons_succ, List.getElem_cons_zero, List.setIfInBounds_toArray, List.set_cons_zero, List.set_cons_succ]
      refine wpAnyH_take (i := 33) (v := ?v34) rfl (by kernel_rfl) (by kernel_rfl) (by kernel_rfl) (fun _ _ _ h => h) (Or.inl ⟨by rfl, ?hy34⟩) (by assumption) ?rest34
      case hy34 => (intro wz hSw; (try dsimp only at hSw); first | (go_simp; done) | (go_simp; with_reducible rfl))
      try simp only [Act.put, List.getElem_toArray, List.getElem_cons_succ, List.getElem_cons_zero, List.setIfInBounds_toArray, List.set_cons_zero, List.set_cons_succ]
      refine wpAnyH_take (i := 34) (v := ?v35) rfl (by kernel_rfl) (by kernel_rfl) (by kernel_rfl) (fun _ _ _ h => h) (Or.inl ⟨by rfl, ?hy35⟩) (by assumption) ?rest35
      case hy35 => (intro wz hSw; (try dsimp only at hSw); first | (go_simp; done) | (go_simp; with_reducible rfl))
      try simp only [Act.put, List.getElem_toArray, List.getElem_cons_succ, List.getElem_cons_zero, List.setIfInBounds_toArray, List.set_cons_zero, List.set_cons_succ]
      refine wpAnyH_take (i := 35) (v := ?v36) rfl (by kernel_rfl) (by kernel_rfl) (by kernel_rfl) (fun _ _ _ h => h) (Or.inl ⟨by rfl, ?hy36⟩) (by assumption) ?rest36
      case hy36 => (intro wz hSw; (try dsimp only at hSw); first | (go_simp; done) | (go_simp; with_reducible rfl))
      try simp only [Act.put, List.getElem_toArray, List.getElem_cons_succ, List.getElem_cons_zero, List.setIfInBounds_toArray, List.set_cons_zero, List.set_cons_succ]
      refine wpAnyH_take (i := 36) (v := ?v37) rfl (by kernel_rfl) (by kernel_rfl) (by kernel_rfl) (fun _ _ _ h => h) (Or.inl ⟨by rfl, ?hy37⟩) (by assumption) ?rest37
      case hy37 => (intro wz hSw; (try dsimp only at hSw); first | (go_simp; done) | (go_simp; with_reducible rfl))
      try simp only [Act.put, List.getElem_toArray, List.getElem_cons_succ, List.getElem_cons_zero, List.setIfInBounds_toArray, List.set_cons_zero, List.set_cons_succ]
      refine wpAnyH_ready (rs := [37]) (by kernel_rfl) (by simp) ?_
      refine AllReadyH.cons (o := _) rfl (fun K hK => ?_) AllReadyH.nil
      go_simp
      (with_reducible refine ((S3.out _ (gb_trans G3.out Q8.out))).mono ?_)
      rintro e qw9 ⟨rfl, g⟩
      have Q9 := Lib.hid (gb_trans Q8.out g)
      clear g
      try dsimp only
      refine hK.out _ _ (KQ.out _ Q9.out) (fun hH9 => ?_)
      clear hK K hH8
      try simp only [Act.put, List.getElem_toArray, List.getElem_cons_succ, List.getElem_cons_zero, List.setIfInBounds_toArray, List.set_cons_zero, List.set_cons_succ]
      refine wpAnyH_take (i := 38) (v := ?v38) rfl (by kernel_rfl) (by kernel_rfl) (by kernel_rfl) (fun _ _ _ h => h) (Or.inl ⟨by rfl, ?hy38⟩) (by assumption) ?rest38
      case hy38 => (intro wz hSw; (try dsimp only at hSw); first | (go_simp; done) | (go_simp; with_reducible rfl))
      try simp only [Act.put, List.getElem_toArray, List.getElem_cons_succ, List.getElem_cons_zero, List.setIfInBounds_toArray, List.set_cons_zero, List.set_cons_succ]
      refine wpAnyH_take (i := 39) (v := ?v39) rfl (by kernel_rfl) (by kernel_rfl) (by kernel_rfl) (fun _ _ _ h => h) (Or.inl ⟨by rfl, ?hy39⟩) (by assumption) ?rest39
      case hy39 => (intro wz hSw; (try dsimp only at hSw); first | (go_simp; done) | (go_simp; with_reducible rfl))
      try simp only [Act.put, List.getElem_toArray, List.getElem_cons_succ, List.getElem_cons_zero, List.setIfInBounds_toArray, List.set_cons_zero, List.set_cons_succ]
      refine wpAnyH_take (i := 40) (v := ?v40) rfl (by kernel_rfl) (by kernel_rfl) (by kernel_rfl) (fun _ _ _ h => h) (Or.inl ⟨by rfl, ?hy40⟩) (by assumption) ?rest40
      case hy40 => (intro wz hSw; (try dsimp only at hSw); first | (go_simp; done) | (go_simp; with_reducible rfl))
      try simp only [Act.put, List.getElem_toArray, List.getElem_cons_succ, List.getElem_cons_zero, List.setIfInBounds_toArray, List.set_cons_zero, List.set_cons_succ]
      refine wpAnyH_take (i := 41) (v := ?v41) rfl (by kernel_rfl) (by kernel_rfl) (by kernel_rfl) (fun _ _ _ h => h) (Or.inl ⟨by rfl, ?hy41⟩) (by assumption) ?rest41
      case hy41 => (intro wz hSw; (try dsimp only at hSw); first | (go_simp; done) | (go_simp; with_reducible rfl))
      try simp only [Act.put, List.getElem_toArray, List.getElem_cons_succ, List.getElem_cons_zero, List.setIfInBounds_toArray, List.set_cons_zero, List.set_cons_succ]
      refine wpAnyH_ready (rs := [42]) (by kernel_rfl) (by simp) ?_
      refine AllReadyH.cons (o := _) rfl (fun K hK => ?_) AllReadyH.nil
      go_simp
      (with_reducible refine ((U3.out _ (gb_trans G3.out Q9.out))).mono ?_)
      rintro e qw10 ⟨rfl, g⟩
      have Q10 := Lib.hid (gb_trans Q9.out g)
      clear g
      try dsimp only
      refine hK.out _ _ (KQ.out _ Q10.out) (fun hH10 => ?_)
      clear hK K hH9
      try simp only [Act.put, List.getElem_toArray, List.getElem_cons_succ, List.getElem_cons_zero, List.setIfInBounds_toArray, List.set_cons_zero, List.set_cons_succ]
      refine wpAnyH_take (i := 43) (v := ?v42) rfl (by kernel_rfl) (by kernel_rfl) (by kernel_rfl) (fun _ _ _ h => h) (Or.inl ⟨by rfl, ?hy42⟩) (by assumption) ?rest42
      case hy42 => (intro wz hSw; (try dsimp only at hSw); first | (go_simp; done) | (go_simp; with_reducible rfl))
      try simp only [Act.put, List.getElem_toArray, List.getElem_cons_succ, List.getElem_cons_zero, List.setIfInBounds_toArray, List.set_cons_zero, List.set_cons_succ]
      refine wpAnyH_take (i := 44) (v := ?v43) rfl (by kernel_rfl) (by kernel_rfl) (by kernel_rfl) (fun _ _ _ h => h) (Or.inl ⟨by rfl, ?hy43⟩) (by assumption) ?rest43
      case hy43 => (intro wz hSw; (try dsimp only at hSw); first | (go_simp; done) | (go_simp; with_reducible rfl))
      try simp only [Act.put, List.getElem_toArray, List.getElem_cons_succ, List.getElem_cons_zero, List.setIfInBounds_toArray, List.set_cons_zero, List.set_cons_succ]
      refine wpAnyH_ready (rs := [45]) (by kernel_rfl) (by simp) ?_
      refine AllReadyH.cons (o := _) rfl (fun K hK => ?_) AllReadyH.nil
      go_simp
      (with_reducible refine (works_any _).mono ?_)
      rintro e qw11 ⟨rfl, g⟩
      have Q11 := Lib.hid (gb_trans Q10.out g)
      clear g
      try dsimp only
      refine hK.out _ _ (KQ.out _ Q11.out) (fun hH11 => ?_)
      clear hK K hH10
      try simp only [Act.put, List.getElem_toArray, List.getElem_cons_succ, List.getElem_cons_zero, List.setIfInBounds_toArray, List.set_cons_zero, List.set_cons_succ]
      refine wpAnyH_take (i := 46) (v := ?v44) rfl (by kernel_rfl) (by kernel_rfl) (by kernel_rfl) (fun _ _ _ h => h) (Or.inl ⟨by rfl, ?hy44⟩) (by assumption) ?rest44
      case hy44 => (intro wz hSw; (try dsimp only at hSw); first | (go_simp; done) | (go_simp; with_reducible rfl))
      try simp only [Act.put, List.getElem_toArray, List.getElem_cons_succ, List.getElem_cons_zero, List.setIfInBounds_toArray, List.set_cons_zero, List.set_cons_succ]
      refine wpAnyH_take (i := 47) (v := ?v45) rfl (by kernel_rfl) (by kernel_rfl) (by kernel_rfl) (fun _ _ _ h => h) (Or.inl ⟨by rfl, ?hy45⟩) (by assumption) ?rest45
      case hy45 => (intro wz hSw; (try dsimp only at hSw); first | (go_simp; done) | (go_simp; with_reducible rfl))
      try simp only [Act.put, List.getElem_toArray, List.getElem_cons_succ, List.getElem_cons_zero, List.setIfInBounds_toArray, List.set_cons_zero, List.set_cons_succ]
      refine wpAnyH_done (by kernel_rfl) ?_ _
      clear hH11
      go_wp2
      go_ret
      exact ⟨rfl, gb_trans G1.out (gb_trans G3.out Q11.out)⟩
set_option maxRecDepth 100000 in
set_option maxHeartbeats 20000000 in
theorem precedes_walk (w : World) (X : PX) (P : Pg) (hp : SP w X P) (t ia ib : Int) (Y Z : EX) (a b : En) (h : SE w Y a) (k : SE w Z b) : Calls Try.prog 5 #[.agg #[.string X.nm, .slice X.ha X.hn X.hc, .slice X.ma X.mn X.mc, .slice X.ra X.rn X.rc, .slice X.aa X.an X.ac, .slice X.ta X.tn X.tc, .slice X.sa X.sn X.sc, .slice X.ca X.cn X.cc, .slice X.da X.dn X.dc], .int .i64 t, .agg #[.int .i64 ia, .slice Y.ka Y.kn Y.kc, .int .i64 a.pr, .int .i64 a.ac, .slice Y.ra Y.rn Y.rc, .int .i64 ib, .slice Z.ka Z.kn Z.kc, .int .i64 b.pr, .int .i64 b.ac, .slice Z.ra Z.rn Z.rc]] w (RetV (.bool true) w) := by
  have HP := Lib.hid hp
  have HE := Lib.hid h
  have HF := Lib.hid k
  have G1 := Lib.hid (gb_trans (gb_alloc w (.cells #[.string X.nm, .slice X.ha X.hn X.hc, .slice X.ma X.mn X.mc, .slice X.ra X.rn X.rc, .slice X.aa X.an X.ac, .slice X.ta X.tn X.tc, .slice X.sa X.sn X.sc, .slice X.ca X.cn X.cc, .slice X.da X.dn X.dc] 31) none) (gb_alloc _ (.cells #[.int .i64 ia, .slice Y.ka Y.kn Y.kc, .int .i64 a.pr, .int .i64 a.ac, .slice Y.ra Y.rn Y.rc, .int .i64 ib, .slice Z.ka Z.kn Z.kc, .int .i64 b.pr, .int .i64 b.ac, .slice Z.ra Z.rn Z.rc] 47) none))
  have B1 := (IsB.new w 31 #[.string X.nm, .slice X.ha X.hn X.hc, .slice X.ma X.mn X.mc, .slice X.ra X.rn X.rc, .slice X.aa X.an X.ac, .slice X.ta X.tn X.tc, .slice X.sa X.sn X.sc, .slice X.ca X.cn X.cc, .slice X.da X.dn X.dc]).alloc (.cells #[.int .i64 ia, .slice Y.ka Y.kn Y.kc, .int .i64 a.pr, .int .i64 a.ac, .slice Y.ra Y.rn Y.rc, .int .i64 ib, .slice Z.ka Z.kn Z.kc, .int .i64 b.pr, .int .i64 b.ac, .slice Z.ra Z.rn Z.rc] 47)
  have B2 := IsB.new (w.alloc (.cells #[.string X.nm, .slice X.ha X.hn X.hc, .slice X.ma X.mn X.mc, .slice X.ra X.rn X.rc, .slice X.aa X.an X.ac, .slice X.ta X.tn X.tc, .slice X.sa X.sn X.sc, .slice X.ca X.cn X.cc, .slice X.da X.dn X.dc] 31)) 47 #[.int .i64 ia, .slice Y.ka Y.kn Y.kc, .int .i64 a.pr, .int .i64 a.ac, .slice Y.ra Y.rn Y.rc, .int .i64 ib, .slice Z.ka Z.kn Z.kc, .int .i64 b.pr, .int .i64 b.ac, .slice Z.ra Z.rn Z.rc]
  simp only [sz_al] at B2
  replace B1 := Lib.hid B1
  replace B2 := Lib.hid B2
  clear hp h k
  go_enter Try.func5, Try.ntmps5
  go_upto_region 1 with fail
  generalize (w.alloc (.cells #[.string X.nm, .slice X.ha X.hn X.hc, .slice X.ma X.mn X.mc, .slice X.ra X.rn X.rc, .slice X.aa X.an X.ac, .slice X.ta X.tn X.tc, .slice X.sa X.sn X.sc, .slice X.ca X.cn X.cc, .slice X.da X.dn X.dc] 31)).alloc (.cells #[.int .i64 ia, .slice Y.ka Y.kn Y.kc, .int .i64 a.pr, .int .i64 a.ac, .slice Y.ra Y.rn Y.rc, .int .i64 ib, .slice Z.ka Z.kn Z.kc, .int .i64 b.pr, .int .i64 b.ac, .slice Z.ra Z.rn Z.rc] 47) = w1 at *
  obtain ⟨bx, hbx⟩ : ∃ b, b = w.heap.size := ⟨_, rfl⟩
  have Lbx := Lib.hid (show w.heap.size ≤ bx by rw [hbx]; exact Nat.le_refl _)
  rw [← hbx] at B1 B2 ⊢
  clear hbx
  have SX := Lib.hid (fun W => smallx_any W Y a)
  have SY := Lib.hid (fun W => smallx_any W Z b)
  generalize decide (Y.kn ≤ 10 ∧ Y.rn ≤ 10) = s1 at *
  generalize decide (Z.kn ≤ 10 ∧ Z.rn ≤ 10) = s2 at *
  have c0 := (B1.out.keep0 (gb_refl _ _)).cell 0
  have c1 := (B1.out.keep0 (gb_refl _ _)).cell 1
  have c2 := (B1.out.keep0 (gb_refl _ _)).cell 2
  have c3 := (B1.out.keep0 (gb_refl _ _)).cell 3
  have c4 := (B1.out.keep0 (gb_refl _ _)).cell 4
  have c5 := (B1.out.keep0 (gb_refl _ _)).cell 5
  have c6 := (B1.out.keep0 (gb_refl _ _)).cell 6
  have c7 := (B1.out.keep0 (gb_refl _ _)).cell 7
  have c8 := (B1.out.keep0 (gb_refl _ _)).cell 8
  dsimp at c0 c1 c2 c3 c4 c5 c6 c7 c8
  have d0 := (B2.out.keep0 (gb_refl _ _)).cell 0
  have d1 := (B2.out.keep0 (gb_refl _ _)).cell 1
  have d2 := (B2.out.keep0 (gb_refl _ _)).cell 2
  have d3 := (B2.out.keep0 (gb_refl _ _)).cell 3
  have d4 := (B2.out.keep0 (gb_refl _ _)).cell 4
  have d5 := (B2.out.keep0 (gb_refl _ _)).cell 5
  have d6 := (B2.out.keep0 (gb_refl _ _)).cell 6
  have d7 := (B2.out.keep0 (gb_refl _ _)).cell 7
  have d8 := (B2.out.keep0 (gb_refl _ _)).cell 8
  have d9 := (B2.out.keep0 (gb_refl _ _)).cell 9
  dsimp at d0 d1 d2 d3 d4 d5 d6 d7 d8 d9
  go_wp2_with fail
  refine (small_any w1 X P (HP.out.keep0 G1.out)).mono ?_
  rintro e w2 ⟨s0, rfl, g, hq⟩
  have G2 := Lib.hid g
  have HQ := Lib.hid hq
  clear g hq
  clear c0 c1 c2 c3 c4 c5 c6 c7 c8 d0 d1 d2 d3 d4 d5 d6 d7 d8 d9
  have c0 := (B1.out.keep0 G2.out).cell 0
  have c1 := (B1.out.keep0 G2.out).cell 1
  have c2 := (B1.out.keep0 G2.out).cell 2
  have c3 := (B1.out.keep0 G2.out).cell 3
  have c4 := (B1.out.keep0 G2.out).cell 4
  have c5 := (B1.out.keep0 G2.out).cell 5
  have c6 := (B1.out.keep0 G2.out).cell 6
  have c7 := (B1.out.keep0 G2.out).cell 7
  have c8 := (B1.out.keep0 G2.out).cell 8
  dsimp at c0 c1 c2 c3 c4 c5 c6 c7 c8
  have d0 := (B2.out.keep0 G2.out).cell 0
  have d1 := (B2.out.keep0 G2.out).cell 1
  have d2 := (B2.out.keep0 G2.out).cell 2
  have d3 := (B2.out.keep0 G2.out).cell 3
  have d4 := (B2.out.keep0 G2.out).cell 4
  have d5 := (B2.out.keep0 G2.out).cell 5
  have d6 := (B2.out.keep0 G2.out).cell 6
  have d7 := (B2.out.keep0 G2.out).cell 7
  have d8 := (B2.out.keep0 G2.out).cell 8
  have d9 := (B2.out.keep0 G2.out).cell 9
  dsimp at d0 d1 d2 d3 d4 d5 d6 d7 d8 d9
  cases s0
  · go_wp2_with fail
    refine (works_any _).mono ?_
    rintro e w9 ⟨rfl, g⟩
    have G9 := Lib.hid (gb_trans G2.out g)
    clear g
    go_wp2
    go_ret
    exact ⟨rfl, gb_trans G1.out G9.out⟩
  · have ZZ := Lib.hid (HQ.out rfl).sz
    go_wp2_with fail
    refine (SX.out _).mono ?_
    rintro e w3 ⟨rfl, g⟩
    have G3 := Lib.hid (gb_trans G2.out g)
    clear g
    clear c0 c1 c2 c3 c4 c5 c6 c7 c8 d0 d1 d2 d3 d4 d5 d6 d7 d8 d9
    have c0 := (B1.out.keep0 G3.out).cell 0
    have c1 := (B1.out.keep0 G3.out).cell 1
    have c2 := (B1.out.keep0 G3.out).cell 2
    have c3 := (B1.out.keep0 G3.out).cell 3
    have c4 := (B1.out.keep0 G3.out).cell 4
    have c5 := (B1.out.keep0 G3.out).cell 5
    have c6 := (B1.out.keep0 G3.out).cell 6
    have c7 := (B1.out.keep0 G3.out).cell 7
    have c8 := (B1.out.keep0 G3.out).cell 8
    dsimp at c0 c1 c2 c3 c4 c5 c6 c7 c8
    have d0 := (B2.out.keep0 G3.out).cell 0
    have d1 := (B2.out.keep0 G3.out).cell 1
    have d2 := (B2.out.keep0 G3.out).cell 2
    have d3 := (B2.out.keep0 G3.out).cell 3
    have d4 := (B2.out.keep0 G3.out).cell 4
    have d5 := (B2.out.keep0 G3.out).cell 5
    have d6 := (B2.out.keep0 G3.out).cell 6
    have d7 := (B2.out.keep0 G3.out).cell 7
    have d8 := (B2.out.keep0 G3.out).cell 8
    have d9 := (B2.out.keep0 G3.out).cell 9
    dsimp at d0 d1 d2 d3 d4 d5 d6 d7 d8 d9
    cases s1
    · go_wp2_with fail
      refine (works_any _).mono ?_
      rintro e w9 ⟨rfl, g⟩
      have G9 := Lib.hid (gb_trans G3.out g)
      clear g
      go_wp2
      go_ret
      exact ⟨rfl, gb_trans G1.out G9.out⟩
    · go_wp2_with fail
      refine (SY.out _).mono ?_
      rintro e w4 ⟨rfl, g⟩
      have G4 := Lib.hid (gb_trans G3.out g)
      clear g
      clear c0 c1 c2 c3 c4 c5 c6 c7 c8 d0 d1 d2 d3 d4 d5 d6 d7 d8 d9
      cases s2
      · go_wp2_with fail
        refine (works_any _).mono ?_
        rintro e w9 ⟨rfl, g⟩
        have G9 := Lib.hid (gb_trans G4.out g)
        clear g
        go_wp2
        go_ret
        exact ⟨rfl, gb_trans G1.out G9.out⟩
      · have PA := Lib.hid (fun (W : World) (g : w1.grownBy W none) => (⟨pprec_any W X P (HP.out.keep0 (gb_trans G1.out g)) ZZ.out t ia ib Y Z a b (HE.out.keep0 (gb_trans G1.out g)) (HF.out.keep0 (gb_trans G1.out g)), rprec_any W X P (HP.out.keep0 (gb_trans G1.out g)) ZZ.out t ia ib Y Z a b (HE.out.keep0 (gb_trans G1.out g)) (HF.out.keep0 (gb_trans G1.out g))⟩ : _ ∧ _))
        have PB := Lib.hid (fun (W : World) (g : w1.grownBy W none) => (⟨pprec_any W X P (HP.out.keep0 (gb_trans G1.out g)) ZZ.out t ib ia Z Y b a (HF.out.keep0 (gb_trans G1.out g)) (HE.out.keep0 (gb_trans G1.out g)), rprec_any W X P (HP.out.keep0 (gb_trans G1.out g)) ZZ.out t ib ia Z Y b a (HF.out.keep0 (gb_trans G1.out g)) (HE.out.keep0 (gb_trans G1.out g))⟩ : _ ∧ _))
        generalize precE P t ia a ib b = r1 at *
        generalize precE P t ib b ia a = r2 at *
        have rr : (r1 == r1) = true := by simp
        have rs : (r2 == r2) = true := by simp
        go_upto_region 3 with fail
        have KQ := Lib.hid (fun (w' : World) (q0 : w4.grownBy w' none) => (⟨(B1.out.keep0 (gb_trans G4.out q0)).cell 0, (B1.out.keep0 (gb_trans G4.out q0)).cell 1, (B1.out.keep0 (gb_trans G4.out q0)).cell 2, (B1.out.keep0 (gb_trans G4.out q0)).cell 3, (B1.out.keep0 (gb_trans G4.out q0)).cell 4, (B1.out.keep0 (gb_trans G4.out q0)).cell 5, (B1.out.keep0 (gb_trans G4.out q0)).cell 6, (B1.out.keep0 (gb_trans G4.out q0)).cell 7, (B1.out.keep0 (gb_trans G4.out q0)).cell 8, (B2.out.keep0 (gb_trans G4.out q0)).cell 0, (B2.out.keep0 (gb_trans G4.out q0)).cell 1, (B2.out.keep0 (gb_trans G4.out q0)).cell 2, (B2.out.keep0 (gb_trans G4.out q0)).cell 3, (B2.out.keep0 (gb_trans G4.out q0)).cell 4, (B2.out.keep0 (gb_trans G4.out q0)).cell 5, (B2.out.keep0 (gb_trans G4.out q0)).cell 6, (B2.out.keep0 (gb_trans G4.out q0)).cell 7, (B2.out.keep0 (gb_trans G4.out q0)).cell 8, (B2.out.keep0 (gb_trans G4.out q0)).cell 9, q0⟩ : (fun w' : World => w'.cell? ⟨bx, 0, none⟩ = some (.string X.nm) ∧ w'.cell? ⟨bx, 1, none⟩ = some (.slice X.ha X.hn X.hc) ∧ w'.cell? ⟨bx, 2, none⟩ = some (.slice X.ma X.mn X.mc) ∧ w'.cell? ⟨bx, 3, none⟩ = some (.slice X.ra X.rn X.rc) ∧ w'.cell? ⟨bx, 4, none⟩ = some (.slice X.aa X.an X.ac) ∧ w'.cell? ⟨bx, 5, none⟩ = some (.slice X.ta X.tn X.tc) ∧ w'.cell? ⟨bx, 6, none⟩ = some (.slice X.sa X.sn X.sc) ∧ w'.cell? ⟨bx, 7, none⟩ = some (.slice X.ca X.cn X.cc) ∧ w'.cell? ⟨bx, 8, none⟩ = some (.slice X.da X.dn X.dc) ∧ w'.cell? ⟨bx + 1, 0, none⟩ = some (.int .i64 ia) ∧ w'.cell? ⟨bx + 1, 1, none⟩ = some (.slice Y.ka Y.kn Y.kc) ∧ w'.cell? ⟨bx + 1, 2, none⟩ = some (.int .i64 a.pr) ∧ w'.cell? ⟨bx + 1, 3, none⟩ = some (.int .i64 a.ac) ∧ w'.cell? ⟨bx + 1, 4, none⟩ = some (.slice Y.ra Y.rn Y.rc) ∧ w'.cell? ⟨bx + 1, 5, none⟩ = some (.int .i64 ib) ∧ w'.cell? ⟨bx + 1, 6, none⟩ = some (.slice Z.ka Z.kn Z.kc) ∧ w'.cell? ⟨bx + 1, 7, none⟩ = some (.int .i64 b.pr) ∧ w'.cell? ⟨bx + 1, 8, none⟩ = some (.int .i64 b.ac) ∧ w'.cell? ⟨bx + 1, 9, none⟩ = some (.slice Z.ra Z.rn Z.rc) ∧ w4.grownBy w' none) w'))
        have Q0 := Lib.hid (gb_drew w4 none)
        refine wp_region_held_drew (S := (fun w' : World => w'.cell? ⟨bx, 0, none⟩ = some (.string X.nm) ∧ w'.cell? ⟨bx, 1, none⟩ = some (.slice X.ha X.hn X.hc) ∧ w'.cell? ⟨bx, 2, none⟩ = some (.slice X.ma X.mn X.mc) ∧ w'.cell? ⟨bx, 3, none⟩ = some (.slice X.ra X.rn X.rc) ∧ w'.cell? ⟨bx, 4, none⟩ = some (.slice X.aa X.an X.ac) ∧ w'.cell? ⟨bx, 5, none⟩ = some (.slice X.ta X.tn X.tc) ∧ w'.cell? ⟨bx, 6, none⟩ = some (.slice X.sa X.sn X.sc) ∧ w'.cell? ⟨bx, 7, none⟩ = some (.slice X.ca X.cn X.cc) ∧ w'.cell? ⟨bx, 8, none⟩ = some (.slice X.da X.dn X.dc) ∧ w'.cell? ⟨bx + 1, 0, none⟩ = some (.int .i64 ia) ∧ w'.cell? ⟨bx + 1, 1, none⟩ = some (.slice Y.ka Y.kn Y.kc) ∧ w'.cell? ⟨bx + 1, 2, none⟩ = some (.int .i64 a.pr) ∧ w'.cell? ⟨bx + 1, 3, none⟩ = some (.int .i64 a.ac) ∧ w'.cell? ⟨bx + 1, 4, none⟩ = some (.slice Y.ra Y.rn Y.rc) ∧ w'.cell? ⟨bx + 1, 5, none⟩ = some (.int .i64 ib) ∧ w'.cell? ⟨bx + 1, 6, none⟩ = some (.slice Z.ka Z.kn Z.kc) ∧ w'.cell? ⟨bx + 1, 7, none⟩ = some (.int .i64 b.pr) ∧ w'.cell? ⟨bx + 1, 8, none⟩ = some (.int .i64 b.ac) ∧ w'.cell? ⟨bx + 1, 9, none⟩ = some (.slice Z.ra Z.rn Z.rc) ∧ w4.grownBy w' none)) (by kernel_rfl) (KQ.out _ Q0.out) (fun hH0 => ?_)
        refine wpAnyH_take (i := 0) (v := ?v46) rfl (by kernel_rfl) (by kernel_rfl) (by kernel_rfl) (fun _ _ _ h => h) (Or.inl ⟨by rfl, ?hy46⟩) (by assumption) ?rest46
        case hy46 => (intro wz hSw; (try dsimp only at hSw); first | (go_simp; done) | (go_simp; with_reducible rfl))
        try simp only [Act.put, List.getElem_toArray, List.getElem_cons_zero, List.setIfInBounds_toArray, List.set_cons_zero, List.set_cons_succ]
        refine wpAnyH_take (i := 1) (v := ?v47) rfl (by kernel_rfl) (by kernel_rfl) (by kernel_rfl) (fun _ _ _ h => h) (Or.inl ⟨by rfl, ?hy47⟩) (by assumption) ?rest47
        case hy47 => (intro wz hSw; (try dsimp only at hSw); first | (go_simp; done) | (go_simp; with_reducible rfl))
        try simp only [Act.put, List.getElem_toArray, List.getElem_cons_succ, List.getElem_cons_zero, List.setIfInBounds_toArray, List.set_cons_zero, List.set_cons_succ]
        refine wpAnyH_take (i := 2) (v := ?v48) rfl (by kernel_rfl) (by kernel_rfl) (by kernel_rfl) (fun _ _ _ h => h) (Or.inl ⟨by rfl, ?hy48⟩) (by assumption) ?rest48
        case hy48 => (intro wz hSw; (try dsimp only at hSw); first | (go_simp; done) | (go_simp; with_reducible rfl))
        try simp only [Act.put, List.getElem_toArray, List.getElem_cons_succ, List.getElem_cons_zero, List.setIfInBounds_toArray, List.set_cons_zero, List.set_cons_succ]
        refine wpAnyH_take (i := 3) (v := ?v49) rfl (by kernel_rfl) (by kernel_rfl) (by kernel_rfl) (fun _ _ _ h => h) (Or.inl ⟨by rfl, ?hy49⟩) (by assumption) ?rest49
        case hy49 => (intro wz hSw; (try dsimp only at hSw); first | (go_simp; done) | (go_simp; with_reducible rfl))
        try simp only [Act.put, List.getElem_toArray, List.getElem_cons_succ, List.getElem_cons_zero, List.setIfInBounds_toArray, List.set_cons_zero, List.set_cons_succ]
        refine wpAnyH_take (i := 4) (v := ?v50) rfl (by kernel_rfl) (by kernel_rfl) (by kernel_rfl) (fun _ _ _ h => h) (Or.inl ⟨by rfl, ?hy50⟩) (by assumption) ?rest50
        case hy50 => (intro wz hSw; (try dsimp only at hSw); first | (go_simp; done) | (go_simp; with_reducible rfl))
        try simp only [Act.put, List.getElem_toArray, List.getElem_cons_succ, List.getElem_cons_zero, List.setIfInBounds_toArray, List.set_cons_zero, List.set_cons_succ]
        refine wpAnyH_take (i := 5) (v := ?v51) rfl (by kernel_rfl) (by kernel_rfl) (by kernel_rfl) (fun _ _ _ h => h) (Or.inl ⟨by rfl, ?hy51⟩) (by assumption) ?rest51
        case hy51 => (intro wz hSw; (try dsimp only at hSw); first | (go_simp; done) | (go_simp; with_reducible rfl))
        try simp only [Act.put, List.getElem_toArray, List.getElem_cons_succ, List.getElem_cons_zero, List.setIfInBounds_toArray, List.set_cons_zero, List.set_cons_succ]
        refine wpAnyH_take (i := 7) (v := ?v52) rfl (by kernel_rfl) (by kernel_rfl) (by kernel_rfl) (fun _ _ _ h => h) (Or.inl ⟨by rfl, ?hy52⟩) (by assumption) ?rest52
        case hy52 => (intro wz hSw; (try dsimp only at hSw); first | (go_simp; done) | (go_simp; with_reducible rfl))
        try simp only [Act.put, List.getElem_toArray, List.getElem_cons_succ, List.getElem_cons_zero, List.setIfInBounds_toArray, List.set_cons_zero, List.set_cons_succ]
        refine wpAnyH_take (i := 8) (v := ?v53) rfl (by kernel_rfl) (by kernel_rfl) (by kernel_rfl) (fun _ _ _ h => h) (Or.inl ⟨by rfl, ?hy53⟩) (by assumption) ?rest53
        case hy53 => (intro wz hSw; (try dsimp only at hSw); first | (go_simp; done) | (go_simp; with_reducible rfl))
        try simp only [Act.put, List.getElem_toArray, List.getElem_cons_succ, List.getElem_cons_zero, List.setIfInBounds_toArray, List.set_cons_zero, List.set_cons_succ]
        refine wpAnyH_take (i := 9) (v := ?v54) rfl (by kernel_rfl) (by kernel_rfl) (by kernel_rfl) (fun _ _ _ h => h) (Or.inl ⟨by rfl, ?hy54⟩) (by assumption) ?rest54
        case hy54 => (intro wz hSw; (try dsimp only at hSw); first | (go_simp; done) | (go_simp; with_reducible rfl))
        try simp only [Act.put, List.getElem_toArray, List.getElem_cons_succ, List.getElem_cons_zero, List.setIfInBounds_toArray, List.set_cons_zero, List.set_cons_succ]
        refine wpAnyH_take (i := 10) (v := ?v55) rfl (by kernel_rfl) (by kernel_rfl) (by kernel_rfl) (fun _ _ _ h => h) (Or.inl ⟨by rfl, ?hy55⟩) (by assumption) ?rest55
        case hy55 => (intro wz hSw; (try dsimp only at hSw); first | (go_simp; done) | (go_simp; with_reducible rfl))
        try simp only [Act.put, List.getElem_toArray, List.getElem_cons_succ, List.getElem_cons_zero, List.setIfInBounds_toArray, List.set_cons_zero, List.set_cons_succ]
        refine wpAnyH_take (i := 11) (v := ?v56) rfl (by kernel_rfl) (by kernel_rfl) (by kernel_rfl) (fun _ _ _ h => h) (Or.inl ⟨by rfl, ?hy56⟩) (by assumption) ?rest56
        case hy56 => (intro wz hSw; (try dsimp only at hSw); first | (go_simp; done) | (go_simp; with_reducible rfl))
        try simp only [Act.put, List.getElem_toArray, List.getElem_cons_succ, List.getElem_cons_zero, List.setIfInBounds_toArray, List.set_cons_zero, List.set_cons_succ]
        refine wpAnyH_take (i := 12) (v := ?v57) rfl (by kernel_rfl) (by kernel_rfl) (by kernel_rfl) (fun _ _ _ h => h) (Or.inl ⟨by rfl, ?hy57⟩) (by assumption) ?rest57
        case hy57 => (intro wz hSw; (try dsimp only at hSw); first | (go_simp; done) | (go_simp; with_reducible rfl))
        try simp only [Act.put, List.getElem_toArray, List.getElem_cons_succ, List.getElem_cons_zero, List.setIfInBounds_toArray, List.set_cons_zero, List.set_cons_succ]
        refine wpAnyH_ready (rs := [6]) (by kernel_rfl) (by simp) ?_
        refine AllReadyH.cons (o := _) rfl (fun K hK => ?_) AllReadyH.nil
        go_simp
        (with_reducible refine ((PA.out _ (gb_trans G4.out Q0.out)).1).mono ?_)
        rintro e qw1 ⟨rfl, g⟩
        have Q1 := Lib.hid (gb_trans Q0.out g)
        clear g
        try dsimp only
        refine hK.out _ _ (KQ.out _ Q1.out) (fun hH1 => ?_)
        clear hK K hH0
        try simp only [Act.put, List.getElem_toArray, List.getElem_cons_succ, List.getElem_cons_zero, List.setIfInBounds_toArray, List.set_cons_zero, List.set_cons_succ]
        refine wpAnyH_ready (rs := [13]) (by kernel_rfl) (by simp) ?_
        refine AllReadyH.cons (o := _) rfl (fun K hK => ?_) AllReadyH.nil
        go_simp
        (with_reducible refine ((PA.out _ (gb_trans G4.out Q1.out)).2).mono ?_)
        rintro e qw2 ⟨rfl, g⟩
        have Q2 := Lib.hid (gb_trans Q1.out g)
        clear g
        try dsimp only
        refine hK.out _ _ (KQ.out _ Q2.out) (fun hH2 => ?_)
        clear hK K hH1
        try simp only [Act.put, List.getElem_toArray, List.getElem_cons_succ, List.getElem_cons_zero, List.setIfInBounds_toArray, List.set_cons_zero, List.set_cons_succ]
        refine wpAnyH_take (i := 14) (v := ?v58) rfl (by kernel_rfl) (by kernel_rfl) (by kernel_rfl) (fun _ _ _ h => h) (Or.inl ⟨by rfl, ?hy58⟩) (by assumption) ?rest58
        case hy58 => (intro wz hSw; (try dsimp only at hSw); first | (go_simp; done) | (go_simp; with_reducible rfl))
        try simp only [Act.put, List.getElem_toArray, List.getElem_cons_succ, List.getElem_cons_zero, List.setIfInBounds_toArray, List.set_cons_zero, List.set_cons_succ]
        refine wpAnyH_take (i := 15) (v := ?v59) rfl (by kernel_rfl) (by kernel_rfl) (by kernel_rfl) (fun _ _ _ h => h) (Or.inl ⟨by rfl, ?hy59⟩) (by assumption) ?rest59
        case hy59 => (intro wz hSw; (try dsimp only at hSw); first | (go_simp; done) | (go_simp; with_reducible rfl))
        try simp only [Act.put, List.getElem_toArray, List.getElem_cons_succ, List.getElem_cons_zero, List.setIfInBounds_toArray, List.set_cons_zero, List.set_cons_succ]
        refine wpAnyH_take (i := 16) (v := ?v60) rfl (by kernel_rfl) (by kernel_rfl) (by kernel_rfl) (fun _ _ _ h => h) (Or.inl ⟨by rfl, ?hy60⟩) (by assumption) ?rest60
        case hy60 => (intro wz hSw; (try dsimp only at hSw); first | (go_simp; done) | (go_simp; with_reducible rfl))
        try simp only [Act.put, List.getElem_toArray, List.getElem_cons_succ, List.getElem_cons_zero, List.setIfInBounds_toArray, List.set_cons_zero, List.set_cons_succ]
        refine wpAnyH_take (i := 17) (v := ?v61) rfl (by kernel_rfl) (by kernel_rfl) (by kernel_rfl) (fun _ _ _ h => h) (Or.inl ⟨by rfl, ?hy61⟩) (by assumption) ?rest61
        case hy61 => (intro wz hSw; (try dsimp only at hSw); first | (go_simp; done) | (go_simp; with_reducible rfl))
        try simp only [Act.put, List.getElem_toArray, List.getElem_cons_succ, List.getElem_cons_zero, List.setIfInBounds_toArray, List.set_cons_zero, List.set_cons_succ]
        refine wpAnyH_take (i := 18) (v := ?v62) rfl (by kernel_rfl) (by kernel_rfl) (by kernel_rfl) (fun _ _ _ h => h) (Or.inl ⟨by rfl, ?hy62⟩) (by assumption) ?rest62
        case hy62 => (intro wz hSw; (try dsimp only at hSw); first | (go_simp; done) | (go_simp; with_reducible rfl))
        try simp only [Act.put, List.getElem_toArray, List.getElem_cons_succ, List.getElem_cons_zero, List.setIfInBounds_toArray, List.set_cons_zero, List.set_cons_succ]
        refine wpAnyH_take (i := 19) (v := ?v63) rfl (by kernel_rfl) (by kernel_rfl) (by kernel_rfl) (fun _ _ _ h => h) (Or.inl ⟨by rfl, ?hy63⟩) (by assumption) ?rest63
        case hy63 => (intro wz hSw; (try dsimp only at hSw); first | (go_simp; done) | (go_simp; with_reducible rfl))
        try simp only [Act.put, List.getElem_toArray, List.getElem_cons_succ, List.getElem_cons_zero, List.setIfInBounds_toArray, List.set_cons_zero, List.set_cons_succ]
        refine wpAnyH_take (i := 20) (v := ?v64) rfl (by kernel_rfl) (by kernel_rfl) (by kernel_rfl) (fun _ _ _ h => h) (Or.inl ⟨by rfl, ?hy64⟩) (by assumption) ?rest64
        case hy64 => (intro wz hSw; (try dsimp only at hSw); first | (go_simp; done) | (go_simp; with_reducible rfl))
        try simp only [Act.put, List.getElem_toArray, List.getElem_cons_succ, List.getElem_cons_zero, List.setIfInBounds_toArray, List.set_cons_zero, List.set_cons_succ]
        refine wpAnyH_take (i := 21) (v := ?v65) rfl (by kernel_rfl) (by kernel_rfl) (by kernel_rfl) (fun _ _ _ h => h) (Or.inl ⟨by rfl, ?hy65⟩) (by assumption) ?rest65
        case hy65 => (intro wz hSw; (try dsimp only at hSw); first | (go_simp; done) | (go_simp; with_reducible rfl))
        try simp only [Act.put, List.getElem_toArray, List.getElem_cons_succ, List.getElem_cons_zero, List.setIfInBounds_toArray, List.set_cons_zero, List.set_cons_succ]
        refine wpAnyH_take (i := 23) (v := ?v66) rfl (by kernel_rfl) (by kernel_rfl) (by kernel_rfl) (fun _ _ _ h => h) (Or.inl ⟨by rfl, ?hy66⟩) (by assumption) ?rest66
        case hy66 => (intro wz hSw; (try dsimp only at hSw); first | (go_simp; done) | (go_simp; with_reducible rfl))
        try simp only [Act.put, List.getElem_toArray, List.getElem_cons_succ, List.getElem_cons_zero, List.setIfInBounds_toArray, List.set_cons_zero, List.set_cons_succ]
        refine wpAnyH_take (i := 24) (v := ?v67) rfl (by kernel_rfl) (by kernel_rfl) (by kernel_rfl) (fun _ _ _ h => h) (Or.inl ⟨by rfl, ?hy67⟩) (by assumption) ?rest67
        case hy67 => (intro wz hSw; (try dsimp only at hSw); first | (go_simp; done) | (go_simp; with_reducible rfl))
        try simp only [Act.put, List.getElem_toArray, List.getElem_cons_succ, List.getElem_cons_zero, List.setIfInBounds_toArray, List.set_cons_zero, List.set_cons_succ]
        refine wpAnyH_take (i := 25) (v := ?v68) rfl (by kernel_rfl) (by kernel_rfl) (by kernel_rfl) (fun _ _ _ h => h) (Or.inl ⟨by rfl, ?hy68⟩) (by assumption) ?rest68
        case hy68 => (intro wz hSw; (try dsimp only at hSw); first | (go_simp; done) | (go_simp; with_reducible rfl))
        try simp only [Act.put, List.getElem_toArray, List.getElem_cons_succ, List.getElem_cons_zero, List.setIfInBounds_toArray, List.set_cons_zero, List.set_cons_succ]
        refine wpAnyH_take (i := 26) (v := ?v69) rfl (by kernel_rfl) (by kernel_rfl) (by kernel_rfl) (fun _ _ _ h => h) (Or.inl ⟨by rfl, ?hy69⟩) (by assumption) ?rest69
        case hy69 => (intro wz hSw; (try dsimp only at hSw); first | (go_simp; done) | (go_simp; with_reducible rfl))
        try simp only [Act.put, List.getElem_toArray, List.getElem_cons_succ, List.getElem_cons_zero, List.setIfInBounds_toArray, List.set_cons_zero, List.set_cons_succ]
        refine wpAnyH_take (i := 27) (v := ?v70) rfl (by kernel_rfl) (by kernel_rfl) (by kernel_rfl) (fun _ _ _ h => h) (Or.inl ⟨by rfl, ?hy70⟩) (by assumption) ?rest70
        case hy70 => (intro wz hSw; (try dsimp only at hSw); first | (go_simp; done) | (go_simp; with_reducible rfl))
        try simp only [Act.put, List.getElem_toArray, List.getElem_cons_succ, List.getElem_cons_zero, List.setIfInBounds_toArray, List.set_cons_zero, List.set_cons_succ]
        refine wpAnyH_take (i := 28) (v := ?v71) rfl (by kernel_rfl) (by kernel_rfl) (by kernel_rfl) (fun _ _ _ h => h) (Or.inl ⟨by rfl, ?hy71⟩) (by assumption) ?rest71
        case hy71 => (intro wz hSw; (try dsimp only at hSw); first | (go_simp; done) | (go_simp; with_reducible rfl))
        try simp only [Act.put, List.getElem_toArray, List.getElem_cons_succ, List.getElem_cons_zero, List.setIfInBounds_toArray, List.set_cons_zero, List.set_cons_succ]
        refine wpAnyH_ready (rs := [22]) (by kernel_rfl) (by simp) ?_
        refine AllReadyH.cons (o := _) rfl (fun K hK => ?_) AllReadyH.nil
        go_simp
        (with_reducible refine ((PB.out _ (gb_trans G4.out Q2.out)).1).mono ?_)
        rintro e qw3 ⟨rfl, g⟩
        have Q3 := Lib.hid (gb_trans Q2.out g)
        clear g
        try dsimp only
        refine hK.out _ _ (KQ.out _ Q3.out) (fun hH3 => ?_)
        clear hK K hH2
        try simp only [Act.put, List.getElem_toArray, List.getElem_cons_succ, List.getElem_cons_zero, List.setIfInBounds_toArray, List.set_cons_zero, List.set_cons_succ]
        refine wpAnyH_ready (rs := [29]) (by kernel_rfl) (by simp) ?_
        refine AllReadyH.cons (o := _) rfl (fun K hK => ?_) AllReadyH.nil
        go_simp
        (with_reducible refine ((PB.out _ (gb_trans G4.out Q3.out)).2).mono ?_)
        rintro e qw4 ⟨rfl, g⟩
        have Q4 := Lib.hid (gb_trans Q3.out g)
        clear g
        try dsimp only
        refine hK.out _ _ (KQ.out _ Q4.out) (fun hH4 => ?_)
        clear hK K hH3
        try simp only [Act.put, List.getElem_toArray, List.getElem_cons_succ, List.getElem_cons_zero, List.setIfInBounds_toArray, List.set_cons_zero, List.set_cons_succ]
        refine wpAnyH_take (i := 30) (v := ?v72) rfl (by kernel_rfl) (by kernel_rfl) (by kernel_rfl) (fun _ _ _ h => h) (Or.inl ⟨by rfl, ?hy72⟩) (by assumption) ?rest72
        case hy72 => (intro wz hSw; (try dsimp only at hSw); first | (go_simp; done) | (go_simp; with_reducible rfl))
        try simp only [Act.put, List.getElem_toArray, List.getElem_cons_succ, List.getElem_cons_zero, List.setIfInBounds_toArray, List.set_cons_zero, List.set_cons_succ]
        refine wpAnyH_take (i := 31) (v := ?v73) rfl (by kernel_rfl) (by kernel_rfl) (by kernel_rfl) (fun _ _ _ h => h) (Or.inl ⟨by rfl, ?hy73⟩) (by assumption) ?rest73
        case hy73 => (intro wz hSw; (try dsimp only at hSw); first | (go_simp; done) | (go_simp; with_reducible rfl))
        try simp only [Act.put, List.getElem_toArray, List.getElem_cons_succ, List.getElem_cons_zero, List.setIfInBounds_toArray, List.set_cons_zero, List.set_cons_succ]
        refine wpAnyH_take (i := 32) (v := ?v74) rfl (by kernel_rfl) (by kernel_rfl) (by kernel_rfl) (fun _ _ _ h => h) (Or.inl ⟨by rfl, ?hy74⟩) (by assumption) ?rest74
        case hy74 => (intro wz hSw; (try dsimp only at hSw); first | (go_simp; done) | (go_simp; with_reducible rfl))
        try simp only [Act.put, List.getElem_toArray, List.getElem_cons_succ, List.getElem_cons_zero, List.setIfInBounds_toArray, List.set_cons_zero, List.set_cons_succ]
        refine wpAnyH_ready (rs := [33]) (by kernel_rfl) (by simp) ?_
        refine AllReadyH.cons (o := _) rfl (fun K hK => ?_) AllReadyH.nil
        go_simp
        (with_reducible refine (works_any _).mono ?_)
        rintro e qw5 ⟨rfl, g⟩
        have Q5 := Lib.hid (gb_trans Q4.out g)
        clear g
        try dsimp only
        refine hK.out _ _ (KQ.out _ Q5.out) (fun hH5 => ?_)
        clear hK K hH4
        try simp only [Act.put, List.getElem_toArray, List.getElem_cons_succ, List.getElem_cons_zero, List.setIfInBounds_toArray, List.set_cons_zero, List.set_cons_succ]
        refine wpAnyH_take (i := 34) (v := ?v75) rfl (by kernel_rfl) (by kernel_rfl) (by kernel_rfl) (fun _ _ _ h => h) (Or.inl ⟨by rfl, ?hy75⟩) (by assumption) ?rest75
        case hy75 => (intro wz hSw; (try dsimp only at hSw); first | (go_simp; done) | (go_simp; with_reducible rfl))
        try simp only [Act.put, List.getElem_toArray, List.getElem_cons_succ, List.getElem_cons_zero, List.setIfInBounds_toArray, List.set_cons_zero, List.set_cons_succ]
        refine wpAnyH_take (i := 35) (v := ?v76) rfl (by kernel_rfl) (by kernel_rfl) (by kernel_rfl) (fun _ _ _ h => h) (Or.inl ⟨by rfl, ?hy76⟩) (by assumption) ?rest76
        case hy76 => (intro wz hSw; (try dsimp only at hSw); first | (go_simp; done) | (go_simp; with_reducible rfl))
        try simp only [Act.put, List.getElem_toArray, List.getElem_cons_succ, List.getElem_cons_zero, List.setIfInBounds_toArray, List.set_cons_zero, List.set_cons_succ]
        refine wpAnyH_done (by kernel_rfl) ?_ _
        clear hH5
        go_wp2
        go_ret
        exact ⟨rfl, gb_trans G1.out (gb_trans G4.out Q5.out)⟩
end Go.Proofs.Ytgdefahnmgonlaa
