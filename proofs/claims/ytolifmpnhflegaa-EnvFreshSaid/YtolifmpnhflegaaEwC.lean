/- Env: the laws Equal, Checks and Operations; no condition. -/
import Derived.Test.YtolifmpnhflegaaEwA
import Derived.Test.YtolifmpnhflegaaEvP
import Derived.Test.YtolifmpnhflegaaEvS
import Derived.Test.YtolifmpnhflegaaEvU
namespace Go.Proofs.Ytolifmpnhflegaa
open Go.RowKit
set_option linter.unusedVariables false
theorem low_of {W W' : World} {b : Bool} {e : Ending} (h : RetV (.bool true) W e W') : e = .returned (.bool true) ∧ Below W.heap.size W W' := ⟨h.1, (gr_gb h.2).below⟩
set_option maxRecDepth 100000 in
set_option maxHeartbeats 4000000 in
theorem equal_walk (w : World) (X Y : EX) (A B : EL) (ha : ER w X A) (hb : ER w Y B) : Calls Try.prog 7 #[.agg #[.slice X.va X.vn X.vc, .slice X.fa X.fn X.fc, .slice X.ta X.tn X.tc, .slice X.pa X.pn X.pc], .agg #[.slice Y.va Y.vn Y.vc, .slice Y.fa Y.fn Y.fc, .slice Y.ta Y.tn Y.tc, .slice Y.pa Y.pn Y.pc]] w (RetV (.bool true) w) := by
  have GZ := Lib.hid (gb_trans (gb_alloc w (.cells #[.slice X.va X.vn X.vc, .slice X.fa X.fn X.fc, .slice X.ta X.tn X.tc, .slice X.pa X.pn X.pc] 37) none) (gb_alloc _ (.cells #[.slice Y.va Y.vn Y.vc, .slice Y.fa Y.fn Y.fc, .slice Y.ta Y.tn Y.tc, .slice Y.pa Y.pn Y.pc] 37) none))
  have BX := (IsB.new w 37 #[.slice X.va X.vn X.vc, .slice X.fa X.fn X.fc, .slice X.ta X.tn X.tc, .slice X.pa X.pn X.pc]).alloc (.cells #[.slice Y.va Y.vn Y.vc, .slice Y.fa Y.fn Y.fc, .slice Y.ta Y.tn Y.tc, .slice Y.pa Y.pn Y.pc] 37)
  have BY := IsB.new (w.alloc (.cells #[.slice X.va X.vn X.vc, .slice X.fa X.fn X.fc, .slice X.ta X.tn X.tc, .slice X.pa X.pn X.pc] 37)) 37 #[.slice Y.va Y.vn Y.vc, .slice Y.fa Y.fn Y.fc, .slice Y.ta Y.tn Y.tc, .slice Y.pa Y.pn Y.pc]
  simp only [sz_al] at BY
  replace BX := Lib.hid BX
  replace BY := Lib.hid BY
  have EA := Lib.hid (fun (W : World) (k : w.grownBy W none) => ha.keep0 k)
  have EB := Lib.hid (fun (W : World) (k : w.grownBy W none) => hb.keep0 k)
  clear ha hb
  go_enter Try.func7, Try.ntmps7
  go_upto_region 1 with fail
  generalize (w.alloc (.cells #[.slice X.va X.vn X.vc, .slice X.fa X.fn X.fc, .slice X.ta X.tn X.tc, .slice X.pa X.pn X.pc] 37)).alloc (.cells #[.slice Y.va Y.vn Y.vc, .slice Y.fa Y.fn Y.fc, .slice Y.ta Y.tn Y.tc, .slice Y.pa Y.pn Y.pc] 37) = w1 at *
  obtain ⟨bx, hbx⟩ : ∃ b, b = w.heap.size := ⟨_, rfl⟩
  have Lbx := Lib.hid (show w.heap.size ≤ bx by rw [hbx]; exact Nat.le_refl _)
  rw [← hbx] at BX BY ⊢
  clear hbx
  clear Lbx
  have KT := Lib.hid (fun (w' : World) (q : w1.grownBy w' none) => (⟨(BX.out.keep0 q).cell 0, (BX.out.keep0 q).cell 1, (BX.out.keep0 q).cell 2, (BX.out.keep0 q).cell 3, (BY.out.keep0 q).cell 0, (BY.out.keep0 q).cell 1, (BY.out.keep0 q).cell 2, (BY.out.keep0 q).cell 3, trivial⟩ : (fun w' : World => w'.cell? ⟨bx, 0, none⟩ = some (.slice X.va X.vn X.vc) ∧ w'.cell? ⟨bx, 1, none⟩ = some (.slice X.fa X.fn X.fc) ∧ w'.cell? ⟨bx, 2, none⟩ = some (.slice X.ta X.tn X.tc) ∧ w'.cell? ⟨bx, 3, none⟩ = some (.slice X.pa X.pn X.pc) ∧ w'.cell? ⟨bx + 1, 0, none⟩ = some (.slice Y.va Y.vn Y.vc) ∧ w'.cell? ⟨bx + 1, 1, none⟩ = some (.slice Y.fa Y.fn Y.fc) ∧ w'.cell? ⟨bx + 1, 2, none⟩ = some (.slice Y.ta Y.tn Y.tc) ∧ w'.cell? ⟨bx + 1, 3, none⟩ = some (.slice Y.pa Y.pn Y.pc) ∧ True) w'))
  replace EA := Lib.hid (fun (W : World) (k : w1.grownBy W none) => EA.out W (gb_trans GZ.out k))
  replace EB := Lib.hid (fun (W : World) (k : w1.grownBy W none) => EB.out W (gb_trans GZ.out k))
  have hS := KT.out w1 (gb_refl _ _)
  obtain ⟨c0, c1, c2, c3, c4, c5, c6, c7, _⟩ := hS
  by_cases sA : sizeE A
  · have LA := Lib.hid (long_any w1 X A (EA.out _ (gb_refl _ _)) false ⟨fun _ => sA, fun _ => rfl⟩)
    go_wp2_with fail
    refine LA.out.mono ?_
    rintro e w2 ⟨rfl, g⟩
    have G2 := Lib.hid g
    clear g LA c0 c1 c2 c3 c4 c5 c6 c7
    have c0 := (BX.out.keep0 G2.out).cell 0
    have c1 := (BX.out.keep0 G2.out).cell 1
    have c2 := (BX.out.keep0 G2.out).cell 2
    have c3 := (BX.out.keep0 G2.out).cell 3
    have c4 := (BY.out.keep0 G2.out).cell 0
    have c5 := (BY.out.keep0 G2.out).cell 1
    have c6 := (BY.out.keep0 G2.out).cell 2
    have c7 := (BY.out.keep0 G2.out).cell 3
    by_cases sB : sizeE B
    · have LB := Lib.hid (long_any w2 Y B (EB.out _ G2.out) false ⟨fun _ => sB, fun _ => rfl⟩)
      have SA := Lib.hid sA
      have SB := Lib.hid sB
      clear sA sB
      go_wp2_with fail
      refine LB.out.mono ?_
      rintro e w4 ⟨rfl, g⟩
      replace GZ := Lib.hid (gb_trans GZ.out (gb_trans G2.out g))
      replace KT := Lib.hid (fun (w' : World) (q : w4.grownBy w' none) => KT.out w' (gb_trans (gb_trans G2.out g) q))
      replace EA := Lib.hid (fun (W : World) (q : w4.grownBy W none) => EA.out W (gb_trans (gb_trans G2.out g) q))
      replace EB := Lib.hid (fun (W : World) (q : w4.grownBy W none) => EB.out W (gb_trans (gb_trans G2.out g) q))
      clear g G2 LB BX BY c0 c1 c2 c3 c4 c5 c6 c7
      obtain ⟨bo, hbo⟩ : ∃ bo : Bool, bo = true ↔ sameE A B := by
        by_cases q : sameE A B
        · exact ⟨true, ⟨fun _ => q, fun _ => rfl⟩⟩
        · exact ⟨false, ⟨fun e => (by cases e), fun e => absurd e q⟩⟩
      have HB := Lib.hid hbo
      clear hbo
      go_upto_region 3 with fail
      cases bo
      · have G0 := Lib.hid (gb_drew w4 none)
        refine wp_region_held_drew (S := (fun w' : World => w'.cell? ⟨bx, 0, none⟩ = some (.slice X.va X.vn X.vc) ∧ w'.cell? ⟨bx, 1, none⟩ = some (.slice X.fa X.fn X.fc) ∧ w'.cell? ⟨bx, 2, none⟩ = some (.slice X.ta X.tn X.tc) ∧ w'.cell? ⟨bx, 3, none⟩ = some (.slice X.pa X.pn X.pc) ∧ w'.cell? ⟨bx + 1, 0, none⟩ = some (.slice Y.va Y.vn Y.vc) ∧ w'.cell? ⟨bx + 1, 1, none⟩ = some (.slice Y.fa Y.fn Y.fc) ∧ w'.cell? ⟨bx + 1, 2, none⟩ = some (.slice Y.ta Y.tn Y.tc) ∧ w'.cell? ⟨bx + 1, 3, none⟩ = some (.slice Y.pa Y.pn Y.pc) ∧ True)) (by kernel_rfl) (KT.out _ G0.out) (fun hH0 => ?_)
        refine wpAnyH_take (i := 0) (v := ?v1) rfl (by kernel_rfl) (by kernel_rfl) (by kernel_rfl) (fun _ _ _ h => h) (Or.inl ⟨by rfl, ?hy1⟩) (by assumption) ?rest1
        case hy1 => (intro wz hSw; (try dsimp only at hSw); first | (go_simp; done) | (go_simp; with_reducible rfl))
        try simp only [Act.put, List.getElem_toArray, List.getElem_cons_zero, List.setIfInBounds_toArray, List.set_cons_zero, List.set_cons_succ]
        refine wpAnyH_take (i := 1) (v := ?v2) rfl (by kernel_rfl) (by kernel_rfl) (by kernel_rfl) (fun _ _ _ h => h) (Or.inl ⟨by rfl, ?hy2⟩) (by assumption) ?rest2
        case hy2 => (intro wz hSw; (try dsimp only at hSw); first | (go_simp; done) | (go_simp; with_reducible rfl))
        try simp only [Act.put, List.getElem_toArray, List.getElem_cons_succ, List.getElem_cons_zero, List.setIfInBounds_toArray, List.set_cons_zero, List.set_cons_succ]
        refine wpAnyH_take (i := 3) (v := ?v3) rfl (by kernel_rfl) (by kernel_rfl) (by kernel_rfl) (fun _ _ _ h => h) (Or.inl ⟨by rfl, ?hy3⟩) (by assumption) ?rest3
        case hy3 => (intro wz hSw; (try dsimp only at hSw); first | (go_simp; done) | (go_simp; with_reducible rfl))
        try simp only [Act.put, List.getElem_toArray, List.getElem_cons_succ, List.getElem_cons_zero, List.setIfInBounds_toArray, List.set_cons_zero, List.set_cons_succ]
        refine wpAnyH_take (i := 4) (v := ?v4) rfl (by kernel_rfl) (by kernel_rfl) (by kernel_rfl) (fun _ _ _ h => h) (Or.inl ⟨by rfl, ?hy4⟩) (by assumption) ?rest4
        case hy4 => (intro wz hSw; (try dsimp only at hSw); first | (go_simp; done) | (go_simp; with_reducible rfl))
        try simp only [Act.put, List.getElem_toArray, List.getElem_cons_succ, List.getElem_cons_zero, List.setIfInBounds_toArray, List.set_cons_zero, List.set_cons_succ]
        refine wpAnyH_ready (rs := [2]) (by kernel_rfl) (by simp) ?_
        refine AllReadyH.cons (o := _) rfl (fun K hK => ?_) AllReadyH.nil
        go_simp
        refine (weq _ X Y A B (EA.out _ G0.out) (EB.out _ G0.out) SA.out SB.out false HB.out).mono ?_
        rintro e wh1 ⟨rfl, g⟩
        have G1 := Lib.hid (gb_trans G0.out g)
        clear g
        try dsimp only
        refine hK.out _ _ (KT.out _ G1.out) (fun hH1 => ?_)
        clear hK K hH0
        try simp only [Act.put, List.getElem_toArray, List.getElem_cons_succ, List.getElem_cons_zero, List.setIfInBounds_toArray, List.set_cons_zero, List.set_cons_succ]
        refine wpAnyH_ready (rs := [5]) (by kernel_rfl) (by simp) ?_
        refine AllReadyH.cons (o := _) rfl (fun K hK => ?_) AllReadyH.nil
        go_simp
        refine (requal_any _ X Y A B (EA.out _ G1.out) (EB.out _ G1.out) (ez_of (EA.out _ G1.out) SA.out) (ez_of (EB.out _ G1.out) SB.out) false HB.out).mono ?_
        rintro e wh2 ⟨rfl, g⟩
        have G2 := Lib.hid (gb_trans G1.out g)
        clear g
        try dsimp only
        refine hK.out _ _ (KT.out _ G2.out) (fun hH2 => ?_)
        clear hK K hH1
        try simp only [Act.put, List.getElem_toArray, List.getElem_cons_succ, List.getElem_cons_zero, List.setIfInBounds_toArray, List.set_cons_zero, List.set_cons_succ]
        refine wpAnyH_take (i := 6) (v := ?v5) rfl (by kernel_rfl) (by kernel_rfl) (by kernel_rfl) (fun _ _ _ h => h) (Or.inl ⟨by rfl, ?hy5⟩) (by assumption) ?rest5
        case hy5 => (intro wz hSw; (try dsimp only at hSw); first | (go_simp; done) | (go_simp; with_reducible rfl))
        try simp only [Act.put, List.getElem_toArray, List.getElem_cons_succ, List.getElem_cons_zero, List.setIfInBounds_toArray, List.set_cons_zero, List.set_cons_succ]
        refine wpAnyH_take (i := 7) (v := ?v6) rfl (by kernel_rfl) (by kernel_rfl) (by kernel_rfl) (fun _ _ _ h => h) (Or.inl ⟨by rfl, ?hy6⟩) (by assumption) ?rest6
        case hy6 => (intro wz hSw; (try dsimp only at hSw); first | (go_simp; done) | (go_simp; with_reducible rfl))
        try simp only [Act.put, List.getElem_toArray, List.getElem_cons_succ, List.getElem_cons_zero, List.setIfInBounds_toArray, List.set_cons_zero, List.set_cons_succ]
        refine wpAnyH_take (i := 8) (v := ?v7) rfl (by kernel_rfl) (by kernel_rfl) (by kernel_rfl) (fun _ _ _ h => h) (Or.inl ⟨by rfl, ?hy7⟩) (by assumption) ?rest7
        case hy7 => (intro wz hSw; (try dsimp only at hSw); first | (go_simp; done) | (go_simp; with_reducible rfl))
        try simp only [Act.put, List.getElem_toArray, List.getElem_cons_succ, List.getElem_cons_zero, List.setIfInBounds_toArray, List.set_cons_zero, List.set_cons_succ]
        refine wpAnyH_take (i := 9) (v := ?v8) rfl (by kernel_rfl) (by kernel_rfl) (by kernel_rfl) (fun _ _ _ h => h) (Or.inl ⟨by rfl, ?hy8⟩) (by assumption) ?rest8
        case hy8 => (intro wz hSw; (try dsimp only at hSw); first | (go_simp; done) | (go_simp; with_reducible rfl))
        try simp only [Act.put, List.getElem_toArray, List.getElem_cons_succ, List.getElem_cons_zero, List.setIfInBounds_toArray, List.set_cons_zero, List.set_cons_succ]
        refine wpAnyH_ready (rs := [10]) (by kernel_rfl) (by simp) ?_
        refine AllReadyH.cons (o := _) rfl (fun K hK => ?_) AllReadyH.nil
        go_simp
        refine (eclone_any _ X A (EA.out _ G2.out) (ez_of (EA.out _ G2.out) SA.out)).mono ?_
        rintro e wh3 ⟨XC, VC, rfl, o, g⟩
        have EC := Lib.hid o.er
        clear o VC
        have G3 := Lib.hid (gb_trans G2.out g)
        clear g
        try dsimp only
        refine hK.out _ _ (KT.out _ G3.out) (fun hH3 => ?_)
        clear hK K hH2
        try simp only [Act.put, List.getElem_toArray, List.getElem_cons_succ, List.getElem_cons_zero, List.setIfInBounds_toArray, List.set_cons_zero, List.set_cons_succ]
        refine wpAnyH_ready (rs := [11]) (by kernel_rfl) (by simp) ?_
        refine AllReadyH.cons (o := _) rfl (fun K hK => ?_) AllReadyH.nil
        go_simp
        refine (weq _ X XC A A (EA.out _ G3.out) EC.out SA.out SA.out true (by simp [sameE])).mono ?_
        rintro e wh4 ⟨rfl, g⟩
        clear EC
        have G4 := Lib.hid (gb_trans G3.out g)
        clear g
        try dsimp only
        refine hK.out _ _ (KT.out _ G4.out) (fun hH4 => ?_)
        clear hK K hH3
        try simp only [Act.put, List.getElem_toArray, List.getElem_cons_succ, List.getElem_cons_zero, List.setIfInBounds_toArray, List.set_cons_zero, List.set_cons_succ]
        refine wpAnyH_take (i := 12) (v := ?v9) rfl (by kernel_rfl) (by kernel_rfl) (by kernel_rfl) (fun _ _ _ h => h) (Or.inl ⟨by rfl, ?hy9⟩) (by assumption) ?rest9
        case hy9 => (intro wz hSw; (try dsimp only at hSw); first | (go_simp; done) | (go_simp; with_reducible rfl))
        try simp only [Act.put, List.getElem_toArray, List.getElem_cons_succ, List.getElem_cons_zero, List.setIfInBounds_toArray, List.set_cons_zero, List.set_cons_succ]
        refine wpAnyH_take (i := 13) (v := ?v10) rfl (by kernel_rfl) (by kernel_rfl) (by kernel_rfl) (fun _ _ _ h => h) (Or.inl ⟨by rfl, ?hy10⟩) (by assumption) ?rest10
        case hy10 => (intro wz hSw; (try dsimp only at hSw); first | (go_simp; done) | (go_simp; with_reducible rfl))
        try simp only [Act.put, List.getElem_toArray, List.getElem_cons_succ, List.getElem_cons_zero, List.setIfInBounds_toArray, List.set_cons_zero, List.set_cons_succ]
        refine wpAnyH_take (i := 14) (v := ?v11) rfl (by kernel_rfl) (by kernel_rfl) (by kernel_rfl) (fun _ _ _ h => h) (Or.inl ⟨by rfl, ?hy11⟩) (by assumption) ?rest11
        case hy11 => (intro wz hSw; (try dsimp only at hSw); first | (go_simp; done) | (go_simp; with_reducible rfl))
        try simp only [Act.put, List.getElem_toArray, List.getElem_cons_succ, List.getElem_cons_zero, List.setIfInBounds_toArray, List.set_cons_zero, List.set_cons_succ]
        refine wpAnyH_take (i := 16) (v := ?v12) rfl (by kernel_rfl) (by kernel_rfl) (by kernel_rfl) (fun _ _ _ h => h) (Or.inl ⟨by rfl, ?hy12⟩) (by assumption) ?rest12
        case hy12 => (intro wz hSw; (try dsimp only at hSw); first | (go_simp; done) | (go_simp; with_reducible rfl))
        try simp only [Act.put, List.getElem_toArray, List.getElem_cons_succ, List.getElem_cons_zero, List.setIfInBounds_toArray, List.set_cons_zero, List.set_cons_succ]
        refine wpAnyH_ready (rs := [15]) (by kernel_rfl) (by simp) ?_
        refine AllReadyH.cons (o := _) rfl (fun K hK => ?_) AllReadyH.nil
        go_simp
        refine (eclone_any _ X A (EA.out _ G4.out) (ez_of (EA.out _ G4.out) SA.out)).mono ?_
        rintro e wh5 ⟨XD, VD, rfl, o, g⟩
        have ED := Lib.hid o.er
        clear o VD
        have G5 := Lib.hid (gb_trans G4.out g)
        clear g
        try dsimp only
        refine hK.out _ _ (KT.out _ G5.out) (fun hH5 => ?_)
        clear hK K hH4
        try simp only [Act.put, List.getElem_toArray, List.getElem_cons_succ, List.getElem_cons_zero, List.setIfInBounds_toArray, List.set_cons_zero, List.set_cons_succ]
        refine wpAnyH_ready (rs := [17]) (by kernel_rfl) (by simp) ?_
        refine AllReadyH.cons (o := _) rfl (fun K hK => ?_) AllReadyH.nil
        go_simp
        refine (requal_any _ XD X A A ED.out (EA.out _ G5.out) (ez_of ED.out SA.out) (ez_of (EA.out _ G5.out) SA.out) true (by simp [sameE])).mono ?_
        rintro e wh6 ⟨rfl, g⟩
        clear ED
        have G6 := Lib.hid (gb_trans G5.out g)
        clear g
        try dsimp only
        refine hK.out _ _ (KT.out _ G6.out) (fun hH6 => ?_)
        clear hK K hH5
        try simp only [Act.put, List.getElem_toArray, List.getElem_cons_succ, List.getElem_cons_zero, List.setIfInBounds_toArray, List.set_cons_zero, List.set_cons_succ]
        refine wpAnyH_take (i := 18) (v := ?v13) rfl (by kernel_rfl) (by kernel_rfl) (by kernel_rfl) (fun _ _ _ h => h) (Or.inl ⟨by rfl, ?hy13⟩) (by assumption) ?rest13
        case hy13 => (intro wz hSw; (try dsimp only at hSw); first | (go_simp; done) | (go_simp; with_reducible rfl))
        try simp only [Act.put, List.getElem_toArray, List.getElem_cons_succ, List.getElem_cons_zero, List.setIfInBounds_toArray, List.set_cons_zero, List.set_cons_succ]
        refine wpAnyH_take (i := 19) (v := ?v14) rfl (by kernel_rfl) (by kernel_rfl) (by kernel_rfl) (fun _ _ _ h => h) (Or.inl ⟨by rfl, ?hy14⟩) (by assumption) ?rest14
        case hy14 => (intro wz hSw; (try dsimp only at hSw); first | (go_simp; done) | (go_simp; with_reducible rfl))
        try simp only [Act.put, List.getElem_toArray, List.getElem_cons_succ, List.getElem_cons_zero, List.setIfInBounds_toArray, List.set_cons_zero, List.set_cons_succ]
        refine wpAnyH_ready (rs := [20]) (by kernel_rfl) (by simp) ?_
        refine AllReadyH.cons (o := _) rfl (fun K hK => ?_) AllReadyH.nil
        go_simp
        refine (works_any _).mono ?_
        rintro e wh7 ⟨rfl, g⟩
        have G7 := Lib.hid (gb_trans G6.out g)
        clear g
        try dsimp only
        refine hK.out _ _ (KT.out _ G7.out) (fun hH7 => ?_)
        clear hK K hH6
        try simp only [Act.put, List.getElem_toArray, List.getElem_cons_succ, List.getElem_cons_zero, List.setIfInBounds_toArray, List.set_cons_zero, List.set_cons_succ]
        refine wpAnyH_take (i := 21) (v := ?v15) rfl (by kernel_rfl) (by kernel_rfl) (by kernel_rfl) (fun _ _ _ h => h) (Or.inl ⟨by rfl, ?hy15⟩) (by assumption) ?rest15
        case hy15 => (intro wz hSw; (try dsimp only at hSw); first | (go_simp; done) | (go_simp; with_reducible rfl))
        try simp only [Act.put, List.getElem_toArray, List.getElem_cons_succ, List.getElem_cons_zero, List.setIfInBounds_toArray, List.set_cons_zero, List.set_cons_succ]
        refine wpAnyH_take (i := 22) (v := ?v16) rfl (by kernel_rfl) (by kernel_rfl) (by kernel_rfl) (fun _ _ _ h => h) (Or.inl ⟨by rfl, ?hy16⟩) (by assumption) ?rest16
        case hy16 => (intro wz hSw; (try dsimp only at hSw); first | (go_simp; done) | (go_simp; with_reducible rfl))
        try simp only [Act.put, List.getElem_toArray, List.getElem_cons_succ, List.getElem_cons_zero, List.setIfInBounds_toArray, List.set_cons_zero, List.set_cons_succ]
        refine wpAnyH_done (by kernel_rfl) ?_ _
        clear hH7
        go_wp2
        go_ret
        exact ⟨rfl, gb_trans GZ.out G7.out⟩
      · have G0 := Lib.hid (gb_drew w4 none)
        refine wp_region_held_drew (S := (fun w' : World => w'.cell? ⟨bx, 0, none⟩ = some (.slice X.va X.vn X.vc) ∧ w'.cell? ⟨bx, 1, none⟩ = some (.slice X.fa X.fn X.fc) ∧ w'.cell? ⟨bx, 2, none⟩ = some (.slice X.ta X.tn X.tc) ∧ w'.cell? ⟨bx, 3, none⟩ = some (.slice X.pa X.pn X.pc) ∧ w'.cell? ⟨bx + 1, 0, none⟩ = some (.slice Y.va Y.vn Y.vc) ∧ w'.cell? ⟨bx + 1, 1, none⟩ = some (.slice Y.fa Y.fn Y.fc) ∧ w'.cell? ⟨bx + 1, 2, none⟩ = some (.slice Y.ta Y.tn Y.tc) ∧ w'.cell? ⟨bx + 1, 3, none⟩ = some (.slice Y.pa Y.pn Y.pc) ∧ True)) (by kernel_rfl) (KT.out _ G0.out) (fun hH0 => ?_)
        refine wpAnyH_take (i := 0) (v := ?v17) rfl (by kernel_rfl) (by kernel_rfl) (by kernel_rfl) (fun _ _ _ h => h) (Or.inl ⟨by rfl, ?hy17⟩) (by assumption) ?rest17
        case hy17 => (intro wz hSw; (try dsimp only at hSw); first | (go_simp; done) | (go_simp; with_reducible rfl))
        try simp only [Act.put, List.getElem_toArray, List.getElem_cons_zero, List.setIfInBounds_toArray, List.set_cons_zero, List.set_cons_succ]
        refine wpAnyH_take (i := 1) (v := ?v18) rfl (by kernel_rfl) (by kernel_rfl) (by kernel_rfl) (fun _ _ _ h => h) (Or.inl ⟨by rfl, ?hy18⟩) (by assumption) ?rest18
        case hy18 => (intro wz hSw; (try dsimp only at hSw); first | (go_simp; done) | (go_simp; with_reducible rfl))
        try simp only [Act.put, List.getElem_toArray, List.getElem_cons_succ, List.getElem_cons_zero, List.setIfInBounds_toArray, List.set_cons_zero, List.set_cons_succ]
        refine wpAnyH_take (i := 3) (v := ?v19) rfl (by kernel_rfl) (by kernel_rfl) (by kernel_rfl) (fun _ _ _ h => h) (Or.inl ⟨by rfl, ?hy19⟩) (by assumption) ?rest19
        case hy19 => (intro wz hSw; (try dsimp only at hSw); first | (go_simp; done) | (go_simp; with_reducible rfl))
        try simp only [Act.put, List.getElem_toArray, List.getElem_cons_succ, List.getElem_cons_zero, List.setIfInBounds_toArray, List.set_cons_zero, List.set_cons_succ]
        refine wpAnyH_take (i := 4) (v := ?v20) rfl (by kernel_rfl) (by kernel_rfl) (by kernel_rfl) (fun _ _ _ h => h) (Or.inl ⟨by rfl, ?hy20⟩) (by assumption) ?rest20
        case hy20 => (intro wz hSw; (try dsimp only at hSw); first | (go_simp; done) | (go_simp; with_reducible rfl))
        try simp only [Act.put, List.getElem_toArray, List.getElem_cons_succ, List.getElem_cons_zero, List.setIfInBounds_toArray, List.set_cons_zero, List.set_cons_succ]
        refine wpAnyH_ready (rs := [2]) (by kernel_rfl) (by simp) ?_
        refine AllReadyH.cons (o := _) rfl (fun K hK => ?_) AllReadyH.nil
        go_simp
        refine (weq _ X Y A B (EA.out _ G0.out) (EB.out _ G0.out) SA.out SB.out true HB.out).mono ?_
        rintro e wh1 ⟨rfl, g⟩
        have G1 := Lib.hid (gb_trans G0.out g)
        clear g
        try dsimp only
        refine hK.out _ _ (KT.out _ G1.out) (fun hH1 => ?_)
        clear hK K hH0
        try simp only [Act.put, List.getElem_toArray, List.getElem_cons_succ, List.getElem_cons_zero, List.setIfInBounds_toArray, List.set_cons_zero, List.set_cons_succ]
        refine wpAnyH_ready (rs := [5]) (by kernel_rfl) (by simp) ?_
        refine AllReadyH.cons (o := _) rfl (fun K hK => ?_) AllReadyH.nil
        go_simp
        refine (requal_any _ X Y A B (EA.out _ G1.out) (EB.out _ G1.out) (ez_of (EA.out _ G1.out) SA.out) (ez_of (EB.out _ G1.out) SB.out) true HB.out).mono ?_
        rintro e wh2 ⟨rfl, g⟩
        have G2 := Lib.hid (gb_trans G1.out g)
        clear g
        try dsimp only
        refine hK.out _ _ (KT.out _ G2.out) (fun hH2 => ?_)
        clear hK K hH1
        try simp only [Act.put, List.getElem_toArray, List.getElem_cons_succ, List.getElem_cons_zero, List.setIfInBounds_toArray, List.set_cons_zero, List.set_cons_succ]
        refine wpAnyH_take (i := 6) (v := ?v21) rfl (by kernel_rfl) (by kernel_rfl) (by kernel_rfl) (fun _ _ _ h => h) (Or.inl ⟨by rfl, ?hy21⟩) (by assumption) ?rest21
        case hy21 => (intro wz hSw; (try dsimp only at hSw); first | (go_simp; done) | (go_simp; with_reducible rfl))
        try simp only [Act.put, List.getElem_toArray, List.getElem_cons_succ, List.getElem_cons_zero, List.setIfInBounds_toArray, List.set_cons_zero, List.set_cons_succ]
        refine wpAnyH_take (i := 7) (v := ?v22) rfl (by kernel_rfl) (by kernel_rfl) (by kernel_rfl) (fun _ _ _ h => h) (Or.inl ⟨by rfl, ?hy22⟩) (by assumption) ?rest22
        case hy22 => (intro wz hSw; (try dsimp only at hSw); first | (go_simp; done) | (go_simp; with_reducible rfl))
        try simp only [Act.put, List.getElem_toArray, List.getElem_cons_succ, List.getElem_cons_zero, List.setIfInBounds_toArray, List.set_cons_zero, List.set_cons_succ]
        refine wpAnyH_take (i := 8) (v := ?v23) rfl (by kernel_rfl) (by kernel_rfl) (by kernel_rfl) (fun _ _ _ h => h) (Or.inl ⟨by rfl, ?hy23⟩) (by assumption) ?rest23
        case hy23 => (intro wz hSw; (try dsimp only at hSw); first | (go_simp; done) | (go_simp; with_reducible rfl))
        try simp only [Act.put, List.getElem_toArray, List.getElem_cons_succ, List.getElem_cons_zero, List.setIfInBounds_toArray, List.set_cons_zero, List.set_cons_succ]
        refine wpAnyH_take (i := 9) (v := ?v24) rfl (by kernel_rfl) (by kernel_rfl) (by kernel_rfl) (fun _ _ _ h => h) (Or.inl ⟨by rfl, ?hy24⟩) (by assumption) ?rest24
        case hy24 => (intro wz hSw; (try dsimp only at hSw); first | (go_simp; done) | (go_simp; with_reducible rfl))
        try simp only [Act.put, List.getElem_toArray, List.getElem_cons_succ, List.getElem_cons_zero, List.setIfInBounds_toArray, List.set_cons_zero, List.set_cons_succ]
        refine wpAnyH_ready (rs := [10]) (by kernel_rfl) (by simp) ?_
        refine AllReadyH.cons (o := _) rfl (fun K hK => ?_) AllReadyH.nil
        go_simp
        refine (eclone_any _ X A (EA.out _ G2.out) (ez_of (EA.out _ G2.out) SA.out)).mono ?_
        rintro e wh3 ⟨XC, VC, rfl, o, g⟩
        have EC := Lib.hid o.er
        clear o VC
        have G3 := Lib.hid (gb_trans G2.out g)
        clear g
        try dsimp only
        refine hK.out _ _ (KT.out _ G3.out) (fun hH3 => ?_)
        clear hK K hH2
        try simp only [Act.put, List.getElem_toArray, List.getElem_cons_succ, List.getElem_cons_zero, List.setIfInBounds_toArray, List.set_cons_zero, List.set_cons_succ]
        refine wpAnyH_ready (rs := [11]) (by kernel_rfl) (by simp) ?_
        refine AllReadyH.cons (o := _) rfl (fun K hK => ?_) AllReadyH.nil
        go_simp
        refine (weq _ X XC A A (EA.out _ G3.out) EC.out SA.out SA.out true (by simp [sameE])).mono ?_
        rintro e wh4 ⟨rfl, g⟩
        clear EC
        have G4 := Lib.hid (gb_trans G3.out g)
        clear g
        try dsimp only
        refine hK.out _ _ (KT.out _ G4.out) (fun hH4 => ?_)
        clear hK K hH3
        try simp only [Act.put, List.getElem_toArray, List.getElem_cons_succ, List.getElem_cons_zero, List.setIfInBounds_toArray, List.set_cons_zero, List.set_cons_succ]
        refine wpAnyH_take (i := 12) (v := ?v25) rfl (by kernel_rfl) (by kernel_rfl) (by kernel_rfl) (fun _ _ _ h => h) (Or.inl ⟨by rfl, ?hy25⟩) (by assumption) ?rest25
        case hy25 => (intro wz hSw; (try dsimp only at hSw); first | (go_simp; done) | (go_simp; with_reducible rfl))
        try simp only [Act.put, List.getElem_toArray, List.getElem_cons_succ, List.getElem_cons_zero, List.setIfInBounds_toArray, List.set_cons_zero, List.set_cons_succ]
        refine wpAnyH_take (i := 13) (v := ?v26) rfl (by kernel_rfl) (by kernel_rfl) (by kernel_rfl) (fun _ _ _ h => h) (Or.inl ⟨by rfl, ?hy26⟩) (by assumption) ?rest26
        case hy26 => (intro wz hSw; (try dsimp only at hSw); first | (go_simp; done) | (go_simp; with_reducible rfl))
        try simp only [Act.put, List.getElem_toArray, List.getElem_cons_succ, List.getElem_cons_zero, List.setIfInBounds_toArray, List.set_cons_zero, List.set_cons_succ]
        refine wpAnyH_take (i := 14) (v := ?v27) rfl (by kernel_rfl) (by kernel_rfl) (by kernel_rfl) (fun _ _ _ h => h) (Or.inl ⟨by rfl, ?hy27⟩) (by assumption) ?rest27
        case hy27 => (intro wz hSw; (try dsimp only at hSw); first | (go_simp; done) | (go_simp; with_reducible rfl))
        try simp only [Act.put, List.getElem_toArray, List.getElem_cons_succ, List.getElem_cons_zero, List.setIfInBounds_toArray, List.set_cons_zero, List.set_cons_succ]
        refine wpAnyH_take (i := 16) (v := ?v28) rfl (by kernel_rfl) (by kernel_rfl) (by kernel_rfl) (fun _ _ _ h => h) (Or.inl ⟨by rfl, ?hy28⟩) (by assumption) ?rest28
        case hy28 => (intro wz hSw; (try dsimp only at hSw); first | (go_simp; done) | (go_simp; with_reducible rfl))
        try simp only [Act.put, List.getElem_toArray, List.getElem_cons_succ, List.getElem_cons_zero, List.setIfInBounds_toArray, List.set_cons_zero, List.set_cons_succ]
        refine wpAnyH_ready (rs := [15]) (by kernel_rfl) (by simp) ?_
        refine AllReadyH.cons (o := _) rfl (fun K hK => ?_) AllReadyH.nil
        go_simp
        refine (eclone_any _ X A (EA.out _ G4.out) (ez_of (EA.out _ G4.out) SA.out)).mono ?_
        rintro e wh5 ⟨XD, VD, rfl, o, g⟩
        have ED := Lib.hid o.er
        clear o VD
        have G5 := Lib.hid (gb_trans G4.out g)
        clear g
        try dsimp only
        refine hK.out _ _ (KT.out _ G5.out) (fun hH5 => ?_)
        clear hK K hH4
        try simp only [Act.put, List.getElem_toArray, List.getElem_cons_succ, List.getElem_cons_zero, List.setIfInBounds_toArray, List.set_cons_zero, List.set_cons_succ]
        refine wpAnyH_ready (rs := [17]) (by kernel_rfl) (by simp) ?_
        refine AllReadyH.cons (o := _) rfl (fun K hK => ?_) AllReadyH.nil
        go_simp
        refine (requal_any _ XD X A A ED.out (EA.out _ G5.out) (ez_of ED.out SA.out) (ez_of (EA.out _ G5.out) SA.out) true (by simp [sameE])).mono ?_
        rintro e wh6 ⟨rfl, g⟩
        clear ED
        have G6 := Lib.hid (gb_trans G5.out g)
        clear g
        try dsimp only
        refine hK.out _ _ (KT.out _ G6.out) (fun hH6 => ?_)
        clear hK K hH5
        try simp only [Act.put, List.getElem_toArray, List.getElem_cons_succ, List.getElem_cons_zero, List.setIfInBounds_toArray, List.set_cons_zero, List.set_cons_succ]
        refine wpAnyH_take (i := 18) (v := ?v29) rfl (by kernel_rfl) (by kernel_rfl) (by kernel_rfl) (fun _ _ _ h => h) (Or.inl ⟨by rfl, ?hy29⟩) (by assumption) ?rest29
        case hy29 => (intro wz hSw; (try dsimp only at hSw); first | (go_simp; done) | (go_simp; with_reducible rfl))
        try simp only [Act.put, List.getElem_toArray, List.getElem_cons_succ, List.getElem_cons_zero, List.setIfInBounds_toArray, List.set_cons_zero, List.set_cons_succ]
        refine wpAnyH_take (i := 19) (v := ?v30) rfl (by kernel_rfl) (by kernel_rfl) (by kernel_rfl) (fun _ _ _ h => h) (Or.inl ⟨by rfl, ?hy30⟩) (by assumption) ?rest30
        case hy30 => (intro wz hSw; (try dsimp only at hSw); first | (go_simp; done) | (go_simp; with_reducible rfl))
        try simp only [Act.put, List.getElem_toArray, List.getElem_cons_succ, List.getElem_cons_zero, List.setIfInBounds_toArray, List.set_cons_zero, List.set_cons_succ]
        refine wpAnyH_ready (rs := [20]) (by kernel_rfl) (by simp) ?_
        refine AllReadyH.cons (o := _) rfl (fun K hK => ?_) AllReadyH.nil
        go_simp
        refine (works_any _).mono ?_
        rintro e wh7 ⟨rfl, g⟩
        have G7 := Lib.hid (gb_trans G6.out g)
        clear g
        try dsimp only
        refine hK.out _ _ (KT.out _ G7.out) (fun hH7 => ?_)
        clear hK K hH6
        try simp only [Act.put, List.getElem_toArray, List.getElem_cons_succ, List.getElem_cons_zero, List.setIfInBounds_toArray, List.set_cons_zero, List.set_cons_succ]
        refine wpAnyH_take (i := 21) (v := ?v31) rfl (by kernel_rfl) (by kernel_rfl) (by kernel_rfl) (fun _ _ _ h => h) (Or.inl ⟨by rfl, ?hy31⟩) (by assumption) ?rest31
        case hy31 => (intro wz hSw; (try dsimp only at hSw); first | (go_simp; done) | (go_simp; with_reducible rfl))
        try simp only [Act.put, List.getElem_toArray, List.getElem_cons_succ, List.getElem_cons_zero, List.setIfInBounds_toArray, List.set_cons_zero, List.set_cons_succ]
        refine wpAnyH_take (i := 22) (v := ?v32) rfl (by kernel_rfl) (by kernel_rfl) (by kernel_rfl) (fun _ _ _ h => h) (Or.inl ⟨by rfl, ?hy32⟩) (by assumption) ?rest32
        case hy32 => (intro wz hSw; (try dsimp only at hSw); first | (go_simp; done) | (go_simp; with_reducible rfl))
        try simp only [Act.put, List.getElem_toArray, List.getElem_cons_succ, List.getElem_cons_zero, List.setIfInBounds_toArray, List.set_cons_zero, List.set_cons_succ]
        refine wpAnyH_done (by kernel_rfl) ?_ _
        clear hH7
        go_wp2
        go_ret
        exact ⟨rfl, gb_trans GZ.out G7.out⟩
    · have LB := Lib.hid (long_any w2 Y B (EB.out _ G2.out) true ⟨fun e => (by cases e), fun q => absurd q sB⟩)
      clear sA sB
      go_wp2_with fail
      refine LB.out.mono ?_
      rintro e w4 ⟨rfl, g⟩
      replace GZ := Lib.hid (gb_trans GZ.out (gb_trans G2.out g))
      clear g
      go_wp2_with fail
      refine (works_any _).mono ?_
      rintro e w3 ⟨rfl, g⟩
      have G3 := Lib.hid (gb_trans GZ.out g)
      clear g
      go_wp2
      go_ret
      exact ⟨rfl, G3.out⟩
  · have LA := Lib.hid (long_any w1 X A (EA.out _ (gb_refl _ _)) true ⟨fun e => (by cases e), fun q => absurd q sA⟩)
    clear sA
    go_wp2_with fail
    refine LA.out.mono ?_
    rintro e w2 ⟨rfl, g⟩
    replace GZ := Lib.hid (gb_trans GZ.out g)
    clear g
    go_wp2_with fail
    refine (works_any _).mono ?_
    rintro e w3 ⟨rfl, g⟩
    have G3 := Lib.hid (gb_trans GZ.out g)
    clear g
    go_wp2
    go_ret
    exact ⟨rfl, G3.out⟩
end Go.Proofs.Ytolifmpnhflegaa
