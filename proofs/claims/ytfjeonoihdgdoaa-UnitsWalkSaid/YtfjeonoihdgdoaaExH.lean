/- Expr: fields and leaves; no condition. -/
import Derived.Test.YtfjeonoihdgdoaaExG
namespace Go.Proofs.Ytfjeonoihdgdoaa
open Go.RowKit
set_option linter.unusedVariables false
set_option maxRecDepth 100000 in
set_option maxHeartbeats 16000000 in
theorem kfield_any (w : World) (g : Nat) (X : KX) (k : Nat) (C : Cx) (N : List Nd) (hB : IsB w g 85 (kc X k)) (hC : CR w X C N) (h f : Int) :
    Calls Try.prog 98 #[.pointer (some ⟨g, 0, none⟩), .agg #[.int .i64 h, .int .i64 f]] w (RetT (fieldT C h f) w) := by
  have BK := Lib.hid hB
  have HDD := Lib.hid hC.hd
  have MDD := Lib.hid hC.md
  have VD := Lib.hid hC.vd
  have FD := Lib.hid hC.fd
  have TD := Lib.hid hC.td
  have HD := Lib.hid (show fieldT C h f = if isX f (dfs C.H C.M h).length = true then (if widE C.H C.M h f = 0 then .error 10 else .ok (widE C.H C.M h f, redB (getE C.V C.F C.T h f) (widE C.H C.M h f))) else .error 8 from rfl)
  have RG := Lib.hid (show 0 ≤ getE C.V C.F C.T h f ∧ getE C.V C.F C.T h f < 4294967296 by
    unfold getE
    split
    · unfold vls
      split
      · exact TD.out.at_ _
      · split
        · rename_i hx
          obtain ⟨j, rfl, hj⟩ := isx_nat hx
          obtain ⟨ad, ha⟩ := FD.out.some (by rw [← FD.out.len]; omega)
          obtain ⟨a1, a2, a3, _, su⟩ := FD.out.cells ad ha j (by rw [← FD.out.len]; exact hj)
          rw [Int.toNat_natCast]
          exact su.at_ _
        · simp
    · exact ⟨Int.le_refl _, by decide⟩)
  have FC := Lib.hid (fun (w2 : World) (gk : w.grownBy w2 none) => hasf_any w2 (.string X.nm) (.slice X.a0 X.n0 X.c0) (.slice X.a1 X.n1 X.c1) (.slice X.a2 X.n2 X.c2) (.slice X.a3 X.n3 X.c3) (.slice X.a4 X.n4 X.c4) (.slice X.a5 X.n5 X.c5) X.ha X.ma X.hn X.hc X.mn X.mc C.H C.M (HDD.out.keep0 gk) (MDD.out.keep0 gk) h f)
  have WC := Lib.hid (fun (w2 : World) (gk : w.grownBy w2 none) => ewid_any w2 (.string X.nm) (.slice X.a0 X.n0 X.c0) (.slice X.a1 X.n1 X.c1) (.slice X.a2 X.n2 X.c2) (.slice X.a3 X.n3 X.c3) (.slice X.a4 X.n4 X.c4) (.slice X.a5 X.n5 X.c5) X.ha X.ma X.hn X.hc X.mn X.mc C.H C.M (HDD.out.keep0 gk) (MDD.out.keep0 gk) h f)
  have GC := Lib.hid (fun (w2 : World) (gk : w.grownBy w2 none) => eget_any w2 (.slice X.la X.ln X.lc) X.va X.fa X.ta X.vn X.vc X.fn X.fc X.tn X.tc C.V C.F C.T (VD.out.keep0 gk) (FD.out.keep0 gk) (TD.out.keep0 gk) h f)
  unfold RetV at FC WC GC
  generalize widE C.H C.M h f = wd at *
  generalize getE C.V C.F C.T h f = vl at *
  generalize isX f (dfs C.H C.M h).length = ob at *
  clear hB hC
  obtain ⟨W2, hW2⟩ : ∃ W2, W2 = ((w.alloc (.cells #[.int .i64 h, .int .i64 f] 102)).alloc (.cells #[.int .i64 0, .int .u32 0] 88)) := ⟨_, rfl⟩
  have G2 := Lib.hid (show w.grownBy W2 none from by rw [hW2]; exact gb_al (gb_al (gb_refl _ _)))
  obtain ⟨A, hA⟩ : ∃ A, A = w.heap.size := ⟨_, rfl⟩
  have HA := Lib.hid (show w.heap.size ≤ A by omega)
  have B0 := Lib.hid (show IsB W2 A 102 #[.int .i64 h, .int .i64 f] from by rw [hW2, hA]; exact isb_al (isb1 _ _ _ ))
  have B1 := Lib.hid (show IsB W2 (A + 1) 88 #[.int .i64 0, .int .u32 0] from by rw [hW2, hA]; exact isb2 _ _ _  _)
  go_enter Try.func98, Try.ntmps98
  go_upto_region 1 with fail
  rw [← hW2, ← hA]
  clear hW2 hA
  have BW := Lib.hid (BK.out.keep0 G2.out)
  have wc2 : W2.cell? ⟨g, 2, none⟩ = some (.string X.nm) := (BW.out).cell 2
  have wc3 : W2.cell? ⟨g, 3, none⟩ = some (.slice X.ha X.hn X.hc) := (BW.out).cell 3
  have wc4 : W2.cell? ⟨g, 4, none⟩ = some (.slice X.ma X.mn X.mc) := (BW.out).cell 4
  have wc5 : W2.cell? ⟨g, 5, none⟩ = some (.slice X.a0 X.n0 X.c0) := (BW.out).cell 5
  have wc6 : W2.cell? ⟨g, 6, none⟩ = some (.slice X.a1 X.n1 X.c1) := (BW.out).cell 6
  have wc7 : W2.cell? ⟨g, 7, none⟩ = some (.slice X.a2 X.n2 X.c2) := (BW.out).cell 7
  have wc8 : W2.cell? ⟨g, 8, none⟩ = some (.slice X.a3 X.n3 X.c3) := (BW.out).cell 8
  have wc9 : W2.cell? ⟨g, 9, none⟩ = some (.slice X.a4 X.n4 X.c4) := (BW.out).cell 9
  have wc10 : W2.cell? ⟨g, 10, none⟩ = some (.slice X.a5 X.n5 X.c5) := (BW.out).cell 10
  have k00 := (B0.out).cell 0
  have k01 := (B0.out).cell 1
  simp at k00 k01
  have k10 := ((B1.out)).cell 0
  have k11 := ((B1.out)).cell 1
  simp at k10 k11
  have f10 := ((B1.out)).free 0
  have f11 := ((B1.out)).free 1
  go_wp2_with fail
  go_still_tail 6, (by kernel_rfl)
  change wpList _ _ _ _ _ W2.drew
  go_wp2_with fail
  refine (FC.out _ (gb_dr1 G2.out)).mono ?_
  rintro e w3 ⟨rfl, gx⟩
  have g3 := gb_trans (gb_drew W2 none) gx
  have G3 := Lib.hid (gb_trans G2.out g3)
  clear wc2 wc3 wc4 wc5 wc6 wc7 wc8 wc9 wc10 k00 k01 k10 k11 f10 f11 FC
  have BR3 := Lib.hid (B0.out.keep0 g3)
  have BP3 := Lib.hid (B1.out.keep0 g3)
  cases ob with
  | false =>
    rw [if_neg (by decide)] at HD
    have k10 := ((B1.out.keep0 g3)).cell 0
    have k11 := ((B1.out.keep0 g3)).cell 1
    simp at k10 k11
    have f10 := ((B1.out.keep0 g3)).free 0
    have f11 := ((B1.out.keep0 g3)).free 1
    clear gx g3
    go_wp2
    (try simp only [Exit.inBlock, Exit.then])
    refine bodyPost_ret (v := (.tuple #[.agg #[.int .i64 (0), .int .u32 (0)], .int .i64 (8)])) (by rw [results_cell_tmp rfl]; go_simp) rfl ⟨by rw [HD.out] <;> rfl, ?_⟩
    exact gb_put (gb_put (G3.out) (by have := HA.out; omega)) (by have := HA.out; omega)
  | true =>
    rw [if_pos rfl] at HD
    have wc2 : w3.cell? ⟨g, 2, none⟩ = some (.string X.nm) := (BW.out.keep0 g3).cell 2
    have wc3 : w3.cell? ⟨g, 3, none⟩ = some (.slice X.ha X.hn X.hc) := (BW.out.keep0 g3).cell 3
    have wc4 : w3.cell? ⟨g, 4, none⟩ = some (.slice X.ma X.mn X.mc) := (BW.out.keep0 g3).cell 4
    have wc5 : w3.cell? ⟨g, 5, none⟩ = some (.slice X.a0 X.n0 X.c0) := (BW.out.keep0 g3).cell 5
    have wc6 : w3.cell? ⟨g, 6, none⟩ = some (.slice X.a1 X.n1 X.c1) := (BW.out.keep0 g3).cell 6
    have wc7 : w3.cell? ⟨g, 7, none⟩ = some (.slice X.a2 X.n2 X.c2) := (BW.out.keep0 g3).cell 7
    have wc8 : w3.cell? ⟨g, 8, none⟩ = some (.slice X.a3 X.n3 X.c3) := (BW.out.keep0 g3).cell 8
    have wc9 : w3.cell? ⟨g, 9, none⟩ = some (.slice X.a4 X.n4 X.c4) := (BW.out.keep0 g3).cell 9
    have wc10 : w3.cell? ⟨g, 10, none⟩ = some (.slice X.a5 X.n5 X.c5) := (BW.out.keep0 g3).cell 10
    have k00 := ((B0.out.keep0 g3)).cell 0
    have k01 := ((B0.out.keep0 g3)).cell 1
    simp at k00 k01
    clear gx
    go_wp2_with fail
    go_still_tail 6, (by kernel_rfl)
    change wpList _ _ _ _ _ w3.drew
    go_wp2_with fail
    refine (WC.out _ (gb_dr1 G3.out)).mono ?_
    rintro e w4 ⟨rfl, gx⟩
    have g4 := gb_trans (gb_drew w3 none) gx
    have G4 := Lib.hid (gb_trans G3.out g4)
    clear wc2 wc3 wc4 wc5 wc6 wc7 wc8 wc9 wc10 k00 k01 WC
    by_cases hz : wd = 0
    · subst hz
      rw [if_pos rfl] at HD
      have BP4 := BP3.out.keep0 g4
      have k10 := BP4.cell 0
      have k11 := BP4.cell 1
      have f10 := BP4.free 0
      have f11 := BP4.free 1
      simp at k10 k11
      clear gx g3 g4 BP4
      go_wp2
      (try simp only [Exit.inBlock, Exit.then])
      refine bodyPost_ret (v := (.tuple #[.agg #[.int .i64 (0), .int .u32 (0)], .int .i64 (10)])) (by rw [results_cell_tmp rfl]; go_simp) rfl ⟨by rw [HD.out] <;> rfl, ?_⟩
      exact gb_put (gb_put (G4.out) (by have := HA.out; omega)) (by have := HA.out; omega)
    · rw [if_neg hz] at HD
      have z1 : (wd == 0) = false := by rw [beq_eq_false_iff_ne]; exact hz
      have z2 : decide (wd = 0) = false := decide_eq_false hz
      have AM := and_mask vl wd RG.out.1 RG.out.2
      have MK := Lib.hid (fun W => mask_any wd W)
      unfold Ret at MK
      generalize redB vl wd = r at *
      generalize mkB wd = mk at *
      have BR4 := Lib.hid (BR3.out.keep0 g4)
      have BP4 := Lib.hid (BP3.out.keep0 g4)
      have k00 := BR4.out.cell 0
      have k01 := BR4.out.cell 1
      simp at k00 k01
      clear gx g3 g4
      go_upto_region 6 with fail
      have KT := Lib.hid (fun (w' : World) (gk : w.grownBy w' none) (hR : IsB w' A 102 #[.int .i64 h, .int .i64 f]) => (⟨(BK.out.keep0 gk).cell 12, (BK.out.keep0 gk).cell 13, (BK.out.keep0 gk).cell 14, (BK.out.keep0 gk).cell 15, by simpa using hR.cell 0, by simpa using hR.cell 1, trivial⟩ : (fun w' : World => w'.cell? ⟨g, 12, none⟩ = some (.slice X.va X.vn X.vc) ∧ w'.cell? ⟨g, 13, none⟩ = some (.slice X.fa X.fn X.fc) ∧ w'.cell? ⟨g, 14, none⟩ = some (.slice X.ta X.tn X.tc) ∧ w'.cell? ⟨g, 15, none⟩ = some (.slice X.la X.ln X.lc) ∧ w'.cell? ⟨A, 0, none⟩ = some (.int .i64 h) ∧ w'.cell? ⟨A, 1, none⟩ = some (.int .i64 f) ∧ True) w'))
      refine wp_region_held_drew (S := (fun w' : World => w'.cell? ⟨g, 12, none⟩ = some (.slice X.va X.vn X.vc) ∧ w'.cell? ⟨g, 13, none⟩ = some (.slice X.fa X.fn X.fc) ∧ w'.cell? ⟨g, 14, none⟩ = some (.slice X.ta X.tn X.tc) ∧ w'.cell? ⟨g, 15, none⟩ = some (.slice X.la X.ln X.lc) ∧ w'.cell? ⟨A, 0, none⟩ = some (.int .i64 h) ∧ w'.cell? ⟨A, 1, none⟩ = some (.int .i64 f) ∧ True)) (by kernel_rfl) (KT.out _ (gb_trans G4.out (gb_drew _ none)) (BR4.out.keep0 (gb_drew _ none))) (fun hH0 => ?_)
      refine wpAnyH_take (i := 0) (v := ?v1) rfl (by kernel_rfl) (by kernel_rfl) (by kernel_rfl) (fun _ _ _ h => h) (Or.inl ⟨by rfl, ?hy1⟩) (by assumption) ?rest1
      case hy1 => (intro wz hSw; (try dsimp only at hSw); first | (go_simp; done) | (go_simp; with_reducible rfl))
      try simp only [Act.put, List.getElem_toArray, List.getElem_cons_zero, List.setIfInBounds_toArray, List.set_cons_zero, List.set_cons_succ]
      refine wpAnyH_take (i := 1) (v := ?v2) rfl (by kernel_rfl) (by kernel_rfl) (by kernel_rfl) (fun _ _ _ h => h) (Or.inl ⟨by rfl, ?hy2⟩) (by assumption) ?rest2
      case hy2 => (intro wz hSw; (try dsimp only at hSw); first | (go_simp; done) | (go_simp; with_reducible rfl))
      try simp only [Act.put, List.getElem_toArray, List.getElem_cons_succ, List.getElem_cons_zero, List.setIfInBounds_toArray, List.set_cons_zero, List.set_cons_succ]
      refine wpAnyH_take (i := 2) (v := ?v3) rfl (by kernel_rfl) (by kernel_rfl) (by kernel_rfl) (fun _ _ _ h => h) (Or.inl ⟨by rfl, ?hy3⟩) (by assumption) ?rest3
      case hy3 => (intro wz hSw; (try dsimp only at hSw); first | (go_simp; done) | (go_simp; with_reducible rfl))
      try simp only [Act.put, List.getElem_toArray, List.getElem_cons_succ, List.getElem_cons_zero, List.setIfInBounds_toArray, List.set_cons_zero, List.set_cons_succ]
      refine wpAnyH_take (i := 3) (v := ?v4) rfl (by kernel_rfl) (by kernel_rfl) (by kernel_rfl) (fun _ _ _ h => h) (Or.inl ⟨by rfl, ?hy4⟩) (by assumption) ?rest4
      case hy4 => (intro wz hSw; (try dsimp only at hSw); first | (go_simp; done) | (go_simp; with_reducible rfl))
      try simp only [Act.put, List.getElem_toArray, List.getElem_cons_succ, List.getElem_cons_zero, List.setIfInBounds_toArray, List.set_cons_zero, List.set_cons_succ]
      refine wpAnyH_take (i := 4) (v := ?v5) rfl (by kernel_rfl) (by kernel_rfl) (by kernel_rfl) (fun _ _ _ h => h) (Or.inl ⟨by rfl, ?hy5⟩) (by assumption) ?rest5
      case hy5 => (intro wz hSw; (try dsimp only at hSw); first | (go_simp; done) | (go_simp; with_reducible rfl))
      try simp only [Act.put, List.getElem_toArray, List.getElem_cons_succ, List.getElem_cons_zero, List.setIfInBounds_toArray, List.set_cons_zero, List.set_cons_succ]
      refine wpAnyH_take (i := 5) (v := ?v6) rfl (by kernel_rfl) (by kernel_rfl) (by kernel_rfl) (fun _ _ _ h => h) (Or.inl ⟨by rfl, ?hy6⟩) (by assumption) ?rest6
      case hy6 => (intro wz hSw; (try dsimp only at hSw); first | (go_simp; done) | (go_simp; with_reducible rfl))
      try simp only [Act.put, List.getElem_toArray, List.getElem_cons_succ, List.getElem_cons_zero, List.setIfInBounds_toArray, List.set_cons_zero, List.set_cons_succ]
      refine wpAnyH_take (i := 7) (v := ?v7) rfl (by kernel_rfl) (by kernel_rfl) (by kernel_rfl) (fun _ _ _ h => h) (Or.inl ⟨by rfl, ?hy7⟩) (by assumption) ?rest7
      case hy7 => (intro wz hSw; (try dsimp only at hSw); first | (go_simp; done) | (go_simp; with_reducible rfl))
      try simp only [Act.put, List.getElem_toArray, List.getElem_cons_succ, List.getElem_cons_zero, List.setIfInBounds_toArray, List.set_cons_zero, List.set_cons_succ]
      refine wpAnyH_ready (rs := [6]) (by kernel_rfl) (by simp) ?_
      refine AllReadyH.cons (o := _) rfl (fun K hK => ?_) AllReadyH.nil
      go_simp
      refine (GC.out _ (gb_dr1 G4.out)).mono ?_
      rintro e w5 ⟨rfl, g5⟩
      have GW0 := gb_trans (gb_drew _ none) g5
      try dsimp only
      refine hK.out _ _ (KT.out _ (gb_trans G4.out GW0) (BR4.out.keep0 GW0)) (fun hH1 => ?_)
      clear hK K hH0
      try simp only [Act.put, List.getElem_toArray, List.getElem_cons_succ, List.getElem_cons_zero, List.setIfInBounds_toArray, List.set_cons_zero, List.set_cons_succ]
      refine wpAnyH_ready (rs := [8]) (by kernel_rfl) (by simp) ?_
      refine AllReadyH.cons (o := _) rfl (fun K hK => ?_) AllReadyH.nil
      go_simp
      refine (MK.out _).mono ?_
      rintro e w6 ⟨rfl, g6⟩
      have GW1 := gb_trans GW0 (gb_gr g6 none)
      try dsimp only
      refine hK.out _ _ (KT.out _ (gb_trans G4.out GW1) (BR4.out.keep0 GW1)) (fun hH2 => ?_)
      clear hK K hH1
      try simp only [Act.put, List.getElem_toArray, List.getElem_cons_succ, List.getElem_cons_zero, List.setIfInBounds_toArray, List.set_cons_zero, List.set_cons_succ]
      refine wpAnyH_take (i := 9) (v := ?v8) rfl (by kernel_rfl) (by kernel_rfl) (by kernel_rfl) (fun _ _ _ h => h) (Or.inl ⟨by rfl, ?hy8⟩) (by assumption) ?rest8
      case hy8 => (intro wz hSw; (try dsimp only at hSw); first | (go_simp; done) | (go_simp; with_reducible rfl))
      try simp only [Act.put, List.getElem_toArray, List.getElem_cons_succ, List.getElem_cons_zero, List.setIfInBounds_toArray, List.set_cons_zero, List.set_cons_succ]
      refine wpAnyH_take (i := 10) (v := ?v9) rfl (by kernel_rfl) (by kernel_rfl) (by kernel_rfl) (fun _ _ _ h => h) (Or.inl ⟨by rfl, ?hy9⟩) (by assumption) ?rest9
      case hy9 => (intro wz hSw; (try dsimp only at hSw); first | (go_simp; done) | (go_simp; with_reducible rfl))
      try simp only [Act.put, List.getElem_toArray, List.getElem_cons_succ, List.getElem_cons_zero, List.setIfInBounds_toArray, List.set_cons_zero, List.set_cons_succ]
      refine wpAnyH_ready (rs := [11]) (by kernel_rfl) (by simp) ?_
      refine AllReadyH.cons (o := _) rfl (fun K hK => ?_) AllReadyH.nil
      have BP := BP4.out.keep0 GW1
      have q0 := BP.cell 0
      have q1 := BP.cell 1
      have f0 := BP.free 0
      have f1 := BP.free 1
      simp at q0 q1
      go_simp
      try dsimp only
      refine hK.out _ _ (KT.out _ (gb_put (gb_put (gb_trans G4.out GW1) (by have := HA.out; omega)) (by have := HA.out; omega)) (((BR4.out.keep0 GW1).set_far (by omega) _ _).set_far (by omega) _ _)) (fun hH3 => ?_)
      clear hK K hH2
      try simp only [Act.put, List.getElem_toArray, List.getElem_cons_succ, List.getElem_cons_zero, List.setIfInBounds_toArray, List.set_cons_zero, List.set_cons_succ]
      refine wpAnyH_take (i := 12) (v := ?v10) rfl (by kernel_rfl) (by kernel_rfl) (by kernel_rfl) (fun _ _ _ h => h) (Or.inl ⟨by rfl, ?hy10⟩) (by assumption) ?rest10
      case hy10 => (intro wz hSw; (try dsimp only at hSw); first | (go_simp; done) | (go_simp; with_reducible rfl))
      try simp only [Act.put, List.getElem_toArray, List.getElem_cons_succ, List.getElem_cons_zero, List.setIfInBounds_toArray, List.set_cons_zero, List.set_cons_succ]
      refine wpAnyH_done (by kernel_rfl) ?_ _
      clear hH3 KT
      go_wp2
      (try simp only [Exit.inBlock, Exit.then])
      refine bodyPost_ret (v := (.tuple #[.agg #[.int .i64 (wd), .int .u32 (r)], .int .i64 (0)])) (by rw [results_cell_tmp rfl]; go_simp) rfl ⟨by rw [HD.out] <;> rfl, ?_⟩
      exact gb_put (gb_put (gb_trans G4.out GW1) (by have := HA.out; omega)) (by have := HA.out; omega)
set_option maxRecDepth 100000 in
set_option maxHeartbeats 16000000 in
theorem kleaf_any (w : World) (g : Nat) (X : KX) (k : Nat) (C : Cx) (N : List Nd) (hB : IsB w g 85 (kc X k)) (hC : CR w X C N) (op n wd : Int) (hn : -9223372036854775808 ≤ n ∧ n ≤ 9223372036854775807) :
    Calls Try.prog 86 #[.pointer (some ⟨g, 0, none⟩), .agg #[.int .i64 op, .int .i64 n, .int .i64 wd]] w (RetT (leafT C (op, n, wd)) w) := by
  have BK := Lib.hid hB
  have CC := Lib.hid hC
  have HN := Lib.hid hn
  clear hB hC hn
  by_cases h1 : op = 1
  · subst h1
    have HD := Lib.hid (show leafT C (1, n, wd) = constT n wd from rfl)
    have KC := Lib.hid (fun w => const_any w n wd HN.out)
    unfold RetT at KC
    generalize constT n wd = R at *
    obtain ⟨W2, hW2⟩ : ∃ W2, W2 = ((w.alloc (.cells #[.int .i64 1, .int .i64 n, .int .i64 wd] 51)).alloc (.cells #[.int .i64 0, .int .u32 0] 88)) := ⟨_, rfl⟩
    have G2 := Lib.hid (show w.grownBy W2 none from by rw [hW2]; exact gb_al (gb_al (gb_refl _ _)))
    obtain ⟨A, hA⟩ : ∃ A, A = w.heap.size := ⟨_, rfl⟩
    have HA := Lib.hid (show w.heap.size ≤ A by omega)
    have B0 := Lib.hid (show IsB W2 A 51 #[.int .i64 1, .int .i64 n, .int .i64 wd] from by rw [hW2, hA]; exact isb_al (isb1 _ _ _ ))
    have B1 := Lib.hid (show IsB W2 (A + 1) 88 #[.int .i64 0, .int .u32 0] from by rw [hW2, hA]; exact isb2 _ _ _  _)
    go_enter Try.func86, Try.ntmps86
    go_upto_region 1 with fail
    rw [← hW2, ← hA]
    clear hW2 hA
    have BW := Lib.hid (BK.out.keep0 G2.out)
    have k00 := (B0.out).cell 0
    have k01 := (B0.out).cell 1
    have k02 := (B0.out).cell 2
    simp at k00 k01 k02
    have k10 := ((B1.out)).cell 0
    have k11 := ((B1.out)).cell 1
    simp at k10 k11
    have f10 := ((B1.out)).free 0
    have f11 := ((B1.out)).free 1
    go_wp2_with fail
    refine (KC.out _).mono ?_
    rintro e w3 ⟨rfl, g3⟩
    have G4 := Lib.hid (gb_trans G2.out g3)
    clear f10 f11 k10 k11
    have k10 := ((B1.out.keep0 g3)).cell 0
    have k11 := ((B1.out.keep0 g3)).cell 1
    simp at k10 k11
    have f10 := ((B1.out.keep0 g3)).free 0
    have f11 := ((B1.out.keep0 g3)).free 1
    clear g3
    go_wp2
    (try simp only [Exit.inBlock, Exit.then])
    refine bodyPost_ret (v := (.tuple #[.agg #[.int .i64 (rW R), .int .u32 (rV R)], .int .i64 (rE R)])) (by rw [results_cell_tmp rfl]; go_simp) rfl ⟨by rw [HD.out] <;> rfl, ?_⟩
    exact gb_put (gb_put (G4.out) (by have := HA.out; omega)) (by have := HA.out; omega)
  · have n1 : (op == 1) = false := by rw [beq_eq_false_iff_ne]; exact h1
    have m1 : decide (op = 1) = false := decide_eq_false h1
    by_cases h2 : op = 2
    · subst h2
      have HD := Lib.hid (show leafT C (2, n, wd) = fieldT C n wd from rfl)
      have KC := Lib.hid (fun (w2 : World) (gk : w.grownBy w2 none) => kfield_any w2 g X k C N (BK.out.keep0 gk) (CC.out.keep0 gk) n wd)
      unfold RetT at KC
      have FR := Lib.hid (fun w => fref_any w 2 n wd)
      unfold RetV at FR
      generalize fieldT C n wd = R at *
      clear n1 m1 h1
      obtain ⟨W2, hW2⟩ : ∃ W2, W2 = ((w.alloc (.cells #[.int .i64 2, .int .i64 n, .int .i64 wd] 51)).alloc (.cells #[.int .i64 0, .int .u32 0] 88)) := ⟨_, rfl⟩
      have G2 := Lib.hid (show w.grownBy W2 none from by rw [hW2]; exact gb_al (gb_al (gb_refl _ _)))
      obtain ⟨A, hA⟩ : ∃ A, A = w.heap.size := ⟨_, rfl⟩
      have HA := Lib.hid (show w.heap.size ≤ A by omega)
      have B0 := Lib.hid (show IsB W2 A 51 #[.int .i64 2, .int .i64 n, .int .i64 wd] from by rw [hW2, hA]; exact isb_al (isb1 _ _ _ ))
      have B1 := Lib.hid (show IsB W2 (A + 1) 88 #[.int .i64 0, .int .u32 0] from by rw [hW2, hA]; exact isb2 _ _ _  _)
      go_enter Try.func86, Try.ntmps86
      go_upto_region 1 with fail
      rw [← hW2, ← hA]
      clear hW2 hA
      have BW := Lib.hid (BK.out.keep0 G2.out)
      have k00 := (B0.out).cell 0
      have k01 := (B0.out).cell 1
      have k02 := (B0.out).cell 2
      simp at k00 k01 k02
      have k10 := ((B1.out)).cell 0
      have k11 := ((B1.out)).cell 1
      simp at k10 k11
      have f10 := ((B1.out)).free 0
      have f11 := ((B1.out)).free 1
      go_wp2_with fail
      refine (FR.out _).mono ?_
      rintro e w9 ⟨rfl, g9⟩
      go_wp2_with fail
      refine (KC.out _ (gb_trans G2.out g9)).mono ?_
      rintro e w3 ⟨rfl, gx⟩
      have g3 := gb_trans g9 gx
      have G4 := Lib.hid (gb_trans G2.out g3)
      clear f10 f11 k10 k11
      have k10 := ((B1.out.keep0 g3)).cell 0
      have k11 := ((B1.out.keep0 g3)).cell 1
      simp at k10 k11
      have f10 := ((B1.out.keep0 g3)).free 0
      have f11 := ((B1.out.keep0 g3)).free 1
      clear gx g9 g3
      go_wp2
      (try simp only [Exit.inBlock, Exit.then])
      refine bodyPost_ret (v := (.tuple #[.agg #[.int .i64 (rW R), .int .u32 (rV R)], .int .i64 (rE R)])) (by rw [results_cell_tmp rfl]; go_simp) rfl ⟨by rw [HD.out] <;> rfl, ?_⟩
      exact gb_put (gb_put (G4.out) (by have := HA.out; omega)) (by have := HA.out; omega)
    · have n2 : (op == 2) = false := by rw [beq_eq_false_iff_ne]; exact h2
      have m2 : decide (op = 2) = false := decide_eq_false h2
      by_cases h3 : op = 3
      · subst h3
        have HD := Lib.hid (show leafT C (3, n, wd) = paramT C n from rfl)
        have KC := Lib.hid (fun (w2 : World) (gk : w.grownBy w2 none) => kparam_any w2 g X k C N (BK.out.keep0 gk) (CC.out.keep0 gk) n)
        unfold RetT at KC
        generalize paramT C n = R at *
        clear n1 m1 h1 n2 m2 h2
        obtain ⟨W2, hW2⟩ : ∃ W2, W2 = ((w.alloc (.cells #[.int .i64 3, .int .i64 n, .int .i64 wd] 51)).alloc (.cells #[.int .i64 0, .int .u32 0] 88)) := ⟨_, rfl⟩
        have G2 := Lib.hid (show w.grownBy W2 none from by rw [hW2]; exact gb_al (gb_al (gb_refl _ _)))
        obtain ⟨A, hA⟩ : ∃ A, A = w.heap.size := ⟨_, rfl⟩
        have HA := Lib.hid (show w.heap.size ≤ A by omega)
        have B0 := Lib.hid (show IsB W2 A 51 #[.int .i64 3, .int .i64 n, .int .i64 wd] from by rw [hW2, hA]; exact isb_al (isb1 _ _ _ ))
        have B1 := Lib.hid (show IsB W2 (A + 1) 88 #[.int .i64 0, .int .u32 0] from by rw [hW2, hA]; exact isb2 _ _ _  _)
        go_enter Try.func86, Try.ntmps86
        go_upto_region 1 with fail
        rw [← hW2, ← hA]
        clear hW2 hA
        have BW := Lib.hid (BK.out.keep0 G2.out)
        have k00 := (B0.out).cell 0
        have k01 := (B0.out).cell 1
        have k02 := (B0.out).cell 2
        simp at k00 k01 k02
        have k10 := ((B1.out)).cell 0
        have k11 := ((B1.out)).cell 1
        simp at k10 k11
        have f10 := ((B1.out)).free 0
        have f11 := ((B1.out)).free 1
        go_wp2_with fail
        refine (KC.out _ G2.out).mono ?_
        rintro e w3 ⟨rfl, g3⟩
        have G4 := Lib.hid (gb_trans G2.out g3)
        clear f10 f11 k10 k11
        have k10 := ((B1.out.keep0 g3)).cell 0
        have k11 := ((B1.out.keep0 g3)).cell 1
        simp at k10 k11
        have f10 := ((B1.out.keep0 g3)).free 0
        have f11 := ((B1.out.keep0 g3)).free 1
        clear g3
        go_wp2
        (try simp only [Exit.inBlock, Exit.then])
        refine bodyPost_ret (v := (.tuple #[.agg #[.int .i64 (rW R), .int .u32 (rV R)], .int .i64 (rE R)])) (by rw [results_cell_tmp rfl]; go_simp) rfl ⟨by rw [HD.out] <;> rfl, ?_⟩
        exact gb_put (gb_put (G4.out) (by have := HA.out; omega)) (by have := HA.out; omega)
      · have n3 : (op == 3) = false := by rw [beq_eq_false_iff_ne]; exact h3
        have m3 : decide (op = 3) = false := decide_eq_false h3
        have HD := Lib.hid (show leafT C (op, n, wd) = validT C n by unfold leafT; rw [if_neg h1, if_neg h2, if_neg h3])
        have KC := Lib.hid (fun (w2 : World) (gk : w.grownBy w2 none) => kvalid_any w2 g X k C N (BK.out.keep0 gk) (CC.out.keep0 gk) n)
        unfold RetT at KC
        generalize validT C n = R at *
        obtain ⟨W2, hW2⟩ : ∃ W2, W2 = ((w.alloc (.cells #[.int .i64 op, .int .i64 n, .int .i64 wd] 51)).alloc (.cells #[.int .i64 0, .int .u32 0] 88)) := ⟨_, rfl⟩
        have G2 := Lib.hid (show w.grownBy W2 none from by rw [hW2]; exact gb_al (gb_al (gb_refl _ _)))
        obtain ⟨A, hA⟩ : ∃ A, A = w.heap.size := ⟨_, rfl⟩
        have HA := Lib.hid (show w.heap.size ≤ A by omega)
        have B0 := Lib.hid (show IsB W2 A 51 #[.int .i64 op, .int .i64 n, .int .i64 wd] from by rw [hW2, hA]; exact isb_al (isb1 _ _ _ ))
        have B1 := Lib.hid (show IsB W2 (A + 1) 88 #[.int .i64 0, .int .u32 0] from by rw [hW2, hA]; exact isb2 _ _ _  _)
        go_enter Try.func86, Try.ntmps86
        go_upto_region 1 with fail
        rw [← hW2, ← hA]
        clear hW2 hA
        have BW := Lib.hid (BK.out.keep0 G2.out)
        have k00 := (B0.out).cell 0
        have k01 := (B0.out).cell 1
        have k02 := (B0.out).cell 2
        simp at k00 k01 k02
        have k10 := ((B1.out)).cell 0
        have k11 := ((B1.out)).cell 1
        simp at k10 k11
        have f10 := ((B1.out)).free 0
        have f11 := ((B1.out)).free 1
        go_wp2_with fail
        refine (KC.out _ G2.out).mono ?_
        rintro e w3 ⟨rfl, g3⟩
        have G4 := Lib.hid (gb_trans G2.out g3)
        clear f10 f11 k10 k11
        have k10 := ((B1.out.keep0 g3)).cell 0
        have k11 := ((B1.out.keep0 g3)).cell 1
        simp at k10 k11
        have f10 := ((B1.out.keep0 g3)).free 0
        have f11 := ((B1.out.keep0 g3)).free 1
        clear g3
        go_wp2
        (try simp only [Exit.inBlock, Exit.then])
        refine bodyPost_ret (v := (.tuple #[.agg #[.int .i64 (rW R), .int .u32 (rV R)], .int .i64 (rE R)])) (by rw [results_cell_tmp rfl]; go_simp) rfl ⟨by rw [HD.out] <;> rfl, ?_⟩
        exact gb_put (gb_put (G4.out) (by have := HA.out; omega)) (by have := HA.out; omega)
end Go.Proofs.Ytfjeonoihdgdoaa
