/- Expr: the unary and binary operators and the choice; no condition but that the operands fit their widths. -/
import Derived.Test.YtfjeonoihdgdoaaExD
namespace Go.Proofs.Ytfjeonoihdgdoaa
open Go.RowKit
set_option linter.unusedVariables false
set_option maxRecDepth 100000 in
set_option maxHeartbeats 8000000 in
theorem unary_any (w : World) (op n wd aw av : Int) (hg : GT (aw, av)) :
    Calls Try.prog 87 #[.agg #[.int .i64 op, .int .i64 n, .int .i64 wd], .agg #[.int .i64 aw, .int .u32 av]] w (RetT (unT (op, n, wd) (aw, av)) w) := by
  have hG := Lib.hid hg
  have ga := Lib.hid (gt_u32 hg)
  have gw := Lib.hid hg.1
  clear hg
  by_cases h5 : op = 5
  · subst h5
    have HD := Lib.hid (show unT (5, n, wd) (aw, av) = .ok (aw, notB av aw) from rfl)
    have NT := Lib.hid (fun W => not_any av aw W ga.out.1 ga.out.2)
    unfold Ret at NT
    generalize notB av aw = r at *
    obtain ⟨W2, hW2⟩ : ∃ W2, W2 = (((w.alloc (.cells #[.int .i64 5, .int .i64 n, .int .i64 wd] 51)).alloc (.cells #[.int .i64 aw, .int .u32 av] 88)).alloc (.cells #[.int .i64 0, .int .u32 0] 88)) := ⟨_, rfl⟩
    have G2 := Lib.hid (show w.grownBy W2 none from by rw [hW2]; exact gb_al (gb_al (gb_al (gb_refl _ _))))
    obtain ⟨A, hA⟩ : ∃ A, A = w.heap.size := ⟨_, rfl⟩
    have HA := Lib.hid (show w.heap.size ≤ A by omega)
    have B0 := Lib.hid (show IsB W2 A 51 #[.int .i64 5, .int .i64 n, .int .i64 wd] from by rw [hW2, hA]; exact isb_al (isb_al (isb1 _ _ _ )))
    have B1 := Lib.hid (show IsB W2 (A + 1) 88 #[.int .i64 aw, .int .u32 av] from by rw [hW2, hA]; exact isb_al (isb2 _ _ _  _))
    have B2 := Lib.hid (show IsB W2 (A + 2) 88 #[.int .i64 0, .int .u32 0] from by rw [hW2, hA]; exact isb3 _ _ _  _ _)
    go_enter Try.func87, Try.ntmps87
    go_upto_region 1 with fail
    rw [← hW2, ← hA]
    clear hW2 hA
    have k00 := (B0.out).cell 0
    have k01 := (B0.out).cell 1
    have k02 := (B0.out).cell 2
    simp at k00 k01 k02
    have k10 := (B1.out).cell 0
    have k11 := (B1.out).cell 1
    simp at k10 k11
    have k20 := ((B2.out)).cell 0
    have k21 := ((B2.out)).cell 1
    simp at k20 k21
    have f20 := ((B2.out)).free 0
    have f21 := ((B2.out)).free 1
    go_wp2_with fail
    have KT := Lib.hid (fun (w' : World) (h0 : IsB w' A 51 #[.int .i64 5, .int .i64 n, .int .i64 wd]) (h1 : IsB w' (A + 1) 88 #[.int .i64 aw, .int .u32 av]) => (⟨by simpa using h1.cell 0, by simpa using h1.cell 1, trivial⟩ : (fun w' : World => w'.cell? ⟨(A + 1), 0, none⟩ = some (.int .i64 aw) ∧ w'.cell? ⟨(A + 1), 1, none⟩ = some (.int .u32 av) ∧ True) w'))
    refine wp_region_held_drew (S := (fun w' : World => w'.cell? ⟨(A + 1), 0, none⟩ = some (.int .i64 aw) ∧ w'.cell? ⟨(A + 1), 1, none⟩ = some (.int .u32 av) ∧ True)) (by kernel_rfl) (KT.out _ (B0.out.keep0 (gb_drew W2 none)) (B1.out.keep0 (gb_drew W2 none))) (fun hH0 => ?_)
    refine wpAnyH_take (i := 0) (v := ?v1) rfl (by kernel_rfl) (by kernel_rfl) (by kernel_rfl) (fun _ _ _ h => h) (Or.inl ⟨by rfl, ?hy1⟩) (by assumption) ?rest1
    case hy1 => (intro wz hSw; (try dsimp only at hSw); first | (go_simp; done) | (go_simp; with_reducible rfl))
    try simp only [Act.put, List.getElem_toArray, List.getElem_cons_zero, List.setIfInBounds_toArray, List.set_cons_zero, List.set_cons_succ]
    refine wpAnyH_take (i := 1) (v := ?v2) rfl (by kernel_rfl) (by kernel_rfl) (by kernel_rfl) (fun _ _ _ h => h) (Or.inl ⟨by rfl, ?hy2⟩) (by assumption) ?rest2
    case hy2 => (intro wz hSw; (try dsimp only at hSw); first | (go_simp; done) | (go_simp; with_reducible rfl))
    try simp only [Act.put, List.getElem_toArray, List.getElem_cons_succ, List.getElem_cons_zero, List.setIfInBounds_toArray, List.set_cons_zero, List.set_cons_succ]
    refine wpAnyH_take (i := 2) (v := ?v3) rfl (by kernel_rfl) (by kernel_rfl) (by kernel_rfl) (fun _ _ _ h => h) (Or.inl ⟨by rfl, ?hy3⟩) (by assumption) ?rest3
    case hy3 => (intro wz hSw; (try dsimp only at hSw); first | (go_simp; done) | (go_simp; with_reducible rfl))
    try simp only [Act.put, List.getElem_toArray, List.getElem_cons_succ, List.getElem_cons_zero, List.setIfInBounds_toArray, List.set_cons_zero, List.set_cons_succ]
    refine wpAnyH_take (i := 3) (v := ?v4) rfl (by kernel_rfl) (by kernel_rfl) (by kernel_rfl) (fun _ _ _ h => h) (Or.inl ⟨by rfl, ?hy4⟩) (by assumption) ?rest4
    case hy4 => (intro wz hSw; (try dsimp only at hSw); first | (go_simp; done) | (go_simp; with_reducible rfl))
    try simp only [Act.put, List.getElem_toArray, List.getElem_cons_succ, List.getElem_cons_zero, List.setIfInBounds_toArray, List.set_cons_zero, List.set_cons_succ]
    refine wpAnyH_take (i := 4) (v := ?v5) rfl (by kernel_rfl) (by kernel_rfl) (by kernel_rfl) (fun _ _ _ h => h) (Or.inl ⟨by rfl, ?hy5⟩) (by assumption) ?rest5
    case hy5 => (intro wz hSw; (try dsimp only at hSw); first | (go_simp; done) | (go_simp; with_reducible rfl))
    try simp only [Act.put, List.getElem_toArray, List.getElem_cons_succ, List.getElem_cons_zero, List.setIfInBounds_toArray, List.set_cons_zero, List.set_cons_succ]
    refine wpAnyH_take (i := 5) (v := ?v6) rfl (by kernel_rfl) (by kernel_rfl) (by kernel_rfl) (fun _ _ _ h => h) (Or.inl ⟨by rfl, ?hy6⟩) (by assumption) ?rest6
    case hy6 => (intro wz hSw; (try dsimp only at hSw); first | (go_simp; done) | (go_simp; with_reducible rfl))
    try simp only [Act.put, List.getElem_toArray, List.getElem_cons_succ, List.getElem_cons_zero, List.setIfInBounds_toArray, List.set_cons_zero, List.set_cons_succ]
    refine wpAnyH_ready (rs := [6]) (by kernel_rfl) (by simp) ?_
    refine AllReadyH.cons (o := _) rfl (fun K hK => ?_) AllReadyH.nil
    go_simp
    refine (NT.out _).mono ?_
    rintro e w3 ⟨rfl, g⟩
    have g3 := gb_gr g none
    have GG := gb_trans (gb_drew W2 none) g3
    try dsimp only
    refine hK.out _ _ (KT.out _ (B0.out.keep0 GG) (B1.out.keep0 GG)) (fun hH1 => ?_)
    clear hK K hH0
    try simp only [Act.put, List.getElem_toArray, List.getElem_cons_succ, List.getElem_cons_zero, List.setIfInBounds_toArray, List.set_cons_zero, List.set_cons_succ]
    refine wpAnyH_take (i := 7) (v := ?v7) rfl (by kernel_rfl) (by kernel_rfl) (by kernel_rfl) (fun _ _ _ h => h) (Or.inl ⟨by rfl, ?hy7⟩) (by assumption) ?rest7
    case hy7 => (intro wz hSw; (try dsimp only at hSw); first | (go_simp; done) | (go_simp; with_reducible rfl))
    try simp only [Act.put, List.getElem_toArray, List.getElem_cons_succ, List.getElem_cons_zero, List.setIfInBounds_toArray, List.set_cons_zero, List.set_cons_succ]
    refine wpAnyH_ready (rs := [8]) (by kernel_rfl) (by simp) ?_
    refine AllReadyH.cons (o := _) rfl (fun K hK => ?_) AllReadyH.nil
    have BP := B2.out.keep0 GG
    have q0 := BP.cell 0
    have q1 := BP.cell 1
    have f0 := BP.free 0
    have f1 := BP.free 1
    simp at q0 q1
    go_simp
    try dsimp only
    refine hK.out _ _ (KT.out _ (((B0.out.keep0 GG).set_far (by omega) _ _).set_far (by omega) _ _) (((B1.out.keep0 GG).set_far (by omega) _ _).set_far (by omega) _ _)) (fun hH2 => ?_)
    clear hK K hH1
    try simp only [Act.put, List.getElem_toArray, List.getElem_cons_succ, List.getElem_cons_zero, List.setIfInBounds_toArray, List.set_cons_zero, List.set_cons_succ]
    refine wpAnyH_take (i := 9) (v := ?v8) rfl (by kernel_rfl) (by kernel_rfl) (by kernel_rfl) (fun _ _ _ h => h) (Or.inl ⟨by rfl, ?hy8⟩) (by assumption) ?rest8
    case hy8 => (intro wz hSw; (try dsimp only at hSw); first | (go_simp; done) | (go_simp; with_reducible rfl))
    try simp only [Act.put, List.getElem_toArray, List.getElem_cons_succ, List.getElem_cons_zero, List.setIfInBounds_toArray, List.set_cons_zero, List.set_cons_succ]
    refine wpAnyH_done (by kernel_rfl) ?_ _
    clear hH2 KT
    go_wp2
    (try simp only [Exit.inBlock, Exit.then])
    refine bodyPost_ret (v := (.tuple #[.agg #[.int .i64 (aw), .int .u32 (r)], .int .i64 (0)])) (by rw [results_cell_tmp rfl]; go_simp) rfl ⟨by rw [HD.out] <;> rfl, ?_⟩
    exact gb_put (gb_put (gb_trans G2.out GG) (by have := HA.out; omega)) (by have := HA.out; omega)
  · have n5 : (op == 5) = false := by rw [beq_eq_false_iff_ne]; exact h5
    have m5 : decide (op = 5) = false := decide_eq_false h5
    by_cases h8 : op = 8
    · subst h8
      have HD := Lib.hid (show unT (8, n, wd) (aw, av) = sliceT (aw, av) n wd from rfl)
      have SL := Lib.hid (fun W => slice_any W aw av n wd hG.out)
      unfold RetT at SL
      generalize sliceT (aw, av) n wd = R at *
      clear n5 m5 h5
      obtain ⟨W2, hW2⟩ : ∃ W2, W2 = (((w.alloc (.cells #[.int .i64 8, .int .i64 n, .int .i64 wd] 51)).alloc (.cells #[.int .i64 aw, .int .u32 av] 88)).alloc (.cells #[.int .i64 0, .int .u32 0] 88)) := ⟨_, rfl⟩
      have G2 := Lib.hid (show w.grownBy W2 none from by rw [hW2]; exact gb_al (gb_al (gb_al (gb_refl _ _))))
      obtain ⟨A, hA⟩ : ∃ A, A = w.heap.size := ⟨_, rfl⟩
      have HA := Lib.hid (show w.heap.size ≤ A by omega)
      have B0 := Lib.hid (show IsB W2 A 51 #[.int .i64 8, .int .i64 n, .int .i64 wd] from by rw [hW2, hA]; exact isb_al (isb_al (isb1 _ _ _ )))
      have B1 := Lib.hid (show IsB W2 (A + 1) 88 #[.int .i64 aw, .int .u32 av] from by rw [hW2, hA]; exact isb_al (isb2 _ _ _  _))
      have B2 := Lib.hid (show IsB W2 (A + 2) 88 #[.int .i64 0, .int .u32 0] from by rw [hW2, hA]; exact isb3 _ _ _  _ _)
      go_enter Try.func87, Try.ntmps87
      go_upto_region 1 with fail
      rw [← hW2, ← hA]
      clear hW2 hA
      have k00 := (B0.out).cell 0
      have k01 := (B0.out).cell 1
      have k02 := (B0.out).cell 2
      simp at k00 k01 k02
      have k10 := (B1.out).cell 0
      have k11 := (B1.out).cell 1
      simp at k10 k11
      have k20 := ((B2.out)).cell 0
      have k21 := ((B2.out)).cell 1
      simp at k20 k21
      have f20 := ((B2.out)).free 0
      have f21 := ((B2.out)).free 1
      go_wp2_with fail
      refine (SL.out _).mono ?_
      rintro e w3 ⟨rfl, g3⟩
      have G4 := Lib.hid (gb_trans G2.out g3)
      clear f20 f21 k20 k21
      have k20 := ((B2.out.keep0 g3)).cell 0
      have k21 := ((B2.out.keep0 g3)).cell 1
      simp at k20 k21
      have f20 := ((B2.out.keep0 g3)).free 0
      have f21 := ((B2.out.keep0 g3)).free 1
      clear g3
      go_wp2
      (try simp only [Exit.inBlock, Exit.then])
      refine bodyPost_ret (v := (.tuple #[.agg #[.int .i64 (rW R), .int .u32 (rV R)], .int .i64 (rE R)])) (by rw [results_cell_tmp rfl]; go_simp) rfl ⟨by rw [HD.out] <;> rfl, ?_⟩
      exact gb_put (gb_put (G4.out) (by have := HA.out; omega)) (by have := HA.out; omega)
    · have n8 : (op == 8) = false := by rw [beq_eq_false_iff_ne]; exact h8
      have m8 : decide (op = 8) = false := decide_eq_false h8
      have HD := Lib.hid (show unT (op, n, wd) (aw, av) = if n < 0 ∨ 31 < n then .error 9 else if op = 6 then .ok (aw, shlB av n aw) else .ok (aw, shrB av n aw) by unfold unT; rw [if_neg h5, if_neg h8])
      by_cases hn : n < 0 ∨ 31 < n
      · rw [if_pos hn] at HD
        rcases hn with hn | hn
        · obtain ⟨W2, hW2⟩ : ∃ W2, W2 = (((w.alloc (.cells #[.int .i64 op, .int .i64 n, .int .i64 wd] 51)).alloc (.cells #[.int .i64 aw, .int .u32 av] 88)).alloc (.cells #[.int .i64 0, .int .u32 0] 88)) := ⟨_, rfl⟩
          have G2 := Lib.hid (show w.grownBy W2 none from by rw [hW2]; exact gb_al (gb_al (gb_al (gb_refl _ _))))
          obtain ⟨A, hA⟩ : ∃ A, A = w.heap.size := ⟨_, rfl⟩
          have HA := Lib.hid (show w.heap.size ≤ A by omega)
          have B0 := Lib.hid (show IsB W2 A 51 #[.int .i64 op, .int .i64 n, .int .i64 wd] from by rw [hW2, hA]; exact isb_al (isb_al (isb1 _ _ _ )))
          have B1 := Lib.hid (show IsB W2 (A + 1) 88 #[.int .i64 aw, .int .u32 av] from by rw [hW2, hA]; exact isb_al (isb2 _ _ _  _))
          have B2 := Lib.hid (show IsB W2 (A + 2) 88 #[.int .i64 0, .int .u32 0] from by rw [hW2, hA]; exact isb3 _ _ _  _ _)
          go_enter Try.func87, Try.ntmps87
          go_upto_region 1 with fail
          rw [← hW2, ← hA]
          clear hW2 hA
          have k00 := (B0.out).cell 0
          have k01 := (B0.out).cell 1
          have k02 := (B0.out).cell 2
          simp at k00 k01 k02
          have k10 := (B1.out).cell 0
          have k11 := (B1.out).cell 1
          simp at k10 k11
          have k20 := ((B2.out)).cell 0
          have k21 := ((B2.out)).cell 1
          simp at k20 k21
          have f20 := ((B2.out)).free 0
          have f21 := ((B2.out)).free 1
          go_wp2
          (try simp only [Exit.inBlock, Exit.then])
          refine bodyPost_ret (v := (.tuple #[.agg #[.int .i64 (0), .int .u32 (0)], .int .i64 (9)])) (by rw [results_cell_tmp rfl]; go_simp) rfl ⟨by rw [HD.out] <;> rfl, ?_⟩
          exact gb_put (gb_put (G2.out) (by have := HA.out; omega)) (by have := HA.out; omega)
        · have hn0 : ¬ n < 0 := by omega
          obtain ⟨W2, hW2⟩ : ∃ W2, W2 = (((w.alloc (.cells #[.int .i64 op, .int .i64 n, .int .i64 wd] 51)).alloc (.cells #[.int .i64 aw, .int .u32 av] 88)).alloc (.cells #[.int .i64 0, .int .u32 0] 88)) := ⟨_, rfl⟩
          have G2 := Lib.hid (show w.grownBy W2 none from by rw [hW2]; exact gb_al (gb_al (gb_al (gb_refl _ _))))
          obtain ⟨A, hA⟩ : ∃ A, A = w.heap.size := ⟨_, rfl⟩
          have HA := Lib.hid (show w.heap.size ≤ A by omega)
          have B0 := Lib.hid (show IsB W2 A 51 #[.int .i64 op, .int .i64 n, .int .i64 wd] from by rw [hW2, hA]; exact isb_al (isb_al (isb1 _ _ _ )))
          have B1 := Lib.hid (show IsB W2 (A + 1) 88 #[.int .i64 aw, .int .u32 av] from by rw [hW2, hA]; exact isb_al (isb2 _ _ _  _))
          have B2 := Lib.hid (show IsB W2 (A + 2) 88 #[.int .i64 0, .int .u32 0] from by rw [hW2, hA]; exact isb3 _ _ _  _ _)
          go_enter Try.func87, Try.ntmps87
          go_upto_region 1 with fail
          rw [← hW2, ← hA]
          clear hW2 hA
          have k00 := (B0.out).cell 0
          have k01 := (B0.out).cell 1
          have k02 := (B0.out).cell 2
          simp at k00 k01 k02
          have k10 := (B1.out).cell 0
          have k11 := (B1.out).cell 1
          simp at k10 k11
          have k20 := ((B2.out)).cell 0
          have k21 := ((B2.out)).cell 1
          simp at k20 k21
          have f20 := ((B2.out)).free 0
          have f21 := ((B2.out)).free 1
          go_wp2
          (try simp only [Exit.inBlock, Exit.then])
          refine bodyPost_ret (v := (.tuple #[.agg #[.int .i64 (0), .int .u32 (0)], .int .i64 (9)])) (by rw [results_cell_tmp rfl]; go_simp) rfl ⟨by rw [HD.out] <;> rfl, ?_⟩
          exact gb_put (gb_put (G2.out) (by have := HA.out; omega)) (by have := HA.out; omega)
      · rw [if_neg hn] at HD
        have hn0 : ¬ n < 0 := by omega
        have hn1 : ¬ 31 < n := by omega
        clear hn
        by_cases h6 : op = 6
        · subst h6
          rw [if_pos rfl] at HD
          have NT := Lib.hid (fun W => shl_any av n aw W)
          unfold Ret at NT
          generalize shlB av n aw = r at *
          clear n5 m5 h5 n8 m8 h8
          obtain ⟨W2, hW2⟩ : ∃ W2, W2 = (((w.alloc (.cells #[.int .i64 6, .int .i64 n, .int .i64 wd] 51)).alloc (.cells #[.int .i64 aw, .int .u32 av] 88)).alloc (.cells #[.int .i64 0, .int .u32 0] 88)) := ⟨_, rfl⟩
          have G2 := Lib.hid (show w.grownBy W2 none from by rw [hW2]; exact gb_al (gb_al (gb_al (gb_refl _ _))))
          obtain ⟨A, hA⟩ : ∃ A, A = w.heap.size := ⟨_, rfl⟩
          have HA := Lib.hid (show w.heap.size ≤ A by omega)
          have B0 := Lib.hid (show IsB W2 A 51 #[.int .i64 6, .int .i64 n, .int .i64 wd] from by rw [hW2, hA]; exact isb_al (isb_al (isb1 _ _ _ )))
          have B1 := Lib.hid (show IsB W2 (A + 1) 88 #[.int .i64 aw, .int .u32 av] from by rw [hW2, hA]; exact isb_al (isb2 _ _ _  _))
          have B2 := Lib.hid (show IsB W2 (A + 2) 88 #[.int .i64 0, .int .u32 0] from by rw [hW2, hA]; exact isb3 _ _ _  _ _)
          go_enter Try.func87, Try.ntmps87
          go_upto_region 1 with fail
          rw [← hW2, ← hA]
          clear hW2 hA
          have k00 := (B0.out).cell 0
          have k01 := (B0.out).cell 1
          have k02 := (B0.out).cell 2
          simp at k00 k01 k02
          have k10 := (B1.out).cell 0
          have k11 := (B1.out).cell 1
          simp at k10 k11
          have k20 := ((B2.out)).cell 0
          have k21 := ((B2.out)).cell 1
          simp at k20 k21
          have f20 := ((B2.out)).free 0
          have f21 := ((B2.out)).free 1
          go_wp2_with fail
          have KT := Lib.hid (fun (w' : World) (h0 : IsB w' A 51 #[.int .i64 6, .int .i64 n, .int .i64 wd]) (h1 : IsB w' (A + 1) 88 #[.int .i64 aw, .int .u32 av]) => (⟨by simpa using h0.cell 1, by simpa using h1.cell 0, by simpa using h1.cell 1, trivial⟩ : (fun w' : World => w'.cell? ⟨A, 1, none⟩ = some (.int .i64 n) ∧ w'.cell? ⟨(A + 1), 0, none⟩ = some (.int .i64 aw) ∧ w'.cell? ⟨(A + 1), 1, none⟩ = some (.int .u32 av) ∧ True) w'))
          refine wp_region_held_drew (S := (fun w' : World => w'.cell? ⟨A, 1, none⟩ = some (.int .i64 n) ∧ w'.cell? ⟨(A + 1), 0, none⟩ = some (.int .i64 aw) ∧ w'.cell? ⟨(A + 1), 1, none⟩ = some (.int .u32 av) ∧ True)) (by kernel_rfl) (KT.out _ (B0.out.keep0 (gb_drew W2 none)) (B1.out.keep0 (gb_drew W2 none))) (fun hH0 => ?_)
          refine wpAnyH_take (i := 0) (v := ?v9) rfl (by kernel_rfl) (by kernel_rfl) (by kernel_rfl) (fun _ _ _ h => h) (Or.inl ⟨by rfl, ?hy9⟩) (by assumption) ?rest9
          case hy9 => (intro wz hSw; (try dsimp only at hSw); first | (go_simp; done) | (go_simp; with_reducible rfl))
          try simp only [Act.put, List.getElem_toArray, List.getElem_cons_zero, List.setIfInBounds_toArray, List.set_cons_zero, List.set_cons_succ]
          refine wpAnyH_take (i := 1) (v := ?v10) rfl (by kernel_rfl) (by kernel_rfl) (by kernel_rfl) (fun _ _ _ h => h) (Or.inl ⟨by rfl, ?hy10⟩) (by assumption) ?rest10
          case hy10 => (intro wz hSw; (try dsimp only at hSw); first | (go_simp; done) | (go_simp; with_reducible rfl))
          try simp only [Act.put, List.getElem_toArray, List.getElem_cons_succ, List.getElem_cons_zero, List.setIfInBounds_toArray, List.set_cons_zero, List.set_cons_succ]
          refine wpAnyH_take (i := 2) (v := ?v11) rfl (by kernel_rfl) (by kernel_rfl) (by kernel_rfl) (fun _ _ _ h => h) (Or.inl ⟨by rfl, ?hy11⟩) (by assumption) ?rest11
          case hy11 => (intro wz hSw; (try dsimp only at hSw); first | (go_simp; done) | (go_simp; with_reducible rfl))
          try simp only [Act.put, List.getElem_toArray, List.getElem_cons_succ, List.getElem_cons_zero, List.setIfInBounds_toArray, List.set_cons_zero, List.set_cons_succ]
          refine wpAnyH_take (i := 3) (v := ?v12) rfl (by kernel_rfl) (by kernel_rfl) (by kernel_rfl) (fun _ _ _ h => h) (Or.inl ⟨by rfl, ?hy12⟩) (by assumption) ?rest12
          case hy12 => (intro wz hSw; (try dsimp only at hSw); first | (go_simp; done) | (go_simp; with_reducible rfl))
          try simp only [Act.put, List.getElem_toArray, List.getElem_cons_succ, List.getElem_cons_zero, List.setIfInBounds_toArray, List.set_cons_zero, List.set_cons_succ]
          refine wpAnyH_take (i := 4) (v := ?v13) rfl (by kernel_rfl) (by kernel_rfl) (by kernel_rfl) (fun _ _ _ h => h) (Or.inl ⟨by rfl, ?hy13⟩) (by assumption) ?rest13
          case hy13 => (intro wz hSw; (try dsimp only at hSw); first | (go_simp; done) | (go_simp; with_reducible rfl))
          try simp only [Act.put, List.getElem_toArray, List.getElem_cons_succ, List.getElem_cons_zero, List.setIfInBounds_toArray, List.set_cons_zero, List.set_cons_succ]
          refine wpAnyH_take (i := 5) (v := ?v14) rfl (by kernel_rfl) (by kernel_rfl) (by kernel_rfl) (fun _ _ _ h => h) (Or.inl ⟨by rfl, ?hy14⟩) (by assumption) ?rest14
          case hy14 => (intro wz hSw; (try dsimp only at hSw); first | (go_simp; done) | (go_simp; with_reducible rfl))
          try simp only [Act.put, List.getElem_toArray, List.getElem_cons_succ, List.getElem_cons_zero, List.setIfInBounds_toArray, List.set_cons_zero, List.set_cons_succ]
          refine wpAnyH_take (i := 6) (v := ?v15) rfl (by kernel_rfl) (by kernel_rfl) (by kernel_rfl) (fun _ _ _ h => h) (Or.inl ⟨by rfl, ?hy15⟩) (by assumption) ?rest15
          case hy15 => (intro wz hSw; (try dsimp only at hSw); first | (go_simp; done) | (go_simp; with_reducible rfl))
          try simp only [Act.put, List.getElem_toArray, List.getElem_cons_succ, List.getElem_cons_zero, List.setIfInBounds_toArray, List.set_cons_zero, List.set_cons_succ]
          refine wpAnyH_take (i := 7) (v := ?v16) rfl (by kernel_rfl) (by kernel_rfl) (by kernel_rfl) (fun _ _ _ h => h) (Or.inl ⟨by rfl, ?hy16⟩) (by assumption) ?rest16
          case hy16 => (intro wz hSw; (try dsimp only at hSw); first | (go_simp; done) | (go_simp; with_reducible rfl))
          try simp only [Act.put, List.getElem_toArray, List.getElem_cons_succ, List.getElem_cons_zero, List.setIfInBounds_toArray, List.set_cons_zero, List.set_cons_succ]
          refine wpAnyH_ready (rs := [8]) (by kernel_rfl) (by simp) ?_
          refine AllReadyH.cons (o := _) rfl (fun K hK => ?_) AllReadyH.nil
          go_simp
          refine (NT.out _).mono ?_
          rintro e w3 ⟨rfl, g⟩
          have g3 := gb_gr g none
          have GG := gb_trans (gb_drew W2 none) g3
          try dsimp only
          refine hK.out _ _ (KT.out _ (B0.out.keep0 GG) (B1.out.keep0 GG)) (fun hH1 => ?_)
          clear hK K hH0
          try simp only [Act.put, List.getElem_toArray, List.getElem_cons_succ, List.getElem_cons_zero, List.setIfInBounds_toArray, List.set_cons_zero, List.set_cons_succ]
          refine wpAnyH_take (i := 9) (v := ?v17) rfl (by kernel_rfl) (by kernel_rfl) (by kernel_rfl) (fun _ _ _ h => h) (Or.inl ⟨by rfl, ?hy17⟩) (by assumption) ?rest17
          case hy17 => (intro wz hSw; (try dsimp only at hSw); first | (go_simp; done) | (go_simp; with_reducible rfl))
          try simp only [Act.put, List.getElem_toArray, List.getElem_cons_succ, List.getElem_cons_zero, List.setIfInBounds_toArray, List.set_cons_zero, List.set_cons_succ]
          refine wpAnyH_ready (rs := [10]) (by kernel_rfl) (by simp) ?_
          refine AllReadyH.cons (o := _) rfl (fun K hK => ?_) AllReadyH.nil
          have BP := B2.out.keep0 GG
          have q0 := BP.cell 0
          have q1 := BP.cell 1
          have f0 := BP.free 0
          have f1 := BP.free 1
          simp at q0 q1
          go_simp
          try dsimp only
          refine hK.out _ _ (KT.out _ (((B0.out.keep0 GG).set_far (by omega) _ _).set_far (by omega) _ _) (((B1.out.keep0 GG).set_far (by omega) _ _).set_far (by omega) _ _)) (fun hH2 => ?_)
          clear hK K hH1
          try simp only [Act.put, List.getElem_toArray, List.getElem_cons_succ, List.getElem_cons_zero, List.setIfInBounds_toArray, List.set_cons_zero, List.set_cons_succ]
          refine wpAnyH_take (i := 11) (v := ?v18) rfl (by kernel_rfl) (by kernel_rfl) (by kernel_rfl) (fun _ _ _ h => h) (Or.inl ⟨by rfl, ?hy18⟩) (by assumption) ?rest18
          case hy18 => (intro wz hSw; (try dsimp only at hSw); first | (go_simp; done) | (go_simp; with_reducible rfl))
          try simp only [Act.put, List.getElem_toArray, List.getElem_cons_succ, List.getElem_cons_zero, List.setIfInBounds_toArray, List.set_cons_zero, List.set_cons_succ]
          refine wpAnyH_done (by kernel_rfl) ?_ _
          clear hH2 KT
          go_wp2
          (try simp only [Exit.inBlock, Exit.then])
          refine bodyPost_ret (v := (.tuple #[.agg #[.int .i64 (aw), .int .u32 (r)], .int .i64 (0)])) (by rw [results_cell_tmp rfl]; go_simp) rfl ⟨by rw [HD.out] <;> rfl, ?_⟩
          exact gb_put (gb_put (gb_trans G2.out GG) (by have := HA.out; omega)) (by have := HA.out; omega)
        · have n6 : (op == 6) = false := by rw [beq_eq_false_iff_ne]; exact h6
          have m6 : decide (op = 6) = false := decide_eq_false h6
          rw [if_neg h6] at HD
          have NT := Lib.hid (fun W => shr_any av n aw W ga.out.1 ga.out.2)
          unfold Ret at NT
          generalize shrB av n aw = r at *
          obtain ⟨W2, hW2⟩ : ∃ W2, W2 = (((w.alloc (.cells #[.int .i64 op, .int .i64 n, .int .i64 wd] 51)).alloc (.cells #[.int .i64 aw, .int .u32 av] 88)).alloc (.cells #[.int .i64 0, .int .u32 0] 88)) := ⟨_, rfl⟩
          have G2 := Lib.hid (show w.grownBy W2 none from by rw [hW2]; exact gb_al (gb_al (gb_al (gb_refl _ _))))
          obtain ⟨A, hA⟩ : ∃ A, A = w.heap.size := ⟨_, rfl⟩
          have HA := Lib.hid (show w.heap.size ≤ A by omega)
          have B0 := Lib.hid (show IsB W2 A 51 #[.int .i64 op, .int .i64 n, .int .i64 wd] from by rw [hW2, hA]; exact isb_al (isb_al (isb1 _ _ _ )))
          have B1 := Lib.hid (show IsB W2 (A + 1) 88 #[.int .i64 aw, .int .u32 av] from by rw [hW2, hA]; exact isb_al (isb2 _ _ _  _))
          have B2 := Lib.hid (show IsB W2 (A + 2) 88 #[.int .i64 0, .int .u32 0] from by rw [hW2, hA]; exact isb3 _ _ _  _ _)
          go_enter Try.func87, Try.ntmps87
          go_upto_region 1 with fail
          rw [← hW2, ← hA]
          clear hW2 hA
          have k00 := (B0.out).cell 0
          have k01 := (B0.out).cell 1
          have k02 := (B0.out).cell 2
          simp at k00 k01 k02
          have k10 := (B1.out).cell 0
          have k11 := (B1.out).cell 1
          simp at k10 k11
          have k20 := ((B2.out)).cell 0
          have k21 := ((B2.out)).cell 1
          simp at k20 k21
          have f20 := ((B2.out)).free 0
          have f21 := ((B2.out)).free 1
          go_wp2_with fail
          have KT := Lib.hid (fun (w' : World) (h0 : IsB w' A 51 #[.int .i64 op, .int .i64 n, .int .i64 wd]) (h1 : IsB w' (A + 1) 88 #[.int .i64 aw, .int .u32 av]) => (⟨by simpa using h0.cell 1, by simpa using h1.cell 0, by simpa using h1.cell 1, trivial⟩ : (fun w' : World => w'.cell? ⟨A, 1, none⟩ = some (.int .i64 n) ∧ w'.cell? ⟨(A + 1), 0, none⟩ = some (.int .i64 aw) ∧ w'.cell? ⟨(A + 1), 1, none⟩ = some (.int .u32 av) ∧ True) w'))
          refine wp_region_held_drew (S := (fun w' : World => w'.cell? ⟨A, 1, none⟩ = some (.int .i64 n) ∧ w'.cell? ⟨(A + 1), 0, none⟩ = some (.int .i64 aw) ∧ w'.cell? ⟨(A + 1), 1, none⟩ = some (.int .u32 av) ∧ True)) (by kernel_rfl) (KT.out _ (B0.out.keep0 (gb_drew W2 none)) (B1.out.keep0 (gb_drew W2 none))) (fun hH0 => ?_)
          refine wpAnyH_take (i := 0) (v := ?v19) rfl (by kernel_rfl) (by kernel_rfl) (by kernel_rfl) (fun _ _ _ h => h) (Or.inl ⟨by rfl, ?hy19⟩) (by assumption) ?rest19
          case hy19 => (intro wz hSw; (try dsimp only at hSw); first | (go_simp; done) | (go_simp; with_reducible rfl))
          try simp only [Act.put, List.getElem_toArray, List.getElem_cons_zero, List.setIfInBounds_toArray, List.set_cons_zero, List.set_cons_succ]
          refine wpAnyH_take (i := 1) (v := ?v20) rfl (by kernel_rfl) (by kernel_rfl) (by kernel_rfl) (fun _ _ _ h => h) (Or.inl ⟨by rfl, ?hy20⟩) (by assumption) ?rest20
          case hy20 => (intro wz hSw; (try dsimp only at hSw); first | (go_simp; done) | (go_simp; with_reducible rfl))
          try simp only [Act.put, List.getElem_toArray, List.getElem_cons_succ, List.getElem_cons_zero, List.setIfInBounds_toArray, List.set_cons_zero, List.set_cons_succ]
          refine wpAnyH_take (i := 2) (v := ?v21) rfl (by kernel_rfl) (by kernel_rfl) (by kernel_rfl) (fun _ _ _ h => h) (Or.inl ⟨by rfl, ?hy21⟩) (by assumption) ?rest21
          case hy21 => (intro wz hSw; (try dsimp only at hSw); first | (go_simp; done) | (go_simp; with_reducible rfl))
          try simp only [Act.put, List.getElem_toArray, List.getElem_cons_succ, List.getElem_cons_zero, List.setIfInBounds_toArray, List.set_cons_zero, List.set_cons_succ]
          refine wpAnyH_take (i := 3) (v := ?v22) rfl (by kernel_rfl) (by kernel_rfl) (by kernel_rfl) (fun _ _ _ h => h) (Or.inl ⟨by rfl, ?hy22⟩) (by assumption) ?rest22
          case hy22 => (intro wz hSw; (try dsimp only at hSw); first | (go_simp; done) | (go_simp; with_reducible rfl))
          try simp only [Act.put, List.getElem_toArray, List.getElem_cons_succ, List.getElem_cons_zero, List.setIfInBounds_toArray, List.set_cons_zero, List.set_cons_succ]
          refine wpAnyH_take (i := 4) (v := ?v23) rfl (by kernel_rfl) (by kernel_rfl) (by kernel_rfl) (fun _ _ _ h => h) (Or.inl ⟨by rfl, ?hy23⟩) (by assumption) ?rest23
          case hy23 => (intro wz hSw; (try dsimp only at hSw); first | (go_simp; done) | (go_simp; with_reducible rfl))
          try simp only [Act.put, List.getElem_toArray, List.getElem_cons_succ, List.getElem_cons_zero, List.setIfInBounds_toArray, List.set_cons_zero, List.set_cons_succ]
          refine wpAnyH_take (i := 5) (v := ?v24) rfl (by kernel_rfl) (by kernel_rfl) (by kernel_rfl) (fun _ _ _ h => h) (Or.inl ⟨by rfl, ?hy24⟩) (by assumption) ?rest24
          case hy24 => (intro wz hSw; (try dsimp only at hSw); first | (go_simp; done) | (go_simp; with_reducible rfl))
          try simp only [Act.put, List.getElem_toArray, List.getElem_cons_succ, List.getElem_cons_zero, List.setIfInBounds_toArray, List.set_cons_zero, List.set_cons_succ]
          refine wpAnyH_take (i := 6) (v := ?v25) rfl (by kernel_rfl) (by kernel_rfl) (by kernel_rfl) (fun _ _ _ h => h) (Or.inl ⟨by rfl, ?hy25⟩) (by assumption) ?rest25
          case hy25 => (intro wz hSw; (try dsimp only at hSw); first | (go_simp; done) | (go_simp; with_reducible rfl))
          try simp only [Act.put, List.getElem_toArray, List.getElem_cons_succ, List.getElem_cons_zero, List.setIfInBounds_toArray, List.set_cons_zero, List.set_cons_succ]
          refine wpAnyH_take (i := 7) (v := ?v26) rfl (by kernel_rfl) (by kernel_rfl) (by kernel_rfl) (fun _ _ _ h => h) (Or.inl ⟨by rfl, ?hy26⟩) (by assumption) ?rest26
          case hy26 => (intro wz hSw; (try dsimp only at hSw); first | (go_simp; done) | (go_simp; with_reducible rfl))
          try simp only [Act.put, List.getElem_toArray, List.getElem_cons_succ, List.getElem_cons_zero, List.setIfInBounds_toArray, List.set_cons_zero, List.set_cons_succ]
          refine wpAnyH_ready (rs := [8]) (by kernel_rfl) (by simp) ?_
          refine AllReadyH.cons (o := _) rfl (fun K hK => ?_) AllReadyH.nil
          go_simp
          refine (NT.out _).mono ?_
          rintro e w3 ⟨rfl, g⟩
          have g3 := gb_gr g none
          have GG := gb_trans (gb_drew W2 none) g3
          try dsimp only
          refine hK.out _ _ (KT.out _ (B0.out.keep0 GG) (B1.out.keep0 GG)) (fun hH1 => ?_)
          clear hK K hH0
          try simp only [Act.put, List.getElem_toArray, List.getElem_cons_succ, List.getElem_cons_zero, List.setIfInBounds_toArray, List.set_cons_zero, List.set_cons_succ]
          refine wpAnyH_take (i := 9) (v := ?v27) rfl (by kernel_rfl) (by kernel_rfl) (by kernel_rfl) (fun _ _ _ h => h) (Or.inl ⟨by rfl, ?hy27⟩) (by assumption) ?rest27
          case hy27 => (intro wz hSw; (try dsimp only at hSw); first | (go_simp; done) | (go_simp; with_reducible rfl))
          try simp only [Act.put, List.getElem_toArray, List.getElem_cons_succ, List.getElem_cons_zero, List.setIfInBounds_toArray, List.set_cons_zero, List.set_cons_succ]
          refine wpAnyH_ready (rs := [10]) (by kernel_rfl) (by simp) ?_
          refine AllReadyH.cons (o := _) rfl (fun K hK => ?_) AllReadyH.nil
          have BP := B2.out.keep0 GG
          have q0 := BP.cell 0
          have q1 := BP.cell 1
          have f0 := BP.free 0
          have f1 := BP.free 1
          simp at q0 q1
          go_simp
          try dsimp only
          refine hK.out _ _ (KT.out _ (((B0.out.keep0 GG).set_far (by omega) _ _).set_far (by omega) _ _) (((B1.out.keep0 GG).set_far (by omega) _ _).set_far (by omega) _ _)) (fun hH2 => ?_)
          clear hK K hH1
          try simp only [Act.put, List.getElem_toArray, List.getElem_cons_succ, List.getElem_cons_zero, List.setIfInBounds_toArray, List.set_cons_zero, List.set_cons_succ]
          refine wpAnyH_take (i := 11) (v := ?v28) rfl (by kernel_rfl) (by kernel_rfl) (by kernel_rfl) (fun _ _ _ h => h) (Or.inl ⟨by rfl, ?hy28⟩) (by assumption) ?rest28
          case hy28 => (intro wz hSw; (try dsimp only at hSw); first | (go_simp; done) | (go_simp; with_reducible rfl))
          try simp only [Act.put, List.getElem_toArray, List.getElem_cons_succ, List.getElem_cons_zero, List.setIfInBounds_toArray, List.set_cons_zero, List.set_cons_succ]
          refine wpAnyH_done (by kernel_rfl) ?_ _
          clear hH2 KT
          go_wp2
          (try simp only [Exit.inBlock, Exit.then])
          refine bodyPost_ret (v := (.tuple #[.agg #[.int .i64 (aw), .int .u32 (r)], .int .i64 (0)])) (by rw [results_cell_tmp rfl]; go_simp) rfl ⟨by rw [HD.out] <;> rfl, ?_⟩
          exact gb_put (gb_put (gb_trans G2.out GG) (by have := HA.out; omega)) (by have := HA.out; omega)
set_option maxRecDepth 100000 in
set_option maxHeartbeats 8000000 in
theorem concat_any (w : World) (aw av bw bv : Int) (ha : GT (aw, av)) (hb : GT (bw, bv)) :
    Calls Try.prog 105 #[.agg #[.int .i64 aw, .int .u32 av], .agg #[.int .i64 bw, .int .u32 bv]] w (RetT (concT (aw, av) (bw, bv)) w) := by
  have xa := gt_u32 ha
  have xb := gt_u32 hb
  have ya := ha.1
  have yb := hb.1
  dsimp only at xa xb ya yb
  have XA := Lib.hid xa
  have XB := Lib.hid xb
  have YA := Lib.hid ya
  have YB := Lib.hid yb
  have a1 := ya.1
  have a2 := ya.2
  have b1 := yb.1
  have b2 := yb.2
  clear ha hb xa xb ya yb
  have HD := Lib.hid (show concT (aw, av) (bw, bv) = if catOk aw bw = true then .ok (aw + bw, catB av aw bv bw) else .error 10 from rfl)
  by_cases hs : aw + bw ≤ 32
  · have CK : catOk aw bw = true := (catOk_in aw bw a1 a2 b1 b2 hs).symm
    rw [CK, if_pos rfl] at HD
    have CC := Lib.hid (fun W => cat_yes_any av aw bv bw W XA.out.1 XA.out.2 XB.out.1 XB.out.2 YA.out.1 YA.out.2 YB.out.1 YB.out.2 hs)
    unfold Ret at CC
    try rw [CK] at CC
    generalize catB av aw bv bw = r at *
    clear CK
    obtain ⟨W2, hW2⟩ : ∃ W2, W2 = (((w.alloc (.cells #[.int .i64 aw, .int .u32 av] 88)).alloc (.cells #[.int .i64 bw, .int .u32 bv] 88)).alloc (.cells #[.int .i64 0, .int .u32 0] 88)) := ⟨_, rfl⟩
    have G2 := Lib.hid (show w.grownBy W2 none from by rw [hW2]; exact gb_al (gb_al (gb_al (gb_refl _ _))))
    obtain ⟨A, hA⟩ : ∃ A, A = w.heap.size := ⟨_, rfl⟩
    have HA := Lib.hid (show w.heap.size ≤ A by omega)
    have B0 := Lib.hid (show IsB W2 A 88 #[.int .i64 aw, .int .u32 av] from by rw [hW2, hA]; exact isb_al (isb_al (isb1 _ _ _ )))
    have B1 := Lib.hid (show IsB W2 (A + 1) 88 #[.int .i64 bw, .int .u32 bv] from by rw [hW2, hA]; exact isb_al (isb2 _ _ _  _))
    have B2 := Lib.hid (show IsB W2 (A + 2) 88 #[.int .i64 0, .int .u32 0] from by rw [hW2, hA]; exact isb3 _ _ _  _ _)
    go_enter Try.func105, Try.ntmps105
    go_upto_region 1 with fail
    rw [← hW2, ← hA]
    clear hW2 hA
    have k00 := (B0.out).cell 0
    have k01 := (B0.out).cell 1
    simp at k00 k01
    have k10 := (B1.out).cell 0
    have k11 := (B1.out).cell 1
    simp at k10 k11
    go_wp2_with fail
    refine (CC.out _).mono ?_
    rintro e w3 ⟨rfl, g⟩
    have g3 := gb_gr g none
    have G4 := Lib.hid (gb_trans G2.out g3)
    clear k00 k01 k10 k11
    have k00 := ((B0.out.keep0 g3)).cell 0
    have k01 := ((B0.out.keep0 g3)).cell 1
    simp at k00 k01
    have k10 := ((B1.out.keep0 g3)).cell 0
    have k11 := ((B1.out.keep0 g3)).cell 1
    simp at k10 k11
    have k20 := ((B2.out.keep0 g3)).cell 0
    have k21 := ((B2.out.keep0 g3)).cell 1
    simp at k20 k21
    have f20 := ((B2.out.keep0 g3)).free 0
    have f21 := ((B2.out.keep0 g3)).free 1
    clear g g3
    go_wp2
    (try simp only [Exit.inBlock, Exit.then])
    refine bodyPost_ret (v := (.tuple #[.agg #[.int .i64 (aw + bw), .int .u32 (r)], .int .i64 (0)])) (by rw [results_cell_tmp rfl]; go_simp) rfl ⟨by rw [HD.out] <;> rfl, ?_⟩
    exact gb_put (gb_put (G4.out) (by have := HA.out; omega)) (by have := HA.out; omega)
  · have CK : catOk aw bw = false := (catOk_out aw bw (by omega)).symm
    rw [CK, if_neg (by decide)] at HD
    have CC := Lib.hid (fun W => cat_no_any av aw bv bw W (by omega))
    unfold Ret at CC
    try rw [CK] at CC
    generalize catB av aw bv bw = r at *
    clear CK
    obtain ⟨W2, hW2⟩ : ∃ W2, W2 = (((w.alloc (.cells #[.int .i64 aw, .int .u32 av] 88)).alloc (.cells #[.int .i64 bw, .int .u32 bv] 88)).alloc (.cells #[.int .i64 0, .int .u32 0] 88)) := ⟨_, rfl⟩
    have G2 := Lib.hid (show w.grownBy W2 none from by rw [hW2]; exact gb_al (gb_al (gb_al (gb_refl _ _))))
    obtain ⟨A, hA⟩ : ∃ A, A = w.heap.size := ⟨_, rfl⟩
    have HA := Lib.hid (show w.heap.size ≤ A by omega)
    have B0 := Lib.hid (show IsB W2 A 88 #[.int .i64 aw, .int .u32 av] from by rw [hW2, hA]; exact isb_al (isb_al (isb1 _ _ _ )))
    have B1 := Lib.hid (show IsB W2 (A + 1) 88 #[.int .i64 bw, .int .u32 bv] from by rw [hW2, hA]; exact isb_al (isb2 _ _ _  _))
    have B2 := Lib.hid (show IsB W2 (A + 2) 88 #[.int .i64 0, .int .u32 0] from by rw [hW2, hA]; exact isb3 _ _ _  _ _)
    go_enter Try.func105, Try.ntmps105
    go_upto_region 1 with fail
    rw [← hW2, ← hA]
    clear hW2 hA
    have k00 := (B0.out).cell 0
    have k01 := (B0.out).cell 1
    simp at k00 k01
    have k10 := (B1.out).cell 0
    have k11 := (B1.out).cell 1
    simp at k10 k11
    go_wp2_with fail
    refine (CC.out _).mono ?_
    rintro e w3 ⟨rfl, g⟩
    have g3 := gb_gr g none
    have G4 := Lib.hid (gb_trans G2.out g3)
    clear k00 k01 k10 k11
    have k20 := ((B2.out.keep0 g3)).cell 0
    have k21 := ((B2.out.keep0 g3)).cell 1
    simp at k20 k21
    have f20 := ((B2.out.keep0 g3)).free 0
    have f21 := ((B2.out.keep0 g3)).free 1
    clear g g3
    go_wp2
    (try simp only [Exit.inBlock, Exit.then])
    refine bodyPost_ret (v := (.tuple #[.agg #[.int .i64 (0), .int .u32 (0)], .int .i64 (10)])) (by rw [results_cell_tmp rfl]; go_simp) rfl ⟨by rw [HD.out] <;> rfl, ?_⟩
    exact gb_put (gb_put (G4.out) (by have := HA.out; omega)) (by have := HA.out; omega)
set_option maxRecDepth 100000 in
set_option maxHeartbeats 8000000 in
theorem choice_any (w : World) (cw cv aw av bw bv : Int) (ha : GT (aw, av)) (hb : GT (bw, bv)) :
    Calls Try.prog 89 #[.agg #[.int .i64 cw, .int .u32 cv], .agg #[.int .i64 aw, .int .u32 av], .agg #[.int .i64 bw, .int .u32 bv]] w (RetT (choT (cw, cv) (aw, av) (bw, bv)) w) := by
  have a1 := ha.1
  have b1 := hb.1
  clear ha hb
  have HD := Lib.hid (show choT (cw, cv) (aw, av) (bw, bv) = if cw = 1 ∧ aw = bw then (if cv = 1 then .ok (aw, av) else .ok (bw, bv)) else .error 10 from rfl)
  by_cases h1 : cw = 1
  · subst h1
    by_cases h2 : aw = bw
    · subst h2
      rw [if_pos ⟨rfl, rfl⟩] at HD
      by_cases h3 : cv = 1
      · subst h3
        rw [if_pos rfl] at HD
        obtain ⟨W2, hW2⟩ : ∃ W2, W2 = ((((w.alloc (.cells #[.int .i64 1, .int .u32 1] 88)).alloc (.cells #[.int .i64 aw, .int .u32 av] 88)).alloc (.cells #[.int .i64 aw, .int .u32 bv] 88)).alloc (.cells #[.int .i64 0, .int .u32 0] 88)) := ⟨_, rfl⟩
        have G2 := Lib.hid (show w.grownBy W2 none from by rw [hW2]; exact gb_al (gb_al (gb_al (gb_al (gb_refl _ _)))))
        obtain ⟨A, hA⟩ : ∃ A, A = w.heap.size := ⟨_, rfl⟩
        have HA := Lib.hid (show w.heap.size ≤ A by omega)
        have B0 := Lib.hid (show IsB W2 A 88 #[.int .i64 1, .int .u32 1] from by rw [hW2, hA]; exact isb_al (isb_al (isb_al (isb1 _ _ _ ))))
        have B1 := Lib.hid (show IsB W2 (A + 1) 88 #[.int .i64 aw, .int .u32 av] from by rw [hW2, hA]; exact isb_al (isb_al (isb2 _ _ _  _)))
        have B2 := Lib.hid (show IsB W2 (A + 2) 88 #[.int .i64 aw, .int .u32 bv] from by rw [hW2, hA]; exact isb_al (isb3 _ _ _  _ _))
        have B3 := Lib.hid (show IsB W2 (A + 3) 88 #[.int .i64 0, .int .u32 0] from by rw [hW2, hA]; exact isb4 _ _ _  _ _ _)
        go_enter Try.func89, Try.ntmps89
        go_upto_region 1 with fail
        rw [← hW2, ← hA]
        clear hW2 hA
        have k00 := (B0.out).cell 0
        have k01 := (B0.out).cell 1
        simp at k00 k01
        have k10 := (B1.out).cell 0
        have k11 := (B1.out).cell 1
        simp at k10 k11
        have k20 := (B2.out).cell 0
        have k21 := (B2.out).cell 1
        simp at k20 k21
        have k30 := ((B3.out)).cell 0
        have k31 := ((B3.out)).cell 1
        simp at k30 k31
        have f30 := ((B3.out)).free 0
        have f31 := ((B3.out)).free 1
        go_wp2
        (try simp only [Exit.inBlock, Exit.then])
        refine bodyPost_ret (v := (.tuple #[.agg #[.int .i64 (aw), .int .u32 (av)], .int .i64 (0)])) (by rw [results_cell_tmp rfl]; go_simp) rfl ⟨by rw [HD.out] <;> rfl, ?_⟩
        exact gb_put (gb_put (G2.out) (by have := HA.out; omega)) (by have := HA.out; omega)
      · have n3 : (cv == 1) = false := by rw [beq_eq_false_iff_ne]; exact h3
        have m3 : decide (cv = 1) = false := decide_eq_false h3
        rw [if_neg h3] at HD
        obtain ⟨W2, hW2⟩ : ∃ W2, W2 = ((((w.alloc (.cells #[.int .i64 1, .int .u32 cv] 88)).alloc (.cells #[.int .i64 aw, .int .u32 av] 88)).alloc (.cells #[.int .i64 aw, .int .u32 bv] 88)).alloc (.cells #[.int .i64 0, .int .u32 0] 88)) := ⟨_, rfl⟩
        have G2 := Lib.hid (show w.grownBy W2 none from by rw [hW2]; exact gb_al (gb_al (gb_al (gb_al (gb_refl _ _)))))
        obtain ⟨A, hA⟩ : ∃ A, A = w.heap.size := ⟨_, rfl⟩
        have HA := Lib.hid (show w.heap.size ≤ A by omega)
        have B0 := Lib.hid (show IsB W2 A 88 #[.int .i64 1, .int .u32 cv] from by rw [hW2, hA]; exact isb_al (isb_al (isb_al (isb1 _ _ _ ))))
        have B1 := Lib.hid (show IsB W2 (A + 1) 88 #[.int .i64 aw, .int .u32 av] from by rw [hW2, hA]; exact isb_al (isb_al (isb2 _ _ _  _)))
        have B2 := Lib.hid (show IsB W2 (A + 2) 88 #[.int .i64 aw, .int .u32 bv] from by rw [hW2, hA]; exact isb_al (isb3 _ _ _  _ _))
        have B3 := Lib.hid (show IsB W2 (A + 3) 88 #[.int .i64 0, .int .u32 0] from by rw [hW2, hA]; exact isb4 _ _ _  _ _ _)
        go_enter Try.func89, Try.ntmps89
        go_upto_region 1 with fail
        rw [← hW2, ← hA]
        clear hW2 hA
        have k00 := (B0.out).cell 0
        have k01 := (B0.out).cell 1
        simp at k00 k01
        have k10 := (B1.out).cell 0
        have k11 := (B1.out).cell 1
        simp at k10 k11
        have k20 := (B2.out).cell 0
        have k21 := (B2.out).cell 1
        simp at k20 k21
        have k30 := ((B3.out)).cell 0
        have k31 := ((B3.out)).cell 1
        simp at k30 k31
        have f30 := ((B3.out)).free 0
        have f31 := ((B3.out)).free 1
        go_wp2
        (try simp only [Exit.inBlock, Exit.then])
        refine bodyPost_ret (v := (.tuple #[.agg #[.int .i64 (aw), .int .u32 (bv)], .int .i64 (0)])) (by rw [results_cell_tmp rfl]; go_simp) rfl ⟨by rw [HD.out] <;> rfl, ?_⟩
        exact gb_put (gb_put (G2.out) (by have := HA.out; omega)) (by have := HA.out; omega)
    · have n2 : (aw != bw) = true := by rw [bne_iff_ne]; exact h2
      have m2 : decide (aw = bw) = false := decide_eq_false h2
      have l2 : (aw == bw) = false := by rw [beq_eq_false_iff_ne]; exact h2
      rw [if_neg (fun h => h2 h.2)] at HD
      obtain ⟨W2, hW2⟩ : ∃ W2, W2 = ((((w.alloc (.cells #[.int .i64 1, .int .u32 cv] 88)).alloc (.cells #[.int .i64 aw, .int .u32 av] 88)).alloc (.cells #[.int .i64 bw, .int .u32 bv] 88)).alloc (.cells #[.int .i64 0, .int .u32 0] 88)) := ⟨_, rfl⟩
      have G2 := Lib.hid (show w.grownBy W2 none from by rw [hW2]; exact gb_al (gb_al (gb_al (gb_al (gb_refl _ _)))))
      obtain ⟨A, hA⟩ : ∃ A, A = w.heap.size := ⟨_, rfl⟩
      have HA := Lib.hid (show w.heap.size ≤ A by omega)
      have B0 := Lib.hid (show IsB W2 A 88 #[.int .i64 1, .int .u32 cv] from by rw [hW2, hA]; exact isb_al (isb_al (isb_al (isb1 _ _ _ ))))
      have B1 := Lib.hid (show IsB W2 (A + 1) 88 #[.int .i64 aw, .int .u32 av] from by rw [hW2, hA]; exact isb_al (isb_al (isb2 _ _ _  _)))
      have B2 := Lib.hid (show IsB W2 (A + 2) 88 #[.int .i64 bw, .int .u32 bv] from by rw [hW2, hA]; exact isb_al (isb3 _ _ _  _ _))
      have B3 := Lib.hid (show IsB W2 (A + 3) 88 #[.int .i64 0, .int .u32 0] from by rw [hW2, hA]; exact isb4 _ _ _  _ _ _)
      go_enter Try.func89, Try.ntmps89
      go_upto_region 1 with fail
      rw [← hW2, ← hA]
      clear hW2 hA
      have k00 := (B0.out).cell 0
      have k01 := (B0.out).cell 1
      simp at k00 k01
      have k10 := (B1.out).cell 0
      have k11 := (B1.out).cell 1
      simp at k10 k11
      have k20 := (B2.out).cell 0
      have k21 := (B2.out).cell 1
      simp at k20 k21
      have k30 := ((B3.out)).cell 0
      have k31 := ((B3.out)).cell 1
      simp at k30 k31
      have f30 := ((B3.out)).free 0
      have f31 := ((B3.out)).free 1
      go_wp2
      (try simp only [Exit.inBlock, Exit.then])
      refine bodyPost_ret (v := (.tuple #[.agg #[.int .i64 (0), .int .u32 (0)], .int .i64 (10)])) (by rw [results_cell_tmp rfl]; go_simp) rfl ⟨by rw [HD.out] <;> rfl, ?_⟩
      exact gb_put (gb_put (G2.out) (by have := HA.out; omega)) (by have := HA.out; omega)
  · have n1 : (cw != 1) = true := by rw [bne_iff_ne]; exact h1
    have m1 : decide (cw = 1) = false := decide_eq_false h1
    have l1 : (cw == 1) = false := by rw [beq_eq_false_iff_ne]; exact h1
    rw [if_neg (fun h => h1 h.1)] at HD
    obtain ⟨W2, hW2⟩ : ∃ W2, W2 = ((((w.alloc (.cells #[.int .i64 cw, .int .u32 cv] 88)).alloc (.cells #[.int .i64 aw, .int .u32 av] 88)).alloc (.cells #[.int .i64 bw, .int .u32 bv] 88)).alloc (.cells #[.int .i64 0, .int .u32 0] 88)) := ⟨_, rfl⟩
    have G2 := Lib.hid (show w.grownBy W2 none from by rw [hW2]; exact gb_al (gb_al (gb_al (gb_al (gb_refl _ _)))))
    obtain ⟨A, hA⟩ : ∃ A, A = w.heap.size := ⟨_, rfl⟩
    have HA := Lib.hid (show w.heap.size ≤ A by omega)
    have B0 := Lib.hid (show IsB W2 A 88 #[.int .i64 cw, .int .u32 cv] from by rw [hW2, hA]; exact isb_al (isb_al (isb_al (isb1 _ _ _ ))))
    have B1 := Lib.hid (show IsB W2 (A + 1) 88 #[.int .i64 aw, .int .u32 av] from by rw [hW2, hA]; exact isb_al (isb_al (isb2 _ _ _  _)))
    have B2 := Lib.hid (show IsB W2 (A + 2) 88 #[.int .i64 bw, .int .u32 bv] from by rw [hW2, hA]; exact isb_al (isb3 _ _ _  _ _))
    have B3 := Lib.hid (show IsB W2 (A + 3) 88 #[.int .i64 0, .int .u32 0] from by rw [hW2, hA]; exact isb4 _ _ _  _ _ _)
    go_enter Try.func89, Try.ntmps89
    go_upto_region 1 with fail
    rw [← hW2, ← hA]
    clear hW2 hA
    have k00 := (B0.out).cell 0
    have k01 := (B0.out).cell 1
    simp at k00 k01
    have k10 := (B1.out).cell 0
    have k11 := (B1.out).cell 1
    simp at k10 k11
    have k20 := (B2.out).cell 0
    have k21 := (B2.out).cell 1
    simp at k20 k21
    have k30 := ((B3.out)).cell 0
    have k31 := ((B3.out)).cell 1
    simp at k30 k31
    have f30 := ((B3.out)).free 0
    have f31 := ((B3.out)).free 1
    go_wp2
    (try simp only [Exit.inBlock, Exit.then])
    refine bodyPost_ret (v := (.tuple #[.agg #[.int .i64 (0), .int .u32 (0)], .int .i64 (10)])) (by rw [results_cell_tmp rfl]; go_simp) rfl ⟨by rw [HD.out] <;> rfl, ?_⟩
    exact gb_put (gb_put (G2.out) (by have := HA.out; omega)) (by have := HA.out; omega)
end Go.Proofs.Ytfjeonoihdgdoaa
