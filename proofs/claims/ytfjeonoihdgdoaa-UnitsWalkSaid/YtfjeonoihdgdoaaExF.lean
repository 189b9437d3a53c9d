/- Expr: the binary operators; no condition but that the operands fit their widths. -/
import Derived.Test.YtfjeonoihdgdoaaExE
namespace Go.Proofs.Ytfjeonoihdgdoaa
open Go.RowKit
set_option linter.unusedVariables false
set_option maxRecDepth 100000 in
set_option maxHeartbeats 16000000 in
theorem combined_any (w : World) (op aw av bw bv : Int) (ha : GT (aw, av)) (hb : GT (bw, bv)) :
    Calls Try.prog 106 #[.int .i64 op, .agg #[.int .i64 aw, .int .u32 av], .agg #[.int .i64 bw, .int .u32 bv]] w (RetV (.agg #[.int .i64 (combT op (aw, av) (bw, bv)).1, .int .u32 (combT op (aw, av) (bw, bv)).2]) w) := by
  have ga := Lib.hid (gt_u32 ha)
  have gb := Lib.hid (gt_u32 hb)
  clear ha hb
  by_cases h9 : op = 9
  · subst h9
    have HD := Lib.hid (show combT 9 (aw, av) (bw, bv) = (aw, addB av bv aw) from rfl)
    have NT := Lib.hid (fun W => add_any av bv aw W)
    unfold Ret at NT
    generalize addB av bv aw = r at *
    obtain ⟨W2, hW2⟩ : ∃ W2, W2 = (((w.alloc (.cells #[.int .i64 aw, .int .u32 av] 88)).alloc (.cells #[.int .i64 bw, .int .u32 bv] 88)).alloc (.cells #[.int .i64 0, .int .u32 0] 88)) := ⟨_, rfl⟩
    have G2 := Lib.hid (show w.grownBy W2 none from by rw [hW2]; exact gb_al (gb_al (gb_al (gb_refl _ _))))
    obtain ⟨A, hA⟩ : ∃ A, A = w.heap.size := ⟨_, rfl⟩
    have HA := Lib.hid (show w.heap.size ≤ A by omega)
    have B0 := Lib.hid (show IsB W2 A 88 #[.int .i64 aw, .int .u32 av] from by rw [hW2, hA]; exact isb_al (isb_al (isb1 _ _ _ )))
    have B1 := Lib.hid (show IsB W2 (A + 1) 88 #[.int .i64 bw, .int .u32 bv] from by rw [hW2, hA]; exact isb_al (isb2 _ _ _  _))
    have B2 := Lib.hid (show IsB W2 (A + 2) 88 #[.int .i64 0, .int .u32 0] from by rw [hW2, hA]; exact isb3 _ _ _  _ _)
    go_enter Try.func106, Try.ntmps106
    go_upto_region 1 with fail
    rw [← hW2, ← hA]
    clear hW2 hA
    have k00 := (B0.out).cell 0
    have k01 := (B0.out).cell 1
    simp at k00 k01
    have k10 := (B1.out).cell 0
    have k11 := (B1.out).cell 1
    simp at k10 k11
    have k20 := ((B2.out)).cell 0
    have k21 := ((B2.out)).cell 1
    simp at k20 k21
    have f20 := ((B2.out)).free 0
    have f21 := ((B2.out)).free 1
    go_wp2_with fail
    have KT := Lib.hid (fun (w' : World) (h0 : IsB w' A 88 #[.int .i64 aw, .int .u32 av]) (h1 : IsB w' (A + 1) 88 #[.int .i64 bw, .int .u32 bv]) => (⟨by simpa using h0.cell 0, by simpa using h0.cell 1, by simpa using h1.cell 1, trivial⟩ : (fun w' : World => w'.cell? ⟨A, 0, none⟩ = some (.int .i64 aw) ∧ w'.cell? ⟨A, 1, none⟩ = some (.int .u32 av) ∧ w'.cell? ⟨(A + 1), 1, none⟩ = some (.int .u32 bv) ∧ True) w'))
    refine wp_region_held_drew (S := (fun w' : World => w'.cell? ⟨A, 0, none⟩ = some (.int .i64 aw) ∧ w'.cell? ⟨A, 1, none⟩ = some (.int .u32 av) ∧ w'.cell? ⟨(A + 1), 1, none⟩ = some (.int .u32 bv) ∧ True)) (by kernel_rfl) (KT.out _ (B0.out.keep0 (gb_drew W2 none)) (B1.out.keep0 (gb_drew W2 none))) (fun hH0 => ?_)
    refine wpAnyH_take (i := 0) (v := ?v10) rfl (by kernel_rfl) (by kernel_rfl) (by kernel_rfl) (fun _ _ _ h => h) (Or.inl ⟨by rfl, ?hy10⟩) (by assumption) ?rest10
    case hy10 => (intro wz hSw; (try dsimp only at hSw); first | (go_simp; done) | (go_simp; with_reducible rfl))
    try simp only [Act.put, List.getElem_toArray, List.getElem_cons_zero, List.setIfInBounds_toArray, List.set_cons_zero, List.set_cons_succ]
    refine wpAnyH_take (i := 1) (v := ?v11) rfl (by kernel_rfl) (by kernel_rfl) (by kernel_rfl) (fun _ _ _ h => h) (Or.inl ⟨by rfl, ?hy11⟩) (by assumption) ?rest11
    case hy11 => (intro wz hSw; (try dsimp only at hSw); first | (go_simp; done) | (go_simp; with_reducible rfl))
    try simp only [Act.put, List.getElem_toArray, List.getElem_cons_succ, List.getElem_cons_zero, List.setIfInBounds_toArray, List.set_cons_zero, List.set_cons_succ]
    refine wpAnyH_take (i := 2) (v := ?v12) rfl (by kernel_rfl) (by kernel_rfl) (by kernel_rfl) (fun _ _ _ h => h) (Or.inl ⟨by rfl, ?hy12⟩) (by assumption) ?rest12
    case hy12 => (intro wz hSw; (try dsimp only at hSw); first | (go_simp; done) | (go_simp; with_reducible rfl))
    try simp only [Act.put, List.getElem_toArray, List.getElem_cons_succ, List.getElem_cons_zero, List.setIfInBounds_toArray, List.set_cons_zero, List.set_cons_succ]
    refine wpAnyH_take (i := 3) (v := ?v13) rfl (by kernel_rfl) (by kernel_rfl) (by kernel_rfl) (fun _ _ _ h => h) (Or.inl ⟨by rfl, ?hy13⟩) (by assumption) ?rest13
    case hy13 => (intro wz hSw; (try dsimp only at hSw); first | (go_simp; done) | (go_simp; with_reducible rfl))
    try simp only [Act.put, List.getElem_toArray, List.getElem_cons_succ, List.getElem_cons_zero, List.setIfInBounds_toArray, List.set_cons_zero, List.set_cons_succ]
    refine wpAnyH_take (i := 4) (v := ?v14) rfl (by kernel_rfl) (by kernel_rfl) (by kernel_rfl) (fun _ _ _ h => h) (Or.inl ⟨by rfl, ?hy14⟩) (by assumption) ?rest14
    case hy14 => (intro wz hSw; (try dsimp only at hSw); first | (go_simp; done) | (go_simp; with_reducible rfl))
    try simp only [Act.put, List.getElem_toArray, List.getElem_cons_succ, List.getElem_cons_zero, List.setIfInBounds_toArray, List.set_cons_zero, List.set_cons_succ]
    refine wpAnyH_take (i := 5) (v := ?v15) rfl (by kernel_rfl) (by kernel_rfl) (by kernel_rfl) (fun _ _ _ h => h) (Or.inl ⟨by rfl, ?hy15⟩) (by assumption) ?rest15
    case hy15 => (intro wz hSw; (try dsimp only at hSw); first | (go_simp; done) | (go_simp; with_reducible rfl))
    try simp only [Act.put, List.getElem_toArray, List.getElem_cons_succ, List.getElem_cons_zero, List.setIfInBounds_toArray, List.set_cons_zero, List.set_cons_succ]
    refine wpAnyH_take (i := 6) (v := ?v16) rfl (by kernel_rfl) (by kernel_rfl) (by kernel_rfl) (fun _ _ _ h => h) (Or.inl ⟨by rfl, ?hy16⟩) (by assumption) ?rest16
    case hy16 => (intro wz hSw; (try dsimp only at hSw); first | (go_simp; done) | (go_simp; with_reducible rfl))
    try simp only [Act.put, List.getElem_toArray, List.getElem_cons_succ, List.getElem_cons_zero, List.setIfInBounds_toArray, List.set_cons_zero, List.set_cons_succ]
    refine wpAnyH_take (i := 7) (v := ?v17) rfl (by kernel_rfl) (by kernel_rfl) (by kernel_rfl) (fun _ _ _ h => h) (Or.inl ⟨by rfl, ?hy17⟩) (by assumption) ?rest17
    case hy17 => (intro wz hSw; (try dsimp only at hSw); first | (go_simp; done) | (go_simp; with_reducible rfl))
    try simp only [Act.put, List.getElem_toArray, List.getElem_cons_succ, List.getElem_cons_zero, List.setIfInBounds_toArray, List.set_cons_zero, List.set_cons_succ]
    refine wpAnyH_ready (rs := [8]) (by kernel_rfl) (by simp) ?_
    refine AllReadyH.cons (o := _) rfl (fun K hK => ?_) AllReadyH.nil
    go_simp
    refine (NT.out _).mono ?_
    rintro e w3 ⟨rfl, g⟩
    have g3 := gb_gr g none
    have GG := gb_trans (gb_drew W2 none) g3
    try dsimp only
    refine hK.out _ _ (KT.out _ (B0.out.keep0 GG) (B1.out.keep0 GG)) (fun hH1 => ?_)
    clear hK K hH0
    try simp only [Act.put, List.getElem_toArray, List.getElem_cons_succ, List.getElem_cons_zero, List.setIfInBounds_toArray, List.set_cons_zero, List.set_cons_succ]
    refine wpAnyH_take (i := 9) (v := ?v18) rfl (by kernel_rfl) (by kernel_rfl) (by kernel_rfl) (fun _ _ _ h => h) (Or.inl ⟨by rfl, ?hy18⟩) (by assumption) ?rest18
    case hy18 => (intro wz hSw; (try dsimp only at hSw); first | (go_simp; done) | (go_simp; with_reducible rfl))
    try simp only [Act.put, List.getElem_toArray, List.getElem_cons_succ, List.getElem_cons_zero, List.setIfInBounds_toArray, List.set_cons_zero, List.set_cons_succ]
    refine wpAnyH_ready (rs := [10]) (by kernel_rfl) (by simp) ?_
    refine AllReadyH.cons (o := _) rfl (fun K hK => ?_) AllReadyH.nil
    have BP := B2.out.keep0 GG
    have q0 := BP.cell 0
    have q1 := BP.cell 1
    have f0 := BP.free 0
    have f1 := BP.free 1
    simp at q0 q1
    go_simp
    try dsimp only
    refine hK.out _ _ (KT.out _ (((B0.out.keep0 GG).set_far (by omega) _ _).set_far (by omega) _ _) (((B1.out.keep0 GG).set_far (by omega) _ _).set_far (by omega) _ _)) (fun hH2 => ?_)
    clear hK K hH1
    try simp only [Act.put, List.getElem_toArray, List.getElem_cons_succ, List.getElem_cons_zero, List.setIfInBounds_toArray, List.set_cons_zero, List.set_cons_succ]
    refine wpAnyH_done (by kernel_rfl) ?_ _
    clear hH2 KT
    go_wp2
    (try simp only [Exit.inBlock, Exit.then])
    refine bodyPost_ret (v := (.agg #[.int .i64 (aw), .int .u32 (r)])) (by rw [results_cell1 rfl]; go_simp) rfl ⟨by rw [HD.out] <;> rfl, ?_⟩
    exact gb_put (gb_put (gb_trans G2.out GG) (by have := HA.out; omega)) (by have := HA.out; omega)
  · have n9 : (op == 9) = false := by rw [beq_eq_false_iff_ne]; exact h9
    have m9 : decide (op = 9) = false := decide_eq_false h9
    by_cases h10 : op = 10
    · subst h10
      have HD := Lib.hid (show combT 10 (aw, av) (bw, bv) = (aw, subB av bv aw) from rfl)
      have NT := Lib.hid (fun W => sub_any av bv aw W)
      unfold Ret at NT
      generalize subB av bv aw = r at *
      obtain ⟨W2, hW2⟩ : ∃ W2, W2 = (((w.alloc (.cells #[.int .i64 aw, .int .u32 av] 88)).alloc (.cells #[.int .i64 bw, .int .u32 bv] 88)).alloc (.cells #[.int .i64 0, .int .u32 0] 88)) := ⟨_, rfl⟩
      have G2 := Lib.hid (show w.grownBy W2 none from by rw [hW2]; exact gb_al (gb_al (gb_al (gb_refl _ _))))
      obtain ⟨A, hA⟩ : ∃ A, A = w.heap.size := ⟨_, rfl⟩
      have HA := Lib.hid (show w.heap.size ≤ A by omega)
      have B0 := Lib.hid (show IsB W2 A 88 #[.int .i64 aw, .int .u32 av] from by rw [hW2, hA]; exact isb_al (isb_al (isb1 _ _ _ )))
      have B1 := Lib.hid (show IsB W2 (A + 1) 88 #[.int .i64 bw, .int .u32 bv] from by rw [hW2, hA]; exact isb_al (isb2 _ _ _  _))
      have B2 := Lib.hid (show IsB W2 (A + 2) 88 #[.int .i64 0, .int .u32 0] from by rw [hW2, hA]; exact isb3 _ _ _  _ _)
      go_enter Try.func106, Try.ntmps106
      go_upto_region 1 with fail
      rw [← hW2, ← hA]
      clear hW2 hA
      have k00 := (B0.out).cell 0
      have k01 := (B0.out).cell 1
      simp at k00 k01
      have k10 := (B1.out).cell 0
      have k11 := (B1.out).cell 1
      simp at k10 k11
      have k20 := ((B2.out)).cell 0
      have k21 := ((B2.out)).cell 1
      simp at k20 k21
      have f20 := ((B2.out)).free 0
      have f21 := ((B2.out)).free 1
      go_wp2_with fail
      have KT := Lib.hid (fun (w' : World) (h0 : IsB w' A 88 #[.int .i64 aw, .int .u32 av]) (h1 : IsB w' (A + 1) 88 #[.int .i64 bw, .int .u32 bv]) => (⟨by simpa using h0.cell 0, by simpa using h0.cell 1, by simpa using h1.cell 1, trivial⟩ : (fun w' : World => w'.cell? ⟨A, 0, none⟩ = some (.int .i64 aw) ∧ w'.cell? ⟨A, 1, none⟩ = some (.int .u32 av) ∧ w'.cell? ⟨(A + 1), 1, none⟩ = some (.int .u32 bv) ∧ True) w'))
      refine wp_region_held_drew (S := (fun w' : World => w'.cell? ⟨A, 0, none⟩ = some (.int .i64 aw) ∧ w'.cell? ⟨A, 1, none⟩ = some (.int .u32 av) ∧ w'.cell? ⟨(A + 1), 1, none⟩ = some (.int .u32 bv) ∧ True)) (by kernel_rfl) (KT.out _ (B0.out.keep0 (gb_drew W2 none)) (B1.out.keep0 (gb_drew W2 none))) (fun hH0 => ?_)
      refine wpAnyH_take (i := 0) (v := ?v1) rfl (by kernel_rfl) (by kernel_rfl) (by kernel_rfl) (fun _ _ _ h => h) (Or.inl ⟨by rfl, ?hy1⟩) (by assumption) ?rest1
      case hy1 => (intro wz hSw; (try dsimp only at hSw); first | (go_simp; done) | (go_simp; with_reducible rfl))
      try simp only [Act.put, List.getElem_toArray, List.getElem_cons_zero, List.setIfInBounds_toArray, List.set_cons_zero, List.set_cons_succ]
      refine wpAnyH_take (i := 1) (v := ?v2) rfl (by kernel_rfl) (by kernel_rfl) (by kernel_rfl) (fun _ _ _ h => h) (Or.inl ⟨by rfl, ?hy2⟩) (by assumption) ?rest2
      case hy2 => (intro wz hSw; (try dsimp only at hSw); first | (go_simp; done) | (go_simp; with_reducible rfl))
      try simp only [Act.put, List.getElem_toArray, List.getElem_cons_succ, List.getElem_cons_zero, List.setIfInBounds_toArray, List.set_cons_zero, List.set_cons_succ]
      refine wpAnyH_take (i := 2) (v := ?v3) rfl (by kernel_rfl) (by kernel_rfl) (by kernel_rfl) (fun _ _ _ h => h) (Or.inl ⟨by rfl, ?hy3⟩) (by assumption) ?rest3
      case hy3 => (intro wz hSw; (try dsimp only at hSw); first | (go_simp; done) | (go_simp; with_reducible rfl))
      try simp only [Act.put, List.getElem_toArray, List.getElem_cons_succ, List.getElem_cons_zero, List.setIfInBounds_toArray, List.set_cons_zero, List.set_cons_succ]
      refine wpAnyH_take (i := 3) (v := ?v4) rfl (by kernel_rfl) (by kernel_rfl) (by kernel_rfl) (fun _ _ _ h => h) (Or.inl ⟨by rfl, ?hy4⟩) (by assumption) ?rest4
      case hy4 => (intro wz hSw; (try dsimp only at hSw); first | (go_simp; done) | (go_simp; with_reducible rfl))
      try simp only [Act.put, List.getElem_toArray, List.getElem_cons_succ, List.getElem_cons_zero, List.setIfInBounds_toArray, List.set_cons_zero, List.set_cons_succ]
      refine wpAnyH_take (i := 4) (v := ?v5) rfl (by kernel_rfl) (by kernel_rfl) (by kernel_rfl) (fun _ _ _ h => h) (Or.inl ⟨by rfl, ?hy5⟩) (by assumption) ?rest5
      case hy5 => (intro wz hSw; (try dsimp only at hSw); first | (go_simp; done) | (go_simp; with_reducible rfl))
      try simp only [Act.put, List.getElem_toArray, List.getElem_cons_succ, List.getElem_cons_zero, List.setIfInBounds_toArray, List.set_cons_zero, List.set_cons_succ]
      refine wpAnyH_take (i := 5) (v := ?v6) rfl (by kernel_rfl) (by kernel_rfl) (by kernel_rfl) (fun _ _ _ h => h) (Or.inl ⟨by rfl, ?hy6⟩) (by assumption) ?rest6
      case hy6 => (intro wz hSw; (try dsimp only at hSw); first | (go_simp; done) | (go_simp; with_reducible rfl))
      try simp only [Act.put, List.getElem_toArray, List.getElem_cons_succ, List.getElem_cons_zero, List.setIfInBounds_toArray, List.set_cons_zero, List.set_cons_succ]
      refine wpAnyH_take (i := 6) (v := ?v7) rfl (by kernel_rfl) (by kernel_rfl) (by kernel_rfl) (fun _ _ _ h => h) (Or.inl ⟨by rfl, ?hy7⟩) (by assumption) ?rest7
      case hy7 => (intro wz hSw; (try dsimp only at hSw); first | (go_simp; done) | (go_simp; with_reducible rfl))
      try simp only [Act.put, List.getElem_toArray, List.getElem_cons_succ, List.getElem_cons_zero, List.setIfInBounds_toArray, List.set_cons_zero, List.set_cons_succ]
      refine wpAnyH_take (i := 7) (v := ?v8) rfl (by kernel_rfl) (by kernel_rfl) (by kernel_rfl) (fun _ _ _ h => h) (Or.inl ⟨by rfl, ?hy8⟩) (by assumption) ?rest8
      case hy8 => (intro wz hSw; (try dsimp only at hSw); first | (go_simp; done) | (go_simp; with_reducible rfl))
      try simp only [Act.put, List.getElem_toArray, List.getElem_cons_succ, List.getElem_cons_zero, List.setIfInBounds_toArray, List.set_cons_zero, List.set_cons_succ]
      refine wpAnyH_ready (rs := [8]) (by kernel_rfl) (by simp) ?_
      refine AllReadyH.cons (o := _) rfl (fun K hK => ?_) AllReadyH.nil
      go_simp
      refine (NT.out _).mono ?_
      rintro e w3 ⟨rfl, g⟩
      have g3 := gb_gr g none
      have GG := gb_trans (gb_drew W2 none) g3
      try dsimp only
      refine hK.out _ _ (KT.out _ (B0.out.keep0 GG) (B1.out.keep0 GG)) (fun hH1 => ?_)
      clear hK K hH0
      try simp only [Act.put, List.getElem_toArray, List.getElem_cons_succ, List.getElem_cons_zero, List.setIfInBounds_toArray, List.set_cons_zero, List.set_cons_succ]
      refine wpAnyH_take (i := 9) (v := ?v9) rfl (by kernel_rfl) (by kernel_rfl) (by kernel_rfl) (fun _ _ _ h => h) (Or.inl ⟨by rfl, ?hy9⟩) (by assumption) ?rest9
      case hy9 => (intro wz hSw; (try dsimp only at hSw); first | (go_simp; done) | (go_simp; with_reducible rfl))
      try simp only [Act.put, List.getElem_toArray, List.getElem_cons_succ, List.getElem_cons_zero, List.setIfInBounds_toArray, List.set_cons_zero, List.set_cons_succ]
      refine wpAnyH_ready (rs := [10]) (by kernel_rfl) (by simp) ?_
      refine AllReadyH.cons (o := _) rfl (fun K hK => ?_) AllReadyH.nil
      have BP := B2.out.keep0 GG
      have q0 := BP.cell 0
      have q1 := BP.cell 1
      have f0 := BP.free 0
      have f1 := BP.free 1
      simp at q0 q1
      go_simp
      try dsimp only
      refine hK.out _ _ (KT.out _ (((B0.out.keep0 GG).set_far (by omega) _ _).set_far (by omega) _ _) (((B1.out.keep0 GG).set_far (by omega) _ _).set_far (by omega) _ _)) (fun hH2 => ?_)
      clear hK K hH1
      try simp only [Act.put, List.getElem_toArray, List.getElem_cons_succ, List.getElem_cons_zero, List.setIfInBounds_toArray, List.set_cons_zero, List.set_cons_succ]
      refine wpAnyH_done (by kernel_rfl) ?_ _
      clear hH2 KT
      go_wp2
      (try simp only [Exit.inBlock, Exit.then])
      refine bodyPost_ret (v := (.agg #[.int .i64 (aw), .int .u32 (r)])) (by rw [results_cell1 rfl]; go_simp) rfl ⟨by rw [HD.out] <;> rfl, ?_⟩
      exact gb_put (gb_put (gb_trans G2.out GG) (by have := HA.out; omega)) (by have := HA.out; omega)
    · have n10 : (op == 10) = false := by rw [beq_eq_false_iff_ne]; exact h10
      have m10 : decide (op = 10) = false := decide_eq_false h10
      by_cases h11 : op = 11
      · subst h11
        have HD := Lib.hid (show combT 11 (aw, av) (bw, bv) = (aw, bits .and .u32 av bv) from rfl)
        obtain ⟨W2, hW2⟩ : ∃ W2, W2 = (((w.alloc (.cells #[.int .i64 aw, .int .u32 av] 88)).alloc (.cells #[.int .i64 bw, .int .u32 bv] 88)).alloc (.cells #[.int .i64 0, .int .u32 0] 88)) := ⟨_, rfl⟩
        have G2 := Lib.hid (show w.grownBy W2 none from by rw [hW2]; exact gb_al (gb_al (gb_al (gb_refl _ _))))
        obtain ⟨A, hA⟩ : ∃ A, A = w.heap.size := ⟨_, rfl⟩
        have HA := Lib.hid (show w.heap.size ≤ A by omega)
        have B0 := Lib.hid (show IsB W2 A 88 #[.int .i64 aw, .int .u32 av] from by rw [hW2, hA]; exact isb_al (isb_al (isb1 _ _ _ )))
        have B1 := Lib.hid (show IsB W2 (A + 1) 88 #[.int .i64 bw, .int .u32 bv] from by rw [hW2, hA]; exact isb_al (isb2 _ _ _  _))
        have B2 := Lib.hid (show IsB W2 (A + 2) 88 #[.int .i64 0, .int .u32 0] from by rw [hW2, hA]; exact isb3 _ _ _  _ _)
        go_enter Try.func106, Try.ntmps106
        go_upto_region 1 with fail
        rw [← hW2, ← hA]
        clear hW2 hA
        have k00 := (B0.out).cell 0
        have k01 := (B0.out).cell 1
        simp at k00 k01
        have k10 := (B1.out).cell 0
        have k11 := (B1.out).cell 1
        simp at k10 k11
        have k20 := ((B2.out)).cell 0
        have k21 := ((B2.out)).cell 1
        simp at k20 k21
        have f20 := ((B2.out)).free 0
        have f21 := ((B2.out)).free 1
        go_wp2
        (try simp only [Exit.inBlock, Exit.then])
        refine bodyPost_ret (v := (.agg #[.int .i64 (aw), .int .u32 (bits .and .u32 av bv)])) (by rw [results_cell1 rfl]; go_simp) rfl ⟨by rw [HD.out] <;> rfl, ?_⟩
        exact gb_put (gb_put (G2.out) (by have := HA.out; omega)) (by have := HA.out; omega)
      · have n11 : (op == 11) = false := by rw [beq_eq_false_iff_ne]; exact h11
        have m11 : decide (op = 11) = false := decide_eq_false h11
        by_cases h12 : op = 12
        · subst h12
          have HD := Lib.hid (show combT 12 (aw, av) (bw, bv) = (aw, bits .or .u32 av bv) from rfl)
          obtain ⟨W2, hW2⟩ : ∃ W2, W2 = (((w.alloc (.cells #[.int .i64 aw, .int .u32 av] 88)).alloc (.cells #[.int .i64 bw, .int .u32 bv] 88)).alloc (.cells #[.int .i64 0, .int .u32 0] 88)) := ⟨_, rfl⟩
          have G2 := Lib.hid (show w.grownBy W2 none from by rw [hW2]; exact gb_al (gb_al (gb_al (gb_refl _ _))))
          obtain ⟨A, hA⟩ : ∃ A, A = w.heap.size := ⟨_, rfl⟩
          have HA := Lib.hid (show w.heap.size ≤ A by omega)
          have B0 := Lib.hid (show IsB W2 A 88 #[.int .i64 aw, .int .u32 av] from by rw [hW2, hA]; exact isb_al (isb_al (isb1 _ _ _ )))
          have B1 := Lib.hid (show IsB W2 (A + 1) 88 #[.int .i64 bw, .int .u32 bv] from by rw [hW2, hA]; exact isb_al (isb2 _ _ _  _))
          have B2 := Lib.hid (show IsB W2 (A + 2) 88 #[.int .i64 0, .int .u32 0] from by rw [hW2, hA]; exact isb3 _ _ _  _ _)
          go_enter Try.func106, Try.ntmps106
          go_upto_region 1 with fail
          rw [← hW2, ← hA]
          clear hW2 hA
          have k00 := (B0.out).cell 0
          have k01 := (B0.out).cell 1
          simp at k00 k01
          have k10 := (B1.out).cell 0
          have k11 := (B1.out).cell 1
          simp at k10 k11
          have k20 := ((B2.out)).cell 0
          have k21 := ((B2.out)).cell 1
          simp at k20 k21
          have f20 := ((B2.out)).free 0
          have f21 := ((B2.out)).free 1
          go_wp2
          (try simp only [Exit.inBlock, Exit.then])
          refine bodyPost_ret (v := (.agg #[.int .i64 (aw), .int .u32 (bits .or .u32 av bv)])) (by rw [results_cell1 rfl]; go_simp) rfl ⟨by rw [HD.out] <;> rfl, ?_⟩
          exact gb_put (gb_put (G2.out) (by have := HA.out; omega)) (by have := HA.out; omega)
        · have n12 : (op == 12) = false := by rw [beq_eq_false_iff_ne]; exact h12
          have m12 : decide (op = 12) = false := decide_eq_false h12
          by_cases h13 : op = 13
          · subst h13
            have HD := Lib.hid (show combT 13 (aw, av) (bw, bv) = (aw, bits .xor .u32 av bv) from rfl)
            obtain ⟨W2, hW2⟩ : ∃ W2, W2 = (((w.alloc (.cells #[.int .i64 aw, .int .u32 av] 88)).alloc (.cells #[.int .i64 bw, .int .u32 bv] 88)).alloc (.cells #[.int .i64 0, .int .u32 0] 88)) := ⟨_, rfl⟩
            have G2 := Lib.hid (show w.grownBy W2 none from by rw [hW2]; exact gb_al (gb_al (gb_al (gb_refl _ _))))
            obtain ⟨A, hA⟩ : ∃ A, A = w.heap.size := ⟨_, rfl⟩
            have HA := Lib.hid (show w.heap.size ≤ A by omega)
            have B0 := Lib.hid (show IsB W2 A 88 #[.int .i64 aw, .int .u32 av] from by rw [hW2, hA]; exact isb_al (isb_al (isb1 _ _ _ )))
            have B1 := Lib.hid (show IsB W2 (A + 1) 88 #[.int .i64 bw, .int .u32 bv] from by rw [hW2, hA]; exact isb_al (isb2 _ _ _  _))
            have B2 := Lib.hid (show IsB W2 (A + 2) 88 #[.int .i64 0, .int .u32 0] from by rw [hW2, hA]; exact isb3 _ _ _  _ _)
            go_enter Try.func106, Try.ntmps106
            go_upto_region 1 with fail
            rw [← hW2, ← hA]
            clear hW2 hA
            have k00 := (B0.out).cell 0
            have k01 := (B0.out).cell 1
            simp at k00 k01
            have k10 := (B1.out).cell 0
            have k11 := (B1.out).cell 1
            simp at k10 k11
            have k20 := ((B2.out)).cell 0
            have k21 := ((B2.out)).cell 1
            simp at k20 k21
            have f20 := ((B2.out)).free 0
            have f21 := ((B2.out)).free 1
            go_wp2
            (try simp only [Exit.inBlock, Exit.then])
            refine bodyPost_ret (v := (.agg #[.int .i64 (aw), .int .u32 (bits .xor .u32 av bv)])) (by rw [results_cell1 rfl]; go_simp) rfl ⟨by rw [HD.out] <;> rfl, ?_⟩
            exact gb_put (gb_put (G2.out) (by have := HA.out; omega)) (by have := HA.out; omega)
          · have n13 : (op == 13) = false := by rw [beq_eq_false_iff_ne]; exact h13
            have m13 : decide (op = 13) = false := decide_eq_false h13
            by_cases h15 : op = 15
            · subst h15
              have HD := Lib.hid (show combT 15 (aw, av) (bw, bv) = (1, bitI (decide (av = bv))) from rfl)
              by_cases he : av = bv
              · subst he
                rw [decide_eq_true rfl] at HD
                obtain ⟨W2, hW2⟩ : ∃ W2, W2 = (((w.alloc (.cells #[.int .i64 aw, .int .u32 av] 88)).alloc (.cells #[.int .i64 bw, .int .u32 av] 88)).alloc (.cells #[.int .i64 0, .int .u32 0] 88)) := ⟨_, rfl⟩
                have G2 := Lib.hid (show w.grownBy W2 none from by rw [hW2]; exact gb_al (gb_al (gb_al (gb_refl _ _))))
                obtain ⟨A, hA⟩ : ∃ A, A = w.heap.size := ⟨_, rfl⟩
                have HA := Lib.hid (show w.heap.size ≤ A by omega)
                have B0 := Lib.hid (show IsB W2 A 88 #[.int .i64 aw, .int .u32 av] from by rw [hW2, hA]; exact isb_al (isb_al (isb1 _ _ _ )))
                have B1 := Lib.hid (show IsB W2 (A + 1) 88 #[.int .i64 bw, .int .u32 av] from by rw [hW2, hA]; exact isb_al (isb2 _ _ _  _))
                have B2 := Lib.hid (show IsB W2 (A + 2) 88 #[.int .i64 0, .int .u32 0] from by rw [hW2, hA]; exact isb3 _ _ _  _ _)
                go_enter Try.func106, Try.ntmps106
                go_upto_region 1 with fail
                rw [← hW2, ← hA]
                clear hW2 hA
                have k00 := (B0.out).cell 0
                have k01 := (B0.out).cell 1
                simp at k00 k01
                have k10 := (B1.out).cell 0
                have k11 := (B1.out).cell 1
                simp at k10 k11
                have k20 := ((B2.out)).cell 0
                have k21 := ((B2.out)).cell 1
                simp at k20 k21
                have f20 := ((B2.out)).free 0
                have f21 := ((B2.out)).free 1
                go_wp2_with fail
                refine (bit_any _ true).mono ?_
                rintro e w3 ⟨rfl, rfl⟩
                go_wp2
                (try simp only [Exit.inBlock, Exit.then])
                refine bodyPost_ret (v := (.agg #[.int .i64 (1), .int .u32 (bitI true)])) (by rw [results_cell1 rfl]; go_simp) rfl ⟨by rw [HD.out] <;> rfl, ?_⟩
                exact gb_put (gb_put (G2.out) (by have := HA.out; omega)) (by have := HA.out; omega)
              · rw [decide_eq_false he] at HD
                have e1 : (av == bv) = false := by rw [beq_eq_false_iff_ne]; exact he
                obtain ⟨W2, hW2⟩ : ∃ W2, W2 = (((w.alloc (.cells #[.int .i64 aw, .int .u32 av] 88)).alloc (.cells #[.int .i64 bw, .int .u32 bv] 88)).alloc (.cells #[.int .i64 0, .int .u32 0] 88)) := ⟨_, rfl⟩
                have G2 := Lib.hid (show w.grownBy W2 none from by rw [hW2]; exact gb_al (gb_al (gb_al (gb_refl _ _))))
                obtain ⟨A, hA⟩ : ∃ A, A = w.heap.size := ⟨_, rfl⟩
                have HA := Lib.hid (show w.heap.size ≤ A by omega)
                have B0 := Lib.hid (show IsB W2 A 88 #[.int .i64 aw, .int .u32 av] from by rw [hW2, hA]; exact isb_al (isb_al (isb1 _ _ _ )))
                have B1 := Lib.hid (show IsB W2 (A + 1) 88 #[.int .i64 bw, .int .u32 bv] from by rw [hW2, hA]; exact isb_al (isb2 _ _ _  _))
                have B2 := Lib.hid (show IsB W2 (A + 2) 88 #[.int .i64 0, .int .u32 0] from by rw [hW2, hA]; exact isb3 _ _ _  _ _)
                go_enter Try.func106, Try.ntmps106
                go_upto_region 1 with fail
                rw [← hW2, ← hA]
                clear hW2 hA
                have k00 := (B0.out).cell 0
                have k01 := (B0.out).cell 1
                simp at k00 k01
                have k10 := (B1.out).cell 0
                have k11 := (B1.out).cell 1
                simp at k10 k11
                have k20 := ((B2.out)).cell 0
                have k21 := ((B2.out)).cell 1
                simp at k20 k21
                have f20 := ((B2.out)).free 0
                have f21 := ((B2.out)).free 1
                go_wp2_with fail
                refine (bit_any _ false).mono ?_
                rintro e w3 ⟨rfl, rfl⟩
                go_wp2
                (try simp only [Exit.inBlock, Exit.then])
                refine bodyPost_ret (v := (.agg #[.int .i64 (1), .int .u32 (bitI false)])) (by rw [results_cell1 rfl]; go_simp) rfl ⟨by rw [HD.out] <;> rfl, ?_⟩
                exact gb_put (gb_put (G2.out) (by have := HA.out; omega)) (by have := HA.out; omega)
            · have n15 : (op == 15) = false := by rw [beq_eq_false_iff_ne]; exact h15
              have m15 : decide (op = 15) = false := decide_eq_false h15
              have HD := Lib.hid (show combT op (aw, av) (bw, bv) = (1, bitI (decide (av < bv))) by unfold combT; rw [if_neg h9, if_neg h10, if_neg h11, if_neg h12, if_neg h13, if_neg h15])
              by_cases hlt : av < bv
              · rw [decide_eq_true hlt] at HD
                obtain ⟨W2, hW2⟩ : ∃ W2, W2 = (((w.alloc (.cells #[.int .i64 aw, .int .u32 av] 88)).alloc (.cells #[.int .i64 bw, .int .u32 bv] 88)).alloc (.cells #[.int .i64 0, .int .u32 0] 88)) := ⟨_, rfl⟩
                have G2 := Lib.hid (show w.grownBy W2 none from by rw [hW2]; exact gb_al (gb_al (gb_al (gb_refl _ _))))
                obtain ⟨A, hA⟩ : ∃ A, A = w.heap.size := ⟨_, rfl⟩
                have HA := Lib.hid (show w.heap.size ≤ A by omega)
                have B0 := Lib.hid (show IsB W2 A 88 #[.int .i64 aw, .int .u32 av] from by rw [hW2, hA]; exact isb_al (isb_al (isb1 _ _ _ )))
                have B1 := Lib.hid (show IsB W2 (A + 1) 88 #[.int .i64 bw, .int .u32 bv] from by rw [hW2, hA]; exact isb_al (isb2 _ _ _  _))
                have B2 := Lib.hid (show IsB W2 (A + 2) 88 #[.int .i64 0, .int .u32 0] from by rw [hW2, hA]; exact isb3 _ _ _  _ _)
                go_enter Try.func106, Try.ntmps106
                go_upto_region 1 with fail
                rw [← hW2, ← hA]
                clear hW2 hA
                have k00 := (B0.out).cell 0
                have k01 := (B0.out).cell 1
                simp at k00 k01
                have k10 := (B1.out).cell 0
                have k11 := (B1.out).cell 1
                simp at k10 k11
                have k20 := ((B2.out)).cell 0
                have k21 := ((B2.out)).cell 1
                simp at k20 k21
                have f20 := ((B2.out)).free 0
                have f21 := ((B2.out)).free 1
                go_wp2_with fail
                refine (bit_any _ true).mono ?_
                rintro e w3 ⟨rfl, rfl⟩
                go_wp2
                (try simp only [Exit.inBlock, Exit.then])
                refine bodyPost_ret (v := (.agg #[.int .i64 (1), .int .u32 (bitI true)])) (by rw [results_cell1 rfl]; go_simp) rfl ⟨by rw [HD.out] <;> rfl, ?_⟩
                exact gb_put (gb_put (G2.out) (by have := HA.out; omega)) (by have := HA.out; omega)
              · rw [decide_eq_false hlt] at HD
                obtain ⟨W2, hW2⟩ : ∃ W2, W2 = (((w.alloc (.cells #[.int .i64 aw, .int .u32 av] 88)).alloc (.cells #[.int .i64 bw, .int .u32 bv] 88)).alloc (.cells #[.int .i64 0, .int .u32 0] 88)) := ⟨_, rfl⟩
                have G2 := Lib.hid (show w.grownBy W2 none from by rw [hW2]; exact gb_al (gb_al (gb_al (gb_refl _ _))))
                obtain ⟨A, hA⟩ : ∃ A, A = w.heap.size := ⟨_, rfl⟩
                have HA := Lib.hid (show w.heap.size ≤ A by omega)
                have B0 := Lib.hid (show IsB W2 A 88 #[.int .i64 aw, .int .u32 av] from by rw [hW2, hA]; exact isb_al (isb_al (isb1 _ _ _ )))
                have B1 := Lib.hid (show IsB W2 (A + 1) 88 #[.int .i64 bw, .int .u32 bv] from by rw [hW2, hA]; exact isb_al (isb2 _ _ _  _))
                have B2 := Lib.hid (show IsB W2 (A + 2) 88 #[.int .i64 0, .int .u32 0] from by rw [hW2, hA]; exact isb3 _ _ _  _ _)
                go_enter Try.func106, Try.ntmps106
                go_upto_region 1 with fail
                rw [← hW2, ← hA]
                clear hW2 hA
                have k00 := (B0.out).cell 0
                have k01 := (B0.out).cell 1
                simp at k00 k01
                have k10 := (B1.out).cell 0
                have k11 := (B1.out).cell 1
                simp at k10 k11
                have k20 := ((B2.out)).cell 0
                have k21 := ((B2.out)).cell 1
                simp at k20 k21
                have f20 := ((B2.out)).free 0
                have f21 := ((B2.out)).free 1
                go_wp2_with fail
                refine (bit_any _ false).mono ?_
                rintro e w3 ⟨rfl, rfl⟩
                go_wp2
                (try simp only [Exit.inBlock, Exit.then])
                refine bodyPost_ret (v := (.agg #[.int .i64 (1), .int .u32 (bitI false)])) (by rw [results_cell1 rfl]; go_simp) rfl ⟨by rw [HD.out] <;> rfl, ?_⟩
                exact gb_put (gb_put (G2.out) (by have := HA.out; omega)) (by have := HA.out; omega)
set_option maxRecDepth 100000 in
set_option maxHeartbeats 8000000 in
theorem binary_any (w : World) (op aw av bw bv : Int) (ha : GT (aw, av)) (hb : GT (bw, bv)) :
    Calls Try.prog 88 #[.int .i64 op, .agg #[.int .i64 aw, .int .u32 av], .agg #[.int .i64 bw, .int .u32 bv]] w (RetT (binT op (aw, av) (bw, bv)) w) := by
  have HA1 := Lib.hid ha
  have HB1 := Lib.hid hb
  clear ha hb
  by_cases h14 : op = 14
  · subst h14
    have HD := Lib.hid (show binT 14 (aw, av) (bw, bv) = concT (aw, av) (bw, bv) from rfl)
    have CC := Lib.hid (fun w => concat_any w aw av bw bv HA1.out HB1.out)
    unfold RetT at CC
    generalize concT (aw, av) (bw, bv) = R at *
    obtain ⟨W2, hW2⟩ : ∃ W2, W2 = (((w.alloc (.cells #[.int .i64 aw, .int .u32 av] 88)).alloc (.cells #[.int .i64 bw, .int .u32 bv] 88)).alloc (.cells #[.int .i64 0, .int .u32 0] 88)) := ⟨_, rfl⟩
    have G2 := Lib.hid (show w.grownBy W2 none from by rw [hW2]; exact gb_al (gb_al (gb_al (gb_refl _ _))))
    obtain ⟨A, hA⟩ : ∃ A, A = w.heap.size := ⟨_, rfl⟩
    have HA := Lib.hid (show w.heap.size ≤ A by omega)
    have B0 := Lib.hid (show IsB W2 A 88 #[.int .i64 aw, .int .u32 av] from by rw [hW2, hA]; exact isb_al (isb_al (isb1 _ _ _ )))
    have B1 := Lib.hid (show IsB W2 (A + 1) 88 #[.int .i64 bw, .int .u32 bv] from by rw [hW2, hA]; exact isb_al (isb2 _ _ _  _))
    have B2 := Lib.hid (show IsB W2 (A + 2) 88 #[.int .i64 0, .int .u32 0] from by rw [hW2, hA]; exact isb3 _ _ _  _ _)
    go_enter Try.func88, Try.ntmps88
    go_upto_region 1 with fail
    rw [← hW2, ← hA]
    clear hW2 hA
    have k00 := (B0.out).cell 0
    have k01 := (B0.out).cell 1
    simp at k00 k01
    have k10 := (B1.out).cell 0
    have k11 := (B1.out).cell 1
    simp at k10 k11
    have k20 := ((B2.out)).cell 0
    have k21 := ((B2.out)).cell 1
    simp at k20 k21
    have f20 := ((B2.out)).free 0
    have f21 := ((B2.out)).free 1
    go_wp2_with fail
    refine (CC.out _).mono ?_
    rintro e w3 ⟨rfl, g3⟩
    have G4 := Lib.hid (gb_trans G2.out g3)
    clear f20 f21 k20 k21
    have k20 := ((B2.out.keep0 g3)).cell 0
    have k21 := ((B2.out.keep0 g3)).cell 1
    simp at k20 k21
    have f20 := ((B2.out.keep0 g3)).free 0
    have f21 := ((B2.out.keep0 g3)).free 1
    clear g3
    go_wp2
    (try simp only [Exit.inBlock, Exit.then])
    refine bodyPost_ret (v := (.tuple #[.agg #[.int .i64 (rW R), .int .u32 (rV R)], .int .i64 (rE R)])) (by rw [results_cell_tmp rfl]; go_simp) rfl ⟨by rw [HD.out] <;> rfl, ?_⟩
    exact gb_put (gb_put (G4.out) (by have := HA.out; omega)) (by have := HA.out; omega)
  · have n14 : (op == 14) = false := by rw [beq_eq_false_iff_ne]; exact h14
    have m14 : decide (op = 14) = false := decide_eq_false h14
    have HD := Lib.hid (show binT op (aw, av) (bw, bv) = if aw = bw then .ok (combT op (aw, av) (bw, bv)) else .error 10 by unfold binT; rw [if_neg h14])
    by_cases he : aw = bw
    · subst he
      rw [if_pos rfl] at HD
      have CC := Lib.hid (fun w => combined_any w op aw av aw bv HA1.out HB1.out)
      unfold RetV at CC
      generalize combT op (aw, av) (aw, bv) = r at *
      obtain ⟨r1, r2⟩ := r
      obtain ⟨W2, hW2⟩ : ∃ W2, W2 = (((w.alloc (.cells #[.int .i64 aw, .int .u32 av] 88)).alloc (.cells #[.int .i64 aw, .int .u32 bv] 88)).alloc (.cells #[.int .i64 0, .int .u32 0] 88)) := ⟨_, rfl⟩
      have G2 := Lib.hid (show w.grownBy W2 none from by rw [hW2]; exact gb_al (gb_al (gb_al (gb_refl _ _))))
      obtain ⟨A, hA⟩ : ∃ A, A = w.heap.size := ⟨_, rfl⟩
      have HA := Lib.hid (show w.heap.size ≤ A by omega)
      have B0 := Lib.hid (show IsB W2 A 88 #[.int .i64 aw, .int .u32 av] from by rw [hW2, hA]; exact isb_al (isb_al (isb1 _ _ _ )))
      have B1 := Lib.hid (show IsB W2 (A + 1) 88 #[.int .i64 aw, .int .u32 bv] from by rw [hW2, hA]; exact isb_al (isb2 _ _ _  _))
      have B2 := Lib.hid (show IsB W2 (A + 2) 88 #[.int .i64 0, .int .u32 0] from by rw [hW2, hA]; exact isb3 _ _ _  _ _)
      go_enter Try.func88, Try.ntmps88
      go_upto_region 1 with fail
      rw [← hW2, ← hA]
      clear hW2 hA
      have k00 := (B0.out).cell 0
      have k01 := (B0.out).cell 1
      simp at k00 k01
      have k10 := (B1.out).cell 0
      have k11 := (B1.out).cell 1
      simp at k10 k11
      have k20 := ((B2.out)).cell 0
      have k21 := ((B2.out)).cell 1
      simp at k20 k21
      have f20 := ((B2.out)).free 0
      have f21 := ((B2.out)).free 1
      go_wp2_with fail
      refine (CC.out _).mono ?_
      rintro e w3 ⟨rfl, g3⟩
      have G4 := Lib.hid (gb_trans G2.out g3)
      clear f20 f21 k20 k21
      have k20 := ((B2.out.keep0 g3)).cell 0
      have k21 := ((B2.out.keep0 g3)).cell 1
      simp at k20 k21
      have f20 := ((B2.out.keep0 g3)).free 0
      have f21 := ((B2.out.keep0 g3)).free 1
      clear g3
      go_wp2
      (try simp only [Exit.inBlock, Exit.then])
      refine bodyPost_ret (v := (.tuple #[.agg #[.int .i64 (r1), .int .u32 (r2)], .int .i64 (0)])) (by rw [results_cell_tmp rfl]; go_simp) rfl ⟨by rw [HD.out] <;> rfl, ?_⟩
      exact gb_put (gb_put (G4.out) (by have := HA.out; omega)) (by have := HA.out; omega)
    · have e1 : (aw != bw) = true := by rw [bne_iff_ne]; exact he
      have e2 : (aw == bw) = false := by rw [beq_eq_false_iff_ne]; exact he
      have e3 : decide (aw = bw) = false := decide_eq_false he
      rw [if_neg he] at HD
      obtain ⟨W2, hW2⟩ : ∃ W2, W2 = (((w.alloc (.cells #[.int .i64 aw, .int .u32 av] 88)).alloc (.cells #[.int .i64 bw, .int .u32 bv] 88)).alloc (.cells #[.int .i64 0, .int .u32 0] 88)) := ⟨_, rfl⟩
      have G2 := Lib.hid (show w.grownBy W2 none from by rw [hW2]; exact gb_al (gb_al (gb_al (gb_refl _ _))))
      obtain ⟨A, hA⟩ : ∃ A, A = w.heap.size := ⟨_, rfl⟩
      have HA := Lib.hid (show w.heap.size ≤ A by omega)
      have B0 := Lib.hid (show IsB W2 A 88 #[.int .i64 aw, .int .u32 av] from by rw [hW2, hA]; exact isb_al (isb_al (isb1 _ _ _ )))
      have B1 := Lib.hid (show IsB W2 (A + 1) 88 #[.int .i64 bw, .int .u32 bv] from by rw [hW2, hA]; exact isb_al (isb2 _ _ _  _))
      have B2 := Lib.hid (show IsB W2 (A + 2) 88 #[.int .i64 0, .int .u32 0] from by rw [hW2, hA]; exact isb3 _ _ _  _ _)
      go_enter Try.func88, Try.ntmps88
      go_upto_region 1 with fail
      rw [← hW2, ← hA]
      clear hW2 hA
      have k00 := (B0.out).cell 0
      have k01 := (B0.out).cell 1
      simp at k00 k01
      have k10 := (B1.out).cell 0
      have k11 := (B1.out).cell 1
      simp at k10 k11
      have k20 := ((B2.out)).cell 0
      have k21 := ((B2.out)).cell 1
      simp at k20 k21
      have f20 := ((B2.out)).free 0
      have f21 := ((B2.out)).free 1
      go_wp2
      (try simp only [Exit.inBlock, Exit.then])
      refine bodyPost_ret (v := (.tuple #[.agg #[.int .i64 (0), .int .u32 (0)], .int .i64 (10)])) (by rw [results_cell_tmp rfl]; go_simp) rfl ⟨by rw [HD.out] <;> rfl, ?_⟩
      exact gb_put (gb_put (G2.out) (by have := HA.out; omega)) (by have := HA.out; omega)
end Go.Proofs.Ytfjeonoihdgdoaa
