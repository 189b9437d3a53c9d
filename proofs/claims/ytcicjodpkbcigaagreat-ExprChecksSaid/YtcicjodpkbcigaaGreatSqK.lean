/- Expr: the reference's Fields; no condition but that the nodes are few. -/
import Derived.Test.YtcicjodpkbcigaaGreatSqJ
namespace Go.Proofs.YtcicjodpkbcigaaGreat
open Go.RowKit
set_option linter.unusedVariables false
theorem aF_len (N : List Nd) : (aF N).length ≤ N.length := Nat.le_trans (allA_len _ _) (by unfold refsL; rw [List.length_map]; exact List.length_filter_le _ _)
theorem aF_yes (N : List Nd) (x : Nd) (h : x.1 = 2) : aF (N ++ [x]) = aR x.2 (aF N) := by
  unfold aF refsL
  rw [List.filter_append, List.map_append]
  simp only [List.filter_cons, List.filter_nil, h, beq_self_eq_true, if_true, List.map_cons, List.map_nil]
  exact allA_snoc _ _ _
theorem aF_no (N : List Nd) (x : Nd) (h : ¬ x.1 = 2) : aF (N ++ [x]) = aF N := by
  unfold aF refsL
  rw [List.filter_append, List.map_append]
  simp [h]
set_option maxRecDepth 100000 in
set_option maxHeartbeats 8000000 in
theorem rfields_any (w : World) (a : Option Addr) (n c : Nat) (N : List Nd) (hN : SN w a n c N) (hn : n ≤ 500) :
    Calls Tryz.prog 13 #[.slice a n c] w (RetFX (aF N) w) := by
  have HN := Lib.hid hN
  have LN := Lib.hid hN.len
  have ncap := hN.cap
  clear hN
  go_enter Tryz.func13, Tryz.ntmps13
  go_wp2
  go_loopw [3, 4] (fun s3 s4 wr => ∃ (i m : Nat) (b : Option Addr) (d : Nat), i ≤ n ∧ s4 = .int .i64 i ∧ s3 = .slice b m d ∧ (aF (N.take i)).length = m ∧ FL wr w.heap.size (.slice b m d) (aF (N.take i)) ∧ w.grownBy wr none) (fun _ s4 _ => n - (intOf s4).toNat)
  case atStart => exact ⟨0, 0, none, 0, Nat.zero_le _, rfl, rfl, rfl, FL.nil _ _, gb_refl _ _⟩
  case round =>
    obtain ⟨i, m, b, d, hi, rfl, rfl, hm, ho, hg⟩ := hrel
    have OM := Lib.hid hm
    have O := Lib.hid ho
    have G := Lib.hid hg
    clear hm ho hg
    by_cases hlt : i < n
    · have i1 : (i : Int) < n := by omega
      have i0 : (0 : Int) ≤ (i : Int) := by omega
      have hw : IntKind.i64.wrap ((i : Int) + 1) = ((i + 1 : Nat) : Int) := by rw [IntKind.wrap_i64]; omega
      obtain ⟨ad, rfl⟩ := HN.out.some (by omega)
      obtain ⟨n0, n1, n2⟩ := (HN.out.keep0 G.out).cells ad rfl i hlt
      have TK := Lib.hid (take_nd N i (by rw [LN.out]; exact hlt))
      have ML := Lib.hid (show m ≤ 500 by rw [← OM.out]; have := aF_len (N.take i); rw [List.length_take] at this; omega)
      generalize N.getD i nz = x at *
      obtain ⟨op, nn, wd⟩ := x
      dsimp only at n0 n1 n2
      by_cases h2 : op = 2
      · subst h2
        have EQ := Lib.hid (show aF (N.take (i + 1)) = aR (nn, wd) (aF (N.take i)) by rw [TK.out]; exact aF_yes _ (2, nn, wd) rfl)
        have AI := Lib.hid (fun W h => raddfield_any W w.heap.size b m d (aF (N.take i)) OM.out h (by have := ML.out; omega) nn wd)
        unfold RetFX at AI
        go_upto_region 6 with fail
        have KJ := Lib.hid (fun (w' : World) (q0 : wr.grownBy w' none) => (⟨q0.cell n1 (by simp), q0.cell n2 (by simp), q0⟩ : (fun w' : World => w'.cell? (⟨(ad.add (i * 3)).block, (ad.add (i * 3)).off + 1, none⟩) = some (.int .i64 nn) ∧ w'.cell? (⟨(ad.add (i * 3)).block, (ad.add (i * 3)).off + 2, none⟩) = some (.int .i64 wd) ∧ wr.grownBy w' none) w'))
        have J0 := Lib.hid (gb_drew wr none)
        refine wp_region_held_drew (S := (fun w' : World => w'.cell? (⟨(ad.add (i * 3)).block, (ad.add (i * 3)).off + 1, none⟩) = some (.int .i64 nn) ∧ w'.cell? (⟨(ad.add (i * 3)).block, (ad.add (i * 3)).off + 2, none⟩) = some (.int .i64 wd) ∧ wr.grownBy w' none)) (by kernel_rfl) (KJ.out _ J0.out) (fun hH0 => ?_)
        refine wpAnyH_take (i := 0) (v := ?v1) rfl (by kernel_rfl) (by kernel_rfl) (by kernel_rfl) (fun _ _ _ h => h) (Or.inl ⟨by rfl, ?hy1⟩) (by assumption) ?rest1
        case hy1 => (intro wz hSw; (try dsimp only at hSw); first | (go_simp; done) | (go_simp; with_reducible rfl))
        try simp only [Act.put, List.getElem_toArray, List.getElem_cons_zero, List.setIfInBounds_toArray, List.set_cons_zero, List.set_cons_succ]
        refine wpAnyH_take (i := 1) (v := ?v2) rfl (by kernel_rfl) (by kernel_rfl) (by kernel_rfl) (fun _ _ _ h => h) (Or.inl ⟨by rfl, ?hy2⟩) (by assumption) ?rest2
        case hy2 => (intro wz hSw; (try dsimp only at hSw); first | (go_simp; done) | (go_simp; with_reducible rfl))
        try simp only [Act.put, List.getElem_toArray, List.getElem_cons_succ, List.getElem_cons_zero, List.setIfInBounds_toArray, List.set_cons_zero, List.set_cons_succ]
        refine wpAnyH_take (i := 2) (v := ?v3) rfl (by kernel_rfl) (by kernel_rfl) (by kernel_rfl) (fun _ _ _ h => h) (Or.inl ⟨by rfl, ?hy3⟩) (by assumption) ?rest3
        case hy3 => (intro wz hSw; (try dsimp only at hSw); first | (go_simp; done) | (go_simp; with_reducible rfl))
        try simp only [Act.put, List.getElem_toArray, List.getElem_cons_succ, List.getElem_cons_zero, List.setIfInBounds_toArray, List.set_cons_zero, List.set_cons_succ]
        refine wpAnyH_take (i := 3) (v := ?v4) rfl (by kernel_rfl) (by kernel_rfl) (by kernel_rfl) (fun _ _ _ h => h) (Or.inl ⟨by rfl, ?hy4⟩) (by assumption) ?rest4
        case hy4 => (intro wz hSw; (try dsimp only at hSw); first | (go_simp; done) | (go_simp; with_reducible rfl))
        try simp only [Act.put, List.getElem_toArray, List.getElem_cons_succ, List.getElem_cons_zero, List.setIfInBounds_toArray, List.set_cons_zero, List.set_cons_succ]
        refine wpAnyH_take (i := 4) (v := ?v5) rfl (by kernel_rfl) (by kernel_rfl) (by kernel_rfl) (fun _ _ _ h => h) (Or.inl ⟨by rfl, ?hy5⟩) (by assumption) ?rest5
        case hy5 => (intro wz hSw; (try dsimp only at hSw); first | (go_simp; done) | (go_simp; with_reducible rfl))
        try simp only [Act.put, List.getElem_toArray, List.getElem_cons_succ, List.getElem_cons_zero, List.setIfInBounds_toArray, List.set_cons_zero, List.set_cons_succ]
        refine wpAnyH_take (i := 5) (v := ?v6) rfl (by kernel_rfl) (by kernel_rfl) (by kernel_rfl) (fun _ _ _ h => h) (Or.inl ⟨by rfl, ?hy6⟩) (by assumption) ?rest6
        case hy6 => (intro wz hSw; (try dsimp only at hSw); first | (go_simp; done) | (go_simp; with_reducible rfl))
        try simp only [Act.put, List.getElem_toArray, List.getElem_cons_succ, List.getElem_cons_zero, List.setIfInBounds_toArray, List.set_cons_zero, List.set_cons_succ]
        refine wpAnyH_take (i := 6) (v := ?v7) rfl (by kernel_rfl) (by kernel_rfl) (by kernel_rfl) (fun _ _ _ h => h) (Or.inl ⟨by rfl, ?hy7⟩) (by assumption) ?rest7
        case hy7 => (intro wz hSw; (try dsimp only at hSw); first | (go_simp; done) | (go_simp; with_reducible rfl))
        try simp only [Act.put, List.getElem_toArray, List.getElem_cons_succ, List.getElem_cons_zero, List.setIfInBounds_toArray, List.set_cons_zero, List.set_cons_succ]
        refine wpAnyH_take (i := 7) (v := ?v8) rfl (by kernel_rfl) (by kernel_rfl) (by kernel_rfl) (fun _ _ _ h => h) (Or.inl ⟨by rfl, ?hy8⟩) (by assumption) ?rest8
        case hy8 => (intro wz hSw; (try dsimp only at hSw); first | (go_simp; done) | (go_simp; with_reducible rfl))
        try simp only [Act.put, List.getElem_toArray, List.getElem_cons_succ, List.getElem_cons_zero, List.setIfInBounds_toArray, List.set_cons_zero, List.set_cons_succ]
        refine wpAnyH_take (i := 8) (v := ?v9) rfl (by kernel_rfl) (by kernel_rfl) (by kernel_rfl) (fun _ _ _ h => h) (Or.inl ⟨by rfl, ?hy9⟩) (by assumption) ?rest9
        case hy9 => (intro wz hSw; (try dsimp only at hSw); first | (go_simp; done) | (go_simp; with_reducible rfl))
        try simp only [Act.put, List.getElem_toArray, List.getElem_cons_succ, List.getElem_cons_zero, List.setIfInBounds_toArray, List.set_cons_zero, List.set_cons_succ]
        refine wpAnyH_take (i := 9) (v := ?v10) rfl (by kernel_rfl) (by kernel_rfl) (by kernel_rfl) (fun _ _ _ h => h) (Or.inl ⟨by rfl, ?hy10⟩) (by assumption) ?rest10
        case hy10 => (intro wz hSw; (try dsimp only at hSw); first | (go_simp; done) | (go_simp; with_reducible rfl))
        try simp only [Act.put, List.getElem_toArray, List.getElem_cons_succ, List.getElem_cons_zero, List.setIfInBounds_toArray, List.set_cons_zero, List.set_cons_succ]
        refine wpAnyH_take (i := 10) (v := ?v11) rfl (by kernel_rfl) (by kernel_rfl) (by kernel_rfl) (fun _ _ _ h => h) (Or.inl ⟨by rfl, ?hy11⟩) (by assumption) ?rest11
        case hy11 => (intro wz hSw; (try dsimp only at hSw); first | (go_simp; done) | (go_simp; with_reducible rfl))
        try simp only [Act.put, List.getElem_toArray, List.getElem_cons_succ, List.getElem_cons_zero, List.setIfInBounds_toArray, List.set_cons_zero, List.set_cons_succ]
        refine wpAnyH_take (i := 11) (v := ?v12) rfl (by kernel_rfl) (by kernel_rfl) (by kernel_rfl) (fun _ _ _ h => h) (Or.inl ⟨by rfl, ?hy12⟩) (by assumption) ?rest12
        case hy12 => (intro wz hSw; (try dsimp only at hSw); first | (go_simp; done) | (go_simp; with_reducible rfl))
        try simp only [Act.put, List.getElem_toArray, List.getElem_cons_succ, List.getElem_cons_zero, List.setIfInBounds_toArray, List.set_cons_zero, List.set_cons_succ]
        refine wpAnyH_ready (rs := [12]) (by kernel_rfl) (by simp) ?_
        refine AllReadyH.cons (o := _) rfl (fun K hK => ?_) AllReadyH.nil
        go_simp
        (with_reducible refine (AI.out _ (O.out.keep0 J0.out)).mono ?_)
        rintro e jw1 ⟨a5, c5, rfl, o5, g⟩
        have O5 := Lib.hid o5
        clear o5
        have J1 := Lib.hid (gb_trans J0.out g)
        clear g
        try dsimp only
        refine hK.out _ _ (KJ.out _ J1.out) (fun hH1 => ?_)
        clear hK K hH0
        try simp only [Act.put, List.getElem_toArray, List.getElem_cons_succ, List.getElem_cons_zero, List.setIfInBounds_toArray, List.set_cons_zero, List.set_cons_succ]
        refine wpAnyH_take (i := 13) (v := ?v13) rfl (by kernel_rfl) (by kernel_rfl) (by kernel_rfl) (fun _ _ _ h => h) (Or.inl ⟨by rfl, ?hy13⟩) (by assumption) ?rest13
        case hy13 => (intro wz hSw; (try dsimp only at hSw); first | (go_simp; done) | (go_simp; with_reducible rfl))
        try simp only [Act.put, List.getElem_toArray, List.getElem_cons_succ, List.getElem_cons_zero, List.setIfInBounds_toArray, List.set_cons_zero, List.set_cons_succ]
        refine wpAnyH_done (by kernel_rfl) ?_ _
        clear hH1
        have G5 := Lib.hid (gb_trans G.out J1.out)
        have O6 := Lib.hid (own_low O5.out (Nat.le_trans G.out.size J0.out.size))
        clear O5
        obtain ⟨m5, hm5⟩ : ∃ m5, m5 = (aR (nn, wd) (aF (N.take i))).length := ⟨_, rfl⟩
        rw [← hm5] at O6 ⊢
        go_wp2
        go_roundw
        case rel => exact ⟨i + 1, m5, a5, c5, by omega, by go_num, rfl, by rw [EQ.out, hm5], by rw [EQ.out]; unfold FL; rw [← hm5]; exact O6.out, G5.out⟩
        case measure => simp [intOf]; omega
      · have q0 : (op == 2) = false := by rw [beq_eq_false_iff_ne]; exact h2
        have EQ := Lib.hid (show aF (N.take (i + 1)) = aF (N.take i) by rw [TK.out]; exact aF_no _ (op, nn, wd) h2)
        go_wp2
        go_roundw
        case rel => exact ⟨i + 1, m, b, d, by omega, by go_num, rfl, by rw [EQ.out, OM.out], by rw [EQ.out]; exact O.out, G.out⟩
        case measure => simp [intOf]; omega
    · have i1 : ¬ (i : Int) < n := by omega
      have TN := Lib.hid (show N.take i = N from List.take_of_length_le (by rw [LN.out]; omega))
      go_wp2
      go_ret
      exact ⟨b, d, by rw [← TN.out, OM.out] <;> rfl, by rw [← OM.out, TN.out] at O; exact O.out, G.out⟩
end Go.Proofs.YtcicjodpkbcigaaGreat
