/- Expr: the reference's check; no condition but that the nodes are few. -/
import Derived.Test.YtdbjeihbfooipaaExWa
import Derived.Test.YtdbjeihbfooipaaExWo
import Derived.BigQuiet
namespace Go.Proofs.Ytdbjeihbfooipaa
open Go.RowKit
set_option linter.unusedVariables false
/-- What the reference's check returns. -/
def RetChk (r : Except Int (Tm × List Nd)) (w : World) (N : List Nd) (e : Ending) (w' : World) : Prop := w.grownBy w' none ∧ match r with
  | .error er => ∃ j : Int, e = .returned (.tuple #[.int .i64 0, .int .i64 j, .int .i64 er])
  | .ok (t, l) => ∃ k : Nat, k ≤ N.length ∧ l = N.drop k ∧ e = .returned (.tuple #[.int .i64 t.1, .int .i64 (k : Int), .int .i64 0])
theorem ts_slr {w : World} {ad : Addr} {n c : Nat} {ts : List Tm} (h : SlR w (some ad) n c ((ts.map (·.1)).map (Value.int .i64))) (i : Nat) (hi : i < ts.length) : w.cell? (ad.add i) = some (.int .i64 (ts.getD i tz).1) := by
  have q := h.2.2 ad rfl i (.int .i64 (ts.getD i tz).1) (by simp [hi])
  exact q
set_option maxRecDepth 100000 in
set_option maxHeartbeats 16000000 in
theorem rchk_any : ∀ (f : Nat) (w : World) (X : KX) (C : Cx) (N : List Nd) (hC : CR w X C N) (k : Nat) (hk : k ≤ N.length) (hl : N.length ≤ 100000) (hf : N.length - k < f),
    Calls Try.prog 136 #[.slice X.na X.nn X.nc, .int .i64 (k : Int), .agg #[.string X.nm, .slice X.ha X.hn X.hc, .slice X.ma X.mn X.mc, .slice X.a0 X.n0 X.c0, .slice X.a1 X.n1 X.c1, .slice X.a2 X.n2 X.c2, .slice X.a3 X.n3 X.c3, .slice X.a4 X.n4 X.c4, .slice X.a5 X.n5 X.c5, .slice X.pa X.pn X.pc]] w (RetChk (subT C f (N.drop k)) w N) := by
  intro f
  induction f with
  | zero => intro w X C N hC k hk hl hf; omega
  | succ f ih =>
    intro w X C N hC k hk hl hf
    have CC := Lib.hid hC
    have LN := Lib.hid hC.nd.len
    have ncap := hC.nd.cap
    have LL := Lib.hid hl
    have KF := Lib.hid (show N.length - k < f + 1 from hf)
    have IH := Lib.hid (fun (w2 : World) (g : w.grownBy w2 none) (k2 : Nat) (h1 : k2 ≤ N.length) (h2 : k + 1 ≤ k2) => ih w2 X C N (hC.keep0 g) k2 h1 hl (by omega))
    clear ih hC hf
    obtain ⟨A, hA⟩ : ∃ A, A = w.heap.size := ⟨_, rfl⟩
    obtain ⟨w1, hw1⟩ : ∃ w1, w1 = w.alloc (.cells #[.string X.nm, .slice X.ha X.hn X.hc, .slice X.ma X.mn X.mc, .slice X.a0 X.n0 X.c0, .slice X.a1 X.n1 X.c1, .slice X.a2 X.n2 X.c2, .slice X.a3 X.n3 X.c3, .slice X.a4 X.n4 X.c4, .slice X.a5 X.n5 X.c5, .slice X.pa X.pn X.pc] 179) := ⟨_, rfl⟩
    have BA := Lib.hid (show IsB w1 A 179 #[.string X.nm, .slice X.ha X.hn X.hc, .slice X.ma X.mn X.mc, .slice X.a0 X.n0 X.c0, .slice X.a1 X.n1 X.c1, .slice X.a2 X.n2 X.c2, .slice X.a3 X.n3 X.c3, .slice X.a4 X.n4 X.c4, .slice X.a5 X.n5 X.c5, .slice X.pa X.pn X.pc] from by rw [hw1, hA]; exact IsB.new _ _ _)
    have GZ := Lib.hid (show w.grownBy w1 none from by rw [hw1]; exact gb_al (gb_refl _ _))
    go_enter Try.func136, Try.ntmps136
    go_upto_region 1 with fail
    rw [← hA, ← hw1]
    clear hw1 hA
    by_cases hke : k = X.nn
    · have HS := Lib.hid (show subT C (f + 1) (N.drop k) = .error 3 by rw [List.drop_of_length_le (by rw [LN.out]; omega)]; rfl)
      have i0 : (X.nn : Int) ≤ (k : Int) := by omega
      clear hke
      go_wp2
      go_ret3
      rw [HS.out]
      exact ⟨GZ.out, _, rfl⟩
    have hk1 : k < X.nn := by have := LN.out; omega
    have i0 : ¬ (X.nn : Int) ≤ (k : Int) := by omega
    have i1 : (k : Int) < X.nn := by omega
    have i2 : (0 : Int) ≤ (k : Int) := by omega
    have hw : IntKind.i64.wrap ((k : Int) + 1) = ((k + 1 : Nat) : Int) := by have := LL.out; rw [IntKind.wrap_i64]; omega
    clear hke
    obtain ⟨nad, hna⟩ := CC.out.nd.some (by omega)
    have NC := Lib.hid (show w.cell? (nad.add (k * 3)) = some (.int .i64 (N.getD k nz).1) ∧ w.cell? ⟨(nad.add (k * 3)).block, (nad.add (k * 3)).off + 1, none⟩ = some (.int .i64 (N.getD k nz).2.1) ∧ w.cell? ⟨(nad.add (k * 3)).block, (nad.add (k * 3)).off + 2, none⟩ = some (.int .i64 (N.getD k nz).2.2) from by
      obtain ⟨z0, z1, z2⟩ := CC.out.nd.cells nad hna k hk1
      exact ⟨z0, z1, z2⟩)
    have NR := Lib.hid (CC.out.nd.rng (N.getD k nz) (by rw [List.getD_eq_getElem?_getD, List.getElem?_eq_getElem (by rw [LN.out]; exact hk1)]; exact List.getElem_mem _))
    have DC := Lib.hid (drop_cons (N := N) (k := k) (by rw [LN.out]; exact hk1))
    generalize N.getD k nz = x at *
    obtain ⟨op, n, wd⟩ := x
    replace IH := Lib.hid (fun (w2 : World) (g : w1.grownBy w2 none) (k2 : Nat) (h1 : k2 ≤ N.length) (h2 : k + 1 ≤ k2) => IH.out w2 (gb_trans GZ.out g) k2 h1 h2)
    rw [hna] at IH
    have LF := Lib.hid (fun (w2 : World) (g : w.grownBy w2 none) (h1 : 1 ≤ op) (h4 : op ≤ 4) => rleaf_any w2 X C N (CC.out.keep0 g) op n wd h1 h4 NR.out)
    unfold RetWE at LF
    rw [hna]
    clear hna
    have n0 := GZ.out.cell NC.out.1 (by simp)
    have n1 := GZ.out.cell NC.out.2.1 (by simp)
    have n2 := GZ.out.cell NC.out.2.2 (by simp)
    dsimp only at n0 n1 n2
    have SU := Lib.hid (show subT C (f + 1) (N.drop k) = if arB op = true then (match manyT (subT C f) (arN op) (N.drop (k + 1)) with
          | .error e => .error e
          | .ok (ts, l1) => match nodeT C (op, n, wd) ts with
            | .error e => .error e
            | .ok t => .ok (t, l1)) else .error 11 by rw [DC.out]; rfl)
    have AR := Lib.hid (fun w => rarity_any w op)
    unfold RetS at AR
    go_wp2_with fail
    refine (AR.out _).mono ?_
    rintro e w5 ⟨rfl, hz⟩
    obtain rfl := hz.symm
    clear hz
    cases hb : arB op with
    | false =>
      have e1 : arI op = -1 := by unfold arI; rw [hb]; rfl
      have HS := Lib.hid (show subT C (f + 1) (N.drop k) = .error 11 by rw [SU.out, hb]; rfl)
      rw [e1]
      clear e1 hb
      go_wp2
      go_ret3
      rw [HS.out]
      exact ⟨GZ.out, _, rfl⟩
    | true =>
      have HB := Lib.hid hb
      have e1 : arI op = ((arN op : Nat) : Int) := by unfold arI; rw [hb]; rfl
      have CN := Lib.hid (show arN op ≤ 3 by unfold arN; split <;> (try split) <;> (try split) <;> (try split) <;> decide)
      rw [hb, if_pos rfl] at SU
      rw [e1]
      clear e1 hb
      by_cases hc0 : arN op = 0
      · have hop : 1 ≤ op ∧ op ≤ 4 := by
          have h17 : 1 ≤ op ∧ op ≤ 17 := of_decide_eq_true HB.out
          refine ⟨h17.1, ?_⟩
          unfold arN at hc0
          rw [if_pos h17] at hc0
          split at hc0
          · assumption
          · (repeat' split at hc0) <;> omega
        have HS := Lib.hid (show subT C (f + 1) (N.drop k) = match leafT C (op, n, wd) with
            | .error e => .error e
            | .ok t => .ok (t, N.drop (k + 1)) by rw [SU.out, hc0]; show (match nodeT C (op, n, wd) [] with | .error e => Except.error e | .ok t => Except.ok (t, N.drop (k + 1))) = _; rw [show nodeT C (op, n, wd) [] = leafT C (op, n, wd) by unfold nodeT; rw [if_pos hc0]])
        rw [hc0]
        replace LF := Lib.hid (fun (w2 : World) (g : w.grownBy w2 none) => LF.out w2 g hop.1 hop.2)
        generalize leafT C (op, n, wd) = R at *
        clear hc0 hop SU IH n0 n1 n2
        try rw [show ((0 : Nat) : Int) = 0 from rfl]
        go_upto_region 7 with fail
        have KS := Lib.hid (fun (w' : World) (q0 : w1.grownBy w' none) => (⟨(gb_trans GZ.out q0).cell NC.out.1 (by simp), (gb_trans GZ.out q0).cell NC.out.2.1 (by simp), (gb_trans GZ.out q0).cell NC.out.2.2 (by simp), (BA.out.keep0 q0).cell 0, (BA.out.keep0 q0).cell 1, (BA.out.keep0 q0).cell 2, (BA.out.keep0 q0).cell 3, (BA.out.keep0 q0).cell 4, (BA.out.keep0 q0).cell 5, (BA.out.keep0 q0).cell 6, (BA.out.keep0 q0).cell 7, (BA.out.keep0 q0).cell 8, (BA.out.keep0 q0).cell 9, q0⟩ : (fun w' : World => w'.cell? (nad.add (k * 3)) = some (.int .i64 op) ∧ w'.cell? (⟨(nad.add (k * 3)).block, (nad.add (k * 3)).off + 1, none⟩) = some (.int .i64 n) ∧ w'.cell? (⟨(nad.add (k * 3)).block, (nad.add (k * 3)).off + 2, none⟩) = some (.int .i64 wd) ∧ w'.cell? ⟨A, 0, none⟩ = some (.string X.nm) ∧ w'.cell? ⟨A, 1, none⟩ = some (.slice X.ha X.hn X.hc) ∧ w'.cell? ⟨A, 2, none⟩ = some (.slice X.ma X.mn X.mc) ∧ w'.cell? ⟨A, 3, none⟩ = some (.slice X.a0 X.n0 X.c0) ∧ w'.cell? ⟨A, 4, none⟩ = some (.slice X.a1 X.n1 X.c1) ∧ w'.cell? ⟨A, 5, none⟩ = some (.slice X.a2 X.n2 X.c2) ∧ w'.cell? ⟨A, 6, none⟩ = some (.slice X.a3 X.n3 X.c3) ∧ w'.cell? ⟨A, 7, none⟩ = some (.slice X.a4 X.n4 X.c4) ∧ w'.cell? ⟨A, 8, none⟩ = some (.slice X.a5 X.n5 X.c5) ∧ w'.cell? ⟨A, 9, none⟩ = some (.slice X.pa X.pn X.pc) ∧ w1.grownBy w' none) w'))
        have H0 := Lib.hid (gb_drew w1 none)
        refine wp_region_held_drew (S := (fun w' : World => w'.cell? (nad.add (k * 3)) = some (.int .i64 op) ∧ w'.cell? (⟨(nad.add (k * 3)).block, (nad.add (k * 3)).off + 1, none⟩) = some (.int .i64 n) ∧ w'.cell? (⟨(nad.add (k * 3)).block, (nad.add (k * 3)).off + 2, none⟩) = some (.int .i64 wd) ∧ w'.cell? ⟨A, 0, none⟩ = some (.string X.nm) ∧ w'.cell? ⟨A, 1, none⟩ = some (.slice X.ha X.hn X.hc) ∧ w'.cell? ⟨A, 2, none⟩ = some (.slice X.ma X.mn X.mc) ∧ w'.cell? ⟨A, 3, none⟩ = some (.slice X.a0 X.n0 X.c0) ∧ w'.cell? ⟨A, 4, none⟩ = some (.slice X.a1 X.n1 X.c1) ∧ w'.cell? ⟨A, 5, none⟩ = some (.slice X.a2 X.n2 X.c2) ∧ w'.cell? ⟨A, 6, none⟩ = some (.slice X.a3 X.n3 X.c3) ∧ w'.cell? ⟨A, 7, none⟩ = some (.slice X.a4 X.n4 X.c4) ∧ w'.cell? ⟨A, 8, none⟩ = some (.slice X.a5 X.n5 X.c5) ∧ w'.cell? ⟨A, 9, none⟩ = some (.slice X.pa X.pn X.pc) ∧ w1.grownBy w' none)) (by kernel_rfl) (KS.out _ H0.out) (fun hH0 => ?_)
        refine wpAnyH_take (i := 0) (v := ?v1) rfl (by kernel_rfl) (by kernel_rfl) (by kernel_rfl) (fun _ _ _ h => h) (Or.inl ⟨by rfl, ?hy1⟩) (by assumption) ?rest1
        case hy1 => (intro wz hSw; (try dsimp only at hSw); first | (go_simp; done) | (go_simp; with_reducible rfl))
        try simp only [Act.put, List.getElem_toArray, List.getElem_cons_zero, List.setIfInBounds_toArray, List.set_cons_zero, List.set_cons_succ]
        refine wpAnyH_take (i := 1) (v := ?v2) rfl (by kernel_rfl) (by kernel_rfl) (by kernel_rfl) (fun _ _ _ h => h) (Or.inl ⟨by rfl, ?hy2⟩) (by assumption) ?rest2
        case hy2 => (intro wz hSw; (try dsimp only at hSw); first | (go_simp; done) | (go_simp; with_reducible rfl))
        try simp only [Act.put, List.getElem_toArray, List.getElem_cons_succ, List.getElem_cons_zero, List.setIfInBounds_toArray, List.set_cons_zero, List.set_cons_succ]
        refine wpAnyH_take (i := 2) (v := ?v3) rfl (by kernel_rfl) (by kernel_rfl) (by kernel_rfl) (fun _ _ _ h => h) (Or.inl ⟨by rfl, ?hy3⟩) (by assumption) ?rest3
        case hy3 => (intro wz hSw; (try dsimp only at hSw); first | (go_simp; done) | (go_simp; with_reducible rfl))
        try simp only [Act.put, List.getElem_toArray, List.getElem_cons_succ, List.getElem_cons_zero, List.setIfInBounds_toArray, List.set_cons_zero, List.set_cons_succ]
        refine wpAnyH_take (i := 3) (v := ?v4) rfl (by kernel_rfl) (by kernel_rfl) (by kernel_rfl) (fun _ _ _ h => h) (Or.inl ⟨by rfl, ?hy4⟩) (by assumption) ?rest4
        case hy4 => (intro wz hSw; (try dsimp only at hSw); first | (go_simp; done) | (go_simp; with_reducible rfl))
        try simp only [Act.put, List.getElem_toArray, List.getElem_cons_succ, List.getElem_cons_zero, List.setIfInBounds_toArray, List.set_cons_zero, List.set_cons_succ]
        refine wpAnyH_take (i := 4) (v := ?v5) rfl (by kernel_rfl) (by kernel_rfl) (by kernel_rfl) (fun _ _ _ h => h) (Or.inl ⟨by rfl, ?hy5⟩) (by assumption) ?rest5
        case hy5 => (intro wz hSw; (try dsimp only at hSw); first | (go_simp; done) | (go_simp; with_reducible rfl))
        try simp only [Act.put, List.getElem_toArray, List.getElem_cons_succ, List.getElem_cons_zero, List.setIfInBounds_toArray, List.set_cons_zero, List.set_cons_succ]
        refine wpAnyH_ready (rs := [5]) (by kernel_rfl) (by simp) ?_
        refine AllReadyH.cons (o := _) rfl (fun K hK => ?_) AllReadyH.nil
        go_simp
        (with_reducible refine (LF.out _ (gb_trans GZ.out H0.out)).mono ?_)
        rintro e hw1 ⟨rfl, g⟩
        have H1 := Lib.hid (gb_trans H0.out g)
        clear g
        try dsimp only
        refine hK.out _ _ (KS.out _ H1.out) (fun hH1 => ?_)
        clear hK K hH0
        try simp only [Act.put, List.getElem_toArray, List.getElem_cons_succ, List.getElem_cons_zero, List.setIfInBounds_toArray, List.set_cons_zero, List.set_cons_succ]
        refine wpAnyH_take (i := 6) (v := ?v6) rfl (by kernel_rfl) (by kernel_rfl) (by kernel_rfl) (fun _ _ _ h => h) (Or.inl ⟨by rfl, ?hy6⟩) (by assumption) ?rest6
        case hy6 => (intro wz hSw; (try dsimp only at hSw); first | (go_simp; done) | (go_simp; with_reducible rfl))
        try simp only [Act.put, List.getElem_toArray, List.getElem_cons_succ, List.getElem_cons_zero, List.setIfInBounds_toArray, List.set_cons_zero, List.set_cons_succ]
        refine wpAnyH_take (i := 7) (v := ?v7) rfl (by kernel_rfl) (by kernel_rfl) (by kernel_rfl) (fun _ _ _ h => h) (Or.inl ⟨by rfl, ?hy7⟩) (by assumption) ?rest7
        case hy7 => (intro wz hSw; (try dsimp only at hSw); first | (go_simp; done) | (go_simp; with_reducible rfl))
        try simp only [Act.put, List.getElem_toArray, List.getElem_cons_succ, List.getElem_cons_zero, List.setIfInBounds_toArray, List.set_cons_zero, List.set_cons_succ]
        refine wpAnyH_take (i := 8) (v := ?v8) rfl (by kernel_rfl) (by kernel_rfl) (by kernel_rfl) (fun _ _ _ h => h) (Or.inl ⟨by rfl, ?hy8⟩) (by assumption) ?rest8
        case hy8 => (intro wz hSw; (try dsimp only at hSw); first | (go_simp; done) | (go_simp; with_reducible rfl))
        try simp only [Act.put, List.getElem_toArray, List.getElem_cons_succ, List.getElem_cons_zero, List.setIfInBounds_toArray, List.set_cons_zero, List.set_cons_succ]
        refine wpAnyH_take (i := 9) (v := ?v9) rfl (by kernel_rfl) (by kernel_rfl) (by kernel_rfl) (fun _ _ _ h => h) (Or.inl ⟨by rfl, ?hy9⟩) (by assumption) ?rest9
        case hy9 => (intro wz hSw; (try dsimp only at hSw); first | (go_simp; done) | (go_simp; with_reducible rfl))
        try simp only [Act.put, List.getElem_toArray, List.getElem_cons_succ, List.getElem_cons_zero, List.setIfInBounds_toArray, List.set_cons_zero, List.set_cons_succ]
        refine wpAnyH_take (i := 10) (v := ?v10) rfl (by kernel_rfl) (by kernel_rfl) (by kernel_rfl) (fun _ _ _ h => h) (Or.inl ⟨by rfl, ?hy10⟩) (by assumption) ?rest10
        case hy10 => (intro wz hSw; (try dsimp only at hSw); first | (go_simp; done) | (go_simp; with_reducible rfl))
        try simp only [Act.put, List.getElem_toArray, List.getElem_cons_succ, List.getElem_cons_zero, List.setIfInBounds_toArray, List.set_cons_zero, List.set_cons_succ]
        refine wpAnyH_done (by kernel_rfl) ?_ _
        clear hH1
        have GE := Lib.hid (gb_trans GZ.out H1.out)
        go_wp2
        go_ret3
        rw [HS.out]
        cases R with
        | error er => exact ⟨GE.out, _, rfl⟩
        | ok t => exact ⟨GE.out, k + 1, by have := LN.out; omega, rfl, rfl⟩
      · have c1 : ¬ ((arN op : Nat) : Int) = 0 := by omega
        have c2 : (((arN op : Nat) : Int) == 0) = false := by rw [beq_eq_false_iff_ne]; exact c1
        have CP := Lib.hid (show 0 < arN op by omega)
        generalize hcn : arN op = cnt at *
        have HCN := Lib.hid hcn
        clear hcn hc0 LF n0 n1 n2
        have k0 := NC.out
        clear k0
        go_wp2
        go_loopw [12, 13, 14, 15, 16, 17] (fun s12 s13 s14 s15 s16 s17 wr => ∃ (i k1 : Nat) (ts : List Tm) (aw : Option Addr) (cw : Nat), i ≤ cnt ∧ s14 = .int .i64 i ∧ s13 = .int .i64 k1 ∧ s12 = .slice aw i cw ∧ ts.length = i ∧ NL wr w1.heap.size (.slice aw i cw) (ts.map (·.1)) ∧ k1 ≤ N.length ∧ k + 1 ≤ k1 ∧ manyT (subT C f) i (N.drop (k + 1)) = .ok (ts, N.drop k1) ∧ w1.grownBy wr none) (fun _ _ s14 _ _ _ _ => cnt - (intOf s14).toNat)
        case atStart => exact ⟨0, k + 1, [], none, 0, Nat.zero_le _, rfl, rfl, rfl, rfl, NL.nil _ _, by have := LN.out; omega, Nat.le_refl _, rfl, gb_refl _ _⟩
        case round =>
          obtain ⟨i, k1, ts, aw, cw, hi, rfl, rfl, rfl, hts, ho, hk1', hk2', hm, hg⟩ := hrel
          have HM := Lib.hid hm
          have RG := Lib.hid hg
          have OW := Lib.hid ho
          have TL := Lib.hid hts
          clear hm hg ho hts
          by_cases hlt : i < cnt
          · have CL := Lib.hid (fun (w2 : World) (g : wr.grownBy w2 none) => IH.out w2 (gb_trans RG.out g) k1 hk1' hk2')
            unfold RetChk at CL
            have l1 : (i : Int) < cnt := by omega
            have a0 := (BA.out.keep0 RG.out).cell 0
            have a1 := (BA.out.keep0 RG.out).cell 1
            have a2 := (BA.out.keep0 RG.out).cell 2
            have a3 := (BA.out.keep0 RG.out).cell 3
            have a4 := (BA.out.keep0 RG.out).cell 4
            have a5 := (BA.out.keep0 RG.out).cell 5
            have a6 := (BA.out.keep0 RG.out).cell 6
            have a7 := (BA.out.keep0 RG.out).cell 7
            have a8 := (BA.out.keep0 RG.out).cell 8
            have a9 := (BA.out.keep0 RG.out).cell 9
            dsimp at a0 a1 a2 a3 a4 a5 a6 a7 a8 a9
            cases hr : subT C f (N.drop k1) with
            | error er =>
              rw [hr] at CL
              have ne := sub_err C f _ er hr
              have HS := Lib.hid (show subT C (f + 1) (N.drop k) = .error er by rw [SU.out, many_err (i + 1) (many_bad HM.out hr) cnt hlt])
              have e1 : (er != 0) = true := by rw [bne_iff_ne]; exact ne
              have e2 : (er == 0) = false := by rw [beq_eq_false_iff_ne]; exact ne
              have e3 : ¬ er = 0 := ne
              clear hr ne
              go_wp2_with fail
              refine (CL.out _ (gb_refl _ _)).mono ?_
              rintro e w7 ⟨g7, j, rfl⟩
              have G7 := Lib.hid (gb_trans GZ.out (gb_trans RG.out g7))
              clear g7 CL a0 a1 a2 a3 a4 a5 a6 a7 a8 a9
              go_wp2
              go_ret3
              rw [HS.out]
              exact ⟨G7.out, _, rfl⟩
            | ok r =>
              obtain ⟨t, l'⟩ := r
              rw [hr] at CL
              have HM2 := Lib.hid (many_step HM.out hr)
              have LE := Lib.hid (sub_ok C f _ t l' hr).2.1
              clear hr
              go_upto_region 15 with (go_at_call 136; refine (CL.out _ (gb_refl _ _)).mono ?_; rintro e w7 ⟨g7, k2, hk3, rfl, rfl⟩; have G7 := Lib.hid g7; have K3 := Lib.hid hk3; clear g7)
              have K4 := Lib.hid (show k1 ≤ k2 by have z := LE.out; have y := K3.out; rw [List.length_drop, List.length_drop] at z; omega)
              have R7 := Lib.hid (gb_trans RG.out G7.out)
              have O7 := Lib.hid (OW.out.keep0 G7.out)
              clear CL LE HM a0 a1 a2 a3 a4 a5 a6 a7 a8 a9
              have hwi : IntKind.i64.wrap ((i : Int) + 1) = ((i + 1 : Nat) : Int) := by have := CN.out; rw [IntKind.wrap_i64]; omega
              have GA := Lib.hid (gb_alloc w7 (.cells #[.int .i64 t.1] 3) none)
              have SO := Lib.hid (slr_one w7 .i64 t.1 3 _ rfl)
              go_wp2_with (at_builtin; refine npush_any rfl _ _ rfl w1.heap.size (.slice aw i cw) (ts.map (·.1)) rfl (O7.out.keep0 GA.out) _ _ _ [t.1] rfl SO.out (by have := TL.out; have := CN.out; simp; omega) (Nat.le_trans R7.out.size GA.out.size) ?_; intro V8 w8 o8 g8; have O8 := Lib.hid (show NL w8 w1.heap.size V8 ((ts ++ [t]).map (·.1)) by simpa using o8); have G8 := Lib.hid (gb_own (gb_trans R7.out GA.out) (O7.out.keep0 GA.out) (Nat.le_refl _) g8); clear o8 g8)
              obtain ⟨a8, c8, h8⟩ := O8.out.shape
              rw [show ((ts ++ [t]).map (·.1)).length = i + 1 by simp [TL.out]] at h8
              subst h8
              go_roundw
              case rel => exact ⟨i + 1, k2, ts ++ [t], a8, c8, by omega, by go_num, rfl, rfl, by simp [TL.out], O8.out, K3.out, by have := K4.out; omega, HM2.out, G8.out⟩
              case measure => simp [intOf]; omega
          · have hic : i = cnt := by omega
            have l1 : ¬ (i : Int) < cnt := by omega
            obtain ⟨g9, c9, hv⟩ := OW.out.headn (n := i) (by simp [TL.out]) (by have := CP.out; omega)
            injection hv with hv _ hc
            subst hv hc
            have GTs := Lib.hid (many_ok (sub_ok C f) i _ _ _ HM.out).2.1
            have HS := Lib.hid (show subT C (f + 1) (N.drop k) = match nodeT C (op, n, wd) ts with
              | .error e => .error e
              | .ok t => .ok (t, N.drop k1) by rw [SU.out, ← hic, HM.out])
            have OP := Lib.hid (fun (w2 : World) (g : wr.grownBy w2 none) => rop_any w2 ⟨g9, 0, none⟩ cw C op n wd ts HB.out (by rw [TL.out, hic, HCN.out]) (by rw [HCN.out]; exact CP.out) GTs.out (ts_slr ((OW.out.keep0 g).slr (by simp [TL.out]))))
            rw [TL.out] at OP
            unfold RetWE at OP
            generalize nodeT C (op, n, wd) ts = R at *
            have RGW := Lib.hid GZ.out
            have RG0 := Lib.hid RG.out
            replace RG := Lib.hid (gb_trans GZ.out RG.out)
            clear HM IH SU GTs hic
            have n0 := (gb_trans RGW.out RG0.out).cell NC.out.1 (by simp)
            have n1 := (gb_trans RGW.out RG0.out).cell NC.out.2.1 (by simp)
            have n2 := (gb_trans RGW.out RG0.out).cell NC.out.2.2 (by simp)
            try dsimp only at n0 n1 n2
            go_upto_region 20 with (go_at_call 157; refine (OP.out _ (gb_refl _ _)).mono ?_; rintro e9 w9 ⟨rfl, g⟩; have H1 := Lib.hid g; clear g)
            have GE := Lib.hid (gb_trans RG.out H1.out)
            go_wp2
            go_ret3
            rw [HS.out]
            cases R with
            | error er => exact ⟨GE.out, _, rfl⟩
            | ok t => exact ⟨GE.out, k1, hk1', rfl, rfl⟩
end Go.Proofs.Ytdbjeihbfooipaa
