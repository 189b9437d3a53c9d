/- Expr: the reference's evaluation of a subexpression; no condition but that the nodes are few. -/
import Derived.Test.YtcicjodpkbcigaaGreatExWf
import Derived.BigQuiet
namespace Go.Proofs.YtcicjodpkbcigaaGreat
open Go.RowKit
set_option linter.unusedVariables false
theorem getE_rng {w : World} {X : KX} {C : Cx} {N : List Nd} (hC : CR w X C N) (h f : Int) : 0 ≤ getE C.V C.F C.T h f ∧ getE C.V C.F C.T h f < 4294967296 := by
  unfold getE
  split
  · unfold vls
    split
    · exact hC.td.at_ _
    · split
      · rename_i hx
        have hx := (isX_iff _ _).1 hx
        by_cases hn : 0 < X.fn
        · obtain ⟨ad, e⟩ := hC.fd.some hn
          obtain ⟨_, _, _, _, su⟩ := hC.fd.cells ad e h.toNat (by have := hC.fd.len; omega)
          exact su.at_ _
        · have := hC.fd.len; omega
      · simp
  · exact ⟨Int.le_refl _, by decide⟩
set_option maxRecDepth 100000 in
set_option maxHeartbeats 16000000 in
theorem reval_any : ∀ (f : Nat) (w : World) (X : KX) (C : Cx) (N : List Nd) (hC : CR w X C N) (k : Nat) (hk : k ≤ N.length) (hl : N.length ≤ 100000) (hf : N.length - k < f) (t : Tm) (l : List Nd) (hok : subT C f (N.drop k) = .ok (t, l)),
    Calls Tryz.prog 33 #[.slice X.na X.nn X.nc, .int .i64 (k : Int), .agg #[.string X.nm, .slice X.ha X.hn X.hc, .slice X.ma X.mn X.mc, .slice X.a0 X.n0 X.c0, .slice X.a1 X.n1 X.c1, .slice X.a2 X.n2 X.c2, .slice X.a3 X.n3 X.c3, .slice X.a4 X.n4 X.c4, .slice X.a5 X.n5 X.c5, .slice X.pa X.pn X.pc], .agg #[.slice X.va X.vn X.vc, .slice X.fa X.fn X.fc, .slice X.ta X.tn X.tc, .slice X.la X.ln X.lc], .slice X.aa X.an X.ac] w (RetEv t l w N) := by
  intro f
  induction f with
  | zero => intro w X C N hC k hk hl hf; omega
  | succ f ih =>
    intro w X C N hC k hk hl hf t l hok
    obtain ⟨tw, tv⟩ := t
    have CC := Lib.hid hC
    have LN := Lib.hid hC.nd.len
    have ncap := hC.nd.cap
    have LL := Lib.hid hl
    have IH := Lib.hid (fun (w2 : World) (g : w.grownBy w2 none) (k2 : Nat) (h1 : k2 ≤ N.length) (h2 : k + 1 ≤ k2) => ih w2 X C N (hC.keep0 g) k2 h1 hl (by omega))
    have CHK := Lib.hid (fun (w2 : World) (g : w.grownBy w2 none) => by have z := rchk_any (f + 1) w2 X C N (hC.keep0 g) k hk hl hf; rw [hok] at z; exact z)
    unfold RetChk at CHK
    dsimp only at CHK
    have hk1 : k < X.nn := by
      rcases Nat.lt_or_ge k X.nn with q | q
      · exact q
      · rw [List.drop_of_length_le (by rw [LN.out]; omega)] at hok; cases hok
    obtain ⟨nad, hna⟩ := CC.out.nd.some (by omega)
    have NC := Lib.hid (show w.cell? (nad.add (k * 3)) = some (.int .i64 (N.getD k nz).1) ∧ w.cell? ⟨(nad.add (k * 3)).block, (nad.add (k * 3)).off + 1, none⟩ = some (.int .i64 (N.getD k nz).2.1) ∧ w.cell? ⟨(nad.add (k * 3)).block, (nad.add (k * 3)).off + 2, none⟩ = some (.int .i64 (N.getD k nz).2.2) from by
      obtain ⟨z0, z1, z2⟩ := CC.out.nd.cells nad hna k hk1
      exact ⟨z0, z1, z2⟩)
    have NR := Lib.hid (CC.out.nd.rng (N.getD k nz) (by rw [List.getD_eq_getElem?_getD, List.getElem?_eq_getElem (by rw [LN.out]; exact hk1)]; exact List.getElem_mem _))
    rw [drop_cons (N := N) (k := k) (by rw [LN.out]; exact hk1)] at hok
    generalize N.getD k nz = x at *
    obtain ⟨op, n, wd⟩ := x
    dsimp only at NC
    have hb : arB op = true := by
      rcases hq : arB op with _ | _
      · exfalso
        have e : subT C (f + 1) ((op, n, wd) :: N.drop (k + 1)) = .error 11 := by show (if arB op = true then _ else _) = _; rw [hq]; rfl
        rw [e] at hok; cases hok
      · rfl
    have SU := Lib.hid (show (match manyT (subT C f) (arN op) (N.drop (k + 1)) with
          | .error e => .error e
          | .ok (ts, l1) => match nodeT C (op, n, wd) ts with
            | .error e => .error e
            | .ok t => .ok (t, l1)) = Except.ok ((tw, tv), l) from by
      have e : subT C (f + 1) ((op, n, wd) :: N.drop (k + 1)) = (match manyT (subT C f) (arN op) (N.drop (k + 1)) with
          | .error e => .error e
          | .ok (ts, l1) => match nodeT C (op, n, wd) ts with
            | .error e => .error e
            | .ok t => .ok (t, l1)) := by show (if arB op = true then _ else _) = _; rw [hb]; rfl
      rw [← e]; exact hok)
    have HB := Lib.hid hb
    have AR := Lib.hid (fun w => by have z := rarity_any w op; rw [show arI op = ((arN op : Nat) : Int) by unfold arI; rw [hb]; rfl] at z; exact z)
    unfold RetS at AR
    clear ih hC hf hok hb
    have G1 := Lib.hid (gb_trans (gb_trans (gb_alloc w (.cells #[.string X.nm, .slice X.ha X.hn X.hc, .slice X.ma X.mn X.mc, .slice X.a0 X.n0 X.c0, .slice X.a1 X.n1 X.c1, .slice X.a2 X.n2 X.c2, .slice X.a3 X.n3 X.c3, .slice X.a4 X.n4 X.c4, .slice X.a5 X.n5 X.c5, .slice X.pa X.pn X.pc] 49) none) (gb_alloc _ (.cells #[.slice X.va X.vn X.vc, .slice X.fa X.fn X.fc, .slice X.ta X.tn X.tc, .slice X.la X.ln X.lc] 38) none)) (gb_alloc _ (.cells #[.int .u32 0, .int .i64 0, .int .i64 0] 91) none))
    have B1 := ((IsB.new w 49 #[.string X.nm, .slice X.ha X.hn X.hc, .slice X.ma X.mn X.mc, .slice X.a0 X.n0 X.c0, .slice X.a1 X.n1 X.c1, .slice X.a2 X.n2 X.c2, .slice X.a3 X.n3 X.c3, .slice X.a4 X.n4 X.c4, .slice X.a5 X.n5 X.c5, .slice X.pa X.pn X.pc]).alloc (.cells #[.slice X.va X.vn X.vc, .slice X.fa X.fn X.fc, .slice X.ta X.tn X.tc, .slice X.la X.ln X.lc] 38)).alloc (.cells #[.int .u32 0, .int .i64 0, .int .i64 0] 91)
    have B2 := (IsB.new (w.alloc (.cells #[.string X.nm, .slice X.ha X.hn X.hc, .slice X.ma X.mn X.mc, .slice X.a0 X.n0 X.c0, .slice X.a1 X.n1 X.c1, .slice X.a2 X.n2 X.c2, .slice X.a3 X.n3 X.c3, .slice X.a4 X.n4 X.c4, .slice X.a5 X.n5 X.c5, .slice X.pa X.pn X.pc] 49)) 38 #[.slice X.va X.vn X.vc, .slice X.fa X.fn X.fc, .slice X.ta X.tn X.tc, .slice X.la X.ln X.lc]).alloc (.cells #[.int .u32 0, .int .i64 0, .int .i64 0] 91)
    have B3 := IsB.new ((w.alloc (.cells #[.string X.nm, .slice X.ha X.hn X.hc, .slice X.ma X.mn X.mc, .slice X.a0 X.n0 X.c0, .slice X.a1 X.n1 X.c1, .slice X.a2 X.n2 X.c2, .slice X.a3 X.n3 X.c3, .slice X.a4 X.n4 X.c4, .slice X.a5 X.n5 X.c5, .slice X.pa X.pn X.pc] 49)).alloc (.cells #[.slice X.va X.vn X.vc, .slice X.fa X.fn X.fc, .slice X.ta X.tn X.tc, .slice X.la X.ln X.lc] 38)) 91 #[.int .u32 0, .int .i64 0, .int .i64 0]
    simp only [sz_al] at B2 B3
    replace B1 := Lib.hid B1
    replace B2 := Lib.hid B2
    replace B3 := Lib.hid B3
    go_enter Tryz.func33, Tryz.ntmps33
    go_upto_region 1 with fail
    generalize ((w.alloc (.cells #[.string X.nm, .slice X.ha X.hn X.hc, .slice X.ma X.mn X.mc, .slice X.a0 X.n0 X.c0, .slice X.a1 X.n1 X.c1, .slice X.a2 X.n2 X.c2, .slice X.a3 X.n3 X.c3, .slice X.a4 X.n4 X.c4, .slice X.a5 X.n5 X.c5, .slice X.pa X.pn X.pc] 49)).alloc (.cells #[.slice X.va X.vn X.vc, .slice X.fa X.fn X.fc, .slice X.ta X.tn X.tc, .slice X.la X.ln X.lc] 38)).alloc (.cells #[.int .u32 0, .int .i64 0, .int .i64 0] 91) = w1 at *
    obtain ⟨bx, hbx⟩ : ∃ b, b = w.heap.size := ⟨_, rfl⟩
    have Lbx := Lib.hid (show w.heap.size ≤ bx by rw [hbx]; exact Nat.le_refl _)
    rw [← hbx] at B1 B2 B3 ⊢
    clear hbx
    rw [hna] at IH CHK ⊢
    clear hna
    have i1 : (k : Int) < X.nn := by omega
    have i2 : (0 : Int) ≤ (k : Int) := by omega
    have hw : IntKind.i64.wrap ((k : Int) + 1) = ((k + 1 : Nat) : Int) := by have := LL.out; rw [IntKind.wrap_i64]; omega
    have n0 := G1.out.cell NC.out.1 (by simp)
    have n1 := G1.out.cell NC.out.2.1 (by simp)
    have n2 := G1.out.cell NC.out.2.2 (by simp)
    go_upto_region 2 with fail
    have B4 := Lib.hid (IsB.new w1 66 #[.int .i64 op, .int .i64 n, .int .i64 wd])
    have g2 := gb_alloc w1 (.cells #[.int .i64 op, .int .i64 n, .int .i64 wd] 66) none
    have G2 := Lib.hid (gb_trans G1.out g2)
    replace B1 := Lib.hid (B1.out.keep0 g2)
    replace B2 := Lib.hid (B2.out.keep0 g2)
    replace B3 := Lib.hid (B3.out.keep0 g2)
    have L3 := Lib.hid (show w.heap.size ≤ bx + 1 + 1 from Nat.le_trans Lbx.out (by omega))
    clear g2 n0 n1 n2 G1
    generalize w1.alloc (.cells #[.int .i64 op, .int .i64 n, .int .i64 wd] 66) = w2 at *
    generalize w1.heap.size = b4 at *
    have a0 := (B1.out).cell 0
    have a1 := (B1.out).cell 1
    have a2 := (B1.out).cell 2
    have a3 := (B1.out).cell 3
    have a4 := (B1.out).cell 4
    have a5 := (B1.out).cell 5
    have a6 := (B1.out).cell 6
    have a7 := (B1.out).cell 7
    have a8 := (B1.out).cell 8
    have a9 := (B1.out).cell 9
    dsimp at a0 a1 a2 a3 a4 a5 a6 a7 a8 a9
    go_upto_region 3 with (go_at_call 21; refine (CHK.out _ G2.out).mono ?_; rintro e w3 ⟨g3, k9, hk9, hl9, rfl⟩; have G3 := Lib.hid g3; clear g3 hk9 hl9)
    replace B1 := Lib.hid (B1.out.keep0 G3.out)
    replace B2 := Lib.hid (B2.out.keep0 G3.out)
    replace B3 := Lib.hid (B3.out.keep0 G3.out)
    replace B4 := Lib.hid (B4.out.keep0 G3.out)
    replace G3 := Lib.hid (gb_trans G2.out G3.out)
    clear G2 CHK
    clear a0 a1 a2 a3 a4 a5 a6 a7 a8 a9
    have x0 := (B4.out).cell 0
    have x1 := (B4.out).cell 1
    have x2 := (B4.out).cell 2
    dsimp at x0 x1 x2
    by_cases hc0 : arN op = 0
    · have hop : 1 ≤ op ∧ op ≤ 4 := by
        have h17 : 1 ≤ op ∧ op ≤ 17 := of_decide_eq_true HB.out
        refine ⟨h17.1, ?_⟩
        unfold arN at hc0
        rw [if_pos h17] at hc0
        split at hc0
        · assumption
        · (repeat' split at hc0) <;> omega
      have LE := Lib.hid (show leafT C (op, n, wd) = .ok (tw, tv) ∧ l = N.drop (k + 1) from by
        have z := SU.out
        rw [hc0] at z
        have e : nodeT C (op, n, wd) [] = leafT C (op, n, wd) := by unfold nodeT; rw [if_pos hc0]
        have z2 : (match nodeT C (op, n, wd) [] with | .error e => Except.error e | .ok t => Except.ok (t, N.drop (k + 1))) = Except.ok ((tw, tv), l) := z
        rw [e] at z2
        split at z2
        · cases z2
        · rename_i r hr
          injection z2 with z2
          injection z2 with za zb
          exact ⟨by rw [hr, za], zb.symm⟩)
      have LK := Lib.hid LE.out.2
      replace LE := Lib.hid LE.out.1
      clear hc0 SU IH AR
      have r0 := (B3.out).cell 0
      have r1 := (B3.out).cell 1
      have r2 := (B3.out).cell 2
      have q0 := (B3.out).free 0
      have q1 := (B3.out).free 1
      have q2 := (B3.out).free 2
      dsimp at r0 r1 r2
      rcases (show op = 1 ∨ op = 2 ∨ op = 3 ∨ op = 4 by omega) with rfl | rfl | rfl | rfl
      · have hq : n = tv ∧ wd = tw ∧ 0 ≤ n ∧ n < 4294967296 := by
          have z : constT n wd = .ok (tw, tv) := LE.out
          have gt := gt_u32 (gt_const z)
          unfold constT at z
          split at z
          · split at z
            · injection z with z; injection z with za zb; subst za zb; exact ⟨rfl, rfl, gt.1, gt.2⟩
            · cases z
          · cases z
        obtain ⟨rfl, rfl, h0, h1⟩ := hq
        have en : IntKind.u32.wrap n = n := by rw [IntKind.wrap_u32]; omega
        clear hop LE
        go_wp2
        (try simp only [Exit.inBlock, Exit.then])
        refine bodyPost_ret (v := .agg #[.int .u32 n, .int .i64 wd, .int .i64 ((k + 1 : Nat) : Int)]) (by rw [results_cell1 rfl]; go_simp) rfl ⟨?_, k + 1, by have := LN.out; omega, LK.out, rfl⟩
        exact gb_put (gb_put (gb_put G3.out L3.out) L3.out) L3.out
      · have hq : widE C.H C.M n wd = tw ∧ redB (getE C.V C.F C.T n wd) tw = tv := by
          have z : fieldT C n wd = .ok (tw, tv) := LE.out
          unfold fieldT at z
          split at z
          · split at z
            · cases z
            · injection z with z; injection z with za zb; subst za; exact ⟨rfl, zb⟩
          · cases z
        have GR := getE_rng CC.out n wd
        have KG := Lib.hid (fun (W : World) (q : w.grownBy W none) => by have z := rget_any W X.va X.fa X.ta X.la X.vn X.vc X.fn X.fc X.tn X.tc X.ln X.lc ⟨C.V, C.F, C.T, []⟩ (CC.out.vd.keep0 q) (CC.out.fd.keep0 q) (CC.out.td.keep0 q) n wd; unfold RetV at z; exact z)
        have KR := Lib.hid (fun W => reduce_any (getE C.V C.F C.T n wd) tw W GR.1 (by omega))
        rw [hq.2] at KR
        have eg : IntKind.u64.wrap (getE C.V C.F C.T n wd) = getE C.V C.F C.T n wd := by rw [IntKind.wrap_u64]; omega
        generalize getE C.V C.F C.T n wd = gv at *
        clear hop LE hq GR
        have v0 := (B2.out).cell 0
        have v1 := (B2.out).cell 1
        have v2 := (B2.out).cell 2
        have v3 := (B2.out).cell 3
        dsimp at v0 v1 v2 v3
        go_wp2_with (first | (go_at_call 44; refine (KG.out _ G3.out).mono ?_; rintro e w5 ⟨rfl, g5⟩; have G5 := Lib.hid (gb_trans G3.out g5); have B5 := Lib.hid (B3.out.keep0 g5); clear g5) | (go_at_call 43; refine (KR.out _).mono ?_; rintro e w6 ⟨rfl, hz⟩; obtain rfl := hz; have r0 := B5.out.cell 0; have r1 := B5.out.cell 1; have r2 := B5.out.cell 2; have q0 := B5.out.free 0; have q1 := B5.out.free 1; have q2 := B5.out.free 2; dsimp at r0 r1 r2))
        (try simp only [Exit.inBlock, Exit.then])
        refine bodyPost_ret (v := .agg #[.int .u32 tv, .int .i64 tw, .int .i64 ((k + 1 : Nat) : Int)]) (by rw [results_cell1 rfl]; go_simp) rfl ⟨?_, k + 1, by have := LN.out; omega, LK.out, rfl⟩
        exact gb_put (gb_put (gb_put G5.out L3.out) L3.out) L3.out
      · have hq : paramT C n = .ok (tw, tv) := LE.out
        obtain ⟨hx, hq2⟩ : isX n C.P.length = true ∧ ((C.A.length : Int) ≤ n ∧ tv = 0 ∨ n < (C.A.length : Int) ∧ redB (C.A.getD n.toNat 0) tw = tv) := by
          unfold paramT at hq
          split at hq
          · rename_i hx
            refine ⟨hx, ?_⟩
            split at hq
            · split at hq
              · rename_i h3; injection hq with hq; injection hq with za zb; exact .inl ⟨h3, zb.symm⟩
              · rename_i h3; injection hq with hq; injection hq with za zb; subst za; exact .inr ⟨by omega, zb⟩
            · cases hq
          · cases hq
        have hx := (isX_iff _ _).1 hx
        have LA := CC.out.ad.len
        have acap := CC.out.ad.cap
        rcases hq2 with ⟨h3, rfl⟩ | ⟨h3, hr⟩
        · have j1 : ¬ n < (X.an : Int) := by omega
          clear hop LE hq hx LA
          go_wp2
          (try simp only [Exit.inBlock, Exit.then])
          refine bodyPost_ret (v := .agg #[.int .u32 0, .int .i64 tw, .int .i64 ((k + 1 : Nat) : Int)]) (by rw [results_cell1 rfl]; go_simp) rfl ⟨?_, k + 1, by have := LN.out; omega, LK.out, rfl⟩
          exact gb_put (gb_put (gb_put G3.out L3.out) L3.out) L3.out
        · obtain ⟨m, rfl⟩ : ∃ m : Nat, n = (m : Int) := ⟨n.toNat, by omega⟩
          have j1 : (m : Int) < (X.an : Int) := by omega
          have j0 : (0 : Int) ≤ (m : Int) := by omega
          obtain ⟨aad, haa⟩ := CC.out.ad.some (by omega)
          have c0 := G3.out.cell (CC.out.ad.cells aad haa m (by omega)) (by simp)
          have AR2 := CC.out.ad.at_ m
          rw [Int.toNat_natCast] at hr
          have KR := Lib.hid (fun W => reduce_any (C.A.getD m 0) tw W AR2.1 (by omega))
          rw [hr] at KR
          have eg : IntKind.u64.wrap (C.A.getD m 0) = C.A.getD m 0 := by rw [IntKind.wrap_u64]; omega
          generalize C.A.getD m 0 = av at *
          clear hop LE hq hx LA h3 hr AR2
          rw [haa]
          go_wp2_with (go_at_call 43; refine (KR.out _).mono ?_; rintro e w6 ⟨rfl, hz⟩; obtain rfl := hz)
          (try simp only [Exit.inBlock, Exit.then])
          refine bodyPost_ret (v := .agg #[.int .u32 tv, .int .i64 tw, .int .i64 ((k + 1 : Nat) : Int)]) (by rw [results_cell1 rfl]; go_simp) rfl ⟨?_, k + 1, by have := LN.out; omega, LK.out, rfl⟩
          exact gb_put (gb_put (gb_put G3.out L3.out) L3.out) L3.out
      · have hq : isX n C.H.length = true ∧ tw = 1 ∧ bitI (validB C.V n) = tv := by
          have z : validT C n = .ok (tw, tv) := LE.out
          unfold validT at z
          split at z
          · rename_i hx; injection z with z; injection z with za zb; exact ⟨hx, za.symm, zb⟩
          · cases z
        obtain ⟨hx, rfl, hv⟩ := hq
        have hx := (isX_iff _ _).1 hx
        obtain ⟨m, rfl⟩ : ∃ m : Nat, n = (m : Int) := ⟨n.toNat, by omega⟩
        have LV := CC.out.vd.len
        have vcap := CC.out.vd.cap
        have j0 : (0 : Int) ≤ (m : Int) := by omega
        have v0 := (B2.out).cell 0
        have v1 := (B2.out).cell 1
        have v2 := (B2.out).cell 2
        have v3 := (B2.out).cell 3
        dsimp at v0 v1 v2 v3
        by_cases hm : m < X.vn
        · have j1 : (m : Int) < (X.vn : Int) := by omega
          obtain ⟨vad, hva⟩ := CC.out.vd.some (by omega)
          have c0 := G3.out.cell (CC.out.vd.cells vad hva m hm) (by simp)
          have hv2 : validB C.V (m : Int) = C.V.getD m false := by unfold validB; rw [(isX_iff _ _).2 ⟨j0, by omega⟩]; simp
          rw [hv2] at hv
          generalize C.V.getD m false = bv at *
          rw [hva] at v0
          have KB := Lib.hid (fun W => rbit_any W bv)
          rw [hv] at KB
          clear hop LE hx LV hv2 hv hm
          cases bv with
          | true =>
            go_wp2_with (go_at_call 45; refine (KB.out _).mono ?_; rintro e w6 ⟨rfl, g6⟩; have G6 := Lib.hid (gb_trans G3.out g6); have B6 := Lib.hid (B3.out.keep0 g6); clear g6; have r0 := B6.out.cell 0; have r1 := B6.out.cell 1; have r2 := B6.out.cell 2; have q0 := B6.out.free 0; have q1 := B6.out.free 1; have q2 := B6.out.free 2; dsimp at r0 r1 r2)
            (try simp only [Exit.inBlock, Exit.then])
            refine bodyPost_ret (v := .agg #[.int .u32 tv, .int .i64 1, .int .i64 ((k + 1 : Nat) : Int)]) (by rw [results_cell1 rfl]; go_simp) rfl ⟨?_, k + 1, by have := LN.out; omega, LK.out, rfl⟩
            exact gb_put (gb_put (gb_put G6.out L3.out) L3.out) L3.out
          | false =>
            go_wp2_with (go_at_call 45; refine (KB.out _).mono ?_; rintro e w6 ⟨rfl, g6⟩; have G6 := Lib.hid (gb_trans G3.out g6); have B6 := Lib.hid (B3.out.keep0 g6); clear g6; have r0 := B6.out.cell 0; have r1 := B6.out.cell 1; have r2 := B6.out.cell 2; have q0 := B6.out.free 0; have q1 := B6.out.free 1; have q2 := B6.out.free 2; dsimp at r0 r1 r2)
            (try simp only [Exit.inBlock, Exit.then])
            refine bodyPost_ret (v := .agg #[.int .u32 tv, .int .i64 1, .int .i64 ((k + 1 : Nat) : Int)]) (by rw [results_cell1 rfl]; go_simp) rfl ⟨?_, k + 1, by have := LN.out; omega, LK.out, rfl⟩
            exact gb_put (gb_put (gb_put G6.out L3.out) L3.out) L3.out
        · have j1 : ¬ (m : Int) < (X.vn : Int) := by omega
          have hv2 : validB C.V (m : Int) = false := by unfold validB; rw [(isX_not _ _).2 (by omega)]; rfl
          rw [hv2] at hv
          have KB := Lib.hid (fun W => rbit_any W false)
          rw [hv] at KB
          clear hop LE hx LV hv2 hv hm
          go_wp2_with (go_at_call 45; refine (KB.out _).mono ?_; rintro e w6 ⟨rfl, g6⟩; have G6 := Lib.hid (gb_trans G3.out g6); have B6 := Lib.hid (B3.out.keep0 g6); clear g6; have r0 := B6.out.cell 0; have r1 := B6.out.cell 1; have r2 := B6.out.cell 2; have q0 := B6.out.free 0; have q1 := B6.out.free 1; have q2 := B6.out.free 2; dsimp at r0 r1 r2)
          (try simp only [Exit.inBlock, Exit.then])
          refine bodyPost_ret (v := .agg #[.int .u32 tv, .int .i64 1, .int .i64 ((k + 1 : Nat) : Int)]) (by rw [results_cell1 rfl]; go_simp) rfl ⟨?_, k + 1, by have := LN.out; omega, LK.out, rfl⟩
          exact gb_put (gb_put (gb_put G6.out L3.out) L3.out) L3.out
    · have hop : 5 ≤ op ∧ op ≤ 17 := by
        have h17 : 1 ≤ op ∧ op ≤ 17 := of_decide_eq_true HB.out
        refine ⟨?_, h17.2⟩
        rcases Int.lt_or_le op 5 with q | q
        · exfalso; apply hc0; unfold arN; rw [if_pos h17, if_pos (by omega)]
        · exact q
      have o1 : (op == 1) = false := by rw [beq_eq_false_iff_ne]; omega
      have o2 : (op == 2) = false := by rw [beq_eq_false_iff_ne]; omega
      have o3 : (op == 3) = false := by rw [beq_eq_false_iff_ne]; omega
      have o4 : (op == 4) = false := by rw [beq_eq_false_iff_ne]; omega
      have p1 : decide (op = 1) = false := decide_eq_false (by omega)
      have p2 : decide (op = 2) = false := decide_eq_false (by omega)
      have p3 : decide (op = 3) = false := decide_eq_false (by omega)
      have p4 : decide (op = 4) = false := decide_eq_false (by omega)
      have CN := Lib.hid (show arN op ≤ 3 by unfold arN; split <;> (try split) <;> (try split) <;> (try split) <;> decide)
      have CP := Lib.hid (show 0 < arN op by omega)
      clear hop
      generalize hcn : arN op = cnt at *
      have HCN := Lib.hid hcn
      clear hcn hc0
      obtain ⟨ALL, nok⟩ : ∃ ts, manyT (subT C f) cnt (N.drop (k + 1)) = .ok (ts, l) ∧ nodeT C (op, n, wd) ts = .ok (tw, tv) := by
        have z := SU.out
        split at z
        · cases z
        · rename_i ts l1 h1
          split at z
          · cases z
          · rename_i r h2
            injection z with z
            injection z with za zb
            subst za zb
            exact ⟨ts, h1, h2⟩
      have AL := Lib.hid nok.1
      have NOK := Lib.hid nok.2
      clear nok SU
      replace IH := Lib.hid (fun (w2 : World) (g : w3.grownBy w2 none) (k2 : Nat) (h1 : k2 ≤ N.length) (h2 : k + 1 ≤ k2) => IH.out w2 (gb_trans G3.out g) k2 h1 h2)
      unfold RetEv at IH
      go_wp2
      go_loopw [16, 17, 18, 19] (fun s16 s17 s18 s19 wr => ∃ (i k1 : Nat) (M : List (Tm × Nat)) (aw : Option Addr) (cw : Nat), i ≤ cnt ∧ s18 = .int .i64 i ∧ s17 = .int .i64 k1 ∧ s16 = .slice aw i cw ∧ M.length = i ∧ VL wr w3.heap.size (.slice aw i cw) M ∧ k1 ≤ N.length ∧ k + 1 ≤ k1 ∧ manyT (subT C f) i (N.drop (k + 1)) = .ok (M.map (·.1), N.drop k1) ∧ w3.grownBy wr none) (fun _ _ s18 _ _ => cnt - (intOf s18).toNat)
      case atStart => exact ⟨0, k + 1, [], none, 0, Nat.zero_le _, rfl, rfl, rfl, rfl, VL.nil _ _, by have := LN.out; omega, Nat.le_refl _, rfl, gb_refl _ _⟩
      case round =>
        obtain ⟨i, k1, M, aw, cw, hi, rfl, rfl, rfl, hts, ho, hk1', hk2', hm, hg⟩ := hrel
        have HM := Lib.hid hm
        have RG := Lib.hid hg
        have OW := Lib.hid ho
        have TL := Lib.hid hts
        clear hm hg ho hts x0 x1 x2
        have x0 := (B4.out.keep0 RG.out).cell 0
        have x1 := (B4.out.keep0 RG.out).cell 1
        have x2 := (B4.out.keep0 RG.out).cell 2
        dsimp at x0 x1 x2
        by_cases hlt : i < cnt
        · have l1 : (i : Int) < cnt := by omega
          have hwi : IntKind.i64.wrap ((i : Int) + 1) = ((i + 1 : Nat) : Int) := by have := CN.out; rw [IntKind.wrap_i64]; omega
          obtain ⟨us, u1, ut, u3, hu1, hu2⟩ := many_less cnt AL.out i hlt
          rw [HM.out] at hu1
          injection hu1 with hu1
          injection hu1 with hua hub
          subst hub
          have LE9 := Lib.hid (sub_ok C f _ ut u3 hu2).2.1
          have HM2 := Lib.hid (many_step HM.out hu2)
          have CL := Lib.hid (fun (w9 : World) (g : w3.grownBy w9 none) => IH.out w9 g k1 hk1' hk2' ut u3 hu2)
          clear hu2 hua
          go_upto_region 20 with (go_at_call 24; refine (AR.out _).mono ?_; rintro e9 w9 ⟨rfl, hz⟩; obtain rfl := hz.symm; clear hz)
          have a0 := (B1.out.keep0 RG.out).cell 0
          have a1 := (B1.out.keep0 RG.out).cell 1
          have a2 := (B1.out.keep0 RG.out).cell 2
          have a3 := (B1.out.keep0 RG.out).cell 3
          have a4 := (B1.out.keep0 RG.out).cell 4
          have a5 := (B1.out.keep0 RG.out).cell 5
          have a6 := (B1.out.keep0 RG.out).cell 6
          have a7 := (B1.out.keep0 RG.out).cell 7
          have a8 := (B1.out.keep0 RG.out).cell 8
          have a9 := (B1.out.keep0 RG.out).cell 9
          dsimp at a0 a1 a2 a3 a4 a5 a6 a7 a8 a9
          have v0 := (B2.out.keep0 RG.out).cell 0
          have v1 := (B2.out.keep0 RG.out).cell 1
          have v2 := (B2.out.keep0 RG.out).cell 2
          have v3 := (B2.out.keep0 RG.out).cell 3
          dsimp at v0 v1 v2 v3
          go_upto_region 21 with (go_at_call 33; refine (CL.out _ RG.out).mono ?_; rintro e9 w7 ⟨g7, k2, hk3, hl3, rfl⟩; have G7 := Lib.hid g7; have K3 := Lib.hid hk3; have HL3 := Lib.hid hl3; clear g7 hk3 hl3)
          have K4 := Lib.hid (show k1 ≤ k2 by have z := LE9.out; have y := K3.out; rw [HL3.out, List.length_drop, List.length_drop] at z; omega)
          have BV := Lib.hid (IsB.new w7 91 #[.int .u32 ut.2, .int .i64 ut.1, .int .i64 (k2 : Int)])
          have g8 := gb_alloc w7 (.cells #[.int .u32 ut.2, .int .i64 ut.1, .int .i64 (k2 : Int)] 91) none
          have O8 := Lib.hid ((OW.out.keep0 G7.out).keep0 g8)
          have LT8 := Lib.hid (show ∀ q, (Value.slice aw i cw).ownBlock = some q → q < w7.heap.size from fun q hq => (World.ownsRow.lt (OW.out.keep0 G7.out) q hq).2)
          have R8 := Lib.hid (gb_trans RG.out (gb_trans G7.out g8))
          clear g8 CL HM a0 a1 a2 a3 a4 a5 a6 a7 a8 a9 v0 v1 v2 v3 x0 x1 x2
          generalize w7.alloc (.cells #[.int .u32 ut.2, .int .i64 ut.1, .int .i64 (k2 : Int)] 91) = w8 at *
          generalize w7.heap.size = b8 at *
          have y0 := BV.out.cell 0
          have y1 := BV.out.cell 1
          have y2 := BV.out.cell 2
          dsimp at y0 y1 y2
          have GA := Lib.hid (gb_alloc w8 (.cells #[.int .u32 ut.2, .int .i64 ut.1, .int .i64 (k2 : Int)] 91) none)
          have S3 := Lib.hid (three_cell _ 91 w8.heap.size (ut, k2) (IsB.new w8 91 #[.int .u32 ut.2, .int .i64 ut.1, .int .i64 (k2 : Int)]))
          go_upto_region 22 with (at_builtin; refine pushVal rfl _ _ rfl w3.heap.size (.slice aw i cw) M rfl (O8.out.keep0 GA.out) _ _ (ut, k2) rfl S3.out (by have := TL.out; have := CN.out; omega) (Nat.le_trans R8.out.size GA.out.size) ?_; intro V9 w9 o9 g9; have O9 := Lib.hid o9; have G9 := Lib.hid (gb_own (gb_trans R8.out GA.out) (O8.out.keep0 GA.out) (Nat.le_refl _) g9); have BV9 := Lib.hid ((BV.out.keep0 GA.out).keep g9 (by intro h; exact Nat.lt_irrefl _ (LT8.out _ h.symm))); have y2 := BV9.out.cell 2; dsimp at y2; clear o9 g9)
          obtain ⟨a9, c9, h9⟩ := O9.out.shape
          rw [show (M ++ [(ut, k2)]).length = i + 1 by simp [TL.out]] at h9
          subst h9
          go_wp2
          go_roundw
          case rel => exact ⟨i + 1, k2, M ++ [(ut, k2)], a9, c9, by omega, by go_num, rfl, rfl, by simp [TL.out], O9.out, K3.out, by have := K4.out; omega, by rw [HM2.out, HL3.out]; simp, G9.out⟩
          case measure => simp [intOf]; omega
        · have hic : i = cnt := by omega
          have l1 : ¬ (i : Int) < cnt := by omega
          have EQ : M.map (·.1) = ALL ∧ N.drop k1 = l := by
            have z := HM.out
            rw [hic, AL.out] at z
            injection z with z
            injection z with za zb
            exact ⟨za.symm, zb.symm⟩
          have GTs := Lib.hid (many_ok (sub_ok C f) cnt _ _ _ AL.out).2.1
          obtain ⟨g9, c9, hv⟩ := own_head (show wr.ownsRow w3.heap.size 91 3 (.slice aw i cw) i (M.flatMap vC) by have z := OW.out; unfold VL at z; rw [TL.out] at z; exact z) (by have := CP.out; omega)
          injection hv with hv _ hc
          subst hv hc
          have AP := Lib.hid (fun (w9 : World) (g : wr.grownBy w9 none) => by
            have z := rap_any w9 g9 cw C op n wd ALL HB.out (by rw [HCN.out, ← EQ.1, List.length_map, TL.out]; exact hic) (by rw [HCN.out]; exact CP.out) GTs.out (by
              intro j hj
              rw [← EQ.1, List.length_map] at hj
              have q := VL.at_ (M := M) (by have z := OW.out.keep0 g; rw [← TL.out] at z; exact z) j hj
              rw [← EQ.1, show (M.map (·.1)).getD j tz = (M.getD j vz).1 by simp [hj]]
              exact q) (tw, tv) NOK.out
            rw [← EQ.1, List.length_map, TL.out] at z
            exact z)
          unfold RetV at AP
          have LK := Lib.hid EQ.2.symm
          have GR := Lib.hid (gb_trans G3.out RG.out)
          clear EQ HM AL NOK IH GTs hic
          go_upto_region 23 with (go_at_call 24; refine (AR.out _).mono ?_; rintro e9 w9 ⟨rfl, hz⟩; obtain rfl := hz.symm; clear hz)
          go_wp2_with (go_at_call 46; refine (AP.out _ (gb_refl _ _)).mono ?_; rintro e6 w6 ⟨rfl, g6⟩; have G6 := Lib.hid (gb_trans GR.out g6); have B6 := Lib.hid ((B3.out.keep0 RG.out).keep0 g6); clear g6; have r0 := B6.out.cell 0; have r1 := B6.out.cell 1; have r2 := B6.out.cell 2; have q0 := B6.out.free 0; have q1 := B6.out.free 1; have q2 := B6.out.free 2; dsimp at r0 r1 r2)
          (try simp only [Exit.inBlock, Exit.then])
          refine bodyPost_ret (v := .agg #[.int .u32 tv, .int .i64 tw, .int .i64 (k1 : Int)]) (by rw [results_cell1 rfl]; go_simp) rfl ⟨?_, k1, hk1', LK.out, rfl⟩
          exact gb_put (gb_put (gb_put G6.out L3.out) L3.out) L3.out
end Go.Proofs.YtcicjodpkbcigaaGreat
