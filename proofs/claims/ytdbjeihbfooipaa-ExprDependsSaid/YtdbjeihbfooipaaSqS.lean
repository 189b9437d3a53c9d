/- The law Depends; no condition. -/
import Derived.Test.YtdbjeihbfooipaaSqP
import Derived.Test.YtdbjeihbfooipaaSqR
import Derived.Test.YtdbjeihbfooipaaExM
import Derived.Test.YtdbjeihbfooipaaExN
namespace Go.Proofs.Ytdbjeihbfooipaa
open Go.RowKit
set_option linter.unusedVariables false
theorem fl_sq {w : World} {base n c : Nat} {a : Option Addr} {L : List (Int × Int)} (h : FL w base (.slice a n c) L) (hl : n = L.length) : SQ w a n c L := by
  subst hl
  have cp := own_cap h
  refine ⟨rfl, ?_, cp, fun ad e j hj => ?_⟩
  · intro e
    subst e
    rcases h.2 with ⟨h', _⟩ | ⟨g', cap', cur, h', _⟩
    · injection h' with _ h1 h2
      exact ⟨h1, h2⟩
    · injection h' with h' _ _
      cases h'
  · obtain ⟨g, cx, hv⟩ := own_head h (by omega)
    injection hv with hv _ hc
    subst hc
    rw [e] at hv
    injection hv with hv
    subst hv e
    have z := h.at_ j hj
    have q : ((⟨g, 0, none⟩ : Addr).add (j * 2)) = ⟨g, j * 2, none⟩ := by unfold Addr.add; split <;> simp_all
    rw [q]
    exact z
theorem nl_sz {w : World} {base n c : Nat} {a : Option Addr} {L : List Int} (h : NL w base (.slice a n c) L) (hl : n = L.length) : SZ w a n c L := by
  subst hl
  have cp := own_cap h
  have s := h.slr rfl
  exact ⟨rfl, fun e => s.2.1 e, cp, fun ad e j hj => s.2.2 ad e j (.int .i64 (L.getD j 0)) (by simp [hj])⟩
set_option maxRecDepth 100000 in
set_option maxHeartbeats 40000000 in
theorem depends_walk (w : World) (X : KX) (C : Cx) (N : List Nd) (hC : CR w X C N) (va fa ta la : Option Addr) (vn vc fn fc tn tc ln lc : Nat) (V : List Bool) (F : List (List Int)) (T : List Int) (hV : SB w va vn vc V) (hF : SR w fa fn fc F) (hT : SU w ta tn tc T) :
    Calls Try.prog 3 #[.agg #[.string X.nm, .slice X.ha X.hn X.hc, .slice X.ma X.mn X.mc, .slice X.a0 X.n0 X.c0, .slice X.a1 X.n1 X.c1, .slice X.a2 X.n2 X.c2, .slice X.a3 X.n3 X.c3, .slice X.a4 X.n4 X.c4, .slice X.a5 X.n5 X.c5, .slice X.pa X.pn X.pc, .slice X.na X.nn X.nc, .slice X.va X.vn X.vc, .slice X.fa X.fn X.fc, .slice X.ta X.tn X.tc, .slice X.la X.ln X.lc, .slice X.aa X.an X.ac], .agg #[.slice va vn vc, .slice fa fn fc, .slice ta tn tc, .slice la ln lc]] w (RetV (.bool true) w) := by
  have LN := Lib.hid hC.nd.len
  have ncap := hC.nd.cap
  have AW := Lib.hid (fun w => awake_any w)
  have SCo := Lib.hid (fun w => scope_any w X)
  have KE := Lib.hid (fun (w2 : World) (g : w.grownBy w2 none) => keval_any w2 X C N (hC.keep0 g))
  have KD := Lib.hid (fun (w2 : World) (g : w.grownBy w2 none) => (show Calls Try.prog 20 #[.slice X.na X.nn X.nc, .agg #[.string X.nm, .slice X.ha X.hn X.hc, .slice X.ma X.mn X.mc, .slice X.a0 X.n0 X.c0, .slice X.a1 X.n1 X.c1, .slice X.a2 X.n2 X.c2, .slice X.a3 X.n3 X.c3, .slice X.a4 X.n4 X.c4, .slice X.a5 X.n5 X.c5, .slice X.pa X.pn X.pc], .agg #[.slice va vn vc, .slice fa fn fc, .slice ta tn tc, .slice la ln lc], .slice X.aa X.an X.ac] w2 (RetV (.int .u32 (rV (wholeT { C with V := V, F := F, T := T } N))) w2) from
    keval_any w2 { X with va := va, vn := vn, vc := vc, fa := fa, fn := fn, fc := fc, ta := ta, tn := tn, tc := tc, la := la, ln := ln, lc := lc } { C with V := V, F := F, T := T } N
      (CR.keep0 (⟨hC.nd, hC.hd, hC.md, hC.pd, hV, hF, hT, hC.ad⟩ : CR w { X with va := va, vn := vn, vc := vc, fa := fa, fn := fn, fc := fc, ta := ta, tn := tn, tc := tc, la := la, ln := ln, lc := lc } { C with V := V, F := F, T := T } N) g)))
  have GC := Lib.hid (fun (w2 : World) (g : w.grownBy w2 none) (h f : Int) => rget_any w2 X.va X.fa X.ta X.la X.vn X.vc X.fn X.fc X.tn X.tc X.ln X.lc ⟨C.V, C.F, C.T, []⟩ (hC.vd.keep0 g) (hC.fd.keep0 g) (hC.td.keep0 g) h f)
  have GD := Lib.hid (fun (w2 : World) (g : w.grownBy w2 none) (h f : Int) => rget_any w2 va fa ta la vn vc fn fc tn tc ln lc ⟨V, F, T, []⟩ (hV.keep0 g) (hF.keep0 g) (hT.keep0 g) h f)
  have VC := Lib.hid (fun (w2 : World) (g : w.grownBy w2 none) (h : Int) => lvalid_any w2 X.va X.fa X.ta X.la X.vn X.vc X.fn X.fc X.tn X.tc X.ln X.lc ⟨C.V, C.F, C.T, []⟩ (hC.vd.keep0 g) h)
  have VD := Lib.hid (fun (w2 : World) (g : w.grownBy w2 none) (h : Int) => lvalid_any w2 va fa ta la vn vc fn fc tn tc ln lc ⟨V, F, T, []⟩ (hV.keep0 g) h)
  have ND := Lib.hid (fun (w2 : World) (g : w.grownBy w2 none) => (hC.keep0 g).nd)
  have DL := Lib.hid (dep_lists (C := C) (D := { C with V := V, F := F, T := T }) ⟨rfl, rfl, rfl⟩ rfl N)
  dsimp only at GC GD VC VD DL
  unfold RetV at AW SCo KE KD GC GD VC VD
  clear hC hV hF hT
  have G1 := Lib.hid (gb_trans (gb_alloc w (.cells #[.string X.nm, .slice X.ha X.hn X.hc, .slice X.ma X.mn X.mc, .slice X.a0 X.n0 X.c0, .slice X.a1 X.n1 X.c1, .slice X.a2 X.n2 X.c2, .slice X.a3 X.n3 X.c3, .slice X.a4 X.n4 X.c4, .slice X.a5 X.n5 X.c5, .slice X.pa X.pn X.pc, .slice X.na X.nn X.nc, .slice X.va X.vn X.vc, .slice X.fa X.fn X.fc, .slice X.ta X.tn X.tc, .slice X.la X.ln X.lc, .slice X.aa X.an X.ac] 40) none) (gb_alloc _ (.cells #[.slice va vn vc, .slice fa fn fc, .slice ta tn tc, .slice la ln lc] 38) none))
  have B1 := (IsB.new w 40 #[.string X.nm, .slice X.ha X.hn X.hc, .slice X.ma X.mn X.mc, .slice X.a0 X.n0 X.c0, .slice X.a1 X.n1 X.c1, .slice X.a2 X.n2 X.c2, .slice X.a3 X.n3 X.c3, .slice X.a4 X.n4 X.c4, .slice X.a5 X.n5 X.c5, .slice X.pa X.pn X.pc, .slice X.na X.nn X.nc, .slice X.va X.vn X.vc, .slice X.fa X.fn X.fc, .slice X.ta X.tn X.tc, .slice X.la X.ln X.lc, .slice X.aa X.an X.ac]).alloc (.cells #[.slice va vn vc, .slice fa fn fc, .slice ta tn tc, .slice la ln lc] 38)
  have B2 := IsB.new (w.alloc (.cells #[.string X.nm, .slice X.ha X.hn X.hc, .slice X.ma X.mn X.mc, .slice X.a0 X.n0 X.c0, .slice X.a1 X.n1 X.c1, .slice X.a2 X.n2 X.c2, .slice X.a3 X.n3 X.c3, .slice X.a4 X.n4 X.c4, .slice X.a5 X.n5 X.c5, .slice X.pa X.pn X.pc, .slice X.na X.nn X.nc, .slice X.va X.vn X.vc, .slice X.fa X.fn X.fc, .slice X.ta X.tn X.tc, .slice X.la X.ln X.lc, .slice X.aa X.an X.ac] 40)) 38 #[.slice va vn vc, .slice fa fn fc, .slice ta tn tc, .slice la ln lc]
  simp only [sz_al] at B2
  replace B1 := Lib.hid B1
  replace B2 := Lib.hid B2
  go_enter Try.func3, Try.ntmps3
  go_upto_region 1 with fail
  generalize (w.alloc (.cells #[.string X.nm, .slice X.ha X.hn X.hc, .slice X.ma X.mn X.mc, .slice X.a0 X.n0 X.c0, .slice X.a1 X.n1 X.c1, .slice X.a2 X.n2 X.c2, .slice X.a3 X.n3 X.c3, .slice X.a4 X.n4 X.c4, .slice X.a5 X.n5 X.c5, .slice X.pa X.pn X.pc, .slice X.na X.nn X.nc, .slice X.va X.vn X.vc, .slice X.fa X.fn X.fc, .slice X.ta X.tn X.tc, .slice X.la X.ln X.lc, .slice X.aa X.an X.ac] 40)).alloc (.cells #[.slice va vn vc, .slice fa fn fc, .slice ta tn tc, .slice la ln lc] 38) = w1 at *
  obtain ⟨bx, hbx⟩ : ∃ b, b = w.heap.size := ⟨_, rfl⟩
  have Lbx := Lib.hid (show w.heap.size ≤ bx by rw [hbx]; exact Nat.le_refl _)
  rw [← hbx] at B1 B2 ⊢
  clear hbx
  have s10 := B1.out.cell 10
  dsimp at s10
  by_cases hl : 100 < X.nn
  · have hl2 : (100 : Int) < (X.nn : Int) := by omega
    clear hl
    go_wp2_with fail
    refine (AW.out _).mono ?_
    rintro e x1 ⟨rfl, g⟩
    have GZ := Lib.hid (gb_trans G1.out g)
    clear g
    go_wp2
    go_ret
    exact ⟨rfl, GZ.out⟩
  have hl2 : ¬ (100 : Int) < (X.nn : Int) := by omega
  have h100 : X.nn ≤ 100 := by omega
  clear hl
  go_upto_region 3 with fail
  clear s10
  have KF := Lib.hid (fun (w2 : World) (g : w.grownBy w2 none) => kfields_any w2 X.na X.nn X.nc N (ND.out w2 g) (by omega))
  have KH := Lib.hid (fun (w2 : World) (g : w.grownBy w2 none) => kheaders_any w2 X.na X.nn X.nc N (ND.out w2 g) (by omega))
  have lf : (aF N).length ≤ 10000 := by have := aF_len N; rw [LN.out] at this; omega
  have lh : (aHs N).length ≤ 10000 := by have := aHs_len N; rw [LN.out] at this; omega
  unfold RetFX at KF
  unfold RetNX at KH
  obtain ⟨lF, hlF⟩ : ∃ l, l = aF N := ⟨_, rfl⟩
  obtain ⟨lH, hlH⟩ : ∃ l, l = aHs N := ⟨_, rfl⟩
  rw [← hlF] at KF lf DL
  rw [← hlH] at KH lh DL
  clear ND hlF hlH
  have KS := Lib.hid (fun (w' : World) (q0 : w1.grownBy w' none) => (⟨(B1.out.keep0 q0).cell 10, q0⟩ : (fun w' : World => w'.cell? ⟨bx, 10, none⟩ = some (.slice X.na X.nn X.nc) ∧ w1.grownBy w' none) w'))
  have H0 := Lib.hid (gb_drew w1 none)
  refine wp_region_held_drew (S := (fun w' : World => w'.cell? ⟨bx, 10, none⟩ = some (.slice X.na X.nn X.nc) ∧ w1.grownBy w' none)) (by kernel_rfl) (KS.out _ H0.out) (fun hH0 => ?_)
  refine wpAnyH_take (i := 0) (v := ?v7001) rfl (by kernel_rfl) (by kernel_rfl) (by kernel_rfl) (fun _ _ _ h => h) (Or.inl ⟨by rfl, ?hy7001⟩) (by assumption) ?rest7001
  case hy7001 => (intro wz hSw; (try dsimp only at hSw); first | (go_simp; done) | (go_simp; with_reducible rfl))
  try simp only [Act.put, List.getElem_toArray, List.getElem_cons_zero, List.setIfInBounds_toArray, List.set_cons_zero, List.set_cons_succ]
  refine wpAnyH_take (i := 1) (v := ?v7002) rfl (by kernel_rfl) (by kernel_rfl) (by kernel_rfl) (fun _ _ _ h => h) (Or.inl ⟨by rfl, ?hy7002⟩) (by assumption) ?rest7002
  case hy7002 => (intro wz hSw; (try dsimp only at hSw); first | (go_simp; done) | (go_simp; with_reducible rfl))
  try simp only [Act.put, List.getElem_toArray, List.getElem_cons_succ, List.getElem_cons_zero, List.setIfInBounds_toArray, List.set_cons_zero, List.set_cons_succ]
  refine wpAnyH_take (i := 3) (v := ?v7003) rfl (by kernel_rfl) (by kernel_rfl) (by kernel_rfl) (fun _ _ _ h => h) (Or.inl ⟨by rfl, ?hy7003⟩) (by assumption) ?rest7003
  case hy7003 => (intro wz hSw; (try dsimp only at hSw); first | (go_simp; done) | (go_simp; with_reducible rfl))
  try simp only [Act.put, List.getElem_toArray, List.getElem_cons_succ, List.getElem_cons_zero, List.setIfInBounds_toArray, List.set_cons_zero, List.set_cons_succ]
  refine wpAnyH_take (i := 4) (v := ?v7004) rfl (by kernel_rfl) (by kernel_rfl) (by kernel_rfl) (fun _ _ _ h => h) (Or.inl ⟨by rfl, ?hy7004⟩) (by assumption) ?rest7004
  case hy7004 => (intro wz hSw; (try dsimp only at hSw); first | (go_simp; done) | (go_simp; with_reducible rfl))
  try simp only [Act.put, List.getElem_toArray, List.getElem_cons_succ, List.getElem_cons_zero, List.setIfInBounds_toArray, List.set_cons_zero, List.set_cons_succ]
  refine wpAnyH_ready (rs := [2]) (by kernel_rfl) (by simp) ?_
  refine AllReadyH.cons (o := _) rfl (fun K hK => ?_) AllReadyH.nil
  go_simp
  (with_reducible refine (KF.out _ (gb_trans G1.out H0.out)).mono ?_)
  rintro e hw1 ⟨pa, pc, rfl, fo, g⟩
  have FO := Lib.hid (fl_sq fo rfl)
  clear fo
  have H1 := Lib.hid (gb_trans H0.out g)
  clear g
  try dsimp only
  refine hK.out _ _ (KS.out _ H1.out) (fun hH1 => ?_)
  clear hK K hH0
  try simp only [Act.put, List.getElem_toArray, List.getElem_cons_succ, List.getElem_cons_zero, List.setIfInBounds_toArray, List.set_cons_zero, List.set_cons_succ]
  refine wpAnyH_ready (rs := [5]) (by kernel_rfl) (by simp) ?_
  refine AllReadyH.cons (o := _) rfl (fun K hK => ?_) AllReadyH.nil
  go_simp
  (with_reducible refine (KH.out _ (gb_trans G1.out H1.out)).mono ?_)
  rintro e hw2 ⟨qa, qc, rfl, ho, g⟩
  have HO := Lib.hid (nl_sz ho rfl)
  replace FO := Lib.hid (FO.out.keep0 g)
  clear ho
  have H2 := Lib.hid (gb_trans H1.out g)
  clear g
  try dsimp only
  refine hK.out _ _ (KS.out _ H2.out) (fun hH2 => ?_)
  clear hK K hH1
  try simp only [Act.put, List.getElem_toArray, List.getElem_cons_succ, List.getElem_cons_zero, List.setIfInBounds_toArray, List.set_cons_zero, List.set_cons_succ]
  refine wpAnyH_take (i := 6) (v := ?v7005) rfl (by kernel_rfl) (by kernel_rfl) (by kernel_rfl) (fun _ _ _ h => h) (Or.inl ⟨by rfl, ?hy7005⟩) (by assumption) ?rest7005
  case hy7005 => (intro wz hSw; (try dsimp only at hSw); first | (go_simp; done) | (go_simp; with_reducible rfl))
  try simp only [Act.put, List.getElem_toArray, List.getElem_cons_succ, List.getElem_cons_zero, List.setIfInBounds_toArray, List.set_cons_zero, List.set_cons_succ]
  refine wpAnyH_take (i := 7) (v := ?v7006) rfl (by kernel_rfl) (by kernel_rfl) (by kernel_rfl) (fun _ _ _ h => h) (Or.inl ⟨by rfl, ?hy7006⟩) (by assumption) ?rest7006
  case hy7006 => (intro wz hSw; (try dsimp only at hSw); first | (go_simp; done) | (go_simp; with_reducible rfl))
  try simp only [Act.put, List.getElem_toArray, List.getElem_cons_succ, List.getElem_cons_zero, List.setIfInBounds_toArray, List.set_cons_zero, List.set_cons_succ]
  refine wpAnyH_done (by kernel_rfl) ?_ _
  clear hH2
  have GX := Lib.hid (gb_trans G1.out H2.out)
  have BX1 := Lib.hid (B1.out.keep0 H2.out)
  have BX2 := Lib.hid (B2.out.keep0 H2.out)
  have FCAP := FO.out.cap
  have HCAP := HO.out.cap
  clear KS B1 B2 G1 H0 H1 H2
  obtain ⟨nF, hnF⟩ : ∃ n, n = lF.length := ⟨_, rfl⟩
  obtain ⟨nH, hnH⟩ : ∃ n, n = lH.length := ⟨_, rfl⟩
  rw [← hnF] at FO lf FCAP DL ⊢
  rw [← hnH] at HO lh HCAP DL ⊢
  clear hnF hnH
  go_wp2
  go_loopw [7] (fun s7 wr => ∃ (j : Nat), s7 = .int .i64 (j : Int) ∧ j ≤ nF ∧ (∀ i, i < j → getE C.V C.F C.T (lF.getD i rz).1 (lF.getD i rz).2 = getE V F T (lF.getD i rz).1 (lF.getD i rz).2) ∧ hw2.grownBy wr none) (fun s7 _ => nF - (intOf s7).toNat)
  case atStart => exact ⟨0, rfl, Nat.zero_le _, (fun i h => by omega), gb_refl _ _⟩
  case round =>
    obtain ⟨j, rfl, hj, hAg, hgr⟩ := hrel
    have AG := Lib.hid hAg
    have GR := Lib.hid hgr
    clear hAg hgr
    by_cases hlt : j < nF
    · have i1 : (j : Int) < nF := by omega
      have i0 : (0 : Int) ≤ (j : Int) := by omega
      obtain ⟨pd, rfl⟩ := FO.out.some (by omega)
      obtain ⟨y0, y1⟩ := FO.out.cells pd rfl j hlt
      obtain ⟨rr, hrr⟩ : ∃ r, r = lF.getD j (0, 0) := ⟨_, rfl⟩
      rw [← hrr] at y0 y1
      obtain ⟨rh, rf⟩ := rr
      have HRR := Lib.hid hrr
      dsimp only at y0 y1
      have Y0 := Lib.hid y0
      have Y1 := Lib.hid y1
      clear y0 y1 hrr
      go_wp2
      have KSb := Lib.hid (fun (w' : World) (q0 : wr.grownBy w' none) => (⟨(BX1.out.keep0 (gb_trans GR.out q0)).cell 11, (BX1.out.keep0 (gb_trans GR.out q0)).cell 12, (BX1.out.keep0 (gb_trans GR.out q0)).cell 13, (BX1.out.keep0 (gb_trans GR.out q0)).cell 14, (BX2.out.keep0 (gb_trans GR.out q0)).cell 0, (BX2.out.keep0 (gb_trans GR.out q0)).cell 1, (BX2.out.keep0 (gb_trans GR.out q0)).cell 2, (BX2.out.keep0 (gb_trans GR.out q0)).cell 3, (gb_trans GR.out q0).cell Y0.out (by simp), (gb_trans GR.out q0).cell Y1.out (by simp), q0⟩ : (fun w' : World => w'.cell? ⟨bx, 11, none⟩ = some (.slice X.va X.vn X.vc) ∧ w'.cell? ⟨bx, 12, none⟩ = some (.slice X.fa X.fn X.fc) ∧ w'.cell? ⟨bx, 13, none⟩ = some (.slice X.ta X.tn X.tc) ∧ w'.cell? ⟨bx, 14, none⟩ = some (.slice X.la X.ln X.lc) ∧ w'.cell? ⟨(bx + 1), 0, none⟩ = some (.slice va vn vc) ∧ w'.cell? ⟨(bx + 1), 1, none⟩ = some (.slice fa fn fc) ∧ w'.cell? ⟨(bx + 1), 2, none⟩ = some (.slice ta tn tc) ∧ w'.cell? ⟨(bx + 1), 3, none⟩ = some (.slice la ln lc) ∧ w'.cell? (pd.add (j * 2)) = some (.int .i64 rh) ∧ w'.cell? ⟨(pd.add (j * 2)).block, (pd.add (j * 2)).off + 1, none⟩ = some (.int .i64 rf) ∧ wr.grownBy w' none) w'))
      have K0 := Lib.hid (gb_drew wr none)
      refine wp_region_held_drew (S := (fun w' : World => w'.cell? ⟨bx, 11, none⟩ = some (.slice X.va X.vn X.vc) ∧ w'.cell? ⟨bx, 12, none⟩ = some (.slice X.fa X.fn X.fc) ∧ w'.cell? ⟨bx, 13, none⟩ = some (.slice X.ta X.tn X.tc) ∧ w'.cell? ⟨bx, 14, none⟩ = some (.slice X.la X.ln X.lc) ∧ w'.cell? ⟨(bx + 1), 0, none⟩ = some (.slice va vn vc) ∧ w'.cell? ⟨(bx + 1), 1, none⟩ = some (.slice fa fn fc) ∧ w'.cell? ⟨(bx + 1), 2, none⟩ = some (.slice ta tn tc) ∧ w'.cell? ⟨(bx + 1), 3, none⟩ = some (.slice la ln lc) ∧ w'.cell? (pd.add (j * 2)) = some (.int .i64 rh) ∧ w'.cell? ⟨(pd.add (j * 2)).block, (pd.add (j * 2)).off + 1, none⟩ = some (.int .i64 rf) ∧ wr.grownBy w' none)) (by kernel_rfl) (KSb.out _ K0.out) (fun hH0 => ?_)
      refine wpAnyH_take (i := 0) (v := ?v7007) rfl (by kernel_rfl) (by kernel_rfl) (by kernel_rfl) (fun _ _ _ h => h) (Or.inl ⟨by rfl, ?hy7007⟩) (by assumption) ?rest7007
      case hy7007 => (intro wz hSw; (try dsimp only at hSw); first | (go_simp; done) | (go_simp; with_reducible rfl))
      try simp only [Act.put, List.getElem_toArray, List.getElem_cons_zero, List.setIfInBounds_toArray, List.set_cons_zero, List.set_cons_succ]
      refine wpAnyH_take (i := 1) (v := ?v7008) rfl (by kernel_rfl) (by kernel_rfl) (by kernel_rfl) (fun _ _ _ h => h) (Or.inl ⟨by rfl, ?hy7008⟩) (by assumption) ?rest7008
      case hy7008 => (intro wz hSw; (try dsimp only at hSw); first | (go_simp; done) | (go_simp; with_reducible rfl))
      try simp only [Act.put, List.getElem_toArray, List.getElem_cons_succ, List.getElem_cons_zero, List.setIfInBounds_toArray, List.set_cons_zero, List.set_cons_succ]
      refine wpAnyH_take (i := 2) (v := ?v7009) rfl (by kernel_rfl) (by kernel_rfl) (by kernel_rfl) (fun _ _ _ h => h) (Or.inl ⟨by rfl, ?hy7009⟩) (by assumption) ?rest7009
      case hy7009 => (intro wz hSw; (try dsimp only at hSw); first | (go_simp; done) | (go_simp; with_reducible rfl))
      try simp only [Act.put, List.getElem_toArray, List.getElem_cons_succ, List.getElem_cons_zero, List.setIfInBounds_toArray, List.set_cons_zero, List.set_cons_succ]
      refine wpAnyH_take (i := 3) (v := ?v7010) rfl (by kernel_rfl) (by kernel_rfl) (by kernel_rfl) (fun _ _ _ h => h) (Or.inl ⟨by rfl, ?hy7010⟩) (by assumption) ?rest7010
      case hy7010 => (intro wz hSw; (try dsimp only at hSw); first | (go_simp; done) | (go_simp; with_reducible rfl))
      try simp only [Act.put, List.getElem_toArray, List.getElem_cons_succ, List.getElem_cons_zero, List.setIfInBounds_toArray, List.set_cons_zero, List.set_cons_succ]
      refine wpAnyH_take (i := 4) (v := ?v7011) rfl (by kernel_rfl) (by kernel_rfl) (by kernel_rfl) (fun _ _ _ h => h) (Or.inl ⟨by rfl, ?hy7011⟩) (by assumption) ?rest7011
      case hy7011 => (intro wz hSw; (try dsimp only at hSw); first | (go_simp; done) | (go_simp; with_reducible rfl))
      try simp only [Act.put, List.getElem_toArray, List.getElem_cons_succ, List.getElem_cons_zero, List.setIfInBounds_toArray, List.set_cons_zero, List.set_cons_succ]
      refine wpAnyH_take (i := 5) (v := ?v7012) rfl (by kernel_rfl) (by kernel_rfl) (by kernel_rfl) (fun _ _ _ h => h) (Or.inl ⟨by rfl, ?hy7012⟩) (by assumption) ?rest7012
      case hy7012 => (intro wz hSw; (try dsimp only at hSw); first | (go_simp; done) | (go_simp; with_reducible rfl))
      try simp only [Act.put, List.getElem_toArray, List.getElem_cons_succ, List.getElem_cons_zero, List.setIfInBounds_toArray, List.set_cons_zero, List.set_cons_succ]
      refine wpAnyH_take (i := 7) (v := ?v7013) rfl (by kernel_rfl) (by kernel_rfl) (by kernel_rfl) (fun _ _ _ h => h) (Or.inl ⟨by rfl, ?hy7013⟩) (by assumption) ?rest7013
      case hy7013 => (intro wz hSw; (try dsimp only at hSw); first | (go_simp; done) | (go_simp; with_reducible rfl))
      try simp only [Act.put, List.getElem_toArray, List.getElem_cons_succ, List.getElem_cons_zero, List.setIfInBounds_toArray, List.set_cons_zero, List.set_cons_succ]
      refine wpAnyH_take (i := 8) (v := ?v7014) rfl (by kernel_rfl) (by kernel_rfl) (by kernel_rfl) (fun _ _ _ h => h) (Or.inl ⟨by rfl, ?hy7014⟩) (by assumption) ?rest7014
      case hy7014 => (intro wz hSw; (try dsimp only at hSw); first | (go_simp; done) | (go_simp; with_reducible rfl))
      try simp only [Act.put, List.getElem_toArray, List.getElem_cons_succ, List.getElem_cons_zero, List.setIfInBounds_toArray, List.set_cons_zero, List.set_cons_succ]
      refine wpAnyH_take (i := 9) (v := ?v7015) rfl (by kernel_rfl) (by kernel_rfl) (by kernel_rfl) (fun _ _ _ h => h) (Or.inl ⟨by rfl, ?hy7015⟩) (by assumption) ?rest7015
      case hy7015 => (intro wz hSw; (try dsimp only at hSw); first | (go_simp; done) | (go_simp; with_reducible rfl))
      try simp only [Act.put, List.getElem_toArray, List.getElem_cons_succ, List.getElem_cons_zero, List.setIfInBounds_toArray, List.set_cons_zero, List.set_cons_succ]
      refine wpAnyH_take (i := 10) (v := ?v7016) rfl (by kernel_rfl) (by kernel_rfl) (by kernel_rfl) (fun _ _ _ h => h) (Or.inl ⟨by rfl, ?hy7016⟩) (by assumption) ?rest7016
      case hy7016 => (intro wz hSw; (try dsimp only at hSw); first | (go_simp; done) | (go_simp; with_reducible rfl))
      try simp only [Act.put, List.getElem_toArray, List.getElem_cons_succ, List.getElem_cons_zero, List.setIfInBounds_toArray, List.set_cons_zero, List.set_cons_succ]
      refine wpAnyH_take (i := 11) (v := ?v7017) rfl (by kernel_rfl) (by kernel_rfl) (by kernel_rfl) (fun _ _ _ h => h) (Or.inl ⟨by rfl, ?hy7017⟩) (by assumption) ?rest7017
      case hy7017 => (intro wz hSw; (try dsimp only at hSw); first | (go_simp; done) | (go_simp; with_reducible rfl))
      try simp only [Act.put, List.getElem_toArray, List.getElem_cons_succ, List.getElem_cons_zero, List.setIfInBounds_toArray, List.set_cons_zero, List.set_cons_succ]
      refine wpAnyH_ready (rs := [6]) (by kernel_rfl) (by simp) ?_
      refine AllReadyH.cons (o := _) rfl (fun K hK => ?_) AllReadyH.nil
      go_simp
      (with_reducible refine (GC.out _ (gb_trans GX.out (gb_trans GR.out K0.out)) rh rf).mono ?_)
      rintro e kw1 ⟨rfl, g⟩
      have K1 := Lib.hid (gb_trans K0.out g)
      clear g
      try dsimp only
      refine hK.out _ _ (KSb.out _ K1.out) (fun hH1 => ?_)
      clear hK K hH0
      try simp only [Act.put, List.getElem_toArray, List.getElem_cons_succ, List.getElem_cons_zero, List.setIfInBounds_toArray, List.set_cons_zero, List.set_cons_succ]
      refine wpAnyH_ready (rs := [12]) (by kernel_rfl) (by simp) ?_
      refine AllReadyH.cons (o := _) rfl (fun K hK => ?_) AllReadyH.nil
      go_simp
      (with_reducible refine (GD.out _ (gb_trans GX.out (gb_trans GR.out K1.out)) rh rf).mono ?_)
      rintro e kw2 ⟨rfl, g⟩
      have K2 := Lib.hid (gb_trans K1.out g)
      clear g
      try dsimp only
      refine hK.out _ _ (KSb.out _ K2.out) (fun hH2 => ?_)
      clear hK K hH1
      try simp only [Act.put, List.getElem_toArray, List.getElem_cons_succ, List.getElem_cons_zero, List.setIfInBounds_toArray, List.set_cons_zero, List.set_cons_succ]
      refine wpAnyH_take (i := 13) (v := ?v7018) rfl (by kernel_rfl) (by kernel_rfl) (by kernel_rfl) (fun _ _ _ h => h) (Or.inl ⟨by rfl, ?hy7018⟩) (by assumption) ?rest7018
      case hy7018 => (intro wz hSw; (try dsimp only at hSw); first | (go_simp; done) | (go_simp; with_reducible rfl))
      try simp only [Act.put, List.getElem_toArray, List.getElem_cons_succ, List.getElem_cons_zero, List.setIfInBounds_toArray, List.set_cons_zero, List.set_cons_succ]
      refine wpAnyH_done (by kernel_rfl) ?_ _
      clear hH2
      obtain ⟨ga, hga⟩ : ∃ q, q = getE C.V C.F C.T rh rf := ⟨_, rfl⟩
      obtain ⟨gd, hgd⟩ : ∃ q, q = getE V F T rh rf := ⟨_, rfl⟩
      rw [← hga, ← hgd]
      have GG := Lib.hid (gb_trans GR.out K2.out)
      have HA := Lib.hid hga
      have HDd := Lib.hid hgd
      clear hga hgd K0 K1 K2 KSb
      by_cases hab : ga = gd
      · subst hab
        have AG2 := Lib.hid (show ∀ i, i < j + 1 → getE C.V C.F C.T (lF.getD i rz).1 (lF.getD i rz).2 = getE V F T (lF.getD i rz).1 (lF.getD i rz).2 by
          intro i hi
          by_cases e : i = j
          · subst e
            rw [show lF.getD i rz = (rh, rf) from HRR.out.symm]
            rw [← HA.out, ← HDd.out]
          · exact AG.out i (by omega))
        have n1 : (ga != ga) = false := by simp
        go_wp2
        go_roundw
        case rel => exact ⟨j + 1, by go_num, by omega, AG2.out, GG.out⟩
        case measure => simp [intOf]; omega
      · have n1 : (ga != gd) = true := by simp [hab]
        have n2 : (ga == gd) = false := by simp [hab]
        have n3 : ¬ ga = gd := hab
        have GY := Lib.hid (gb_trans GX.out GG.out)
        go_wp2_with fail
        refine (AW.out _).mono ?_
        rintro e x1 ⟨rfl, g⟩
        have GZ := Lib.hid (gb_trans GY.out g)
        clear g
        go_wp2
        go_ret
        exact ⟨rfl, GZ.out⟩
    · have i1 : ¬ (j : Int) < nF := by omega
      have hje : j = nF := by omega
      have AF := Lib.hid (show ∀ i, i < nF → getE C.V C.F C.T (lF.getD i rz).1 (lF.getD i rz).2 = getE V F T (lF.getD i rz).1 (lF.getD i rz).2 by rw [← hje]; exact AG.out)
      have DM := Lib.hid (DL.out AF.out)
      have GX := Lib.hid (gb_trans GX.out GR.out)
      have BX1 := Lib.hid (BX1.out.keep0 GR.out)
      have BX2 := Lib.hid (BX2.out.keep0 GR.out)
      have HO := Lib.hid (HO.out.keep0 GR.out)
      clear GR AG
      go_wp2
      rename World => wp
      go_loopw [8] (fun s8 wq => ∃ (j : Nat), s8 = .int .i64 (j : Int) ∧ j ≤ nH ∧ (∀ i, i < j → validB C.V (lH.getD i 0) = validB V (lH.getD i 0)) ∧ wp.grownBy wq none) (fun s8 _ => nH - (intOf s8).toNat)
      case atStart => exact ⟨0, rfl, Nat.zero_le _, (fun i h => by omega), gb_refl _ _⟩
      case round =>
        obtain ⟨j, rfl, hj, hAg, hgr⟩ := hrel
        have AG := Lib.hid hAg
        have GR := Lib.hid hgr
        clear hAg hgr
        by_cases hlt : j < nH
        · have i1 : (j : Int) < nH := by omega
          have i0 : (0 : Int) ≤ (j : Int) := by omega
          obtain ⟨qd, rfl⟩ := HO.out.some (by omega)
          have y0 := HO.out.cells qd rfl j hlt
          obtain ⟨rh, hrr⟩ : ∃ r, r = lH.getD j 0 := ⟨_, rfl⟩
          rw [← hrr] at y0
          have HRR := Lib.hid hrr
          have Y0 := Lib.hid y0
          clear y0 hrr
          go_wp2
          have KSb := Lib.hid (fun (w' : World) (q0 : wr.grownBy w' none) => (⟨(BX1.out.keep0 (gb_trans GR.out q0)).cell 11, (BX1.out.keep0 (gb_trans GR.out q0)).cell 12, (BX1.out.keep0 (gb_trans GR.out q0)).cell 13, (BX1.out.keep0 (gb_trans GR.out q0)).cell 14, (BX2.out.keep0 (gb_trans GR.out q0)).cell 0, (BX2.out.keep0 (gb_trans GR.out q0)).cell 1, (BX2.out.keep0 (gb_trans GR.out q0)).cell 2, (BX2.out.keep0 (gb_trans GR.out q0)).cell 3, (gb_trans GR.out q0).cell Y0.out (by simp), q0⟩ : (fun w' : World => w'.cell? ⟨bx, 11, none⟩ = some (.slice X.va X.vn X.vc) ∧ w'.cell? ⟨bx, 12, none⟩ = some (.slice X.fa X.fn X.fc) ∧ w'.cell? ⟨bx, 13, none⟩ = some (.slice X.ta X.tn X.tc) ∧ w'.cell? ⟨bx, 14, none⟩ = some (.slice X.la X.ln X.lc) ∧ w'.cell? ⟨(bx + 1), 0, none⟩ = some (.slice va vn vc) ∧ w'.cell? ⟨(bx + 1), 1, none⟩ = some (.slice fa fn fc) ∧ w'.cell? ⟨(bx + 1), 2, none⟩ = some (.slice ta tn tc) ∧ w'.cell? ⟨(bx + 1), 3, none⟩ = some (.slice la ln lc) ∧ w'.cell? (qd.add j) = some (.int .i64 rh) ∧ wr.grownBy w' none) w'))
          have K0 := Lib.hid (gb_drew wr none)
          refine wp_region_held_drew (S := (fun w' : World => w'.cell? ⟨bx, 11, none⟩ = some (.slice X.va X.vn X.vc) ∧ w'.cell? ⟨bx, 12, none⟩ = some (.slice X.fa X.fn X.fc) ∧ w'.cell? ⟨bx, 13, none⟩ = some (.slice X.ta X.tn X.tc) ∧ w'.cell? ⟨bx, 14, none⟩ = some (.slice X.la X.ln X.lc) ∧ w'.cell? ⟨(bx + 1), 0, none⟩ = some (.slice va vn vc) ∧ w'.cell? ⟨(bx + 1), 1, none⟩ = some (.slice fa fn fc) ∧ w'.cell? ⟨(bx + 1), 2, none⟩ = some (.slice ta tn tc) ∧ w'.cell? ⟨(bx + 1), 3, none⟩ = some (.slice la ln lc) ∧ w'.cell? (qd.add j) = some (.int .i64 rh) ∧ wr.grownBy w' none)) (by kernel_rfl) (KSb.out _ K0.out) (fun hH0 => ?_)
          refine wpAnyH_take (i := 0) (v := ?v7019) rfl (by kernel_rfl) (by kernel_rfl) (by kernel_rfl) (fun _ _ _ h => h) (Or.inl ⟨by rfl, ?hy7019⟩) (by assumption) ?rest7019
          case hy7019 => (intro wz hSw; (try dsimp only at hSw); first | (go_simp; done) | (go_simp; with_reducible rfl))
          try simp only [Act.put, List.getElem_toArray, List.getElem_cons_zero, List.setIfInBounds_toArray, List.set_cons_zero, List.set_cons_succ]
          refine wpAnyH_take (i := 1) (v := ?v7020) rfl (by kernel_rfl) (by kernel_rfl) (by kernel_rfl) (fun _ _ _ h => h) (Or.inl ⟨by rfl, ?hy7020⟩) (by assumption) ?rest7020
          case hy7020 => (intro wz hSw; (try dsimp only at hSw); first | (go_simp; done) | (go_simp; with_reducible rfl))
          try simp only [Act.put, List.getElem_toArray, List.getElem_cons_succ, List.getElem_cons_zero, List.setIfInBounds_toArray, List.set_cons_zero, List.set_cons_succ]
          refine wpAnyH_take (i := 2) (v := ?v7021) rfl (by kernel_rfl) (by kernel_rfl) (by kernel_rfl) (fun _ _ _ h => h) (Or.inl ⟨by rfl, ?hy7021⟩) (by assumption) ?rest7021
          case hy7021 => (intro wz hSw; (try dsimp only at hSw); first | (go_simp; done) | (go_simp; with_reducible rfl))
          try simp only [Act.put, List.getElem_toArray, List.getElem_cons_succ, List.getElem_cons_zero, List.setIfInBounds_toArray, List.set_cons_zero, List.set_cons_succ]
          refine wpAnyH_take (i := 3) (v := ?v7022) rfl (by kernel_rfl) (by kernel_rfl) (by kernel_rfl) (fun _ _ _ h => h) (Or.inl ⟨by rfl, ?hy7022⟩) (by assumption) ?rest7022
          case hy7022 => (intro wz hSw; (try dsimp only at hSw); first | (go_simp; done) | (go_simp; with_reducible rfl))
          try simp only [Act.put, List.getElem_toArray, List.getElem_cons_succ, List.getElem_cons_zero, List.setIfInBounds_toArray, List.set_cons_zero, List.set_cons_succ]
          refine wpAnyH_take (i := 4) (v := ?v7023) rfl (by kernel_rfl) (by kernel_rfl) (by kernel_rfl) (fun _ _ _ h => h) (Or.inl ⟨by rfl, ?hy7023⟩) (by assumption) ?rest7023
          case hy7023 => (intro wz hSw; (try dsimp only at hSw); first | (go_simp; done) | (go_simp; with_reducible rfl))
          try simp only [Act.put, List.getElem_toArray, List.getElem_cons_succ, List.getElem_cons_zero, List.setIfInBounds_toArray, List.set_cons_zero, List.set_cons_succ]
          refine wpAnyH_take (i := 5) (v := ?v7024) rfl (by kernel_rfl) (by kernel_rfl) (by kernel_rfl) (fun _ _ _ h => h) (Or.inl ⟨by rfl, ?hy7024⟩) (by assumption) ?rest7024
          case hy7024 => (intro wz hSw; (try dsimp only at hSw); first | (go_simp; done) | (go_simp; with_reducible rfl))
          try simp only [Act.put, List.getElem_toArray, List.getElem_cons_succ, List.getElem_cons_zero, List.setIfInBounds_toArray, List.set_cons_zero, List.set_cons_succ]
          refine wpAnyH_take (i := 7) (v := ?v7025) rfl (by kernel_rfl) (by kernel_rfl) (by kernel_rfl) (fun _ _ _ h => h) (Or.inl ⟨by rfl, ?hy7025⟩) (by assumption) ?rest7025
          case hy7025 => (intro wz hSw; (try dsimp only at hSw); first | (go_simp; done) | (go_simp; with_reducible rfl))
          try simp only [Act.put, List.getElem_toArray, List.getElem_cons_succ, List.getElem_cons_zero, List.setIfInBounds_toArray, List.set_cons_zero, List.set_cons_succ]
          refine wpAnyH_take (i := 8) (v := ?v7026) rfl (by kernel_rfl) (by kernel_rfl) (by kernel_rfl) (fun _ _ _ h => h) (Or.inl ⟨by rfl, ?hy7026⟩) (by assumption) ?rest7026
          case hy7026 => (intro wz hSw; (try dsimp only at hSw); first | (go_simp; done) | (go_simp; with_reducible rfl))
          try simp only [Act.put, List.getElem_toArray, List.getElem_cons_succ, List.getElem_cons_zero, List.setIfInBounds_toArray, List.set_cons_zero, List.set_cons_succ]
          refine wpAnyH_take (i := 9) (v := ?v7027) rfl (by kernel_rfl) (by kernel_rfl) (by kernel_rfl) (fun _ _ _ h => h) (Or.inl ⟨by rfl, ?hy7027⟩) (by assumption) ?rest7027
          case hy7027 => (intro wz hSw; (try dsimp only at hSw); first | (go_simp; done) | (go_simp; with_reducible rfl))
          try simp only [Act.put, List.getElem_toArray, List.getElem_cons_succ, List.getElem_cons_zero, List.setIfInBounds_toArray, List.set_cons_zero, List.set_cons_succ]
          refine wpAnyH_take (i := 10) (v := ?v7028) rfl (by kernel_rfl) (by kernel_rfl) (by kernel_rfl) (fun _ _ _ h => h) (Or.inl ⟨by rfl, ?hy7028⟩) (by assumption) ?rest7028
          case hy7028 => (intro wz hSw; (try dsimp only at hSw); first | (go_simp; done) | (go_simp; with_reducible rfl))
          try simp only [Act.put, List.getElem_toArray, List.getElem_cons_succ, List.getElem_cons_zero, List.setIfInBounds_toArray, List.set_cons_zero, List.set_cons_succ]
          refine wpAnyH_take (i := 11) (v := ?v7029) rfl (by kernel_rfl) (by kernel_rfl) (by kernel_rfl) (fun _ _ _ h => h) (Or.inl ⟨by rfl, ?hy7029⟩) (by assumption) ?rest7029
          case hy7029 => (intro wz hSw; (try dsimp only at hSw); first | (go_simp; done) | (go_simp; with_reducible rfl))
          try simp only [Act.put, List.getElem_toArray, List.getElem_cons_succ, List.getElem_cons_zero, List.setIfInBounds_toArray, List.set_cons_zero, List.set_cons_succ]
          refine wpAnyH_ready (rs := [6]) (by kernel_rfl) (by simp) ?_
          refine AllReadyH.cons (o := _) rfl (fun K hK => ?_) AllReadyH.nil
          go_simp
          (with_reducible refine (VC.out _ (gb_trans GX.out (gb_trans GR.out K0.out)) rh).mono ?_)
          rintro e kw1 ⟨rfl, g⟩
          have K1 := Lib.hid (gb_trans K0.out g)
          clear g
          try dsimp only
          refine hK.out _ _ (KSb.out _ K1.out) (fun hH1 => ?_)
          clear hK K hH0
          try simp only [Act.put, List.getElem_toArray, List.getElem_cons_succ, List.getElem_cons_zero, List.setIfInBounds_toArray, List.set_cons_zero, List.set_cons_succ]
          refine wpAnyH_ready (rs := [12]) (by kernel_rfl) (by simp) ?_
          refine AllReadyH.cons (o := _) rfl (fun K hK => ?_) AllReadyH.nil
          go_simp
          (with_reducible refine (VD.out _ (gb_trans GX.out (gb_trans GR.out K1.out)) rh).mono ?_)
          rintro e kw2 ⟨rfl, g⟩
          have K2 := Lib.hid (gb_trans K1.out g)
          clear g
          try dsimp only
          refine hK.out _ _ (KSb.out _ K2.out) (fun hH2 => ?_)
          clear hK K hH1
          try simp only [Act.put, List.getElem_toArray, List.getElem_cons_succ, List.getElem_cons_zero, List.setIfInBounds_toArray, List.set_cons_zero, List.set_cons_succ]
          refine wpAnyH_take (i := 13) (v := ?v7030) rfl (by kernel_rfl) (by kernel_rfl) (by kernel_rfl) (fun _ _ _ h => h) (Or.inl ⟨by rfl, ?hy7030⟩) (by assumption) ?rest7030
          case hy7030 => (intro wz hSw; (try dsimp only at hSw); first | (go_simp; done) | (go_simp; with_reducible rfl))
          try simp only [Act.put, List.getElem_toArray, List.getElem_cons_succ, List.getElem_cons_zero, List.setIfInBounds_toArray, List.set_cons_zero, List.set_cons_succ]
          refine wpAnyH_done (by kernel_rfl) ?_ _
          clear hH2
          obtain ⟨ga, hga⟩ : ∃ q, q = validB C.V rh := ⟨_, rfl⟩
          obtain ⟨gd, hgd⟩ : ∃ q, q = validB V rh := ⟨_, rfl⟩
          rw [← hga, ← hgd]
          have GG := Lib.hid (gb_trans GR.out K2.out)
          have HA := Lib.hid hga
          have HDd := Lib.hid hgd
          clear hga hgd K0 K1 K2 KSb
          by_cases hab : ga = gd
          · subst hab
            have AG2 := Lib.hid (show ∀ i, i < j + 1 → validB C.V (lH.getD i 0) = validB V (lH.getD i 0) by
              intro i hi
              by_cases e : i = j
              · subst e
                rw [show lH.getD i 0 = rh from HRR.out.symm]
                rw [← HA.out, ← HDd.out]
              · exact AG.out i (by omega))
            clear HA HDd
            cases ga
            all_goals
              go_wp2
              go_roundw
              case rel => exact ⟨j + 1, by go_num, by omega, AG2.out, GG.out⟩
              case measure => simp [intOf]; omega
          · have GY := Lib.hid (gb_trans GX.out GG.out)
            clear HA HDd
            cases ga <;> cases gd
            · exact absurd rfl hab
            · clear hab
              go_wp2_with fail
              refine (AW.out _).mono ?_
              rintro e x1 ⟨rfl, g⟩
              have GZ := Lib.hid (gb_trans GY.out g)
              clear g
              go_wp2
              go_ret
              exact ⟨rfl, GZ.out⟩
            · clear hab
              go_wp2_with fail
              refine (AW.out _).mono ?_
              rintro e x1 ⟨rfl, g⟩
              have GZ := Lib.hid (gb_trans GY.out g)
              clear g
              go_wp2
              go_ret
              exact ⟨rfl, GZ.out⟩
            · exact absurd rfl hab
        · have i1 : ¬ (j : Int) < nH := by omega
          have hje : j = nH := by omega
          have WT := Lib.hid (DM.out (by rw [← hje]; exact AG.out))
          rw [← WT.out] at KD
          generalize rV (wholeT C N) = rv at *
          have e1 : (rv == rv) = true := by simp
          clear AG DM
          go_wp2
          have KSb := Lib.hid (fun (w' : World) (q0 : wr.grownBy w' none) => (⟨(BX1.out.keep0 (gb_trans GR.out q0)).cell 0, (BX1.out.keep0 (gb_trans GR.out q0)).cell 1, (BX1.out.keep0 (gb_trans GR.out q0)).cell 2, (BX1.out.keep0 (gb_trans GR.out q0)).cell 3, (BX1.out.keep0 (gb_trans GR.out q0)).cell 4, (BX1.out.keep0 (gb_trans GR.out q0)).cell 5, (BX1.out.keep0 (gb_trans GR.out q0)).cell 6, (BX1.out.keep0 (gb_trans GR.out q0)).cell 7, (BX1.out.keep0 (gb_trans GR.out q0)).cell 8, (BX1.out.keep0 (gb_trans GR.out q0)).cell 9, (BX1.out.keep0 (gb_trans GR.out q0)).cell 10, (BX1.out.keep0 (gb_trans GR.out q0)).cell 11, (BX1.out.keep0 (gb_trans GR.out q0)).cell 12, (BX1.out.keep0 (gb_trans GR.out q0)).cell 13, (BX1.out.keep0 (gb_trans GR.out q0)).cell 14, (BX1.out.keep0 (gb_trans GR.out q0)).cell 15, (BX2.out.keep0 (gb_trans GR.out q0)).cell 0, (BX2.out.keep0 (gb_trans GR.out q0)).cell 1, (BX2.out.keep0 (gb_trans GR.out q0)).cell 2, (BX2.out.keep0 (gb_trans GR.out q0)).cell 3, q0⟩ : (fun w' : World => w'.cell? ⟨bx, 0, none⟩ = some (.string X.nm) ∧ w'.cell? ⟨bx, 1, none⟩ = some (.slice X.ha X.hn X.hc) ∧ w'.cell? ⟨bx, 2, none⟩ = some (.slice X.ma X.mn X.mc) ∧ w'.cell? ⟨bx, 3, none⟩ = some (.slice X.a0 X.n0 X.c0) ∧ w'.cell? ⟨bx, 4, none⟩ = some (.slice X.a1 X.n1 X.c1) ∧ w'.cell? ⟨bx, 5, none⟩ = some (.slice X.a2 X.n2 X.c2) ∧ w'.cell? ⟨bx, 6, none⟩ = some (.slice X.a3 X.n3 X.c3) ∧ w'.cell? ⟨bx, 7, none⟩ = some (.slice X.a4 X.n4 X.c4) ∧ w'.cell? ⟨bx, 8, none⟩ = some (.slice X.a5 X.n5 X.c5) ∧ w'.cell? ⟨bx, 9, none⟩ = some (.slice X.pa X.pn X.pc) ∧ w'.cell? ⟨bx, 10, none⟩ = some (.slice X.na X.nn X.nc) ∧ w'.cell? ⟨bx, 11, none⟩ = some (.slice X.va X.vn X.vc) ∧ w'.cell? ⟨bx, 12, none⟩ = some (.slice X.fa X.fn X.fc) ∧ w'.cell? ⟨bx, 13, none⟩ = some (.slice X.ta X.tn X.tc) ∧ w'.cell? ⟨bx, 14, none⟩ = some (.slice X.la X.ln X.lc) ∧ w'.cell? ⟨bx, 15, none⟩ = some (.slice X.aa X.an X.ac) ∧ w'.cell? ⟨(bx + 1), 0, none⟩ = some (.slice va vn vc) ∧ w'.cell? ⟨(bx + 1), 1, none⟩ = some (.slice fa fn fc) ∧ w'.cell? ⟨(bx + 1), 2, none⟩ = some (.slice ta tn tc) ∧ w'.cell? ⟨(bx + 1), 3, none⟩ = some (.slice la ln lc) ∧ wr.grownBy w' none) w'))
          have K0 := Lib.hid (gb_drew wr none)
          refine wp_region_held_drew (S := (fun w' : World => w'.cell? ⟨bx, 0, none⟩ = some (.string X.nm) ∧ w'.cell? ⟨bx, 1, none⟩ = some (.slice X.ha X.hn X.hc) ∧ w'.cell? ⟨bx, 2, none⟩ = some (.slice X.ma X.mn X.mc) ∧ w'.cell? ⟨bx, 3, none⟩ = some (.slice X.a0 X.n0 X.c0) ∧ w'.cell? ⟨bx, 4, none⟩ = some (.slice X.a1 X.n1 X.c1) ∧ w'.cell? ⟨bx, 5, none⟩ = some (.slice X.a2 X.n2 X.c2) ∧ w'.cell? ⟨bx, 6, none⟩ = some (.slice X.a3 X.n3 X.c3) ∧ w'.cell? ⟨bx, 7, none⟩ = some (.slice X.a4 X.n4 X.c4) ∧ w'.cell? ⟨bx, 8, none⟩ = some (.slice X.a5 X.n5 X.c5) ∧ w'.cell? ⟨bx, 9, none⟩ = some (.slice X.pa X.pn X.pc) ∧ w'.cell? ⟨bx, 10, none⟩ = some (.slice X.na X.nn X.nc) ∧ w'.cell? ⟨bx, 11, none⟩ = some (.slice X.va X.vn X.vc) ∧ w'.cell? ⟨bx, 12, none⟩ = some (.slice X.fa X.fn X.fc) ∧ w'.cell? ⟨bx, 13, none⟩ = some (.slice X.ta X.tn X.tc) ∧ w'.cell? ⟨bx, 14, none⟩ = some (.slice X.la X.ln X.lc) ∧ w'.cell? ⟨bx, 15, none⟩ = some (.slice X.aa X.an X.ac) ∧ w'.cell? ⟨(bx + 1), 0, none⟩ = some (.slice va vn vc) ∧ w'.cell? ⟨(bx + 1), 1, none⟩ = some (.slice fa fn fc) ∧ w'.cell? ⟨(bx + 1), 2, none⟩ = some (.slice ta tn tc) ∧ w'.cell? ⟨(bx + 1), 3, none⟩ = some (.slice la ln lc) ∧ wr.grownBy w' none)) (by kernel_rfl) (KSb.out _ K0.out) (fun hH0 => ?_)
          refine wpAnyH_take (i := 0) (v := ?v7031) rfl (by kernel_rfl) (by kernel_rfl) (by kernel_rfl) (fun _ _ _ h => h) (Or.inl ⟨by rfl, ?hy7031⟩) (by assumption) ?rest7031
          case hy7031 => (intro wz hSw; (try dsimp only at hSw); first | (go_simp; done) | (go_simp; with_reducible rfl))
          try simp only [Act.put, List.getElem_toArray, List.getElem_cons_zero, List.setIfInBounds_toArray, List.set_cons_zero, List.set_cons_succ]
          refine wpAnyH_take (i := 1) (v := ?v7032) rfl (by kernel_rfl) (by kernel_rfl) (by kernel_rfl) (fun _ _ _ h => h) (Or.inl ⟨by rfl, ?hy7032⟩) (by assumption) ?rest7032
          case hy7032 => (intro wz hSw; (try dsimp only at hSw); first | (go_simp; done) | (go_simp; with_reducible rfl))
          try simp only [Act.put, List.getElem_toArray, List.getElem_cons_succ, List.getElem_cons_zero, List.setIfInBounds_toArray, List.set_cons_zero, List.set_cons_succ]
          refine wpAnyH_take (i := 2) (v := ?v7033) rfl (by kernel_rfl) (by kernel_rfl) (by kernel_rfl) (fun _ _ _ h => h) (Or.inl ⟨by rfl, ?hy7033⟩) (by assumption) ?rest7033
          case hy7033 => (intro wz hSw; (try dsimp only at hSw); first | (go_simp; done) | (go_simp; with_reducible rfl))
          try simp only [Act.put, List.getElem_toArray, List.getElem_cons_succ, List.getElem_cons_zero, List.setIfInBounds_toArray, List.set_cons_zero, List.set_cons_succ]
          refine wpAnyH_take (i := 4) (v := ?v7034) rfl (by kernel_rfl) (by kernel_rfl) (by kernel_rfl) (fun _ _ _ h => h) (Or.inl ⟨by rfl, ?hy7034⟩) (by assumption) ?rest7034
          case hy7034 => (intro wz hSw; (try dsimp only at hSw); first | (go_simp; done) | (go_simp; with_reducible rfl))
          try simp only [Act.put, List.getElem_toArray, List.getElem_cons_succ, List.getElem_cons_zero, List.setIfInBounds_toArray, List.set_cons_zero, List.set_cons_succ]
          refine wpAnyH_take (i := 5) (v := ?v7035) rfl (by kernel_rfl) (by kernel_rfl) (by kernel_rfl) (fun _ _ _ h => h) (Or.inl ⟨by rfl, ?hy7035⟩) (by assumption) ?rest7035
          case hy7035 => (intro wz hSw; (try dsimp only at hSw); first | (go_simp; done) | (go_simp; with_reducible rfl))
          try simp only [Act.put, List.getElem_toArray, List.getElem_cons_succ, List.getElem_cons_zero, List.setIfInBounds_toArray, List.set_cons_zero, List.set_cons_succ]
          refine wpAnyH_take (i := 6) (v := ?v7036) rfl (by kernel_rfl) (by kernel_rfl) (by kernel_rfl) (fun _ _ _ h => h) (Or.inl ⟨by rfl, ?hy7036⟩) (by assumption) ?rest7036
          case hy7036 => (intro wz hSw; (try dsimp only at hSw); first | (go_simp; done) | (go_simp; with_reducible rfl))
          try simp only [Act.put, List.getElem_toArray, List.getElem_cons_succ, List.getElem_cons_zero, List.setIfInBounds_toArray, List.set_cons_zero, List.set_cons_succ]
          refine wpAnyH_take (i := 7) (v := ?v7037) rfl (by kernel_rfl) (by kernel_rfl) (by kernel_rfl) (fun _ _ _ h => h) (Or.inl ⟨by rfl, ?hy7037⟩) (by assumption) ?rest7037
          case hy7037 => (intro wz hSw; (try dsimp only at hSw); first | (go_simp; done) | (go_simp; with_reducible rfl))
          try simp only [Act.put, List.getElem_toArray, List.getElem_cons_succ, List.getElem_cons_zero, List.setIfInBounds_toArray, List.set_cons_zero, List.set_cons_succ]
          refine wpAnyH_take (i := 9) (v := ?v7038) rfl (by kernel_rfl) (by kernel_rfl) (by kernel_rfl) (fun _ _ _ h => h) (Or.inl ⟨by rfl, ?hy7038⟩) (by assumption) ?rest7038
          case hy7038 => (intro wz hSw; (try dsimp only at hSw); first | (go_simp; done) | (go_simp; with_reducible rfl))
          try simp only [Act.put, List.getElem_toArray, List.getElem_cons_succ, List.getElem_cons_zero, List.setIfInBounds_toArray, List.set_cons_zero, List.set_cons_succ]
          refine wpAnyH_take (i := 10) (v := ?v7039) rfl (by kernel_rfl) (by kernel_rfl) (by kernel_rfl) (fun _ _ _ h => h) (Or.inl ⟨by rfl, ?hy7039⟩) (by assumption) ?rest7039
          case hy7039 => (intro wz hSw; (try dsimp only at hSw); first | (go_simp; done) | (go_simp; with_reducible rfl))
          try simp only [Act.put, List.getElem_toArray, List.getElem_cons_succ, List.getElem_cons_zero, List.setIfInBounds_toArray, List.set_cons_zero, List.set_cons_succ]
          refine wpAnyH_take (i := 11) (v := ?v7040) rfl (by kernel_rfl) (by kernel_rfl) (by kernel_rfl) (fun _ _ _ h => h) (Or.inl ⟨by rfl, ?hy7040⟩) (by assumption) ?rest7040
          case hy7040 => (intro wz hSw; (try dsimp only at hSw); first | (go_simp; done) | (go_simp; with_reducible rfl))
          try simp only [Act.put, List.getElem_toArray, List.getElem_cons_succ, List.getElem_cons_zero, List.setIfInBounds_toArray, List.set_cons_zero, List.set_cons_succ]
          refine wpAnyH_take (i := 13) (v := ?v7041) rfl (by kernel_rfl) (by kernel_rfl) (by kernel_rfl) (fun _ _ _ h => h) (Or.inl ⟨by rfl, ?hy7041⟩) (by assumption) ?rest7041
          case hy7041 => (intro wz hSw; (try dsimp only at hSw); first | (go_simp; done) | (go_simp; with_reducible rfl))
          try simp only [Act.put, List.getElem_toArray, List.getElem_cons_succ, List.getElem_cons_zero, List.setIfInBounds_toArray, List.set_cons_zero, List.set_cons_succ]
          refine wpAnyH_take (i := 14) (v := ?v7042) rfl (by kernel_rfl) (by kernel_rfl) (by kernel_rfl) (fun _ _ _ h => h) (Or.inl ⟨by rfl, ?hy7042⟩) (by assumption) ?rest7042
          case hy7042 => (intro wz hSw; (try dsimp only at hSw); first | (go_simp; done) | (go_simp; with_reducible rfl))
          try simp only [Act.put, List.getElem_toArray, List.getElem_cons_succ, List.getElem_cons_zero, List.setIfInBounds_toArray, List.set_cons_zero, List.set_cons_succ]
          refine wpAnyH_take (i := 15) (v := ?v7043) rfl (by kernel_rfl) (by kernel_rfl) (by kernel_rfl) (fun _ _ _ h => h) (Or.inl ⟨by rfl, ?hy7043⟩) (by assumption) ?rest7043
          case hy7043 => (intro wz hSw; (try dsimp only at hSw); first | (go_simp; done) | (go_simp; with_reducible rfl))
          try simp only [Act.put, List.getElem_toArray, List.getElem_cons_succ, List.getElem_cons_zero, List.setIfInBounds_toArray, List.set_cons_zero, List.set_cons_succ]
          refine wpAnyH_ready (rs := [3]) (by kernel_rfl) (by simp) ?_
          refine AllReadyH.cons (o := _) rfl (fun K hK => ?_) AllReadyH.nil
          go_simp
          (with_reducible refine (SCo.out _).mono ?_)
          rintro e kw1 ⟨rfl, g⟩
          have K1 := Lib.hid (gb_trans K0.out g)
          clear g
          try dsimp only
          refine hK.out _ _ (KSb.out _ K1.out) (fun hH1 => ?_)
          clear hK K hH0
          try simp only [Act.put, List.getElem_toArray, List.getElem_cons_succ, List.getElem_cons_zero, List.setIfInBounds_toArray, List.set_cons_zero, List.set_cons_succ]
          refine wpAnyH_ready (rs := [8]) (by kernel_rfl) (by simp) ?_
          refine AllReadyH.cons (o := _) rfl (fun K hK => ?_) AllReadyH.nil
          go_simp
          (with_reducible refine (KE.out _ (gb_trans GX.out (gb_trans GR.out K1.out))).mono ?_)
          rintro e kw2 ⟨rfl, g⟩
          have K2 := Lib.hid (gb_trans K1.out g)
          clear g
          try dsimp only
          refine hK.out _ _ (KSb.out _ K2.out) (fun hH2 => ?_)
          clear hK K hH1
          try simp only [Act.put, List.getElem_toArray, List.getElem_cons_succ, List.getElem_cons_zero, List.setIfInBounds_toArray, List.set_cons_zero, List.set_cons_succ]
          refine wpAnyH_ready (rs := [12]) (by kernel_rfl) (by simp) ?_
          refine AllReadyH.cons (o := _) rfl (fun K hK => ?_) AllReadyH.nil
          go_simp
          (with_reducible refine (SCo.out _).mono ?_)
          rintro e kw3 ⟨rfl, g⟩
          have K3 := Lib.hid (gb_trans K2.out g)
          clear g
          try dsimp only
          refine hK.out _ _ (KSb.out _ K3.out) (fun hH3 => ?_)
          clear hK K hH2
          try simp only [Act.put, List.getElem_toArray, List.getElem_cons_succ, List.getElem_cons_zero, List.setIfInBounds_toArray, List.set_cons_zero, List.set_cons_succ]
          refine wpAnyH_ready (rs := [16]) (by kernel_rfl) (by simp) ?_
          refine AllReadyH.cons (o := _) rfl (fun K hK => ?_) AllReadyH.nil
          go_simp
          (with_reducible refine (KD.out _ (gb_trans GX.out (gb_trans GR.out K3.out))).mono ?_)
          rintro e kw4 ⟨rfl, g⟩
          have K4 := Lib.hid (gb_trans K3.out g)
          clear g
          try dsimp only
          refine hK.out _ _ (KSb.out _ K4.out) (fun hH4 => ?_)
          clear hK K hH3
          try simp only [Act.put, List.getElem_toArray, List.getElem_cons_succ, List.getElem_cons_zero, List.setIfInBounds_toArray, List.set_cons_zero, List.set_cons_succ]
          refine wpAnyH_take (i := 17) (v := ?v7044) rfl (by kernel_rfl) (by kernel_rfl) (by kernel_rfl) (fun _ _ _ h => h) (Or.inl ⟨by rfl, ?hy7044⟩) (by assumption) ?rest7044
          case hy7044 => (intro wz hSw; (try dsimp only at hSw); first | (go_simp; done) | (go_simp; with_reducible rfl))
          try simp only [Act.put, List.getElem_toArray, List.getElem_cons_succ, List.getElem_cons_zero, List.setIfInBounds_toArray, List.set_cons_zero, List.set_cons_succ]
          refine wpAnyH_take (i := 18) (v := ?v7045) rfl (by kernel_rfl) (by kernel_rfl) (by kernel_rfl) (fun _ _ _ h => h) (Or.inl ⟨by rfl, ?hy7045⟩) (by assumption) ?rest7045
          case hy7045 => (intro wz hSw; (try dsimp only at hSw); first | (go_simp; done) | (go_simp; with_reducible rfl))
          try simp only [Act.put, List.getElem_toArray, List.getElem_cons_succ, List.getElem_cons_zero, List.setIfInBounds_toArray, List.set_cons_zero, List.set_cons_succ]
          refine wpAnyH_ready (rs := [19]) (by kernel_rfl) (by simp) ?_
          refine AllReadyH.cons (o := _) rfl (fun K hK => ?_) AllReadyH.nil
          go_simp
          (with_reducible refine (AW.out _).mono ?_)
          rintro e kw5 ⟨rfl, g⟩
          have K5 := Lib.hid (gb_trans K4.out g)
          clear g
          try dsimp only
          refine hK.out _ _ (KSb.out _ K5.out) (fun hH5 => ?_)
          clear hK K hH4
          try simp only [Act.put, List.getElem_toArray, List.getElem_cons_succ, List.getElem_cons_zero, List.setIfInBounds_toArray, List.set_cons_zero, List.set_cons_succ]
          refine wpAnyH_take (i := 20) (v := ?v7046) rfl (by kernel_rfl) (by kernel_rfl) (by kernel_rfl) (fun _ _ _ h => h) (Or.inl ⟨by rfl, ?hy7046⟩) (by assumption) ?rest7046
          case hy7046 => (intro wz hSw; (try dsimp only at hSw); first | (go_simp; done) | (go_simp; with_reducible rfl))
          try simp only [Act.put, List.getElem_toArray, List.getElem_cons_succ, List.getElem_cons_zero, List.setIfInBounds_toArray, List.set_cons_zero, List.set_cons_succ]
          refine wpAnyH_take (i := 21) (v := ?v7047) rfl (by kernel_rfl) (by kernel_rfl) (by kernel_rfl) (fun _ _ _ h => h) (Or.inl ⟨by rfl, ?hy7047⟩) (by assumption) ?rest7047
          case hy7047 => (intro wz hSw; (try dsimp only at hSw); first | (go_simp; done) | (go_simp; with_reducible rfl))
          try simp only [Act.put, List.getElem_toArray, List.getElem_cons_succ, List.getElem_cons_zero, List.setIfInBounds_toArray, List.set_cons_zero, List.set_cons_succ]
          refine wpAnyH_done (by kernel_rfl) ?_ _
          clear hH5
          have GZ := Lib.hid (gb_trans GX.out (gb_trans GR.out K5.out))
          go_wp2
          go_ret
          exact ⟨rfl, GZ.out⟩
theorem lowD {W W' : World} {e : Ending} (h : RetV (.bool true) W e W') : e = .returned (.bool true) ∧ Below W.heap.size W W' := ⟨h.1, ⟨h.2.os, h.2.tape, h.2.output, h.2.size, fun i hi => h.2.block i hi (by simp)⟩⟩
end Go.Proofs.Ytdbjeihbfooipaa
