/- Expr: the laws' scope; the law Fits; no condition. -/
import Derived.Test.YtlbigajhkcnemaaExM
namespace Go.Proofs.Ytlbigajhkcnemaa
open Go.RowKit
set_option linter.unusedVariables false
set_option maxRecDepth 100000 in
set_option maxHeartbeats 4000000 in
theorem scope_any (w : World) (X : KX) : Calls Try.prog 7 #[.agg #[.string X.nm, .slice X.ha X.hn X.hc, .slice X.ma X.mn X.mc, .slice X.a0 X.n0 X.c0, .slice X.a1 X.n1 X.c1, .slice X.a2 X.n2 X.c2, .slice X.a3 X.n3 X.c3, .slice X.a4 X.n4 X.c4, .slice X.a5 X.n5 X.c5, .slice X.pa X.pn X.pc, .slice X.na X.nn X.nc, .slice X.va X.vn X.vc, .slice X.fa X.fn X.fc, .slice X.ta X.tn X.tc, .slice X.la X.ln X.lc, .slice X.aa X.an X.ac]] w (RetV (.agg #[.string X.nm, .slice X.ha X.hn X.hc, .slice X.ma X.mn X.mc, .slice X.a0 X.n0 X.c0, .slice X.a1 X.n1 X.c1, .slice X.a2 X.n2 X.c2, .slice X.a3 X.n3 X.c3, .slice X.a4 X.n4 X.c4, .slice X.a5 X.n5 X.c5, .slice X.pa X.pn X.pc]) w) := by
  go_enter Try.func7, Try.ntmps7
  go_wp2
  (try simp only [Exit.inBlock, Exit.then])
  refine bodyPost_ret (v := .agg #[.string X.nm, .slice X.ha X.hn X.hc, .slice X.ma X.mn X.mc, .slice X.a0 X.n0 X.c0, .slice X.a1 X.n1 X.c1, .slice X.a2 X.n2 X.c2, .slice X.a3 X.n3 X.c3, .slice X.a4 X.n4 X.c4, .slice X.a5 X.n5 X.c5, .slice X.pa X.pn X.pc]) (by rw [results_cell1 rfl]; go_simp) rfl ⟨rfl, ?_⟩
  first
    | exact gb_al (gb_al (gb_refl _ _))
theorem fits_ok {t : Tm} (h : GT t) : fitsB t.2 t.1 = true := by
  unfold fitsB
  exact decide_eq_true ⟨h.1.1, h.1.2, h.2.2⟩
set_option maxRecDepth 100000 in
set_option maxHeartbeats 40000000 in
theorem fits_walk (w : World) (X : KX) (C : Cx) (N : List Nd) (hC : CR w X C N) :
    Calls Try.prog 3 #[.agg #[.string X.nm, .slice X.ha X.hn X.hc, .slice X.ma X.mn X.mc, .slice X.a0 X.n0 X.c0, .slice X.a1 X.n1 X.c1, .slice X.a2 X.n2 X.c2, .slice X.a3 X.n3 X.c3, .slice X.a4 X.n4 X.c4, .slice X.a5 X.n5 X.c5, .slice X.pa X.pn X.pc, .slice X.na X.nn X.nc, .slice X.va X.vn X.vc, .slice X.fa X.fn X.fc, .slice X.ta X.tn X.tc, .slice X.la X.ln X.lc, .slice X.aa X.an X.ac]] w (RetV (.bool true) w) := by
  have CC := Lib.hid hC
  have NL := Lib.hid hC.nd.len
  have ncap := hC.nd.cap
  have AW := Lib.hid (fun w => awake_any w)
  have SCo := Lib.hid (fun w => scope_any w X)
  unfold RetV at AW SCo
  clear hC
  obtain ⟨A, hA⟩ : ∃ A, A = w.heap.size := ⟨_, rfl⟩
  obtain ⟨w1, hw1⟩ : ∃ w1, w1 = w.alloc (.cells #[.string X.nm, .slice X.ha X.hn X.hc, .slice X.ma X.mn X.mc, .slice X.a0 X.n0 X.c0, .slice X.a1 X.n1 X.c1, .slice X.a2 X.n2 X.c2, .slice X.a3 X.n3 X.c3, .slice X.a4 X.n4 X.c4, .slice X.a5 X.n5 X.c5, .slice X.pa X.pn X.pc, .slice X.na X.nn X.nc, .slice X.va X.vn X.vc, .slice X.fa X.fn X.fc, .slice X.ta X.tn X.tc, .slice X.la X.ln X.lc, .slice X.aa X.an X.ac] 40) := ⟨_, rfl⟩
  have BA := Lib.hid (show IsB w1 A 40 #[.string X.nm, .slice X.ha X.hn X.hc, .slice X.ma X.mn X.mc, .slice X.a0 X.n0 X.c0, .slice X.a1 X.n1 X.c1, .slice X.a2 X.n2 X.c2, .slice X.a3 X.n3 X.c3, .slice X.a4 X.n4 X.c4, .slice X.a5 X.n5 X.c5, .slice X.pa X.pn X.pc, .slice X.na X.nn X.nc, .slice X.va X.vn X.vc, .slice X.fa X.fn X.fc, .slice X.ta X.tn X.tc, .slice X.la X.ln X.lc, .slice X.aa X.an X.ac] from by rw [hw1, hA]; exact IsB.new _ _ _)
  have GZ := Lib.hid (show w.grownBy w1 none from by rw [hw1]; exact gb_al (gb_refl _ _))
  go_enter Try.func3, Try.ntmps3
  go_upto_region 1 with fail
  rw [← hw1, ← hA]
  clear hw1 hA
  have s0 : w1.cell? ⟨A, 0, none⟩ = some (.string X.nm) := (BA.out).cell 0
  have s1 : w1.cell? ⟨A, 1, none⟩ = some (.slice X.ha X.hn X.hc) := (BA.out).cell 1
  have s2 : w1.cell? ⟨A, 2, none⟩ = some (.slice X.ma X.mn X.mc) := (BA.out).cell 2
  have s3 : w1.cell? ⟨A, 3, none⟩ = some (.slice X.a0 X.n0 X.c0) := (BA.out).cell 3
  have s4 : w1.cell? ⟨A, 4, none⟩ = some (.slice X.a1 X.n1 X.c1) := (BA.out).cell 4
  have s5 : w1.cell? ⟨A, 5, none⟩ = some (.slice X.a2 X.n2 X.c2) := (BA.out).cell 5
  have s6 : w1.cell? ⟨A, 6, none⟩ = some (.slice X.a3 X.n3 X.c3) := (BA.out).cell 6
  have s7 : w1.cell? ⟨A, 7, none⟩ = some (.slice X.a4 X.n4 X.c4) := (BA.out).cell 7
  have s8 : w1.cell? ⟨A, 8, none⟩ = some (.slice X.a5 X.n5 X.c5) := (BA.out).cell 8
  have s9 : w1.cell? ⟨A, 9, none⟩ = some (.slice X.pa X.pn X.pc) := (BA.out).cell 9
  have s10 : w1.cell? ⟨A, 10, none⟩ = some (.slice X.na X.nn X.nc) := (BA.out).cell 10
  have s11 : w1.cell? ⟨A, 11, none⟩ = some (.slice X.va X.vn X.vc) := (BA.out).cell 11
  have s12 : w1.cell? ⟨A, 12, none⟩ = some (.slice X.fa X.fn X.fc) := (BA.out).cell 12
  have s13 : w1.cell? ⟨A, 13, none⟩ = some (.slice X.ta X.tn X.tc) := (BA.out).cell 13
  have s14 : w1.cell? ⟨A, 14, none⟩ = some (.slice X.la X.ln X.lc) := (BA.out).cell 14
  have s15 : w1.cell? ⟨A, 15, none⟩ = some (.slice X.aa X.an X.ac) := (BA.out).cell 15
  by_cases hl : 100 < X.nn
  · have hl2 : (100 : Int) < (X.nn : Int) := by omega
    go_wp2_with fail
    refine (AW.out _).mono ?_
    rintro e x1 ⟨rfl, g⟩
    replace GZ := Lib.hid (gb_trans GZ.out g)
    replace BA := Lib.hid (BA.out.keep0 g)
    clear g
    go_wp2
    go_ret
    exact ⟨rfl, GZ.out⟩
  have hl2 : ¬ (100 : Int) < (X.nn : Int) := by omega
  have N1 := Lib.hid (show X.nn ≤ 1000 by omega)
  clear hl
  go_upto_region 3 with fail
  clear s0 s1 s2 s3 s4 s5 s6 s7 s8 s9 s10 s11 s12 s13 s14 s15
  have CK := Lib.hid (fun (w2 : World) (g : w.grownBy w2 none) => kcheck_any w2 X C N (CC.out.keep0 g))
  have CE := Lib.hid (fun (w2 : World) (g : w.grownBy w2 none) => keval_any w2 X C N (CC.out.keep0 g))
  unfold RetWE at CK
  unfold RetV at CE
  cases hR : wholeT C N with
  | error er =>
    have ne := whole_err hR
    rw [hR] at CK CE
    replace CK := Lib.hid (show ∀ (w2 : World), w.grownBy w2 none → Calls Try.prog 6 #[.slice X.na X.nn X.nc, .agg #[.string X.nm, .slice X.ha X.hn X.hc, .slice X.ma X.mn X.mc, .slice X.a0 X.n0 X.c0, .slice X.a1 X.n1 X.c1, .slice X.a2 X.n2 X.c2, .slice X.a3 X.n3 X.c3, .slice X.a4 X.n4 X.c4, .slice X.a5 X.n5 X.c5, .slice X.pa X.pn X.pc]] w2 (fun e w' => e = .returned (.tuple #[.int .i64 0, .int .i64 er]) ∧ w2.grownBy w' none) from CK.out)
    replace CE := Lib.hid (show ∀ (w2 : World), w.grownBy w2 none → Calls Try.prog 8 #[.slice X.na X.nn X.nc, .agg #[.string X.nm, .slice X.ha X.hn X.hc, .slice X.ma X.mn X.mc, .slice X.a0 X.n0 X.c0, .slice X.a1 X.n1 X.c1, .slice X.a2 X.n2 X.c2, .slice X.a3 X.n3 X.c3, .slice X.a4 X.n4 X.c4, .slice X.a5 X.n5 X.c5, .slice X.pa X.pn X.pc], .agg #[.slice X.va X.vn X.vc, .slice X.fa X.fn X.fc, .slice X.ta X.tn X.tc, .slice X.la X.ln X.lc], .slice X.aa X.an X.ac] w2 (fun e w' => e = .returned (.int .u32 0) ∧ w2.grownBy w' none) from CE.out)
    have e1 : (er != 0) = true := by rw [bne_iff_ne]; exact ne
    have e2 : (er == 0) = false := by rw [beq_eq_false_iff_ne]; exact ne
    have e3 : ¬ er = 0 := ne
    clear hR ne
    have KT := Lib.hid (fun (w' : World) (h : IsB w' A 40 #[.string X.nm, .slice X.ha X.hn X.hc, .slice X.ma X.mn X.mc, .slice X.a0 X.n0 X.c0, .slice X.a1 X.n1 X.c1, .slice X.a2 X.n2 X.c2, .slice X.a3 X.n3 X.c3, .slice X.a4 X.n4 X.c4, .slice X.a5 X.n5 X.c5, .slice X.pa X.pn X.pc, .slice X.na X.nn X.nc, .slice X.va X.vn X.vc, .slice X.fa X.fn X.fc, .slice X.ta X.tn X.tc, .slice X.la X.ln X.lc, .slice X.aa X.an X.ac]) => (⟨h.cell 0, h.cell 1, h.cell 2, h.cell 3, h.cell 4, h.cell 5, h.cell 6, h.cell 7, h.cell 8, h.cell 9, h.cell 10, h.cell 11, h.cell 12, h.cell 13, h.cell 14, h.cell 15, trivial⟩ : (fun w' : World => w'.cell? ⟨A, 0, none⟩ = some (.string X.nm) ∧ w'.cell? ⟨A, 1, none⟩ = some (.slice X.ha X.hn X.hc) ∧ w'.cell? ⟨A, 2, none⟩ = some (.slice X.ma X.mn X.mc) ∧ w'.cell? ⟨A, 3, none⟩ = some (.slice X.a0 X.n0 X.c0) ∧ w'.cell? ⟨A, 4, none⟩ = some (.slice X.a1 X.n1 X.c1) ∧ w'.cell? ⟨A, 5, none⟩ = some (.slice X.a2 X.n2 X.c2) ∧ w'.cell? ⟨A, 6, none⟩ = some (.slice X.a3 X.n3 X.c3) ∧ w'.cell? ⟨A, 7, none⟩ = some (.slice X.a4 X.n4 X.c4) ∧ w'.cell? ⟨A, 8, none⟩ = some (.slice X.a5 X.n5 X.c5) ∧ w'.cell? ⟨A, 9, none⟩ = some (.slice X.pa X.pn X.pc) ∧ w'.cell? ⟨A, 10, none⟩ = some (.slice X.na X.nn X.nc) ∧ w'.cell? ⟨A, 11, none⟩ = some (.slice X.va X.vn X.vc) ∧ w'.cell? ⟨A, 12, none⟩ = some (.slice X.fa X.fn X.fc) ∧ w'.cell? ⟨A, 13, none⟩ = some (.slice X.ta X.tn X.tc) ∧ w'.cell? ⟨A, 14, none⟩ = some (.slice X.la X.ln X.lc) ∧ w'.cell? ⟨A, 15, none⟩ = some (.slice X.aa X.an X.ac) ∧ True) w'))
    refine wp_region_held_drew (S := (fun w' : World => w'.cell? ⟨A, 0, none⟩ = some (.string X.nm) ∧ w'.cell? ⟨A, 1, none⟩ = some (.slice X.ha X.hn X.hc) ∧ w'.cell? ⟨A, 2, none⟩ = some (.slice X.ma X.mn X.mc) ∧ w'.cell? ⟨A, 3, none⟩ = some (.slice X.a0 X.n0 X.c0) ∧ w'.cell? ⟨A, 4, none⟩ = some (.slice X.a1 X.n1 X.c1) ∧ w'.cell? ⟨A, 5, none⟩ = some (.slice X.a2 X.n2 X.c2) ∧ w'.cell? ⟨A, 6, none⟩ = some (.slice X.a3 X.n3 X.c3) ∧ w'.cell? ⟨A, 7, none⟩ = some (.slice X.a4 X.n4 X.c4) ∧ w'.cell? ⟨A, 8, none⟩ = some (.slice X.a5 X.n5 X.c5) ∧ w'.cell? ⟨A, 9, none⟩ = some (.slice X.pa X.pn X.pc) ∧ w'.cell? ⟨A, 10, none⟩ = some (.slice X.na X.nn X.nc) ∧ w'.cell? ⟨A, 11, none⟩ = some (.slice X.va X.vn X.vc) ∧ w'.cell? ⟨A, 12, none⟩ = some (.slice X.fa X.fn X.fc) ∧ w'.cell? ⟨A, 13, none⟩ = some (.slice X.ta X.tn X.tc) ∧ w'.cell? ⟨A, 14, none⟩ = some (.slice X.la X.ln X.lc) ∧ w'.cell? ⟨A, 15, none⟩ = some (.slice X.aa X.an X.ac) ∧ True)) (by kernel_rfl) (KT.out _ (BA.out.keep0 (gb_drew _ none))) (fun hH0 => ?_)
    have g := gb_drew w1 none
    replace GZ := Lib.hid (gb_trans GZ.out g)
    replace BA := Lib.hid (BA.out.keep0 g)
    clear g
    refine wpAnyH_take (i := 0) (v := ?v17) rfl (by kernel_rfl) (by kernel_rfl) (by kernel_rfl) (fun _ _ _ h => h) (Or.inl ⟨by rfl, ?hy17⟩) (by assumption) ?rest17
    case hy17 => (intro wz hSw; (try dsimp only at hSw); first | (go_simp; done) | (go_simp; with_reducible rfl))
    try simp only [Act.put, List.getElem_toArray, List.getElem_cons_zero, List.setIfInBounds_toArray, List.set_cons_zero, List.set_cons_succ]
    refine wpAnyH_take (i := 1) (v := ?v18) rfl (by kernel_rfl) (by kernel_rfl) (by kernel_rfl) (fun _ _ _ h => h) (Or.inl ⟨by rfl, ?hy18⟩) (by assumption) ?rest18
    case hy18 => (intro wz hSw; (try dsimp only at hSw); first | (go_simp; done) | (go_simp; with_reducible rfl))
    try simp only [Act.put, List.getElem_toArray, List.getElem_cons_succ, List.getElem_cons_zero, List.setIfInBounds_toArray, List.set_cons_zero, List.set_cons_succ]
    refine wpAnyH_take (i := 2) (v := ?v19) rfl (by kernel_rfl) (by kernel_rfl) (by kernel_rfl) (fun _ _ _ h => h) (Or.inl ⟨by rfl, ?hy19⟩) (by assumption) ?rest19
    case hy19 => (intro wz hSw; (try dsimp only at hSw); first | (go_simp; done) | (go_simp; with_reducible rfl))
    try simp only [Act.put, List.getElem_toArray, List.getElem_cons_succ, List.getElem_cons_zero, List.setIfInBounds_toArray, List.set_cons_zero, List.set_cons_succ]
    refine wpAnyH_ready (rs := [3]) (by kernel_rfl) (by simp) ?_
    refine AllReadyH.cons (o := _) rfl (fun K hK => ?_) AllReadyH.nil
    go_simp
    refine (SCo.out _).mono ?_
    rintro e x1 ⟨rfl, g⟩
    try dsimp only
    replace GZ := Lib.hid (gb_trans GZ.out g)
    replace BA := Lib.hid (BA.out.keep0 g)
    clear g
    refine hK.out _ _ (KT.out _ BA.out) (fun hH1 => ?_)
    clear hK K hH0
    try simp only [Act.put, List.getElem_toArray, List.getElem_cons_succ, List.getElem_cons_zero, List.setIfInBounds_toArray, List.set_cons_zero, List.set_cons_succ]
    refine wpAnyH_ready (rs := [4]) (by kernel_rfl) (by simp) ?_
    refine AllReadyH.cons (o := _) rfl (fun K hK => ?_) AllReadyH.nil
    go_simp
    refine (CK.out _ GZ.out).mono ?_
    rintro e x2 ⟨rfl, g⟩
    try dsimp only
    replace GZ := Lib.hid (gb_trans GZ.out g)
    replace BA := Lib.hid (BA.out.keep0 g)
    clear g
    refine hK.out _ _ (KT.out _ BA.out) (fun hH2 => ?_)
    clear hK K hH1
    try simp only [Act.put, List.getElem_toArray, List.getElem_cons_succ, List.getElem_cons_zero, List.setIfInBounds_toArray, List.set_cons_zero, List.set_cons_succ]
    refine wpAnyH_take (i := 5) (v := ?v20) rfl (by kernel_rfl) (by kernel_rfl) (by kernel_rfl) (fun _ _ _ h => h) (Or.inl ⟨by rfl, ?hy20⟩) (by assumption) ?rest20
    case hy20 => (intro wz hSw; (try dsimp only at hSw); first | (go_simp; done) | (go_simp; with_reducible rfl))
    try simp only [Act.put, List.getElem_toArray, List.getElem_cons_succ, List.getElem_cons_zero, List.setIfInBounds_toArray, List.set_cons_zero, List.set_cons_succ]
    refine wpAnyH_take (i := 6) (v := ?v21) rfl (by kernel_rfl) (by kernel_rfl) (by kernel_rfl) (fun _ _ _ h => h) (Or.inl ⟨by rfl, ?hy21⟩) (by assumption) ?rest21
    case hy21 => (intro wz hSw; (try dsimp only at hSw); first | (go_simp; done) | (go_simp; with_reducible rfl))
    try simp only [Act.put, List.getElem_toArray, List.getElem_cons_succ, List.getElem_cons_zero, List.setIfInBounds_toArray, List.set_cons_zero, List.set_cons_succ]
    refine wpAnyH_take (i := 7) (v := ?v22) rfl (by kernel_rfl) (by kernel_rfl) (by kernel_rfl) (fun _ _ _ h => h) (Or.inl ⟨by rfl, ?hy22⟩) (by assumption) ?rest22
    case hy22 => (intro wz hSw; (try dsimp only at hSw); first | (go_simp; done) | (go_simp; with_reducible rfl))
    try simp only [Act.put, List.getElem_toArray, List.getElem_cons_succ, List.getElem_cons_zero, List.setIfInBounds_toArray, List.set_cons_zero, List.set_cons_succ]
    refine wpAnyH_take (i := 8) (v := ?v23) rfl (by kernel_rfl) (by kernel_rfl) (by kernel_rfl) (fun _ _ _ h => h) (Or.inl ⟨by rfl, ?hy23⟩) (by assumption) ?rest23
    case hy23 => (intro wz hSw; (try dsimp only at hSw); first | (go_simp; done) | (go_simp; with_reducible rfl))
    try simp only [Act.put, List.getElem_toArray, List.getElem_cons_succ, List.getElem_cons_zero, List.setIfInBounds_toArray, List.set_cons_zero, List.set_cons_succ]
    refine wpAnyH_take (i := 9) (v := ?v24) rfl (by kernel_rfl) (by kernel_rfl) (by kernel_rfl) (fun _ _ _ h => h) (Or.inl ⟨by rfl, ?hy24⟩) (by assumption) ?rest24
    case hy24 => (intro wz hSw; (try dsimp only at hSw); first | (go_simp; done) | (go_simp; with_reducible rfl))
    try simp only [Act.put, List.getElem_toArray, List.getElem_cons_succ, List.getElem_cons_zero, List.setIfInBounds_toArray, List.set_cons_zero, List.set_cons_succ]
    refine wpAnyH_done (by kernel_rfl) ?_ _
    clear hH2 KT
    go_upto_region 4 with fail
    have KT := Lib.hid (fun (w' : World) (h : IsB w' A 40 #[.string X.nm, .slice X.ha X.hn X.hc, .slice X.ma X.mn X.mc, .slice X.a0 X.n0 X.c0, .slice X.a1 X.n1 X.c1, .slice X.a2 X.n2 X.c2, .slice X.a3 X.n3 X.c3, .slice X.a4 X.n4 X.c4, .slice X.a5 X.n5 X.c5, .slice X.pa X.pn X.pc, .slice X.na X.nn X.nc, .slice X.va X.vn X.vc, .slice X.fa X.fn X.fc, .slice X.ta X.tn X.tc, .slice X.la X.ln X.lc, .slice X.aa X.an X.ac]) => (⟨h.cell 0, h.cell 1, h.cell 2, h.cell 3, h.cell 4, h.cell 5, h.cell 6, h.cell 7, h.cell 8, h.cell 9, h.cell 10, h.cell 11, h.cell 12, h.cell 13, h.cell 14, h.cell 15, trivial⟩ : (fun w' : World => w'.cell? ⟨A, 0, none⟩ = some (.string X.nm) ∧ w'.cell? ⟨A, 1, none⟩ = some (.slice X.ha X.hn X.hc) ∧ w'.cell? ⟨A, 2, none⟩ = some (.slice X.ma X.mn X.mc) ∧ w'.cell? ⟨A, 3, none⟩ = some (.slice X.a0 X.n0 X.c0) ∧ w'.cell? ⟨A, 4, none⟩ = some (.slice X.a1 X.n1 X.c1) ∧ w'.cell? ⟨A, 5, none⟩ = some (.slice X.a2 X.n2 X.c2) ∧ w'.cell? ⟨A, 6, none⟩ = some (.slice X.a3 X.n3 X.c3) ∧ w'.cell? ⟨A, 7, none⟩ = some (.slice X.a4 X.n4 X.c4) ∧ w'.cell? ⟨A, 8, none⟩ = some (.slice X.a5 X.n5 X.c5) ∧ w'.cell? ⟨A, 9, none⟩ = some (.slice X.pa X.pn X.pc) ∧ w'.cell? ⟨A, 10, none⟩ = some (.slice X.na X.nn X.nc) ∧ w'.cell? ⟨A, 11, none⟩ = some (.slice X.va X.vn X.vc) ∧ w'.cell? ⟨A, 12, none⟩ = some (.slice X.fa X.fn X.fc) ∧ w'.cell? ⟨A, 13, none⟩ = some (.slice X.ta X.tn X.tc) ∧ w'.cell? ⟨A, 14, none⟩ = some (.slice X.la X.ln X.lc) ∧ w'.cell? ⟨A, 15, none⟩ = some (.slice X.aa X.an X.ac) ∧ True) w'))
    refine wp_region_held_drew (S := (fun w' : World => w'.cell? ⟨A, 0, none⟩ = some (.string X.nm) ∧ w'.cell? ⟨A, 1, none⟩ = some (.slice X.ha X.hn X.hc) ∧ w'.cell? ⟨A, 2, none⟩ = some (.slice X.ma X.mn X.mc) ∧ w'.cell? ⟨A, 3, none⟩ = some (.slice X.a0 X.n0 X.c0) ∧ w'.cell? ⟨A, 4, none⟩ = some (.slice X.a1 X.n1 X.c1) ∧ w'.cell? ⟨A, 5, none⟩ = some (.slice X.a2 X.n2 X.c2) ∧ w'.cell? ⟨A, 6, none⟩ = some (.slice X.a3 X.n3 X.c3) ∧ w'.cell? ⟨A, 7, none⟩ = some (.slice X.a4 X.n4 X.c4) ∧ w'.cell? ⟨A, 8, none⟩ = some (.slice X.a5 X.n5 X.c5) ∧ w'.cell? ⟨A, 9, none⟩ = some (.slice X.pa X.pn X.pc) ∧ w'.cell? ⟨A, 10, none⟩ = some (.slice X.na X.nn X.nc) ∧ w'.cell? ⟨A, 11, none⟩ = some (.slice X.va X.vn X.vc) ∧ w'.cell? ⟨A, 12, none⟩ = some (.slice X.fa X.fn X.fc) ∧ w'.cell? ⟨A, 13, none⟩ = some (.slice X.ta X.tn X.tc) ∧ w'.cell? ⟨A, 14, none⟩ = some (.slice X.la X.ln X.lc) ∧ w'.cell? ⟨A, 15, none⟩ = some (.slice X.aa X.an X.ac) ∧ True)) (by kernel_rfl) (KT.out _ (BA.out.keep0 (gb_drew _ none))) (fun hH0 => ?_)
    have g := gb_drew x2 none
    replace GZ := Lib.hid (gb_trans GZ.out g)
    replace BA := Lib.hid (BA.out.keep0 g)
    clear g
    refine wpAnyH_take (i := 0) (v := ?v25) rfl (by kernel_rfl) (by kernel_rfl) (by kernel_rfl) (fun _ _ _ h => h) (Or.inl ⟨by rfl, ?hy25⟩) (by assumption) ?rest25
    case hy25 => (intro wz hSw; (try dsimp only at hSw); first | (go_simp; done) | (go_simp; with_reducible rfl))
    try simp only [Act.put, List.getElem_toArray, List.getElem_cons_zero, List.setIfInBounds_toArray, List.set_cons_zero, List.set_cons_succ]
    refine wpAnyH_take (i := 1) (v := ?v26) rfl (by kernel_rfl) (by kernel_rfl) (by kernel_rfl) (fun _ _ _ h => h) (Or.inl ⟨by rfl, ?hy26⟩) (by assumption) ?rest26
    case hy26 => (intro wz hSw; (try dsimp only at hSw); first | (go_simp; done) | (go_simp; with_reducible rfl))
    try simp only [Act.put, List.getElem_toArray, List.getElem_cons_succ, List.getElem_cons_zero, List.setIfInBounds_toArray, List.set_cons_zero, List.set_cons_succ]
    refine wpAnyH_take (i := 2) (v := ?v27) rfl (by kernel_rfl) (by kernel_rfl) (by kernel_rfl) (fun _ _ _ h => h) (Or.inl ⟨by rfl, ?hy27⟩) (by assumption) ?rest27
    case hy27 => (intro wz hSw; (try dsimp only at hSw); first | (go_simp; done) | (go_simp; with_reducible rfl))
    try simp only [Act.put, List.getElem_toArray, List.getElem_cons_succ, List.getElem_cons_zero, List.setIfInBounds_toArray, List.set_cons_zero, List.set_cons_succ]
    refine wpAnyH_take (i := 4) (v := ?v28) rfl (by kernel_rfl) (by kernel_rfl) (by kernel_rfl) (fun _ _ _ h => h) (Or.inl ⟨by rfl, ?hy28⟩) (by assumption) ?rest28
    case hy28 => (intro wz hSw; (try dsimp only at hSw); first | (go_simp; done) | (go_simp; with_reducible rfl))
    try simp only [Act.put, List.getElem_toArray, List.getElem_cons_succ, List.getElem_cons_zero, List.setIfInBounds_toArray, List.set_cons_zero, List.set_cons_succ]
    refine wpAnyH_take (i := 5) (v := ?v29) rfl (by kernel_rfl) (by kernel_rfl) (by kernel_rfl) (fun _ _ _ h => h) (Or.inl ⟨by rfl, ?hy29⟩) (by assumption) ?rest29
    case hy29 => (intro wz hSw; (try dsimp only at hSw); first | (go_simp; done) | (go_simp; with_reducible rfl))
    try simp only [Act.put, List.getElem_toArray, List.getElem_cons_succ, List.getElem_cons_zero, List.setIfInBounds_toArray, List.set_cons_zero, List.set_cons_succ]
    refine wpAnyH_take (i := 6) (v := ?v30) rfl (by kernel_rfl) (by kernel_rfl) (by kernel_rfl) (fun _ _ _ h => h) (Or.inl ⟨by rfl, ?hy30⟩) (by assumption) ?rest30
    case hy30 => (intro wz hSw; (try dsimp only at hSw); first | (go_simp; done) | (go_simp; with_reducible rfl))
    try simp only [Act.put, List.getElem_toArray, List.getElem_cons_succ, List.getElem_cons_zero, List.setIfInBounds_toArray, List.set_cons_zero, List.set_cons_succ]
    refine wpAnyH_take (i := 7) (v := ?v31) rfl (by kernel_rfl) (by kernel_rfl) (by kernel_rfl) (fun _ _ _ h => h) (Or.inl ⟨by rfl, ?hy31⟩) (by assumption) ?rest31
    case hy31 => (intro wz hSw; (try dsimp only at hSw); first | (go_simp; done) | (go_simp; with_reducible rfl))
    try simp only [Act.put, List.getElem_toArray, List.getElem_cons_succ, List.getElem_cons_zero, List.setIfInBounds_toArray, List.set_cons_zero, List.set_cons_succ]
    refine wpAnyH_ready (rs := [3]) (by kernel_rfl) (by simp) ?_
    refine AllReadyH.cons (o := _) rfl (fun K hK => ?_) AllReadyH.nil
    go_simp
    refine (SCo.out _).mono ?_
    rintro e x3 ⟨rfl, g⟩
    try dsimp only
    replace GZ := Lib.hid (gb_trans GZ.out g)
    replace BA := Lib.hid (BA.out.keep0 g)
    clear g
    refine hK.out _ _ (KT.out _ BA.out) (fun hH1 => ?_)
    clear hK K hH0
    try simp only [Act.put, List.getElem_toArray, List.getElem_cons_succ, List.getElem_cons_zero, List.setIfInBounds_toArray, List.set_cons_zero, List.set_cons_succ]
    refine wpAnyH_ready (rs := [8]) (by kernel_rfl) (by simp) ?_
    refine AllReadyH.cons (o := _) rfl (fun K hK => ?_) AllReadyH.nil
    go_simp
    refine (CE.out _ GZ.out).mono ?_
    rintro e x4 ⟨rfl, g⟩
    try dsimp only
    replace GZ := Lib.hid (gb_trans GZ.out g)
    replace BA := Lib.hid (BA.out.keep0 g)
    clear g
    refine hK.out _ _ (KT.out _ BA.out) (fun hH2 => ?_)
    clear hK K hH1
    try simp only [Act.put, List.getElem_toArray, List.getElem_cons_succ, List.getElem_cons_zero, List.setIfInBounds_toArray, List.set_cons_zero, List.set_cons_succ]
    refine wpAnyH_take (i := 9) (v := ?v32) rfl (by kernel_rfl) (by kernel_rfl) (by kernel_rfl) (fun _ _ _ h => h) (Or.inl ⟨by rfl, ?hy32⟩) (by assumption) ?rest32
    case hy32 => (intro wz hSw; (try dsimp only at hSw); first | (go_simp; done) | (go_simp; with_reducible rfl))
    try simp only [Act.put, List.getElem_toArray, List.getElem_cons_succ, List.getElem_cons_zero, List.setIfInBounds_toArray, List.set_cons_zero, List.set_cons_succ]
    refine wpAnyH_done (by kernel_rfl) ?_ _
    clear hH2 KT
    go_wp2_with fail
    refine (AW.out _).mono ?_
    rintro e x5 ⟨rfl, g⟩
    replace GZ := Lib.hid (gb_trans GZ.out g)
    replace BA := Lib.hid (BA.out.keep0 g)
    clear g
    go_wp2
    go_ret
    exact ⟨rfl, GZ.out⟩
  | ok t =>
    have ht := whole_ok hR
    have HE := Lib.hid (end_whole hR)
    obtain ⟨tw, tv⟩ := t
    rw [hR] at CK CE
    replace CK := Lib.hid (show ∀ (w2 : World), w.grownBy w2 none → Calls Try.prog 6 #[.slice X.na X.nn X.nc, .agg #[.string X.nm, .slice X.ha X.hn X.hc, .slice X.ma X.mn X.mc, .slice X.a0 X.n0 X.c0, .slice X.a1 X.n1 X.c1, .slice X.a2 X.n2 X.c2, .slice X.a3 X.n3 X.c3, .slice X.a4 X.n4 X.c4, .slice X.a5 X.n5 X.c5, .slice X.pa X.pn X.pc]] w2 (fun e w' => e = .returned (.tuple #[.int .i64 tw, .int .i64 0]) ∧ w2.grownBy w' none) from CK.out)
    replace CE := Lib.hid (show ∀ (w2 : World), w.grownBy w2 none → Calls Try.prog 8 #[.slice X.na X.nn X.nc, .agg #[.string X.nm, .slice X.ha X.hn X.hc, .slice X.ma X.mn X.mc, .slice X.a0 X.n0 X.c0, .slice X.a1 X.n1 X.c1, .slice X.a2 X.n2 X.c2, .slice X.a3 X.n3 X.c3, .slice X.a4 X.n4 X.c4, .slice X.a5 X.n5 X.c5, .slice X.pa X.pn X.pc], .agg #[.slice X.va X.vn X.vc, .slice X.fa X.fn X.fc, .slice X.ta X.tn X.tc, .slice X.la X.ln X.lc], .slice X.aa X.an X.ac] w2 (fun e w' => e = .returned (.int .u32 tv) ∧ w2.grownBy w' none) from CE.out)
    have t1 : 1 ≤ tw := ht.1.1
    have t2 : tw ≤ 32 := ht.1.2
    have FT := Lib.hid (fun W => fits_any tv tw W)
    rw [show fitsB tv tw = true from fits_ok ht] at FT
    unfold Ret at FT
    have EN := Lib.hid (fun (w2 : World) (g : w.grownBy w2 none) => kend_any w2 X.na X.nn X.nc N (CC.out.nd.keep0 g) N1.out 0)
    rw [HE.out, NL.out] at EN
    unfold RetV at EN
    clear hR ht HE
    have KT := Lib.hid (fun (w' : World) (h : IsB w' A 40 #[.string X.nm, .slice X.ha X.hn X.hc, .slice X.ma X.mn X.mc, .slice X.a0 X.n0 X.c0, .slice X.a1 X.n1 X.c1, .slice X.a2 X.n2 X.c2, .slice X.a3 X.n3 X.c3, .slice X.a4 X.n4 X.c4, .slice X.a5 X.n5 X.c5, .slice X.pa X.pn X.pc, .slice X.na X.nn X.nc, .slice X.va X.vn X.vc, .slice X.fa X.fn X.fc, .slice X.ta X.tn X.tc, .slice X.la X.ln X.lc, .slice X.aa X.an X.ac]) => (⟨h.cell 0, h.cell 1, h.cell 2, h.cell 3, h.cell 4, h.cell 5, h.cell 6, h.cell 7, h.cell 8, h.cell 9, h.cell 10, h.cell 11, h.cell 12, h.cell 13, h.cell 14, h.cell 15, trivial⟩ : (fun w' : World => w'.cell? ⟨A, 0, none⟩ = some (.string X.nm) ∧ w'.cell? ⟨A, 1, none⟩ = some (.slice X.ha X.hn X.hc) ∧ w'.cell? ⟨A, 2, none⟩ = some (.slice X.ma X.mn X.mc) ∧ w'.cell? ⟨A, 3, none⟩ = some (.slice X.a0 X.n0 X.c0) ∧ w'.cell? ⟨A, 4, none⟩ = some (.slice X.a1 X.n1 X.c1) ∧ w'.cell? ⟨A, 5, none⟩ = some (.slice X.a2 X.n2 X.c2) ∧ w'.cell? ⟨A, 6, none⟩ = some (.slice X.a3 X.n3 X.c3) ∧ w'.cell? ⟨A, 7, none⟩ = some (.slice X.a4 X.n4 X.c4) ∧ w'.cell? ⟨A, 8, none⟩ = some (.slice X.a5 X.n5 X.c5) ∧ w'.cell? ⟨A, 9, none⟩ = some (.slice X.pa X.pn X.pc) ∧ w'.cell? ⟨A, 10, none⟩ = some (.slice X.na X.nn X.nc) ∧ w'.cell? ⟨A, 11, none⟩ = some (.slice X.va X.vn X.vc) ∧ w'.cell? ⟨A, 12, none⟩ = some (.slice X.fa X.fn X.fc) ∧ w'.cell? ⟨A, 13, none⟩ = some (.slice X.ta X.tn X.tc) ∧ w'.cell? ⟨A, 14, none⟩ = some (.slice X.la X.ln X.lc) ∧ w'.cell? ⟨A, 15, none⟩ = some (.slice X.aa X.an X.ac) ∧ True) w'))
    refine wp_region_held_drew (S := (fun w' : World => w'.cell? ⟨A, 0, none⟩ = some (.string X.nm) ∧ w'.cell? ⟨A, 1, none⟩ = some (.slice X.ha X.hn X.hc) ∧ w'.cell? ⟨A, 2, none⟩ = some (.slice X.ma X.mn X.mc) ∧ w'.cell? ⟨A, 3, none⟩ = some (.slice X.a0 X.n0 X.c0) ∧ w'.cell? ⟨A, 4, none⟩ = some (.slice X.a1 X.n1 X.c1) ∧ w'.cell? ⟨A, 5, none⟩ = some (.slice X.a2 X.n2 X.c2) ∧ w'.cell? ⟨A, 6, none⟩ = some (.slice X.a3 X.n3 X.c3) ∧ w'.cell? ⟨A, 7, none⟩ = some (.slice X.a4 X.n4 X.c4) ∧ w'.cell? ⟨A, 8, none⟩ = some (.slice X.a5 X.n5 X.c5) ∧ w'.cell? ⟨A, 9, none⟩ = some (.slice X.pa X.pn X.pc) ∧ w'.cell? ⟨A, 10, none⟩ = some (.slice X.na X.nn X.nc) ∧ w'.cell? ⟨A, 11, none⟩ = some (.slice X.va X.vn X.vc) ∧ w'.cell? ⟨A, 12, none⟩ = some (.slice X.fa X.fn X.fc) ∧ w'.cell? ⟨A, 13, none⟩ = some (.slice X.ta X.tn X.tc) ∧ w'.cell? ⟨A, 14, none⟩ = some (.slice X.la X.ln X.lc) ∧ w'.cell? ⟨A, 15, none⟩ = some (.slice X.aa X.an X.ac) ∧ True)) (by kernel_rfl) (KT.out _ (BA.out.keep0 (gb_drew _ none))) (fun hH0 => ?_)
    have g := gb_drew w1 none
    replace GZ := Lib.hid (gb_trans GZ.out g)
    replace BA := Lib.hid (BA.out.keep0 g)
    clear g
    refine wpAnyH_take (i := 0) (v := ?v33) rfl (by kernel_rfl) (by kernel_rfl) (by kernel_rfl) (fun _ _ _ h => h) (Or.inl ⟨by rfl, ?hy33⟩) (by assumption) ?rest33
    case hy33 => (intro wz hSw; (try dsimp only at hSw); first | (go_simp; done) | (go_simp; with_reducible rfl))
    try simp only [Act.put, List.getElem_toArray, List.getElem_cons_zero, List.setIfInBounds_toArray, List.set_cons_zero, List.set_cons_succ]
    refine wpAnyH_take (i := 1) (v := ?v34) rfl (by kernel_rfl) (by kernel_rfl) (by kernel_rfl) (fun _ _ _ h => h) (Or.inl ⟨by rfl, ?hy34⟩) (by assumption) ?rest34
    case hy34 => (intro wz hSw; (try dsimp only at hSw); first | (go_simp; done) | (go_simp; with_reducible rfl))
    try simp only [Act.put, List.getElem_toArray, List.getElem_cons_succ, List.getElem_cons_zero, List.setIfInBounds_toArray, List.set_cons_zero, List.set_cons_succ]
    refine wpAnyH_take (i := 2) (v := ?v35) rfl (by kernel_rfl) (by kernel_rfl) (by kernel_rfl) (fun _ _ _ h => h) (Or.inl ⟨by rfl, ?hy35⟩) (by assumption) ?rest35
    case hy35 => (intro wz hSw; (try dsimp only at hSw); first | (go_simp; done) | (go_simp; with_reducible rfl))
    try simp only [Act.put, List.getElem_toArray, List.getElem_cons_succ, List.getElem_cons_zero, List.setIfInBounds_toArray, List.set_cons_zero, List.set_cons_succ]
    refine wpAnyH_ready (rs := [3]) (by kernel_rfl) (by simp) ?_
    refine AllReadyH.cons (o := _) rfl (fun K hK => ?_) AllReadyH.nil
    go_simp
    refine (SCo.out _).mono ?_
    rintro e x1 ⟨rfl, g⟩
    try dsimp only
    replace GZ := Lib.hid (gb_trans GZ.out g)
    replace BA := Lib.hid (BA.out.keep0 g)
    clear g
    refine hK.out _ _ (KT.out _ BA.out) (fun hH1 => ?_)
    clear hK K hH0
    try simp only [Act.put, List.getElem_toArray, List.getElem_cons_succ, List.getElem_cons_zero, List.setIfInBounds_toArray, List.set_cons_zero, List.set_cons_succ]
    refine wpAnyH_ready (rs := [4]) (by kernel_rfl) (by simp) ?_
    refine AllReadyH.cons (o := _) rfl (fun K hK => ?_) AllReadyH.nil
    go_simp
    refine (CK.out _ GZ.out).mono ?_
    rintro e x2 ⟨rfl, g⟩
    try dsimp only
    replace GZ := Lib.hid (gb_trans GZ.out g)
    replace BA := Lib.hid (BA.out.keep0 g)
    clear g
    refine hK.out _ _ (KT.out _ BA.out) (fun hH2 => ?_)
    clear hK K hH1
    try simp only [Act.put, List.getElem_toArray, List.getElem_cons_succ, List.getElem_cons_zero, List.setIfInBounds_toArray, List.set_cons_zero, List.set_cons_succ]
    refine wpAnyH_take (i := 5) (v := ?v36) rfl (by kernel_rfl) (by kernel_rfl) (by kernel_rfl) (fun _ _ _ h => h) (Or.inl ⟨by rfl, ?hy36⟩) (by assumption) ?rest36
    case hy36 => (intro wz hSw; (try dsimp only at hSw); first | (go_simp; done) | (go_simp; with_reducible rfl))
    try simp only [Act.put, List.getElem_toArray, List.getElem_cons_succ, List.getElem_cons_zero, List.setIfInBounds_toArray, List.set_cons_zero, List.set_cons_succ]
    refine wpAnyH_take (i := 6) (v := ?v37) rfl (by kernel_rfl) (by kernel_rfl) (by kernel_rfl) (fun _ _ _ h => h) (Or.inl ⟨by rfl, ?hy37⟩) (by assumption) ?rest37
    case hy37 => (intro wz hSw; (try dsimp only at hSw); first | (go_simp; done) | (go_simp; with_reducible rfl))
    try simp only [Act.put, List.getElem_toArray, List.getElem_cons_succ, List.getElem_cons_zero, List.setIfInBounds_toArray, List.set_cons_zero, List.set_cons_succ]
    refine wpAnyH_take (i := 7) (v := ?v38) rfl (by kernel_rfl) (by kernel_rfl) (by kernel_rfl) (fun _ _ _ h => h) (Or.inl ⟨by rfl, ?hy38⟩) (by assumption) ?rest38
    case hy38 => (intro wz hSw; (try dsimp only at hSw); first | (go_simp; done) | (go_simp; with_reducible rfl))
    try simp only [Act.put, List.getElem_toArray, List.getElem_cons_succ, List.getElem_cons_zero, List.setIfInBounds_toArray, List.set_cons_zero, List.set_cons_succ]
    refine wpAnyH_take (i := 8) (v := ?v39) rfl (by kernel_rfl) (by kernel_rfl) (by kernel_rfl) (fun _ _ _ h => h) (Or.inl ⟨by rfl, ?hy39⟩) (by assumption) ?rest39
    case hy39 => (intro wz hSw; (try dsimp only at hSw); first | (go_simp; done) | (go_simp; with_reducible rfl))
    try simp only [Act.put, List.getElem_toArray, List.getElem_cons_succ, List.getElem_cons_zero, List.setIfInBounds_toArray, List.set_cons_zero, List.set_cons_succ]
    refine wpAnyH_take (i := 9) (v := ?v40) rfl (by kernel_rfl) (by kernel_rfl) (by kernel_rfl) (fun _ _ _ h => h) (Or.inl ⟨by rfl, ?hy40⟩) (by assumption) ?rest40
    case hy40 => (intro wz hSw; (try dsimp only at hSw); first | (go_simp; done) | (go_simp; with_reducible rfl))
    try simp only [Act.put, List.getElem_toArray, List.getElem_cons_succ, List.getElem_cons_zero, List.setIfInBounds_toArray, List.set_cons_zero, List.set_cons_succ]
    refine wpAnyH_done (by kernel_rfl) ?_ _
    clear hH2 KT
    go_upto_region 4 with fail
    have KT := Lib.hid (fun (w' : World) (h : IsB w' A 40 #[.string X.nm, .slice X.ha X.hn X.hc, .slice X.ma X.mn X.mc, .slice X.a0 X.n0 X.c0, .slice X.a1 X.n1 X.c1, .slice X.a2 X.n2 X.c2, .slice X.a3 X.n3 X.c3, .slice X.a4 X.n4 X.c4, .slice X.a5 X.n5 X.c5, .slice X.pa X.pn X.pc, .slice X.na X.nn X.nc, .slice X.va X.vn X.vc, .slice X.fa X.fn X.fc, .slice X.ta X.tn X.tc, .slice X.la X.ln X.lc, .slice X.aa X.an X.ac]) => (⟨h.cell 0, h.cell 1, h.cell 2, h.cell 3, h.cell 4, h.cell 5, h.cell 6, h.cell 7, h.cell 8, h.cell 9, h.cell 10, h.cell 11, h.cell 12, h.cell 13, h.cell 14, h.cell 15, trivial⟩ : (fun w' : World => w'.cell? ⟨A, 0, none⟩ = some (.string X.nm) ∧ w'.cell? ⟨A, 1, none⟩ = some (.slice X.ha X.hn X.hc) ∧ w'.cell? ⟨A, 2, none⟩ = some (.slice X.ma X.mn X.mc) ∧ w'.cell? ⟨A, 3, none⟩ = some (.slice X.a0 X.n0 X.c0) ∧ w'.cell? ⟨A, 4, none⟩ = some (.slice X.a1 X.n1 X.c1) ∧ w'.cell? ⟨A, 5, none⟩ = some (.slice X.a2 X.n2 X.c2) ∧ w'.cell? ⟨A, 6, none⟩ = some (.slice X.a3 X.n3 X.c3) ∧ w'.cell? ⟨A, 7, none⟩ = some (.slice X.a4 X.n4 X.c4) ∧ w'.cell? ⟨A, 8, none⟩ = some (.slice X.a5 X.n5 X.c5) ∧ w'.cell? ⟨A, 9, none⟩ = some (.slice X.pa X.pn X.pc) ∧ w'.cell? ⟨A, 10, none⟩ = some (.slice X.na X.nn X.nc) ∧ w'.cell? ⟨A, 11, none⟩ = some (.slice X.va X.vn X.vc) ∧ w'.cell? ⟨A, 12, none⟩ = some (.slice X.fa X.fn X.fc) ∧ w'.cell? ⟨A, 13, none⟩ = some (.slice X.ta X.tn X.tc) ∧ w'.cell? ⟨A, 14, none⟩ = some (.slice X.la X.ln X.lc) ∧ w'.cell? ⟨A, 15, none⟩ = some (.slice X.aa X.an X.ac) ∧ True) w'))
    refine wp_region_held_drew (S := (fun w' : World => w'.cell? ⟨A, 0, none⟩ = some (.string X.nm) ∧ w'.cell? ⟨A, 1, none⟩ = some (.slice X.ha X.hn X.hc) ∧ w'.cell? ⟨A, 2, none⟩ = some (.slice X.ma X.mn X.mc) ∧ w'.cell? ⟨A, 3, none⟩ = some (.slice X.a0 X.n0 X.c0) ∧ w'.cell? ⟨A, 4, none⟩ = some (.slice X.a1 X.n1 X.c1) ∧ w'.cell? ⟨A, 5, none⟩ = some (.slice X.a2 X.n2 X.c2) ∧ w'.cell? ⟨A, 6, none⟩ = some (.slice X.a3 X.n3 X.c3) ∧ w'.cell? ⟨A, 7, none⟩ = some (.slice X.a4 X.n4 X.c4) ∧ w'.cell? ⟨A, 8, none⟩ = some (.slice X.a5 X.n5 X.c5) ∧ w'.cell? ⟨A, 9, none⟩ = some (.slice X.pa X.pn X.pc) ∧ w'.cell? ⟨A, 10, none⟩ = some (.slice X.na X.nn X.nc) ∧ w'.cell? ⟨A, 11, none⟩ = some (.slice X.va X.vn X.vc) ∧ w'.cell? ⟨A, 12, none⟩ = some (.slice X.fa X.fn X.fc) ∧ w'.cell? ⟨A, 13, none⟩ = some (.slice X.ta X.tn X.tc) ∧ w'.cell? ⟨A, 14, none⟩ = some (.slice X.la X.ln X.lc) ∧ w'.cell? ⟨A, 15, none⟩ = some (.slice X.aa X.an X.ac) ∧ True)) (by kernel_rfl) (KT.out _ (BA.out.keep0 (gb_drew _ none))) (fun hH0 => ?_)
    have g := gb_drew x2 none
    replace GZ := Lib.hid (gb_trans GZ.out g)
    replace BA := Lib.hid (BA.out.keep0 g)
    clear g
    refine wpAnyH_take (i := 0) (v := ?v41) rfl (by kernel_rfl) (by kernel_rfl) (by kernel_rfl) (fun _ _ _ h => h) (Or.inl ⟨by rfl, ?hy41⟩) (by assumption) ?rest41
    case hy41 => (intro wz hSw; (try dsimp only at hSw); first | (go_simp; done) | (go_simp; with_reducible rfl))
    try simp only [Act.put, List.getElem_toArray, List.getElem_cons_zero, List.setIfInBounds_toArray, List.set_cons_zero, List.set_cons_succ]
    refine wpAnyH_take (i := 1) (v := ?v42) rfl (by kernel_rfl) (by kernel_rfl) (by kernel_rfl) (fun _ _ _ h => h) (Or.inl ⟨by rfl, ?hy42⟩) (by assumption) ?rest42
    case hy42 => (intro wz hSw; (try dsimp only at hSw); first | (go_simp; done) | (go_simp; with_reducible rfl))
    try simp only [Act.put, List.getElem_toArray, List.getElem_cons_succ, List.getElem_cons_zero, List.setIfInBounds_toArray, List.set_cons_zero, List.set_cons_succ]
    refine wpAnyH_take (i := 2) (v := ?v43) rfl (by kernel_rfl) (by kernel_rfl) (by kernel_rfl) (fun _ _ _ h => h) (Or.inl ⟨by rfl, ?hy43⟩) (by assumption) ?rest43
    case hy43 => (intro wz hSw; (try dsimp only at hSw); first | (go_simp; done) | (go_simp; with_reducible rfl))
    try simp only [Act.put, List.getElem_toArray, List.getElem_cons_succ, List.getElem_cons_zero, List.setIfInBounds_toArray, List.set_cons_zero, List.set_cons_succ]
    refine wpAnyH_take (i := 4) (v := ?v44) rfl (by kernel_rfl) (by kernel_rfl) (by kernel_rfl) (fun _ _ _ h => h) (Or.inl ⟨by rfl, ?hy44⟩) (by assumption) ?rest44
    case hy44 => (intro wz hSw; (try dsimp only at hSw); first | (go_simp; done) | (go_simp; with_reducible rfl))
    try simp only [Act.put, List.getElem_toArray, List.getElem_cons_succ, List.getElem_cons_zero, List.setIfInBounds_toArray, List.set_cons_zero, List.set_cons_succ]
    refine wpAnyH_take (i := 5) (v := ?v45) rfl (by kernel_rfl) (by kernel_rfl) (by kernel_rfl) (fun _ _ _ h => h) (Or.inl ⟨by rfl, ?hy45⟩) (by assumption) ?rest45
    case hy45 => (intro wz hSw; (try dsimp only at hSw); first | (go_simp; done) | (go_simp; with_reducible rfl))
    try simp only [Act.put, List.getElem_toArray, List.getElem_cons_succ, List.getElem_cons_zero, List.setIfInBounds_toArray, List.set_cons_zero, List.set_cons_succ]
    refine wpAnyH_take (i := 6) (v := ?v46) rfl (by kernel_rfl) (by kernel_rfl) (by kernel_rfl) (fun _ _ _ h => h) (Or.inl ⟨by rfl, ?hy46⟩) (by assumption) ?rest46
    case hy46 => (intro wz hSw; (try dsimp only at hSw); first | (go_simp; done) | (go_simp; with_reducible rfl))
    try simp only [Act.put, List.getElem_toArray, List.getElem_cons_succ, List.getElem_cons_zero, List.setIfInBounds_toArray, List.set_cons_zero, List.set_cons_succ]
    refine wpAnyH_take (i := 7) (v := ?v47) rfl (by kernel_rfl) (by kernel_rfl) (by kernel_rfl) (fun _ _ _ h => h) (Or.inl ⟨by rfl, ?hy47⟩) (by assumption) ?rest47
    case hy47 => (intro wz hSw; (try dsimp only at hSw); first | (go_simp; done) | (go_simp; with_reducible rfl))
    try simp only [Act.put, List.getElem_toArray, List.getElem_cons_succ, List.getElem_cons_zero, List.setIfInBounds_toArray, List.set_cons_zero, List.set_cons_succ]
    refine wpAnyH_ready (rs := [3]) (by kernel_rfl) (by simp) ?_
    refine AllReadyH.cons (o := _) rfl (fun K hK => ?_) AllReadyH.nil
    go_simp
    refine (SCo.out _).mono ?_
    rintro e x3 ⟨rfl, g⟩
    try dsimp only
    replace GZ := Lib.hid (gb_trans GZ.out g)
    replace BA := Lib.hid (BA.out.keep0 g)
    clear g
    refine hK.out _ _ (KT.out _ BA.out) (fun hH1 => ?_)
    clear hK K hH0
    try simp only [Act.put, List.getElem_toArray, List.getElem_cons_succ, List.getElem_cons_zero, List.setIfInBounds_toArray, List.set_cons_zero, List.set_cons_succ]
    refine wpAnyH_ready (rs := [8]) (by kernel_rfl) (by simp) ?_
    refine AllReadyH.cons (o := _) rfl (fun K hK => ?_) AllReadyH.nil
    go_simp
    refine (CE.out _ GZ.out).mono ?_
    rintro e x4 ⟨rfl, g⟩
    try dsimp only
    replace GZ := Lib.hid (gb_trans GZ.out g)
    replace BA := Lib.hid (BA.out.keep0 g)
    clear g
    refine hK.out _ _ (KT.out _ BA.out) (fun hH2 => ?_)
    clear hK K hH1
    try simp only [Act.put, List.getElem_toArray, List.getElem_cons_succ, List.getElem_cons_zero, List.setIfInBounds_toArray, List.set_cons_zero, List.set_cons_succ]
    refine wpAnyH_take (i := 9) (v := ?v48) rfl (by kernel_rfl) (by kernel_rfl) (by kernel_rfl) (fun _ _ _ h => h) (Or.inl ⟨by rfl, ?hy48⟩) (by assumption) ?rest48
    case hy48 => (intro wz hSw; (try dsimp only at hSw); first | (go_simp; done) | (go_simp; with_reducible rfl))
    try simp only [Act.put, List.getElem_toArray, List.getElem_cons_succ, List.getElem_cons_zero, List.setIfInBounds_toArray, List.set_cons_zero, List.set_cons_succ]
    refine wpAnyH_done (by kernel_rfl) ?_ _
    clear hH2 KT
    go_upto_region 7 with fail
    have KT := Lib.hid (fun (w' : World) (h : IsB w' A 40 #[.string X.nm, .slice X.ha X.hn X.hc, .slice X.ma X.mn X.mc, .slice X.a0 X.n0 X.c0, .slice X.a1 X.n1 X.c1, .slice X.a2 X.n2 X.c2, .slice X.a3 X.n3 X.c3, .slice X.a4 X.n4 X.c4, .slice X.a5 X.n5 X.c5, .slice X.pa X.pn X.pc, .slice X.na X.nn X.nc, .slice X.va X.vn X.vc, .slice X.fa X.fn X.fc, .slice X.ta X.tn X.tc, .slice X.la X.ln X.lc, .slice X.aa X.an X.ac]) => (⟨h.cell 0, h.cell 1, h.cell 2, h.cell 3, h.cell 4, h.cell 5, h.cell 6, h.cell 7, h.cell 8, h.cell 9, h.cell 10, h.cell 11, h.cell 12, h.cell 13, h.cell 14, h.cell 15, trivial⟩ : (fun w' : World => w'.cell? ⟨A, 0, none⟩ = some (.string X.nm) ∧ w'.cell? ⟨A, 1, none⟩ = some (.slice X.ha X.hn X.hc) ∧ w'.cell? ⟨A, 2, none⟩ = some (.slice X.ma X.mn X.mc) ∧ w'.cell? ⟨A, 3, none⟩ = some (.slice X.a0 X.n0 X.c0) ∧ w'.cell? ⟨A, 4, none⟩ = some (.slice X.a1 X.n1 X.c1) ∧ w'.cell? ⟨A, 5, none⟩ = some (.slice X.a2 X.n2 X.c2) ∧ w'.cell? ⟨A, 6, none⟩ = some (.slice X.a3 X.n3 X.c3) ∧ w'.cell? ⟨A, 7, none⟩ = some (.slice X.a4 X.n4 X.c4) ∧ w'.cell? ⟨A, 8, none⟩ = some (.slice X.a5 X.n5 X.c5) ∧ w'.cell? ⟨A, 9, none⟩ = some (.slice X.pa X.pn X.pc) ∧ w'.cell? ⟨A, 10, none⟩ = some (.slice X.na X.nn X.nc) ∧ w'.cell? ⟨A, 11, none⟩ = some (.slice X.va X.vn X.vc) ∧ w'.cell? ⟨A, 12, none⟩ = some (.slice X.fa X.fn X.fc) ∧ w'.cell? ⟨A, 13, none⟩ = some (.slice X.ta X.tn X.tc) ∧ w'.cell? ⟨A, 14, none⟩ = some (.slice X.la X.ln X.lc) ∧ w'.cell? ⟨A, 15, none⟩ = some (.slice X.aa X.an X.ac) ∧ True) w'))
    refine wp_region_held_drew (S := (fun w' : World => w'.cell? ⟨A, 0, none⟩ = some (.string X.nm) ∧ w'.cell? ⟨A, 1, none⟩ = some (.slice X.ha X.hn X.hc) ∧ w'.cell? ⟨A, 2, none⟩ = some (.slice X.ma X.mn X.mc) ∧ w'.cell? ⟨A, 3, none⟩ = some (.slice X.a0 X.n0 X.c0) ∧ w'.cell? ⟨A, 4, none⟩ = some (.slice X.a1 X.n1 X.c1) ∧ w'.cell? ⟨A, 5, none⟩ = some (.slice X.a2 X.n2 X.c2) ∧ w'.cell? ⟨A, 6, none⟩ = some (.slice X.a3 X.n3 X.c3) ∧ w'.cell? ⟨A, 7, none⟩ = some (.slice X.a4 X.n4 X.c4) ∧ w'.cell? ⟨A, 8, none⟩ = some (.slice X.a5 X.n5 X.c5) ∧ w'.cell? ⟨A, 9, none⟩ = some (.slice X.pa X.pn X.pc) ∧ w'.cell? ⟨A, 10, none⟩ = some (.slice X.na X.nn X.nc) ∧ w'.cell? ⟨A, 11, none⟩ = some (.slice X.va X.vn X.vc) ∧ w'.cell? ⟨A, 12, none⟩ = some (.slice X.fa X.fn X.fc) ∧ w'.cell? ⟨A, 13, none⟩ = some (.slice X.ta X.tn X.tc) ∧ w'.cell? ⟨A, 14, none⟩ = some (.slice X.la X.ln X.lc) ∧ w'.cell? ⟨A, 15, none⟩ = some (.slice X.aa X.an X.ac) ∧ True)) (by kernel_rfl) (KT.out _ (BA.out.keep0 (gb_drew _ none))) (fun hH0 => ?_)
    have g := gb_drew x4 none
    replace GZ := Lib.hid (gb_trans GZ.out g)
    replace BA := Lib.hid (BA.out.keep0 g)
    clear g
    refine wpAnyH_take (i := 0) (v := ?v49) rfl (by kernel_rfl) (by kernel_rfl) (by kernel_rfl) (fun _ _ _ h => h) (Or.inl ⟨by rfl, ?hy49⟩) (by assumption) ?rest49
    case hy49 => (intro wz hSw; (try dsimp only at hSw); first | (go_simp; done) | (go_simp; with_reducible rfl))
    try simp only [Act.put, List.getElem_toArray, List.getElem_cons_zero, List.setIfInBounds_toArray, List.set_cons_zero, List.set_cons_succ]
    refine wpAnyH_take (i := 1) (v := ?v50) rfl (by kernel_rfl) (by kernel_rfl) (by kernel_rfl) (fun _ _ _ h => h) (Or.inl ⟨by rfl, ?hy50⟩) (by assumption) ?rest50
    case hy50 => (intro wz hSw; (try dsimp only at hSw); first | (go_simp; done) | (go_simp; with_reducible rfl))
    try simp only [Act.put, List.getElem_toArray, List.getElem_cons_succ, List.getElem_cons_zero, List.setIfInBounds_toArray, List.set_cons_zero, List.set_cons_succ]
    refine wpAnyH_take (i := 2) (v := ?v51) rfl (by kernel_rfl) (by kernel_rfl) (by kernel_rfl) (fun _ _ _ h => h) (Or.inl ⟨by rfl, ?hy51⟩) (by assumption) ?rest51
    case hy51 => (intro wz hSw; (try dsimp only at hSw); first | (go_simp; done) | (go_simp; with_reducible rfl))
    try simp only [Act.put, List.getElem_toArray, List.getElem_cons_succ, List.getElem_cons_zero, List.setIfInBounds_toArray, List.set_cons_zero, List.set_cons_succ]
    refine wpAnyH_take (i := 3) (v := ?v52) rfl (by kernel_rfl) (by kernel_rfl) (by kernel_rfl) (fun _ _ _ h => h) (Or.inl ⟨by rfl, ?hy52⟩) (by assumption) ?rest52
    case hy52 => (intro wz hSw; (try dsimp only at hSw); first | (go_simp; done) | (go_simp; with_reducible rfl))
    try simp only [Act.put, List.getElem_toArray, List.getElem_cons_succ, List.getElem_cons_zero, List.setIfInBounds_toArray, List.set_cons_zero, List.set_cons_succ]
    refine wpAnyH_take (i := 4) (v := ?v53) rfl (by kernel_rfl) (by kernel_rfl) (by kernel_rfl) (fun _ _ _ h => h) (Or.inl ⟨by rfl, ?hy53⟩) (by assumption) ?rest53
    case hy53 => (intro wz hSw; (try dsimp only at hSw); first | (go_simp; done) | (go_simp; with_reducible rfl))
    try simp only [Act.put, List.getElem_toArray, List.getElem_cons_succ, List.getElem_cons_zero, List.setIfInBounds_toArray, List.set_cons_zero, List.set_cons_succ]
    refine wpAnyH_take (i := 5) (v := ?v54) rfl (by kernel_rfl) (by kernel_rfl) (by kernel_rfl) (fun _ _ _ h => h) (Or.inl ⟨by rfl, ?hy54⟩) (by assumption) ?rest54
    case hy54 => (intro wz hSw; (try dsimp only at hSw); first | (go_simp; done) | (go_simp; with_reducible rfl))
    try simp only [Act.put, List.getElem_toArray, List.getElem_cons_succ, List.getElem_cons_zero, List.setIfInBounds_toArray, List.set_cons_zero, List.set_cons_succ]
    refine wpAnyH_take (i := 6) (v := ?v55) rfl (by kernel_rfl) (by kernel_rfl) (by kernel_rfl) (fun _ _ _ h => h) (Or.inl ⟨by rfl, ?hy55⟩) (by assumption) ?rest55
    case hy55 => (intro wz hSw; (try dsimp only at hSw); first | (go_simp; done) | (go_simp; with_reducible rfl))
    try simp only [Act.put, List.getElem_toArray, List.getElem_cons_succ, List.getElem_cons_zero, List.setIfInBounds_toArray, List.set_cons_zero, List.set_cons_succ]
    refine wpAnyH_take (i := 7) (v := ?v56) rfl (by kernel_rfl) (by kernel_rfl) (by kernel_rfl) (fun _ _ _ h => h) (Or.inl ⟨by rfl, ?hy56⟩) (by assumption) ?rest56
    case hy56 => (intro wz hSw; (try dsimp only at hSw); first | (go_simp; done) | (go_simp; with_reducible rfl))
    try simp only [Act.put, List.getElem_toArray, List.getElem_cons_succ, List.getElem_cons_zero, List.setIfInBounds_toArray, List.set_cons_zero, List.set_cons_succ]
    refine wpAnyH_take (i := 8) (v := ?v57) rfl (by kernel_rfl) (by kernel_rfl) (by kernel_rfl) (fun _ _ _ h => h) (Or.inl ⟨by rfl, ?hy57⟩) (by assumption) ?rest57
    case hy57 => (intro wz hSw; (try dsimp only at hSw); first | (go_simp; done) | (go_simp; with_reducible rfl))
    try simp only [Act.put, List.getElem_toArray, List.getElem_cons_succ, List.getElem_cons_zero, List.setIfInBounds_toArray, List.set_cons_zero, List.set_cons_succ]
    refine wpAnyH_ready (rs := [9]) (by kernel_rfl) (by simp) ?_
    refine AllReadyH.cons (o := _) rfl (fun K hK => ?_) AllReadyH.nil
    go_simp
    refine (FT.out _).mono ?_
    rintro e x5 ⟨rfl, gg⟩
    have g := gb_gr gg none
    try dsimp only
    replace GZ := Lib.hid (gb_trans GZ.out g)
    replace BA := Lib.hid (BA.out.keep0 g)
    clear g gg
    refine hK.out _ _ (KT.out _ BA.out) (fun hH1 => ?_)
    clear hK K hH0
    try simp only [Act.put, List.getElem_toArray, List.getElem_cons_succ, List.getElem_cons_zero, List.setIfInBounds_toArray, List.set_cons_zero, List.set_cons_succ]
    refine wpAnyH_take (i := 10) (v := ?v58) rfl (by kernel_rfl) (by kernel_rfl) (by kernel_rfl) (fun _ _ _ h => h) (Or.inl ⟨by rfl, ?hy58⟩) (by assumption) ?rest58
    case hy58 => (intro wz hSw; (try dsimp only at hSw); first | (go_simp; done) | (go_simp; with_reducible rfl))
    try simp only [Act.put, List.getElem_toArray, List.getElem_cons_succ, List.getElem_cons_zero, List.setIfInBounds_toArray, List.set_cons_zero, List.set_cons_succ]
    refine wpAnyH_take (i := 11) (v := ?v59) rfl (by kernel_rfl) (by kernel_rfl) (by kernel_rfl) (fun _ _ _ h => h) (Or.inl ⟨by rfl, ?hy59⟩) (by assumption) ?rest59
    case hy59 => (intro wz hSw; (try dsimp only at hSw); first | (go_simp; done) | (go_simp; with_reducible rfl))
    try simp only [Act.put, List.getElem_toArray, List.getElem_cons_succ, List.getElem_cons_zero, List.setIfInBounds_toArray, List.set_cons_zero, List.set_cons_succ]
    refine wpAnyH_take (i := 12) (v := ?v60) rfl (by kernel_rfl) (by kernel_rfl) (by kernel_rfl) (fun _ _ _ h => h) (Or.inl ⟨by rfl, ?hy60⟩) (by assumption) ?rest60
    case hy60 => (intro wz hSw; (try dsimp only at hSw); first | (go_simp; done) | (go_simp; with_reducible rfl))
    try simp only [Act.put, List.getElem_toArray, List.getElem_cons_succ, List.getElem_cons_zero, List.setIfInBounds_toArray, List.set_cons_zero, List.set_cons_succ]
    refine wpAnyH_take (i := 13) (v := ?v61) rfl (by kernel_rfl) (by kernel_rfl) (by kernel_rfl) (fun _ _ _ h => h) (Or.inl ⟨by rfl, ?hy61⟩) (by assumption) ?rest61
    case hy61 => (intro wz hSw; (try dsimp only at hSw); first | (go_simp; done) | (go_simp; with_reducible rfl))
    try simp only [Act.put, List.getElem_toArray, List.getElem_cons_succ, List.getElem_cons_zero, List.setIfInBounds_toArray, List.set_cons_zero, List.set_cons_succ]
    refine wpAnyH_take (i := 15) (v := ?v62) rfl (by kernel_rfl) (by kernel_rfl) (by kernel_rfl) (fun _ _ _ h => h) (Or.inl ⟨by rfl, ?hy62⟩) (by assumption) ?rest62
    case hy62 => (intro wz hSw; (try dsimp only at hSw); first | (go_simp; done) | (go_simp; with_reducible rfl))
    try simp only [Act.put, List.getElem_toArray, List.getElem_cons_succ, List.getElem_cons_zero, List.setIfInBounds_toArray, List.set_cons_zero, List.set_cons_succ]
    refine wpAnyH_take (i := 16) (v := ?v63) rfl (by kernel_rfl) (by kernel_rfl) (by kernel_rfl) (fun _ _ _ h => h) (Or.inl ⟨by rfl, ?hy63⟩) (by assumption) ?rest63
    case hy63 => (intro wz hSw; (try dsimp only at hSw); first | (go_simp; done) | (go_simp; with_reducible rfl))
    try simp only [Act.put, List.getElem_toArray, List.getElem_cons_succ, List.getElem_cons_zero, List.setIfInBounds_toArray, List.set_cons_zero, List.set_cons_succ]
    refine wpAnyH_take (i := 17) (v := ?v64) rfl (by kernel_rfl) (by kernel_rfl) (by kernel_rfl) (fun _ _ _ h => h) (Or.inl ⟨by rfl, ?hy64⟩) (by assumption) ?rest64
    case hy64 => (intro wz hSw; (try dsimp only at hSw); first | (go_simp; done) | (go_simp; with_reducible rfl))
    try simp only [Act.put, List.getElem_toArray, List.getElem_cons_succ, List.getElem_cons_zero, List.setIfInBounds_toArray, List.set_cons_zero, List.set_cons_succ]
    refine wpAnyH_ready (rs := [14]) (by kernel_rfl) (by simp) ?_
    refine AllReadyH.cons (o := _) rfl (fun K hK => ?_) AllReadyH.nil
    go_simp
    refine (EN.out _ GZ.out).mono ?_
    rintro e x6 ⟨rfl, g⟩
    try dsimp only
    replace GZ := Lib.hid (gb_trans GZ.out g)
    replace BA := Lib.hid (BA.out.keep0 g)
    clear g
    refine hK.out _ _ (KT.out _ BA.out) (fun hH2 => ?_)
    clear hK K hH1
    try simp only [Act.put, List.getElem_toArray, List.getElem_cons_succ, List.getElem_cons_zero, List.setIfInBounds_toArray, List.set_cons_zero, List.set_cons_succ]
    refine wpAnyH_take (i := 18) (v := ?v65) rfl (by kernel_rfl) (by kernel_rfl) (by kernel_rfl) (fun _ _ _ h => h) (Or.inl ⟨by rfl, ?hy65⟩) (by assumption) ?rest65
    case hy65 => (intro wz hSw; (try dsimp only at hSw); first | (go_simp; done) | (go_simp; with_reducible rfl))
    try simp only [Act.put, List.getElem_toArray, List.getElem_cons_succ, List.getElem_cons_zero, List.setIfInBounds_toArray, List.set_cons_zero, List.set_cons_succ]
    refine wpAnyH_take (i := 19) (v := ?v66) rfl (by kernel_rfl) (by kernel_rfl) (by kernel_rfl) (fun _ _ _ h => h) (Or.inl ⟨by rfl, ?hy66⟩) (by assumption) ?rest66
    case hy66 => (intro wz hSw; (try dsimp only at hSw); first | (go_simp; done) | (go_simp; with_reducible rfl))
    try simp only [Act.put, List.getElem_toArray, List.getElem_cons_succ, List.getElem_cons_zero, List.setIfInBounds_toArray, List.set_cons_zero, List.set_cons_succ]
    refine wpAnyH_take (i := 20) (v := ?v67) rfl (by kernel_rfl) (by kernel_rfl) (by kernel_rfl) (fun _ _ _ h => h) (Or.inl ⟨by rfl, ?hy67⟩) (by assumption) ?rest67
    case hy67 => (intro wz hSw; (try dsimp only at hSw); first | (go_simp; done) | (go_simp; with_reducible rfl))
    try simp only [Act.put, List.getElem_toArray, List.getElem_cons_succ, List.getElem_cons_zero, List.setIfInBounds_toArray, List.set_cons_zero, List.set_cons_succ]
    refine wpAnyH_ready (rs := [21]) (by kernel_rfl) (by simp) ?_
    refine AllReadyH.cons (o := _) rfl (fun K hK => ?_) AllReadyH.nil
    go_simp
    refine (AW.out _).mono ?_
    rintro e x7 ⟨rfl, g⟩
    try dsimp only
    replace GZ := Lib.hid (gb_trans GZ.out g)
    replace BA := Lib.hid (BA.out.keep0 g)
    clear g
    refine hK.out _ _ (KT.out _ BA.out) (fun hH3 => ?_)
    clear hK K hH2
    try simp only [Act.put, List.getElem_toArray, List.getElem_cons_succ, List.getElem_cons_zero, List.setIfInBounds_toArray, List.set_cons_zero, List.set_cons_succ]
    refine wpAnyH_take (i := 22) (v := ?v68) rfl (by kernel_rfl) (by kernel_rfl) (by kernel_rfl) (fun _ _ _ h => h) (Or.inl ⟨by rfl, ?hy68⟩) (by assumption) ?rest68
    case hy68 => (intro wz hSw; (try dsimp only at hSw); first | (go_simp; done) | (go_simp; with_reducible rfl))
    try simp only [Act.put, List.getElem_toArray, List.getElem_cons_succ, List.getElem_cons_zero, List.setIfInBounds_toArray, List.set_cons_zero, List.set_cons_succ]
    refine wpAnyH_take (i := 23) (v := ?v69) rfl (by kernel_rfl) (by kernel_rfl) (by kernel_rfl) (fun _ _ _ h => h) (Or.inl ⟨by rfl, ?hy69⟩) (by assumption) ?rest69
    case hy69 => (intro wz hSw; (try dsimp only at hSw); first | (go_simp; done) | (go_simp; with_reducible rfl))
    try simp only [Act.put, List.getElem_toArray, List.getElem_cons_succ, List.getElem_cons_zero, List.setIfInBounds_toArray, List.set_cons_zero, List.set_cons_succ]
    refine wpAnyH_done (by kernel_rfl) ?_ _
    clear hH3 KT
    go_wp2
    go_ret
    exact ⟨rfl, GZ.out⟩
theorem fits_law (X : KX) (C : Cx) (N : List Nd) (W : World) (h : CR W X C N) : Calls Try.prog 3 #[.agg #[.string X.nm, .slice X.ha X.hn X.hc, .slice X.ma X.mn X.mc, .slice X.a0 X.n0 X.c0, .slice X.a1 X.n1 X.c1, .slice X.a2 X.n2 X.c2, .slice X.a3 X.n3 X.c3, .slice X.a4 X.n4 X.c4, .slice X.a5 X.n5 X.c5, .slice X.pa X.pn X.pc, .slice X.na X.nn X.nc, .slice X.va X.vn X.vc, .slice X.fa X.fn X.fc, .slice X.ta X.tn X.tc, .slice X.la X.ln X.lc, .slice X.aa X.an X.ac]] W (fun e w' => e = .returned (.bool true) ∧ Below W.heap.size W w') := by
  refine (fits_walk W X C N h).mono ?_
  rintro e w' ⟨rfl, g⟩
  exact ⟨rfl, (gr_gb g).below⟩
end Go.Proofs.Ytlbigajhkcnemaa
