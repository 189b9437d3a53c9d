/- Expr: the law Replaces; no condition. -/
import Derived.Test.YtlbigajhkcnemaaExW
import Derived.Test.YtlbigajhkcnemaaExU
namespace Go.Proofs.Ytlbigajhkcnemaa
open Go.RowKit
set_option linter.unusedVariables false
theorem check_sn (w : World) (X : KX) (C : Cx) (N : List Nd) (hC : CR w X C N) (a : Option Addr) (n c : Nat) (L : List Nd) (h : SN w a n c L) (tw tv : Int) (hr : wholeT C L = .ok (tw, tv)) : Calls Try.prog 6 #[.slice a n c, .agg #[.string X.nm, .slice X.ha X.hn X.hc, .slice X.ma X.mn X.mc, .slice X.a0 X.n0 X.c0, .slice X.a1 X.n1 X.c1, .slice X.a2 X.n2 X.c2, .slice X.a3 X.n3 X.c3, .slice X.a4 X.n4 X.c4, .slice X.a5 X.n5 X.c5, .slice X.pa X.pn X.pc]] w (fun e w' => e = .returned (.tuple #[.int .i64 tw, .int .i64 0]) ∧ w.grownBy w' none) := by
  have k := kcheck_any w { X with na := a, nn := n, nc := c } C L ⟨h, hC.hd, hC.md, hC.pd, hC.vd, hC.fd, hC.td, hC.ad⟩
  unfold RetWE at k
  rw [hr] at k
  exact k
theorem eval_sn (w : World) (X : KX) (C : Cx) (N : List Nd) (hC : CR w X C N) (a : Option Addr) (n c : Nat) (L : List Nd) (h : SN w a n c L) (tw tv : Int) (hr : wholeT C L = .ok (tw, tv)) : Calls Try.prog 8 #[.slice a n c, .agg #[.string X.nm, .slice X.ha X.hn X.hc, .slice X.ma X.mn X.mc, .slice X.a0 X.n0 X.c0, .slice X.a1 X.n1 X.c1, .slice X.a2 X.n2 X.c2, .slice X.a3 X.n3 X.c3, .slice X.a4 X.n4 X.c4, .slice X.a5 X.n5 X.c5, .slice X.pa X.pn X.pc], .agg #[.slice X.va X.vn X.vc, .slice X.fa X.fn X.fc, .slice X.ta X.tn X.tc, .slice X.la X.ln X.lc], .slice X.aa X.an X.ac] w (fun e w' => e = .returned (.int .u32 tv) ∧ w.grownBy w' none) := by
  have k := keval_any w { X with na := a, nn := n, nc := c } C L ⟨h, hC.hd, hC.md, hC.pd, hC.vd, hC.fd, hC.td, hC.ad⟩
  unfold RetV at k
  rw [hr] at k
  exact k
theorem sn_end {w : World} {ad : Addr} {n c : Nat} {L : List Nd} (h : SN w (some ad) n c L) (j : Nat) (hj : n ≤ j) : SN w (some ad) 0 0 (L.drop j) := by
  rw [List.drop_of_length_le (by rw [h.len]; exact hj)]
  exact ⟨rfl, (fun e => by cases e), Nat.le_refl _, (fun ad e t ht => by omega), (fun x hx => by cases hx)⟩
set_option maxRecDepth 100000 in
set_option maxHeartbeats 80000000 in
theorem replaces_walk (w : World) (X : KX) (C : Cx) (N : List Nd) (at_ : Int) (hC : CR w X C N) :
    Calls Try.prog 4 #[.agg #[.string X.nm, .slice X.ha X.hn X.hc, .slice X.ma X.mn X.mc, .slice X.a0 X.n0 X.c0, .slice X.a1 X.n1 X.c1, .slice X.a2 X.n2 X.c2, .slice X.a3 X.n3 X.c3, .slice X.a4 X.n4 X.c4, .slice X.a5 X.n5 X.c5, .slice X.pa X.pn X.pc, .slice X.na X.nn X.nc, .slice X.va X.vn X.vc, .slice X.fa X.fn X.fc, .slice X.ta X.tn X.tc, .slice X.la X.ln X.lc, .slice X.aa X.an X.ac], .int .i64 at_] w (RetV (.bool true) w) := by
  have CC := Lib.hid hC
  have NL := Lib.hid hC.nd.len
  have ncap := hC.nd.cap
  have AW := Lib.hid (fun w => awake_any w)
  have SCo := Lib.hid (fun w => scope_any w X)
  unfold RetV at AW SCo
  have CKa := Lib.hid (fun (w2 : World) (g : w.grownBy w2 none) => kcheck_any w2 X C N (hC.keep0 g))
  unfold RetWE at CKa
  obtain ⟨A, hA⟩ : ∃ A, A = w.heap.size := ⟨_, rfl⟩
  obtain ⟨w1, hw1⟩ : ∃ w1, w1 = w.alloc (.cells #[.string X.nm, .slice X.ha X.hn X.hc, .slice X.ma X.mn X.mc, .slice X.a0 X.n0 X.c0, .slice X.a1 X.n1 X.c1, .slice X.a2 X.n2 X.c2, .slice X.a3 X.n3 X.c3, .slice X.a4 X.n4 X.c4, .slice X.a5 X.n5 X.c5, .slice X.pa X.pn X.pc, .slice X.na X.nn X.nc, .slice X.va X.vn X.vc, .slice X.fa X.fn X.fc, .slice X.ta X.tn X.tc, .slice X.la X.ln X.lc, .slice X.aa X.an X.ac] 40) := ⟨_, rfl⟩
  have BA := Lib.hid (show IsB w1 A 40 #[.string X.nm, .slice X.ha X.hn X.hc, .slice X.ma X.mn X.mc, .slice X.a0 X.n0 X.c0, .slice X.a1 X.n1 X.c1, .slice X.a2 X.n2 X.c2, .slice X.a3 X.n3 X.c3, .slice X.a4 X.n4 X.c4, .slice X.a5 X.n5 X.c5, .slice X.pa X.pn X.pc, .slice X.na X.nn X.nc, .slice X.va X.vn X.vc, .slice X.fa X.fn X.fc, .slice X.ta X.tn X.tc, .slice X.la X.ln X.lc, .slice X.aa X.an X.ac] from by rw [hw1, hA]; exact IsB.new _ _ _)
  have GZ := Lib.hid (show w.grownBy w1 none from by rw [hw1]; exact gb_al (gb_refl _ _))
  replace CC := Lib.hid (CC.out.keep0 GZ.out)
  clear hC
  go_enter Try.func4, Try.ntmps4
  go_upto_region 1 with fail
  rw [← hw1, ← hA]
  clear hw1 hA
  have s0 : w1.cell? ⟨A, 0, none⟩ = some (.string X.nm) := (BA.out).cell 0
  have s1 : w1.cell? ⟨A, 1, none⟩ = some (.slice X.ha X.hn X.hc) := (BA.out).cell 1
  have s2 : w1.cell? ⟨A, 2, none⟩ = some (.slice X.ma X.mn X.mc) := (BA.out).cell 2
  have s3 : w1.cell? ⟨A, 3, none⟩ = some (.slice X.a0 X.n0 X.c0) := (BA.out).cell 3
  have s4 : w1.cell? ⟨A, 4, none⟩ = some (.slice X.a1 X.n1 X.c1) := (BA.out).cell 4
  have s5 : w1.cell? ⟨A, 5, none⟩ = some (.slice X.a2 X.n2 X.c2) := (BA.out).cell 5
  have s6 : w1.cell? ⟨A, 6, none⟩ = some (.slice X.a3 X.n3 X.c3) := (BA.out).cell 6
  have s7 : w1.cell? ⟨A, 7, none⟩ = some (.slice X.a4 X.n4 X.c4) := (BA.out).cell 7
  have s8 : w1.cell? ⟨A, 8, none⟩ = some (.slice X.a5 X.n5 X.c5) := (BA.out).cell 8
  have s9 : w1.cell? ⟨A, 9, none⟩ = some (.slice X.pa X.pn X.pc) := (BA.out).cell 9
  have s10 : w1.cell? ⟨A, 10, none⟩ = some (.slice X.na X.nn X.nc) := (BA.out).cell 10
  have s11 : w1.cell? ⟨A, 11, none⟩ = some (.slice X.va X.vn X.vc) := (BA.out).cell 11
  have s12 : w1.cell? ⟨A, 12, none⟩ = some (.slice X.fa X.fn X.fc) := (BA.out).cell 12
  have s13 : w1.cell? ⟨A, 13, none⟩ = some (.slice X.ta X.tn X.tc) := (BA.out).cell 13
  have s14 : w1.cell? ⟨A, 14, none⟩ = some (.slice X.la X.ln X.lc) := (BA.out).cell 14
  have s15 : w1.cell? ⟨A, 15, none⟩ = some (.slice X.aa X.an X.ac) := (BA.out).cell 15
  by_cases hl : 100 < X.nn
  · have hl2 : (100 : Int) < (X.nn : Int) := by omega
    as_aux_lemma =>
      go_wp2_with fail
      refine (AW.out _).mono ?_
      rintro e x1 ⟨rfl, g⟩
      replace GZ := Lib.hid (gb_trans GZ.out g)
      replace BA := Lib.hid (BA.out.keep0 g)
      replace CC := Lib.hid (CC.out.keep0 g)
      clear g
      go_wp2
      go_ret
      exact ⟨rfl, GZ.out⟩
  have hl2 : ¬ (100 : Int) < (X.nn : Int) := by omega
  have N1 := Lib.hid (show X.nn ≤ 100 by omega)
  clear hl
  go_upto_region 3 with fail
  clear s0 s1 s2 s3 s4 s5 s6 s7 s8 s9 s10 s11 s12 s13 s14 s15
  cases hR : wholeT C N with
  | error er =>
    as_aux_lemma =>
      have ne := whole_err hR
      rw [hR] at CKa
      replace CKa := Lib.hid (show ∀ (w2 : World), w.grownBy w2 none → Calls Try.prog 6 #[.slice X.na X.nn X.nc, .agg #[.string X.nm, .slice X.ha X.hn X.hc, .slice X.ma X.mn X.mc, .slice X.a0 X.n0 X.c0, .slice X.a1 X.n1 X.c1, .slice X.a2 X.n2 X.c2, .slice X.a3 X.n3 X.c3, .slice X.a4 X.n4 X.c4, .slice X.a5 X.n5 X.c5, .slice X.pa X.pn X.pc]] w2 (fun e w' => e = .returned (.tuple #[.int .i64 0, .int .i64 er]) ∧ w2.grownBy w' none) from CKa.out)
      have e1 : (er != 0) = true := by rw [bne_iff_ne]; exact ne
      have e2 : (er == 0) = false := by rw [beq_eq_false_iff_ne]; exact ne
      have e3 : ¬ er = 0 := ne
      clear ne hR
      have KT := Lib.hid (fun (w' : World) (h : IsB w' A 40 #[.string X.nm, .slice X.ha X.hn X.hc, .slice X.ma X.mn X.mc, .slice X.a0 X.n0 X.c0, .slice X.a1 X.n1 X.c1, .slice X.a2 X.n2 X.c2, .slice X.a3 X.n3 X.c3, .slice X.a4 X.n4 X.c4, .slice X.a5 X.n5 X.c5, .slice X.pa X.pn X.pc, .slice X.na X.nn X.nc, .slice X.va X.vn X.vc, .slice X.fa X.fn X.fc, .slice X.ta X.tn X.tc, .slice X.la X.ln X.lc, .slice X.aa X.an X.ac]) => (⟨h.cell 0, h.cell 1, h.cell 2, h.cell 3, h.cell 4, h.cell 5, h.cell 6, h.cell 7, h.cell 8, h.cell 9, h.cell 10, h.cell 11, h.cell 12, h.cell 13, h.cell 14, h.cell 15, trivial⟩ : (fun w' : World => w'.cell? ⟨A, 0, none⟩ = some (.string X.nm) ∧ w'.cell? ⟨A, 1, none⟩ = some (.slice X.ha X.hn X.hc) ∧ w'.cell? ⟨A, 2, none⟩ = some (.slice X.ma X.mn X.mc) ∧ w'.cell? ⟨A, 3, none⟩ = some (.slice X.a0 X.n0 X.c0) ∧ w'.cell? ⟨A, 4, none⟩ = some (.slice X.a1 X.n1 X.c1) ∧ w'.cell? ⟨A, 5, none⟩ = some (.slice X.a2 X.n2 X.c2) ∧ w'.cell? ⟨A, 6, none⟩ = some (.slice X.a3 X.n3 X.c3) ∧ w'.cell? ⟨A, 7, none⟩ = some (.slice X.a4 X.n4 X.c4) ∧ w'.cell? ⟨A, 8, none⟩ = some (.slice X.a5 X.n5 X.c5) ∧ w'.cell? ⟨A, 9, none⟩ = some (.slice X.pa X.pn X.pc) ∧ w'.cell? ⟨A, 10, none⟩ = some (.slice X.na X.nn X.nc) ∧ w'.cell? ⟨A, 11, none⟩ = some (.slice X.va X.vn X.vc) ∧ w'.cell? ⟨A, 12, none⟩ = some (.slice X.fa X.fn X.fc) ∧ w'.cell? ⟨A, 13, none⟩ = some (.slice X.ta X.tn X.tc) ∧ w'.cell? ⟨A, 14, none⟩ = some (.slice X.la X.ln X.lc) ∧ w'.cell? ⟨A, 15, none⟩ = some (.slice X.aa X.an X.ac) ∧ True) w'))
      refine wp_region_held_drew (S := (fun w' : World => w'.cell? ⟨A, 0, none⟩ = some (.string X.nm) ∧ w'.cell? ⟨A, 1, none⟩ = some (.slice X.ha X.hn X.hc) ∧ w'.cell? ⟨A, 2, none⟩ = some (.slice X.ma X.mn X.mc) ∧ w'.cell? ⟨A, 3, none⟩ = some (.slice X.a0 X.n0 X.c0) ∧ w'.cell? ⟨A, 4, none⟩ = some (.slice X.a1 X.n1 X.c1) ∧ w'.cell? ⟨A, 5, none⟩ = some (.slice X.a2 X.n2 X.c2) ∧ w'.cell? ⟨A, 6, none⟩ = some (.slice X.a3 X.n3 X.c3) ∧ w'.cell? ⟨A, 7, none⟩ = some (.slice X.a4 X.n4 X.c4) ∧ w'.cell? ⟨A, 8, none⟩ = some (.slice X.a5 X.n5 X.c5) ∧ w'.cell? ⟨A, 9, none⟩ = some (.slice X.pa X.pn X.pc) ∧ w'.cell? ⟨A, 10, none⟩ = some (.slice X.na X.nn X.nc) ∧ w'.cell? ⟨A, 11, none⟩ = some (.slice X.va X.vn X.vc) ∧ w'.cell? ⟨A, 12, none⟩ = some (.slice X.fa X.fn X.fc) ∧ w'.cell? ⟨A, 13, none⟩ = some (.slice X.ta X.tn X.tc) ∧ w'.cell? ⟨A, 14, none⟩ = some (.slice X.la X.ln X.lc) ∧ w'.cell? ⟨A, 15, none⟩ = some (.slice X.aa X.an X.ac) ∧ True)) (by kernel_rfl) (KT.out _ (BA.out.keep0 (gb_drew _ none))) (fun hH0 => ?_)
      have g := gb_drew w1 none
      replace GZ := Lib.hid (gb_trans GZ.out g)
      replace BA := Lib.hid (BA.out.keep0 g)
      replace CC := Lib.hid (CC.out.keep0 g)
      clear g
      refine wpAnyH_take (i := 0) (v := ?v1) rfl (by kernel_rfl) (by kernel_rfl) (by kernel_rfl) (fun _ _ _ h => h) (Or.inl ⟨by rfl, ?hy1⟩) (by assumption) ?rest1
      case hy1 => (intro wz hSw; (try dsimp only at hSw); first | (go_simp; done) | (go_simp; with_reducible rfl))
      try simp only [Act.put, List.getElem_toArray, List.getElem_cons_zero, List.setIfInBounds_toArray, List.set_cons_zero, List.set_cons_succ]
      refine wpAnyH_take (i := 1) (v := ?v2) rfl (by kernel_rfl) (by kernel_rfl) (by kernel_rfl) (fun _ _ _ h => h) (Or.inl ⟨by rfl, ?hy2⟩) (by assumption) ?rest2
      case hy2 => (intro wz hSw; (try dsimp only at hSw); first | (go_simp; done) | (go_simp; with_reducible rfl))
      try simp only [Act.put, List.getElem_toArray, List.getElem_cons_succ, List.getElem_cons_zero, List.setIfInBounds_toArray, List.set_cons_zero, List.set_cons_succ]
      refine wpAnyH_take (i := 2) (v := ?v3) rfl (by kernel_rfl) (by kernel_rfl) (by kernel_rfl) (fun _ _ _ h => h) (Or.inl ⟨by rfl, ?hy3⟩) (by assumption) ?rest3
      case hy3 => (intro wz hSw; (try dsimp only at hSw); first | (go_simp; done) | (go_simp; with_reducible rfl))
      try simp only [Act.put, List.getElem_toArray, List.getElem_cons_succ, List.getElem_cons_zero, List.setIfInBounds_toArray, List.set_cons_zero, List.set_cons_succ]
      refine wpAnyH_ready (rs := [3]) (by kernel_rfl) (by simp) ?_
      refine AllReadyH.cons (o := _) rfl (fun K hK => ?_) AllReadyH.nil
      go_simp
      refine (SCo.out _).mono ?_
      rintro e x1 ⟨rfl, g⟩
      try dsimp only
      replace GZ := Lib.hid (gb_trans GZ.out g)
      replace BA := Lib.hid (BA.out.keep0 g)
      replace CC := Lib.hid (CC.out.keep0 g)
      clear g
      refine hK.out _ _ (KT.out _ BA.out) (fun hH1 => ?_)
      clear hK K hH0
      try simp only [Act.put, List.getElem_toArray, List.getElem_cons_succ, List.getElem_cons_zero, List.setIfInBounds_toArray, List.set_cons_zero, List.set_cons_succ]
      refine wpAnyH_ready (rs := [4]) (by kernel_rfl) (by simp) ?_
      refine AllReadyH.cons (o := _) rfl (fun K hK => ?_) AllReadyH.nil
      go_simp
      refine (CKa.out _ GZ.out).mono ?_
      rintro e x2 ⟨rfl, g⟩
      try dsimp only
      replace GZ := Lib.hid (gb_trans GZ.out g)
      replace BA := Lib.hid (BA.out.keep0 g)
      replace CC := Lib.hid (CC.out.keep0 g)
      clear g
      refine hK.out _ _ (KT.out _ BA.out) (fun hH2 => ?_)
      clear hK K hH1
      try simp only [Act.put, List.getElem_toArray, List.getElem_cons_succ, List.getElem_cons_zero, List.setIfInBounds_toArray, List.set_cons_zero, List.set_cons_succ]
      refine wpAnyH_take (i := 5) (v := ?v4) rfl (by kernel_rfl) (by kernel_rfl) (by kernel_rfl) (fun _ _ _ h => h) (Or.inl ⟨by rfl, ?hy4⟩) (by assumption) ?rest4
      case hy4 => (intro wz hSw; (try dsimp only at hSw); first | (go_simp; done) | (go_simp; with_reducible rfl))
      try simp only [Act.put, List.getElem_toArray, List.getElem_cons_succ, List.getElem_cons_zero, List.setIfInBounds_toArray, List.set_cons_zero, List.set_cons_succ]
      refine wpAnyH_take (i := 6) (v := ?v5) rfl (by kernel_rfl) (by kernel_rfl) (by kernel_rfl) (fun _ _ _ h => h) (Or.inl ⟨by rfl, ?hy5⟩) (by assumption) ?rest5
      case hy5 => (intro wz hSw; (try dsimp only at hSw); first | (go_simp; done) | (go_simp; with_reducible rfl))
      try simp only [Act.put, List.getElem_toArray, List.getElem_cons_succ, List.getElem_cons_zero, List.setIfInBounds_toArray, List.set_cons_zero, List.set_cons_succ]
      refine wpAnyH_take (i := 7) (v := ?v6) rfl (by kernel_rfl) (by kernel_rfl) (by kernel_rfl) (fun _ _ _ h => h) (Or.inl ⟨by rfl, ?hy6⟩) (by assumption) ?rest6
      case hy6 => (intro wz hSw; (try dsimp only at hSw); first | (go_simp; done) | (go_simp; with_reducible rfl))
      try simp only [Act.put, List.getElem_toArray, List.getElem_cons_succ, List.getElem_cons_zero, List.setIfInBounds_toArray, List.set_cons_zero, List.set_cons_succ]
      refine wpAnyH_take (i := 8) (v := ?v7) rfl (by kernel_rfl) (by kernel_rfl) (by kernel_rfl) (fun _ _ _ h => h) (Or.inl ⟨by rfl, ?hy7⟩) (by assumption) ?rest7
      case hy7 => (intro wz hSw; (try dsimp only at hSw); first | (go_simp; done) | (go_simp; with_reducible rfl))
      try simp only [Act.put, List.getElem_toArray, List.getElem_cons_succ, List.getElem_cons_zero, List.setIfInBounds_toArray, List.set_cons_zero, List.set_cons_succ]
      refine wpAnyH_take (i := 9) (v := ?v8) rfl (by kernel_rfl) (by kernel_rfl) (by kernel_rfl) (fun _ _ _ h => h) (Or.inl ⟨by rfl, ?hy8⟩) (by assumption) ?rest8
      case hy8 => (intro wz hSw; (try dsimp only at hSw); first | (go_simp; done) | (go_simp; with_reducible rfl))
      try simp only [Act.put, List.getElem_toArray, List.getElem_cons_succ, List.getElem_cons_zero, List.setIfInBounds_toArray, List.set_cons_zero, List.set_cons_succ]
      refine wpAnyH_done (by kernel_rfl) ?_ _
      clear hH2 KT
      go_wp2_with fail
      refine (AW.out _).mono ?_
      rintro e x3 ⟨rfl, g⟩
      replace GZ := Lib.hid (gb_trans GZ.out g)
      replace BA := Lib.hid (BA.out.keep0 g)
      replace CC := Lib.hid (CC.out.keep0 g)
      clear g
      go_wp2
      go_ret
      exact ⟨rfl, GZ.out⟩
  | ok t =>
    obtain ⟨tw, tv⟩ := t
    rw [hR] at CKa
    replace CKa := Lib.hid (show ∀ (w2 : World), w.grownBy w2 none → Calls Try.prog 6 #[.slice X.na X.nn X.nc, .agg #[.string X.nm, .slice X.ha X.hn X.hc, .slice X.ma X.mn X.mc, .slice X.a0 X.n0 X.c0, .slice X.a1 X.n1 X.c1, .slice X.a2 X.n2 X.c2, .slice X.a3 X.n3 X.c3, .slice X.a4 X.n4 X.c4, .slice X.a5 X.n5 X.c5, .slice X.pa X.pn X.pc]] w2 (fun e w' => e = .returned (.tuple #[.int .i64 tw, .int .i64 0]) ∧ w2.grownBy w' none) from CKa.out)
    have HR := Lib.hid hR
    have ta := (whole_ok hR).1
    dsimp only at ta
    clear hR
    rcases (show at_ < 0 ∨ (0 ≤ at_ ∧ (X.nn : Int) ≤ at_) ∨ (0 ≤ at_ ∧ at_ < (X.nn : Int)) by omega) with ha | ⟨ha, hb⟩ | ⟨ha, hb⟩
    · as_aux_lemma =>
        have KT := Lib.hid (fun (w' : World) (h : IsB w' A 40 #[.string X.nm, .slice X.ha X.hn X.hc, .slice X.ma X.mn X.mc, .slice X.a0 X.n0 X.c0, .slice X.a1 X.n1 X.c1, .slice X.a2 X.n2 X.c2, .slice X.a3 X.n3 X.c3, .slice X.a4 X.n4 X.c4, .slice X.a5 X.n5 X.c5, .slice X.pa X.pn X.pc, .slice X.na X.nn X.nc, .slice X.va X.vn X.vc, .slice X.fa X.fn X.fc, .slice X.ta X.tn X.tc, .slice X.la X.ln X.lc, .slice X.aa X.an X.ac]) => (⟨h.cell 0, h.cell 1, h.cell 2, h.cell 3, h.cell 4, h.cell 5, h.cell 6, h.cell 7, h.cell 8, h.cell 9, h.cell 10, h.cell 11, h.cell 12, h.cell 13, h.cell 14, h.cell 15, trivial⟩ : (fun w' : World => w'.cell? ⟨A, 0, none⟩ = some (.string X.nm) ∧ w'.cell? ⟨A, 1, none⟩ = some (.slice X.ha X.hn X.hc) ∧ w'.cell? ⟨A, 2, none⟩ = some (.slice X.ma X.mn X.mc) ∧ w'.cell? ⟨A, 3, none⟩ = some (.slice X.a0 X.n0 X.c0) ∧ w'.cell? ⟨A, 4, none⟩ = some (.slice X.a1 X.n1 X.c1) ∧ w'.cell? ⟨A, 5, none⟩ = some (.slice X.a2 X.n2 X.c2) ∧ w'.cell? ⟨A, 6, none⟩ = some (.slice X.a3 X.n3 X.c3) ∧ w'.cell? ⟨A, 7, none⟩ = some (.slice X.a4 X.n4 X.c4) ∧ w'.cell? ⟨A, 8, none⟩ = some (.slice X.a5 X.n5 X.c5) ∧ w'.cell? ⟨A, 9, none⟩ = some (.slice X.pa X.pn X.pc) ∧ w'.cell? ⟨A, 10, none⟩ = some (.slice X.na X.nn X.nc) ∧ w'.cell? ⟨A, 11, none⟩ = some (.slice X.va X.vn X.vc) ∧ w'.cell? ⟨A, 12, none⟩ = some (.slice X.fa X.fn X.fc) ∧ w'.cell? ⟨A, 13, none⟩ = some (.slice X.ta X.tn X.tc) ∧ w'.cell? ⟨A, 14, none⟩ = some (.slice X.la X.ln X.lc) ∧ w'.cell? ⟨A, 15, none⟩ = some (.slice X.aa X.an X.ac) ∧ True) w'))
        refine wp_region_held_drew (S := (fun w' : World => w'.cell? ⟨A, 0, none⟩ = some (.string X.nm) ∧ w'.cell? ⟨A, 1, none⟩ = some (.slice X.ha X.hn X.hc) ∧ w'.cell? ⟨A, 2, none⟩ = some (.slice X.ma X.mn X.mc) ∧ w'.cell? ⟨A, 3, none⟩ = some (.slice X.a0 X.n0 X.c0) ∧ w'.cell? ⟨A, 4, none⟩ = some (.slice X.a1 X.n1 X.c1) ∧ w'.cell? ⟨A, 5, none⟩ = some (.slice X.a2 X.n2 X.c2) ∧ w'.cell? ⟨A, 6, none⟩ = some (.slice X.a3 X.n3 X.c3) ∧ w'.cell? ⟨A, 7, none⟩ = some (.slice X.a4 X.n4 X.c4) ∧ w'.cell? ⟨A, 8, none⟩ = some (.slice X.a5 X.n5 X.c5) ∧ w'.cell? ⟨A, 9, none⟩ = some (.slice X.pa X.pn X.pc) ∧ w'.cell? ⟨A, 10, none⟩ = some (.slice X.na X.nn X.nc) ∧ w'.cell? ⟨A, 11, none⟩ = some (.slice X.va X.vn X.vc) ∧ w'.cell? ⟨A, 12, none⟩ = some (.slice X.fa X.fn X.fc) ∧ w'.cell? ⟨A, 13, none⟩ = some (.slice X.ta X.tn X.tc) ∧ w'.cell? ⟨A, 14, none⟩ = some (.slice X.la X.ln X.lc) ∧ w'.cell? ⟨A, 15, none⟩ = some (.slice X.aa X.an X.ac) ∧ True)) (by kernel_rfl) (KT.out _ (BA.out.keep0 (gb_drew _ none))) (fun hH0 => ?_)
        have g := gb_drew w1 none
        replace GZ := Lib.hid (gb_trans GZ.out g)
        replace BA := Lib.hid (BA.out.keep0 g)
        replace CC := Lib.hid (CC.out.keep0 g)
        clear g
        refine wpAnyH_take (i := 0) (v := ?v9) rfl (by kernel_rfl) (by kernel_rfl) (by kernel_rfl) (fun _ _ _ h => h) (Or.inl ⟨by rfl, ?hy9⟩) (by assumption) ?rest9
        case hy9 => (intro wz hSw; (try dsimp only at hSw); first | (go_simp; done) | (go_simp; with_reducible rfl))
        try simp only [Act.put, List.getElem_toArray, List.getElem_cons_zero, List.setIfInBounds_toArray, List.set_cons_zero, List.set_cons_succ]
        refine wpAnyH_take (i := 1) (v := ?v10) rfl (by kernel_rfl) (by kernel_rfl) (by kernel_rfl) (fun _ _ _ h => h) (Or.inl ⟨by rfl, ?hy10⟩) (by assumption) ?rest10
        case hy10 => (intro wz hSw; (try dsimp only at hSw); first | (go_simp; done) | (go_simp; with_reducible rfl))
        try simp only [Act.put, List.getElem_toArray, List.getElem_cons_succ, List.getElem_cons_zero, List.setIfInBounds_toArray, List.set_cons_zero, List.set_cons_succ]
        refine wpAnyH_take (i := 2) (v := ?v11) rfl (by kernel_rfl) (by kernel_rfl) (by kernel_rfl) (fun _ _ _ h => h) (Or.inl ⟨by rfl, ?hy11⟩) (by assumption) ?rest11
        case hy11 => (intro wz hSw; (try dsimp only at hSw); first | (go_simp; done) | (go_simp; with_reducible rfl))
        try simp only [Act.put, List.getElem_toArray, List.getElem_cons_succ, List.getElem_cons_zero, List.setIfInBounds_toArray, List.set_cons_zero, List.set_cons_succ]
        refine wpAnyH_ready (rs := [3]) (by kernel_rfl) (by simp) ?_
        refine AllReadyH.cons (o := _) rfl (fun K hK => ?_) AllReadyH.nil
        go_simp
        refine (SCo.out _).mono ?_
        rintro e x1 ⟨rfl, g⟩
        try dsimp only
        replace GZ := Lib.hid (gb_trans GZ.out g)
        replace BA := Lib.hid (BA.out.keep0 g)
        replace CC := Lib.hid (CC.out.keep0 g)
        clear g
        refine hK.out _ _ (KT.out _ BA.out) (fun hH1 => ?_)
        clear hK K hH0
        try simp only [Act.put, List.getElem_toArray, List.getElem_cons_succ, List.getElem_cons_zero, List.setIfInBounds_toArray, List.set_cons_zero, List.set_cons_succ]
        refine wpAnyH_ready (rs := [4]) (by kernel_rfl) (by simp) ?_
        refine AllReadyH.cons (o := _) rfl (fun K hK => ?_) AllReadyH.nil
        go_simp
        refine (CKa.out _ GZ.out).mono ?_
        rintro e x2 ⟨rfl, g⟩
        try dsimp only
        replace GZ := Lib.hid (gb_trans GZ.out g)
        replace BA := Lib.hid (BA.out.keep0 g)
        replace CC := Lib.hid (CC.out.keep0 g)
        clear g
        refine hK.out _ _ (KT.out _ BA.out) (fun hH2 => ?_)
        clear hK K hH1
        try simp only [Act.put, List.getElem_toArray, List.getElem_cons_succ, List.getElem_cons_zero, List.setIfInBounds_toArray, List.set_cons_zero, List.set_cons_succ]
        refine wpAnyH_take (i := 5) (v := ?v12) rfl (by kernel_rfl) (by kernel_rfl) (by kernel_rfl) (fun _ _ _ h => h) (Or.inl ⟨by rfl, ?hy12⟩) (by assumption) ?rest12
        case hy12 => (intro wz hSw; (try dsimp only at hSw); first | (go_simp; done) | (go_simp; with_reducible rfl))
        try simp only [Act.put, List.getElem_toArray, List.getElem_cons_succ, List.getElem_cons_zero, List.setIfInBounds_toArray, List.set_cons_zero, List.set_cons_succ]
        refine wpAnyH_take (i := 6) (v := ?v13) rfl (by kernel_rfl) (by kernel_rfl) (by kernel_rfl) (fun _ _ _ h => h) (Or.inl ⟨by rfl, ?hy13⟩) (by assumption) ?rest13
        case hy13 => (intro wz hSw; (try dsimp only at hSw); first | (go_simp; done) | (go_simp; with_reducible rfl))
        try simp only [Act.put, List.getElem_toArray, List.getElem_cons_succ, List.getElem_cons_zero, List.setIfInBounds_toArray, List.set_cons_zero, List.set_cons_succ]
        refine wpAnyH_take (i := 7) (v := ?v14) rfl (by kernel_rfl) (by kernel_rfl) (by kernel_rfl) (fun _ _ _ h => h) (Or.inl ⟨by rfl, ?hy14⟩) (by assumption) ?rest14
        case hy14 => (intro wz hSw; (try dsimp only at hSw); first | (go_simp; done) | (go_simp; with_reducible rfl))
        try simp only [Act.put, List.getElem_toArray, List.getElem_cons_succ, List.getElem_cons_zero, List.setIfInBounds_toArray, List.set_cons_zero, List.set_cons_succ]
        refine wpAnyH_take (i := 8) (v := ?v15) rfl (by kernel_rfl) (by kernel_rfl) (by kernel_rfl) (fun _ _ _ h => h) (Or.inl ⟨by rfl, ?hy15⟩) (by assumption) ?rest15
        case hy15 => (intro wz hSw; (try dsimp only at hSw); first | (go_simp; done) | (go_simp; with_reducible rfl))
        try simp only [Act.put, List.getElem_toArray, List.getElem_cons_succ, List.getElem_cons_zero, List.setIfInBounds_toArray, List.set_cons_zero, List.set_cons_succ]
        refine wpAnyH_take (i := 9) (v := ?v16) rfl (by kernel_rfl) (by kernel_rfl) (by kernel_rfl) (fun _ _ _ h => h) (Or.inl ⟨by rfl, ?hy16⟩) (by assumption) ?rest16
        case hy16 => (intro wz hSw; (try dsimp only at hSw); first | (go_simp; done) | (go_simp; with_reducible rfl))
        try simp only [Act.put, List.getElem_toArray, List.getElem_cons_succ, List.getElem_cons_zero, List.setIfInBounds_toArray, List.set_cons_zero, List.set_cons_succ]
        refine wpAnyH_done (by kernel_rfl) ?_ _
        clear hH2 KT
        go_wp2_with fail
        refine (AW.out _).mono ?_
        rintro e x3 ⟨rfl, g⟩
        replace GZ := Lib.hid (gb_trans GZ.out g)
        replace BA := Lib.hid (BA.out.keep0 g)
        replace CC := Lib.hid (CC.out.keep0 g)
        clear g
        go_wp2
        go_ret
        exact ⟨rfl, GZ.out⟩
    · have ha2 : ¬ at_ < 0 := by omega
      as_aux_lemma =>
        have KT := Lib.hid (fun (w' : World) (h : IsB w' A 40 #[.string X.nm, .slice X.ha X.hn X.hc, .slice X.ma X.mn X.mc, .slice X.a0 X.n0 X.c0, .slice X.a1 X.n1 X.c1, .slice X.a2 X.n2 X.c2, .slice X.a3 X.n3 X.c3, .slice X.a4 X.n4 X.c4, .slice X.a5 X.n5 X.c5, .slice X.pa X.pn X.pc, .slice X.na X.nn X.nc, .slice X.va X.vn X.vc, .slice X.fa X.fn X.fc, .slice X.ta X.tn X.tc, .slice X.la X.ln X.lc, .slice X.aa X.an X.ac]) => (⟨h.cell 0, h.cell 1, h.cell 2, h.cell 3, h.cell 4, h.cell 5, h.cell 6, h.cell 7, h.cell 8, h.cell 9, h.cell 10, h.cell 11, h.cell 12, h.cell 13, h.cell 14, h.cell 15, trivial⟩ : (fun w' : World => w'.cell? ⟨A, 0, none⟩ = some (.string X.nm) ∧ w'.cell? ⟨A, 1, none⟩ = some (.slice X.ha X.hn X.hc) ∧ w'.cell? ⟨A, 2, none⟩ = some (.slice X.ma X.mn X.mc) ∧ w'.cell? ⟨A, 3, none⟩ = some (.slice X.a0 X.n0 X.c0) ∧ w'.cell? ⟨A, 4, none⟩ = some (.slice X.a1 X.n1 X.c1) ∧ w'.cell? ⟨A, 5, none⟩ = some (.slice X.a2 X.n2 X.c2) ∧ w'.cell? ⟨A, 6, none⟩ = some (.slice X.a3 X.n3 X.c3) ∧ w'.cell? ⟨A, 7, none⟩ = some (.slice X.a4 X.n4 X.c4) ∧ w'.cell? ⟨A, 8, none⟩ = some (.slice X.a5 X.n5 X.c5) ∧ w'.cell? ⟨A, 9, none⟩ = some (.slice X.pa X.pn X.pc) ∧ w'.cell? ⟨A, 10, none⟩ = some (.slice X.na X.nn X.nc) ∧ w'.cell? ⟨A, 11, none⟩ = some (.slice X.va X.vn X.vc) ∧ w'.cell? ⟨A, 12, none⟩ = some (.slice X.fa X.fn X.fc) ∧ w'.cell? ⟨A, 13, none⟩ = some (.slice X.ta X.tn X.tc) ∧ w'.cell? ⟨A, 14, none⟩ = some (.slice X.la X.ln X.lc) ∧ w'.cell? ⟨A, 15, none⟩ = some (.slice X.aa X.an X.ac) ∧ True) w'))
        refine wp_region_held_drew (S := (fun w' : World => w'.cell? ⟨A, 0, none⟩ = some (.string X.nm) ∧ w'.cell? ⟨A, 1, none⟩ = some (.slice X.ha X.hn X.hc) ∧ w'.cell? ⟨A, 2, none⟩ = some (.slice X.ma X.mn X.mc) ∧ w'.cell? ⟨A, 3, none⟩ = some (.slice X.a0 X.n0 X.c0) ∧ w'.cell? ⟨A, 4, none⟩ = some (.slice X.a1 X.n1 X.c1) ∧ w'.cell? ⟨A, 5, none⟩ = some (.slice X.a2 X.n2 X.c2) ∧ w'.cell? ⟨A, 6, none⟩ = some (.slice X.a3 X.n3 X.c3) ∧ w'.cell? ⟨A, 7, none⟩ = some (.slice X.a4 X.n4 X.c4) ∧ w'.cell? ⟨A, 8, none⟩ = some (.slice X.a5 X.n5 X.c5) ∧ w'.cell? ⟨A, 9, none⟩ = some (.slice X.pa X.pn X.pc) ∧ w'.cell? ⟨A, 10, none⟩ = some (.slice X.na X.nn X.nc) ∧ w'.cell? ⟨A, 11, none⟩ = some (.slice X.va X.vn X.vc) ∧ w'.cell? ⟨A, 12, none⟩ = some (.slice X.fa X.fn X.fc) ∧ w'.cell? ⟨A, 13, none⟩ = some (.slice X.ta X.tn X.tc) ∧ w'.cell? ⟨A, 14, none⟩ = some (.slice X.la X.ln X.lc) ∧ w'.cell? ⟨A, 15, none⟩ = some (.slice X.aa X.an X.ac) ∧ True)) (by kernel_rfl) (KT.out _ (BA.out.keep0 (gb_drew _ none))) (fun hH0 => ?_)
        have g := gb_drew w1 none
        replace GZ := Lib.hid (gb_trans GZ.out g)
        replace BA := Lib.hid (BA.out.keep0 g)
        replace CC := Lib.hid (CC.out.keep0 g)
        clear g
        refine wpAnyH_take (i := 0) (v := ?v17) rfl (by kernel_rfl) (by kernel_rfl) (by kernel_rfl) (fun _ _ _ h => h) (Or.inl ⟨by rfl, ?hy17⟩) (by assumption) ?rest17
        case hy17 => (intro wz hSw; (try dsimp only at hSw); first | (go_simp; done) | (go_simp; with_reducible rfl))
        try simp only [Act.put, List.getElem_toArray, List.getElem_cons_zero, List.setIfInBounds_toArray, List.set_cons_zero, List.set_cons_succ]
        refine wpAnyH_take (i := 1) (v := ?v18) rfl (by kernel_rfl) (by kernel_rfl) (by kernel_rfl) (fun _ _ _ h => h) (Or.inl ⟨by rfl, ?hy18⟩) (by assumption) ?rest18
        case hy18 => (intro wz hSw; (try dsimp only at hSw); first | (go_simp; done) | (go_simp; with_reducible rfl))
        try simp only [Act.put, List.getElem_toArray, List.getElem_cons_succ, List.getElem_cons_zero, List.setIfInBounds_toArray, List.set_cons_zero, List.set_cons_succ]
        refine wpAnyH_take (i := 2) (v := ?v19) rfl (by kernel_rfl) (by kernel_rfl) (by kernel_rfl) (fun _ _ _ h => h) (Or.inl ⟨by rfl, ?hy19⟩) (by assumption) ?rest19
        case hy19 => (intro wz hSw; (try dsimp only at hSw); first | (go_simp; done) | (go_simp; with_reducible rfl))
        try simp only [Act.put, List.getElem_toArray, List.getElem_cons_succ, List.getElem_cons_zero, List.setIfInBounds_toArray, List.set_cons_zero, List.set_cons_succ]
        refine wpAnyH_ready (rs := [3]) (by kernel_rfl) (by simp) ?_
        refine AllReadyH.cons (o := _) rfl (fun K hK => ?_) AllReadyH.nil
        go_simp
        refine (SCo.out _).mono ?_
        rintro e x1 ⟨rfl, g⟩
        try dsimp only
        replace GZ := Lib.hid (gb_trans GZ.out g)
        replace BA := Lib.hid (BA.out.keep0 g)
        replace CC := Lib.hid (CC.out.keep0 g)
        clear g
        refine hK.out _ _ (KT.out _ BA.out) (fun hH1 => ?_)
        clear hK K hH0
        try simp only [Act.put, List.getElem_toArray, List.getElem_cons_succ, List.getElem_cons_zero, List.setIfInBounds_toArray, List.set_cons_zero, List.set_cons_succ]
        refine wpAnyH_ready (rs := [4]) (by kernel_rfl) (by simp) ?_
        refine AllReadyH.cons (o := _) rfl (fun K hK => ?_) AllReadyH.nil
        go_simp
        refine (CKa.out _ GZ.out).mono ?_
        rintro e x2 ⟨rfl, g⟩
        try dsimp only
        replace GZ := Lib.hid (gb_trans GZ.out g)
        replace BA := Lib.hid (BA.out.keep0 g)
        replace CC := Lib.hid (CC.out.keep0 g)
        clear g
        refine hK.out _ _ (KT.out _ BA.out) (fun hH2 => ?_)
        clear hK K hH1
        try simp only [Act.put, List.getElem_toArray, List.getElem_cons_succ, List.getElem_cons_zero, List.setIfInBounds_toArray, List.set_cons_zero, List.set_cons_succ]
        refine wpAnyH_take (i := 5) (v := ?v20) rfl (by kernel_rfl) (by kernel_rfl) (by kernel_rfl) (fun _ _ _ h => h) (Or.inl ⟨by rfl, ?hy20⟩) (by assumption) ?rest20
        case hy20 => (intro wz hSw; (try dsimp only at hSw); first | (go_simp; done) | (go_simp; with_reducible rfl))
        try simp only [Act.put, List.getElem_toArray, List.getElem_cons_succ, List.getElem_cons_zero, List.setIfInBounds_toArray, List.set_cons_zero, List.set_cons_succ]
        refine wpAnyH_take (i := 6) (v := ?v21) rfl (by kernel_rfl) (by kernel_rfl) (by kernel_rfl) (fun _ _ _ h => h) (Or.inl ⟨by rfl, ?hy21⟩) (by assumption) ?rest21
        case hy21 => (intro wz hSw; (try dsimp only at hSw); first | (go_simp; done) | (go_simp; with_reducible rfl))
        try simp only [Act.put, List.getElem_toArray, List.getElem_cons_succ, List.getElem_cons_zero, List.setIfInBounds_toArray, List.set_cons_zero, List.set_cons_succ]
        refine wpAnyH_take (i := 7) (v := ?v22) rfl (by kernel_rfl) (by kernel_rfl) (by kernel_rfl) (fun _ _ _ h => h) (Or.inl ⟨by rfl, ?hy22⟩) (by assumption) ?rest22
        case hy22 => (intro wz hSw; (try dsimp only at hSw); first | (go_simp; done) | (go_simp; with_reducible rfl))
        try simp only [Act.put, List.getElem_toArray, List.getElem_cons_succ, List.getElem_cons_zero, List.setIfInBounds_toArray, List.set_cons_zero, List.set_cons_succ]
        refine wpAnyH_take (i := 8) (v := ?v23) rfl (by kernel_rfl) (by kernel_rfl) (by kernel_rfl) (fun _ _ _ h => h) (Or.inl ⟨by rfl, ?hy23⟩) (by assumption) ?rest23
        case hy23 => (intro wz hSw; (try dsimp only at hSw); first | (go_simp; done) | (go_simp; with_reducible rfl))
        try simp only [Act.put, List.getElem_toArray, List.getElem_cons_succ, List.getElem_cons_zero, List.setIfInBounds_toArray, List.set_cons_zero, List.set_cons_succ]
        refine wpAnyH_take (i := 9) (v := ?v24) rfl (by kernel_rfl) (by kernel_rfl) (by kernel_rfl) (fun _ _ _ h => h) (Or.inl ⟨by rfl, ?hy24⟩) (by assumption) ?rest24
        case hy24 => (intro wz hSw; (try dsimp only at hSw); first | (go_simp; done) | (go_simp; with_reducible rfl))
        try simp only [Act.put, List.getElem_toArray, List.getElem_cons_succ, List.getElem_cons_zero, List.setIfInBounds_toArray, List.set_cons_zero, List.set_cons_succ]
        refine wpAnyH_done (by kernel_rfl) ?_ _
        clear hH2 KT
        have s0 : x2.cell? ⟨A, 0, none⟩ = some (.string X.nm) := (BA.out).cell 0
        have s1 : x2.cell? ⟨A, 1, none⟩ = some (.slice X.ha X.hn X.hc) := (BA.out).cell 1
        have s2 : x2.cell? ⟨A, 2, none⟩ = some (.slice X.ma X.mn X.mc) := (BA.out).cell 2
        have s3 : x2.cell? ⟨A, 3, none⟩ = some (.slice X.a0 X.n0 X.c0) := (BA.out).cell 3
        have s4 : x2.cell? ⟨A, 4, none⟩ = some (.slice X.a1 X.n1 X.c1) := (BA.out).cell 4
        have s5 : x2.cell? ⟨A, 5, none⟩ = some (.slice X.a2 X.n2 X.c2) := (BA.out).cell 5
        have s6 : x2.cell? ⟨A, 6, none⟩ = some (.slice X.a3 X.n3 X.c3) := (BA.out).cell 6
        have s7 : x2.cell? ⟨A, 7, none⟩ = some (.slice X.a4 X.n4 X.c4) := (BA.out).cell 7
        have s8 : x2.cell? ⟨A, 8, none⟩ = some (.slice X.a5 X.n5 X.c5) := (BA.out).cell 8
        have s9 : x2.cell? ⟨A, 9, none⟩ = some (.slice X.pa X.pn X.pc) := (BA.out).cell 9
        have s10 : x2.cell? ⟨A, 10, none⟩ = some (.slice X.na X.nn X.nc) := (BA.out).cell 10
        have s11 : x2.cell? ⟨A, 11, none⟩ = some (.slice X.va X.vn X.vc) := (BA.out).cell 11
        have s12 : x2.cell? ⟨A, 12, none⟩ = some (.slice X.fa X.fn X.fc) := (BA.out).cell 12
        have s13 : x2.cell? ⟨A, 13, none⟩ = some (.slice X.ta X.tn X.tc) := (BA.out).cell 13
        have s14 : x2.cell? ⟨A, 14, none⟩ = some (.slice X.la X.ln X.lc) := (BA.out).cell 14
        have s15 : x2.cell? ⟨A, 15, none⟩ = some (.slice X.aa X.an X.ac) := (BA.out).cell 15
        go_wp2_with fail
        refine (AW.out _).mono ?_
        rintro e x3 ⟨rfl, g⟩
        replace GZ := Lib.hid (gb_trans GZ.out g)
        replace BA := Lib.hid (BA.out.keep0 g)
        replace CC := Lib.hid (CC.out.keep0 g)
        clear g
        go_wp2
        go_ret
        exact ⟨rfl, GZ.out⟩
    · obtain ⟨j, rfl⟩ := Int.eq_ofNat_of_zero_le ha
      obtain ⟨ad, had⟩ := CC.out.nd.some (show 0 < X.nn by omega)
      obtain ⟨u, te, hE, k1, k2, gu, hW, hV⟩ := repl_whole HR.out j (by rw [NL.out]; omega)
      obtain ⟨uw, uv⟩ := u
      have u32 := gt_u32 gu
      have UW := Lib.hid gu.1
      dsimp only at u32 UW
      have HW := Lib.hid hW
      have HV := Lib.hid (show wholeT C (N.take j ++ ([(1, uv, uw)] ++ N.drop te)) = .ok (tw, tv) from hV)
      clear gu hW hV
      rw [NL.out] at k2
      have HE := Lib.hid hE
      clear hE
      have HD := Lib.hid had
      clear had
      have ha2 : ¬ (j : Int) < 0 := by omega
      have hb2 : ¬ (X.nn : Int) ≤ (j : Int) := by omega
      have KT := Lib.hid (fun (w' : World) (h : IsB w' A 40 #[.string X.nm, .slice X.ha X.hn X.hc, .slice X.ma X.mn X.mc, .slice X.a0 X.n0 X.c0, .slice X.a1 X.n1 X.c1, .slice X.a2 X.n2 X.c2, .slice X.a3 X.n3 X.c3, .slice X.a4 X.n4 X.c4, .slice X.a5 X.n5 X.c5, .slice X.pa X.pn X.pc, .slice X.na X.nn X.nc, .slice X.va X.vn X.vc, .slice X.fa X.fn X.fc, .slice X.ta X.tn X.tc, .slice X.la X.ln X.lc, .slice X.aa X.an X.ac]) => (⟨h.cell 0, h.cell 1, h.cell 2, h.cell 3, h.cell 4, h.cell 5, h.cell 6, h.cell 7, h.cell 8, h.cell 9, h.cell 10, h.cell 11, h.cell 12, h.cell 13, h.cell 14, h.cell 15, trivial⟩ : (fun w' : World => w'.cell? ⟨A, 0, none⟩ = some (.string X.nm) ∧ w'.cell? ⟨A, 1, none⟩ = some (.slice X.ha X.hn X.hc) ∧ w'.cell? ⟨A, 2, none⟩ = some (.slice X.ma X.mn X.mc) ∧ w'.cell? ⟨A, 3, none⟩ = some (.slice X.a0 X.n0 X.c0) ∧ w'.cell? ⟨A, 4, none⟩ = some (.slice X.a1 X.n1 X.c1) ∧ w'.cell? ⟨A, 5, none⟩ = some (.slice X.a2 X.n2 X.c2) ∧ w'.cell? ⟨A, 6, none⟩ = some (.slice X.a3 X.n3 X.c3) ∧ w'.cell? ⟨A, 7, none⟩ = some (.slice X.a4 X.n4 X.c4) ∧ w'.cell? ⟨A, 8, none⟩ = some (.slice X.a5 X.n5 X.c5) ∧ w'.cell? ⟨A, 9, none⟩ = some (.slice X.pa X.pn X.pc) ∧ w'.cell? ⟨A, 10, none⟩ = some (.slice X.na X.nn X.nc) ∧ w'.cell? ⟨A, 11, none⟩ = some (.slice X.va X.vn X.vc) ∧ w'.cell? ⟨A, 12, none⟩ = some (.slice X.fa X.fn X.fc) ∧ w'.cell? ⟨A, 13, none⟩ = some (.slice X.ta X.tn X.tc) ∧ w'.cell? ⟨A, 14, none⟩ = some (.slice X.la X.ln X.lc) ∧ w'.cell? ⟨A, 15, none⟩ = some (.slice X.aa X.an X.ac) ∧ True) w'))
      refine wp_region_held_drew (S := (fun w' : World => w'.cell? ⟨A, 0, none⟩ = some (.string X.nm) ∧ w'.cell? ⟨A, 1, none⟩ = some (.slice X.ha X.hn X.hc) ∧ w'.cell? ⟨A, 2, none⟩ = some (.slice X.ma X.mn X.mc) ∧ w'.cell? ⟨A, 3, none⟩ = some (.slice X.a0 X.n0 X.c0) ∧ w'.cell? ⟨A, 4, none⟩ = some (.slice X.a1 X.n1 X.c1) ∧ w'.cell? ⟨A, 5, none⟩ = some (.slice X.a2 X.n2 X.c2) ∧ w'.cell? ⟨A, 6, none⟩ = some (.slice X.a3 X.n3 X.c3) ∧ w'.cell? ⟨A, 7, none⟩ = some (.slice X.a4 X.n4 X.c4) ∧ w'.cell? ⟨A, 8, none⟩ = some (.slice X.a5 X.n5 X.c5) ∧ w'.cell? ⟨A, 9, none⟩ = some (.slice X.pa X.pn X.pc) ∧ w'.cell? ⟨A, 10, none⟩ = some (.slice X.na X.nn X.nc) ∧ w'.cell? ⟨A, 11, none⟩ = some (.slice X.va X.vn X.vc) ∧ w'.cell? ⟨A, 12, none⟩ = some (.slice X.fa X.fn X.fc) ∧ w'.cell? ⟨A, 13, none⟩ = some (.slice X.ta X.tn X.tc) ∧ w'.cell? ⟨A, 14, none⟩ = some (.slice X.la X.ln X.lc) ∧ w'.cell? ⟨A, 15, none⟩ = some (.slice X.aa X.an X.ac) ∧ True)) (by kernel_rfl) (KT.out _ (BA.out.keep0 (gb_drew _ none))) (fun hH0 => ?_)
      have g := gb_drew w1 none
      replace GZ := Lib.hid (gb_trans GZ.out g)
      replace BA := Lib.hid (BA.out.keep0 g)
      replace CC := Lib.hid (CC.out.keep0 g)
      clear g
      refine wpAnyH_take (i := 0) (v := ?v25) rfl (by kernel_rfl) (by kernel_rfl) (by kernel_rfl) (fun _ _ _ h => h) (Or.inl ⟨by rfl, ?hy25⟩) (by assumption) ?rest25
      case hy25 => (intro wz hSw; (try dsimp only at hSw); first | (go_simp; done) | (go_simp; with_reducible rfl))
      try simp only [Act.put, List.getElem_toArray, List.getElem_cons_zero, List.setIfInBounds_toArray, List.set_cons_zero, List.set_cons_succ]
      refine wpAnyH_take (i := 1) (v := ?v26) rfl (by kernel_rfl) (by kernel_rfl) (by kernel_rfl) (fun _ _ _ h => h) (Or.inl ⟨by rfl, ?hy26⟩) (by assumption) ?rest26
      case hy26 => (intro wz hSw; (try dsimp only at hSw); first | (go_simp; done) | (go_simp; with_reducible rfl))
      try simp only [Act.put, List.getElem_toArray, List.getElem_cons_succ, List.getElem_cons_zero, List.setIfInBounds_toArray, List.set_cons_zero, List.set_cons_succ]
      refine wpAnyH_take (i := 2) (v := ?v27) rfl (by kernel_rfl) (by kernel_rfl) (by kernel_rfl) (fun _ _ _ h => h) (Or.inl ⟨by rfl, ?hy27⟩) (by assumption) ?rest27
      case hy27 => (intro wz hSw; (try dsimp only at hSw); first | (go_simp; done) | (go_simp; with_reducible rfl))
      try simp only [Act.put, List.getElem_toArray, List.getElem_cons_succ, List.getElem_cons_zero, List.setIfInBounds_toArray, List.set_cons_zero, List.set_cons_succ]
      refine wpAnyH_ready (rs := [3]) (by kernel_rfl) (by simp) ?_
      refine AllReadyH.cons (o := _) rfl (fun K hK => ?_) AllReadyH.nil
      go_simp
      refine (SCo.out _).mono ?_
      rintro e x1 ⟨rfl, g⟩
      try dsimp only
      replace GZ := Lib.hid (gb_trans GZ.out g)
      replace BA := Lib.hid (BA.out.keep0 g)
      replace CC := Lib.hid (CC.out.keep0 g)
      clear g
      refine hK.out _ _ (KT.out _ BA.out) (fun hH1 => ?_)
      clear hK K hH0
      try simp only [Act.put, List.getElem_toArray, List.getElem_cons_succ, List.getElem_cons_zero, List.setIfInBounds_toArray, List.set_cons_zero, List.set_cons_succ]
      refine wpAnyH_ready (rs := [4]) (by kernel_rfl) (by simp) ?_
      refine AllReadyH.cons (o := _) rfl (fun K hK => ?_) AllReadyH.nil
      go_simp
      refine (CKa.out _ GZ.out).mono ?_
      rintro e x2 ⟨rfl, g⟩
      try dsimp only
      replace GZ := Lib.hid (gb_trans GZ.out g)
      replace BA := Lib.hid (BA.out.keep0 g)
      replace CC := Lib.hid (CC.out.keep0 g)
      clear g
      refine hK.out _ _ (KT.out _ BA.out) (fun hH2 => ?_)
      clear hK K hH1
      try simp only [Act.put, List.getElem_toArray, List.getElem_cons_succ, List.getElem_cons_zero, List.setIfInBounds_toArray, List.set_cons_zero, List.set_cons_succ]
      refine wpAnyH_take (i := 5) (v := ?v28) rfl (by kernel_rfl) (by kernel_rfl) (by kernel_rfl) (fun _ _ _ h => h) (Or.inl ⟨by rfl, ?hy28⟩) (by assumption) ?rest28
      case hy28 => (intro wz hSw; (try dsimp only at hSw); first | (go_simp; done) | (go_simp; with_reducible rfl))
      try simp only [Act.put, List.getElem_toArray, List.getElem_cons_succ, List.getElem_cons_zero, List.setIfInBounds_toArray, List.set_cons_zero, List.set_cons_succ]
      refine wpAnyH_take (i := 6) (v := ?v29) rfl (by kernel_rfl) (by kernel_rfl) (by kernel_rfl) (fun _ _ _ h => h) (Or.inl ⟨by rfl, ?hy29⟩) (by assumption) ?rest29
      case hy29 => (intro wz hSw; (try dsimp only at hSw); first | (go_simp; done) | (go_simp; with_reducible rfl))
      try simp only [Act.put, List.getElem_toArray, List.getElem_cons_succ, List.getElem_cons_zero, List.setIfInBounds_toArray, List.set_cons_zero, List.set_cons_succ]
      refine wpAnyH_take (i := 7) (v := ?v30) rfl (by kernel_rfl) (by kernel_rfl) (by kernel_rfl) (fun _ _ _ h => h) (Or.inl ⟨by rfl, ?hy30⟩) (by assumption) ?rest30
      case hy30 => (intro wz hSw; (try dsimp only at hSw); first | (go_simp; done) | (go_simp; with_reducible rfl))
      try simp only [Act.put, List.getElem_toArray, List.getElem_cons_succ, List.getElem_cons_zero, List.setIfInBounds_toArray, List.set_cons_zero, List.set_cons_succ]
      refine wpAnyH_take (i := 8) (v := ?v31) rfl (by kernel_rfl) (by kernel_rfl) (by kernel_rfl) (fun _ _ _ h => h) (Or.inl ⟨by rfl, ?hy31⟩) (by assumption) ?rest31
      case hy31 => (intro wz hSw; (try dsimp only at hSw); first | (go_simp; done) | (go_simp; with_reducible rfl))
      try simp only [Act.put, List.getElem_toArray, List.getElem_cons_succ, List.getElem_cons_zero, List.setIfInBounds_toArray, List.set_cons_zero, List.set_cons_succ]
      refine wpAnyH_take (i := 9) (v := ?v32) rfl (by kernel_rfl) (by kernel_rfl) (by kernel_rfl) (fun _ _ _ h => h) (Or.inl ⟨by rfl, ?hy32⟩) (by assumption) ?rest32
      case hy32 => (intro wz hSw; (try dsimp only at hSw); first | (go_simp; done) | (go_simp; with_reducible rfl))
      try simp only [Act.put, List.getElem_toArray, List.getElem_cons_succ, List.getElem_cons_zero, List.setIfInBounds_toArray, List.set_cons_zero, List.set_cons_succ]
      refine wpAnyH_done (by kernel_rfl) ?_ _
      clear hH2 KT
      have had := HD.out
      rw [had] at SCo
      replace BA := Lib.hid (show IsB x2 A 40 #[.string X.nm, .slice X.ha X.hn X.hc, .slice X.ma X.mn X.mc, .slice X.a0 X.n0 X.c0, .slice X.a1 X.n1 X.c1, .slice X.a2 X.n2 X.c2, .slice X.a3 X.n3 X.c3, .slice X.a4 X.n4 X.c4, .slice X.a5 X.n5 X.c5, .slice X.pa X.pn X.pc, .slice (some ad) X.nn X.nc, .slice X.va X.vn X.vc, .slice X.fa X.fn X.fc, .slice X.ta X.tn X.tc, .slice X.la X.ln X.lc, .slice X.aa X.an X.ac] from by rw [← had]; exact BA.out)
      have SD := Lib.hid (show SN x2 (some ad) X.nn X.nc N from by rw [← had]; exact CC.out.nd)
      clear had
      have EN := Lib.hid (fun (w2 : World) (h : SN w2 (some ad) X.nn X.nc N) => kend_any w2 (some ad) X.nn X.nc N h (by have := N1.out; omega) (j : Int))
      rw [HE.out] at EN
      unfold RetV at EN
      have k3 : ¬ ((te : Int) ≤ (j : Int)) := by omega
      have k4 : ¬ ((X.nn : Int) < (te : Int)) := by omega
      have s0 : x2.cell? ⟨A, 0, none⟩ = some (.string X.nm) := (BA.out).cell 0
      have s1 : x2.cell? ⟨A, 1, none⟩ = some (.slice X.ha X.hn X.hc) := (BA.out).cell 1
      have s2 : x2.cell? ⟨A, 2, none⟩ = some (.slice X.ma X.mn X.mc) := (BA.out).cell 2
      have s3 : x2.cell? ⟨A, 3, none⟩ = some (.slice X.a0 X.n0 X.c0) := (BA.out).cell 3
      have s4 : x2.cell? ⟨A, 4, none⟩ = some (.slice X.a1 X.n1 X.c1) := (BA.out).cell 4
      have s5 : x2.cell? ⟨A, 5, none⟩ = some (.slice X.a2 X.n2 X.c2) := (BA.out).cell 5
      have s6 : x2.cell? ⟨A, 6, none⟩ = some (.slice X.a3 X.n3 X.c3) := (BA.out).cell 6
      have s7 : x2.cell? ⟨A, 7, none⟩ = some (.slice X.a4 X.n4 X.c4) := (BA.out).cell 7
      have s8 : x2.cell? ⟨A, 8, none⟩ = some (.slice X.a5 X.n5 X.c5) := (BA.out).cell 8
      have s9 : x2.cell? ⟨A, 9, none⟩ = some (.slice X.pa X.pn X.pc) := (BA.out).cell 9
      have s10 : x2.cell? ⟨A, 10, none⟩ = some (.slice (some ad) X.nn X.nc) := (BA.out).cell 10
      have s11 : x2.cell? ⟨A, 11, none⟩ = some (.slice X.va X.vn X.vc) := (BA.out).cell 11
      have s12 : x2.cell? ⟨A, 12, none⟩ = some (.slice X.fa X.fn X.fc) := (BA.out).cell 12
      have s13 : x2.cell? ⟨A, 13, none⟩ = some (.slice X.ta X.tn X.tc) := (BA.out).cell 13
      have s14 : x2.cell? ⟨A, 14, none⟩ = some (.slice X.la X.ln X.lc) := (BA.out).cell 14
      have s15 : x2.cell? ⟨A, 15, none⟩ = some (.slice X.aa X.an X.ac) := (BA.out).cell 15
      go_wp2_with fail
      refine (EN.out _ SD.out).mono ?_
      rintro e x3 ⟨rfl, g⟩
      replace GZ := Lib.hid (gb_trans GZ.out g)
      replace BA := Lib.hid (BA.out.keep0 g)
      replace CC := Lib.hid (CC.out.keep0 g)
      replace SD := Lib.hid (SD.out.keep0 g)
      clear s0 s1 s2 s3 s4 s5 s6 s7 s8 s9 s10 s11 s12 s13 s14 s15
      clear g
      have i0 : (0 : Int) ≤ (j : Int) := by omega
      have i1 : (j : Int) ≤ (te : Int) := by omega
      have i2 : ¬ j = X.nc := by omega
      have i3 : (te : Int) ≤ (X.nc : Int) := by omega
      have i4 : (j : Int) ≤ (X.nc : Int) := by omega
      have s0 : x3.cell? ⟨A, 0, none⟩ = some (.string X.nm) := (BA.out).cell 0
      have s1 : x3.cell? ⟨A, 1, none⟩ = some (.slice X.ha X.hn X.hc) := (BA.out).cell 1
      have s2 : x3.cell? ⟨A, 2, none⟩ = some (.slice X.ma X.mn X.mc) := (BA.out).cell 2
      have s3 : x3.cell? ⟨A, 3, none⟩ = some (.slice X.a0 X.n0 X.c0) := (BA.out).cell 3
      have s4 : x3.cell? ⟨A, 4, none⟩ = some (.slice X.a1 X.n1 X.c1) := (BA.out).cell 4
      have s5 : x3.cell? ⟨A, 5, none⟩ = some (.slice X.a2 X.n2 X.c2) := (BA.out).cell 5
      have s6 : x3.cell? ⟨A, 6, none⟩ = some (.slice X.a3 X.n3 X.c3) := (BA.out).cell 6
      have s7 : x3.cell? ⟨A, 7, none⟩ = some (.slice X.a4 X.n4 X.c4) := (BA.out).cell 7
      have s8 : x3.cell? ⟨A, 8, none⟩ = some (.slice X.a5 X.n5 X.c5) := (BA.out).cell 8
      have s9 : x3.cell? ⟨A, 9, none⟩ = some (.slice X.pa X.pn X.pc) := (BA.out).cell 9
      have s10 : x3.cell? ⟨A, 10, none⟩ = some (.slice (some ad) X.nn X.nc) := (BA.out).cell 10
      have s11 : x3.cell? ⟨A, 11, none⟩ = some (.slice X.va X.vn X.vc) := (BA.out).cell 11
      have s12 : x3.cell? ⟨A, 12, none⟩ = some (.slice X.fa X.fn X.fc) := (BA.out).cell 12
      have s13 : x3.cell? ⟨A, 13, none⟩ = some (.slice X.ta X.tn X.tc) := (BA.out).cell 13
      have s14 : x3.cell? ⟨A, 14, none⟩ = some (.slice X.la X.ln X.lc) := (BA.out).cell 14
      have s15 : x3.cell? ⟨A, 15, none⟩ = some (.slice X.aa X.an X.ac) := (BA.out).cell 15
      go_wp2_with fail
      clear s0 s1 s2 s3 s4 s5 s6 s7 s8 s9 s10 s11 s12 s13 s14 s15
      have SP := Lib.hid (sn_pre (sn_drop SD.out j (by omega)) (te - j) (by omega))
      refine (join2_any _ _ _ _ _ _ _ _ _ _ _ _ _ SP.out (sn_nil _) (sn_nil _) (by have := N1.out; omega) (by decide) (by decide)).mono ?_
      rintro e x4 ⟨ap, np, cp, rfl, Sp, g⟩
      replace GZ := Lib.hid (gb_trans GZ.out g)
      replace BA := Lib.hid (BA.out.keep0 g)
      replace CC := Lib.hid (CC.out.keep0 g)
      replace SD := Lib.hid (SD.out.keep0 g)
      clear g
      replace Sp := Lib.hid Sp
      clear SP
      have HW2 := Lib.hid (show wholeT C ((N.drop j).take (te - j) ++ ([] ++ [])) = .ok (uw, uv) by simpa using HW.out)
      have s0 : x4.cell? ⟨A, 0, none⟩ = some (.string X.nm) := (BA.out).cell 0
      have s1 : x4.cell? ⟨A, 1, none⟩ = some (.slice X.ha X.hn X.hc) := (BA.out).cell 1
      have s2 : x4.cell? ⟨A, 2, none⟩ = some (.slice X.ma X.mn X.mc) := (BA.out).cell 2
      have s3 : x4.cell? ⟨A, 3, none⟩ = some (.slice X.a0 X.n0 X.c0) := (BA.out).cell 3
      have s4 : x4.cell? ⟨A, 4, none⟩ = some (.slice X.a1 X.n1 X.c1) := (BA.out).cell 4
      have s5 : x4.cell? ⟨A, 5, none⟩ = some (.slice X.a2 X.n2 X.c2) := (BA.out).cell 5
      have s6 : x4.cell? ⟨A, 6, none⟩ = some (.slice X.a3 X.n3 X.c3) := (BA.out).cell 6
      have s7 : x4.cell? ⟨A, 7, none⟩ = some (.slice X.a4 X.n4 X.c4) := (BA.out).cell 7
      have s8 : x4.cell? ⟨A, 8, none⟩ = some (.slice X.a5 X.n5 X.c5) := (BA.out).cell 8
      have s9 : x4.cell? ⟨A, 9, none⟩ = some (.slice X.pa X.pn X.pc) := (BA.out).cell 9
      have s10 : x4.cell? ⟨A, 10, none⟩ = some (.slice (some ad) X.nn X.nc) := (BA.out).cell 10
      have s11 : x4.cell? ⟨A, 11, none⟩ = some (.slice X.va X.vn X.vc) := (BA.out).cell 11
      have s12 : x4.cell? ⟨A, 12, none⟩ = some (.slice X.fa X.fn X.fc) := (BA.out).cell 12
      have s13 : x4.cell? ⟨A, 13, none⟩ = some (.slice X.ta X.tn X.tc) := (BA.out).cell 13
      have s14 : x4.cell? ⟨A, 14, none⟩ = some (.slice X.la X.ln X.lc) := (BA.out).cell 14
      have s15 : x4.cell? ⟨A, 15, none⟩ = some (.slice X.aa X.an X.ac) := (BA.out).cell 15
      go_wp2_with fail
      refine (SCo.out _).mono ?_
      rintro e x5 ⟨rfl, g⟩
      replace GZ := Lib.hid (gb_trans GZ.out g)
      replace BA := Lib.hid (BA.out.keep0 g)
      replace CC := Lib.hid (CC.out.keep0 g)
      replace SD := Lib.hid (SD.out.keep0 g)
      replace Sp := Lib.hid (Sp.out.keep0 g)
      clear s0 s1 s2 s3 s4 s5 s6 s7 s8 s9 s10 s11 s12 s13 s14 s15
      clear g
      go_wp2_with fail
      refine (check_sn _ X C N CC.out _ _ _ _ Sp.out uw uv HW2.out).mono ?_
      rintro e x6 ⟨rfl, g⟩
      replace GZ := Lib.hid (gb_trans GZ.out g)
      replace BA := Lib.hid (BA.out.keep0 g)
      replace CC := Lib.hid (CC.out.keep0 g)
      replace SD := Lib.hid (SD.out.keep0 g)
      replace Sp := Lib.hid (Sp.out.keep0 g)
      clear g
      go_upto_region 13 with fail
      have KT := Lib.hid (fun (w' : World) (h : IsB w' A 40 #[.string X.nm, .slice X.ha X.hn X.hc, .slice X.ma X.mn X.mc, .slice X.a0 X.n0 X.c0, .slice X.a1 X.n1 X.c1, .slice X.a2 X.n2 X.c2, .slice X.a3 X.n3 X.c3, .slice X.a4 X.n4 X.c4, .slice X.a5 X.n5 X.c5, .slice X.pa X.pn X.pc, .slice (some ad) X.nn X.nc, .slice X.va X.vn X.vc, .slice X.fa X.fn X.fc, .slice X.ta X.tn X.tc, .slice X.la X.ln X.lc, .slice X.aa X.an X.ac]) => (⟨h.cell 0, h.cell 1, h.cell 2, h.cell 3, h.cell 4, h.cell 5, h.cell 6, h.cell 7, h.cell 8, h.cell 9, h.cell 10, h.cell 11, h.cell 12, h.cell 13, h.cell 14, h.cell 15, trivial⟩ : (fun w' : World => w'.cell? ⟨A, 0, none⟩ = some (.string X.nm) ∧ w'.cell? ⟨A, 1, none⟩ = some (.slice X.ha X.hn X.hc) ∧ w'.cell? ⟨A, 2, none⟩ = some (.slice X.ma X.mn X.mc) ∧ w'.cell? ⟨A, 3, none⟩ = some (.slice X.a0 X.n0 X.c0) ∧ w'.cell? ⟨A, 4, none⟩ = some (.slice X.a1 X.n1 X.c1) ∧ w'.cell? ⟨A, 5, none⟩ = some (.slice X.a2 X.n2 X.c2) ∧ w'.cell? ⟨A, 6, none⟩ = some (.slice X.a3 X.n3 X.c3) ∧ w'.cell? ⟨A, 7, none⟩ = some (.slice X.a4 X.n4 X.c4) ∧ w'.cell? ⟨A, 8, none⟩ = some (.slice X.a5 X.n5 X.c5) ∧ w'.cell? ⟨A, 9, none⟩ = some (.slice X.pa X.pn X.pc) ∧ w'.cell? ⟨A, 10, none⟩ = some (.slice (some ad) X.nn X.nc) ∧ w'.cell? ⟨A, 11, none⟩ = some (.slice X.va X.vn X.vc) ∧ w'.cell? ⟨A, 12, none⟩ = some (.slice X.fa X.fn X.fc) ∧ w'.cell? ⟨A, 13, none⟩ = some (.slice X.ta X.tn X.tc) ∧ w'.cell? ⟨A, 14, none⟩ = some (.slice X.la X.ln X.lc) ∧ w'.cell? ⟨A, 15, none⟩ = some (.slice X.aa X.an X.ac) ∧ True) w'))
      refine wp_region_held_drew (S := (fun w' : World => w'.cell? ⟨A, 0, none⟩ = some (.string X.nm) ∧ w'.cell? ⟨A, 1, none⟩ = some (.slice X.ha X.hn X.hc) ∧ w'.cell? ⟨A, 2, none⟩ = some (.slice X.ma X.mn X.mc) ∧ w'.cell? ⟨A, 3, none⟩ = some (.slice X.a0 X.n0 X.c0) ∧ w'.cell? ⟨A, 4, none⟩ = some (.slice X.a1 X.n1 X.c1) ∧ w'.cell? ⟨A, 5, none⟩ = some (.slice X.a2 X.n2 X.c2) ∧ w'.cell? ⟨A, 6, none⟩ = some (.slice X.a3 X.n3 X.c3) ∧ w'.cell? ⟨A, 7, none⟩ = some (.slice X.a4 X.n4 X.c4) ∧ w'.cell? ⟨A, 8, none⟩ = some (.slice X.a5 X.n5 X.c5) ∧ w'.cell? ⟨A, 9, none⟩ = some (.slice X.pa X.pn X.pc) ∧ w'.cell? ⟨A, 10, none⟩ = some (.slice (some ad) X.nn X.nc) ∧ w'.cell? ⟨A, 11, none⟩ = some (.slice X.va X.vn X.vc) ∧ w'.cell? ⟨A, 12, none⟩ = some (.slice X.fa X.fn X.fc) ∧ w'.cell? ⟨A, 13, none⟩ = some (.slice X.ta X.tn X.tc) ∧ w'.cell? ⟨A, 14, none⟩ = some (.slice X.la X.ln X.lc) ∧ w'.cell? ⟨A, 15, none⟩ = some (.slice X.aa X.an X.ac) ∧ True)) (by kernel_rfl) (KT.out _ (BA.out.keep0 (gb_drew _ none))) (fun hH0 => ?_)
      have g := gb_drew x6 none
      replace GZ := Lib.hid (gb_trans GZ.out g)
      replace BA := Lib.hid (BA.out.keep0 g)
      replace CC := Lib.hid (CC.out.keep0 g)
      replace SD := Lib.hid (SD.out.keep0 g)
      replace Sp := Lib.hid (Sp.out.keep0 g)
      clear g
      refine wpAnyH_take (i := 0) (v := ?v33) rfl (by kernel_rfl) (by kernel_rfl) (by kernel_rfl) (fun _ _ _ h => h) (Or.inl ⟨by rfl, ?hy33⟩) (by assumption) ?rest33
      case hy33 => (intro wz hSw; (try dsimp only at hSw); first | (go_simp; done) | (go_simp; with_reducible rfl))
      try simp only [Act.put, List.getElem_toArray, List.getElem_cons_zero, List.setIfInBounds_toArray, List.set_cons_zero, List.set_cons_succ]
      refine wpAnyH_take (i := 1) (v := ?v34) rfl (by kernel_rfl) (by kernel_rfl) (by kernel_rfl) (fun _ _ _ h => h) (Or.inl ⟨by rfl, ?hy34⟩) (by assumption) ?rest34
      case hy34 => (intro wz hSw; (try dsimp only at hSw); first | (go_simp; done) | (go_simp; with_reducible rfl))
      try simp only [Act.put, List.getElem_toArray, List.getElem_cons_succ, List.getElem_cons_zero, List.setIfInBounds_toArray, List.set_cons_zero, List.set_cons_succ]
      refine wpAnyH_take (i := 3) (v := ?v35) rfl (by kernel_rfl) (by kernel_rfl) (by kernel_rfl) (fun _ _ _ h => h) (Or.inl ⟨by rfl, ?hy35⟩) (by assumption) ?rest35
      case hy35 => (intro wz hSw; (try dsimp only at hSw); first | (go_simp; done) | (go_simp; with_reducible rfl))
      try simp only [Act.put, List.getElem_toArray, List.getElem_cons_succ, List.getElem_cons_zero, List.setIfInBounds_toArray, List.set_cons_zero, List.set_cons_succ]
      refine wpAnyH_take (i := 4) (v := ?v36) rfl (by kernel_rfl) (by kernel_rfl) (by kernel_rfl) (fun _ _ _ h => h) (Or.inl ⟨by rfl, ?hy36⟩) (by assumption) ?rest36
      case hy36 => (intro wz hSw; (try dsimp only at hSw); first | (go_simp; done) | (go_simp; with_reducible rfl))
      try simp only [Act.put, List.getElem_toArray, List.getElem_cons_succ, List.getElem_cons_zero, List.setIfInBounds_toArray, List.set_cons_zero, List.set_cons_succ]
      refine wpAnyH_take (i := 5) (v := ?v37) rfl (by kernel_rfl) (by kernel_rfl) (by kernel_rfl) (fun _ _ _ h => h) (Or.inl ⟨by rfl, ?hy37⟩) (by assumption) ?rest37
      case hy37 => (intro wz hSw; (try dsimp only at hSw); first | (go_simp; done) | (go_simp; with_reducible rfl))
      try simp only [Act.put, List.getElem_toArray, List.getElem_cons_succ, List.getElem_cons_zero, List.setIfInBounds_toArray, List.set_cons_zero, List.set_cons_succ]
      refine wpAnyH_take (i := 6) (v := ?v38) rfl (by kernel_rfl) (by kernel_rfl) (by kernel_rfl) (fun _ _ _ h => h) (Or.inl ⟨by rfl, ?hy38⟩) (by assumption) ?rest38
      case hy38 => (intro wz hSw; (try dsimp only at hSw); first | (go_simp; done) | (go_simp; with_reducible rfl))
      try simp only [Act.put, List.getElem_toArray, List.getElem_cons_succ, List.getElem_cons_zero, List.setIfInBounds_toArray, List.set_cons_zero, List.set_cons_succ]
      refine wpAnyH_ready (rs := [2]) (by kernel_rfl) (by simp) ?_
      refine AllReadyH.cons (o := _) rfl (fun K hK => ?_) AllReadyH.nil
      go_simp
      refine (SCo.out _).mono ?_
      rintro e x7 ⟨rfl, g⟩
      try dsimp only
      replace GZ := Lib.hid (gb_trans GZ.out g)
      replace BA := Lib.hid (BA.out.keep0 g)
      replace CC := Lib.hid (CC.out.keep0 g)
      replace SD := Lib.hid (SD.out.keep0 g)
      replace Sp := Lib.hid (Sp.out.keep0 g)
      clear g
      refine hK.out _ _ (KT.out _ BA.out) (fun hH1 => ?_)
      clear hK K hH0
      try simp only [Act.put, List.getElem_toArray, List.getElem_cons_succ, List.getElem_cons_zero, List.setIfInBounds_toArray, List.set_cons_zero, List.set_cons_succ]
      refine wpAnyH_ready (rs := [7]) (by kernel_rfl) (by simp) ?_
      refine AllReadyH.cons (o := _) rfl (fun K hK => ?_) AllReadyH.nil
      go_simp
      refine (eval_sn _ X C N CC.out _ _ _ _ Sp.out uw uv HW2.out).mono ?_
      rintro e x8 ⟨rfl, g⟩
      try dsimp only
      replace GZ := Lib.hid (gb_trans GZ.out g)
      replace BA := Lib.hid (BA.out.keep0 g)
      replace CC := Lib.hid (CC.out.keep0 g)
      replace SD := Lib.hid (SD.out.keep0 g)
      replace Sp := Lib.hid (Sp.out.keep0 g)
      clear g
      refine hK.out _ _ (KT.out _ BA.out) (fun hH2 => ?_)
      clear hK K hH1
      try simp only [Act.put, List.getElem_toArray, List.getElem_cons_succ, List.getElem_cons_zero, List.setIfInBounds_toArray, List.set_cons_zero, List.set_cons_succ]
      refine wpAnyH_take (i := 8) (v := ?v39) rfl (by kernel_rfl) (by kernel_rfl) (by kernel_rfl) (fun _ _ _ h => h) (Or.inl ⟨by rfl, ?hy39⟩) (by assumption) ?rest39
      case hy39 => (intro wz hSw; (try dsimp only at hSw); first | (go_simp; done) | (go_simp; with_reducible rfl))
      try simp only [Act.put, List.getElem_toArray, List.getElem_cons_succ, List.getElem_cons_zero, List.setIfInBounds_toArray, List.set_cons_zero, List.set_cons_succ]
      refine wpAnyH_done (by kernel_rfl) ?_ _
      clear hH2 KT
      clear Sp HW2 HW
      have j0 : (0 : Int) ≤ (te : Int) := by omega
      have j1 : (te : Int) ≤ (X.nn : Int) := by omega
      have j2 : (X.nn : Int) ≤ (X.nc : Int) := by omega
      obtain ⟨u0, u1⟩ := u32
      have u2 : uv ≤ 9223372036854775807 := by omega
      have u3 : -9223372036854775808 ≤ uv := by omega
      have u4 : IntKind.i64.wrap uv = uv := by first | exact IntWalk.wrap64_in uv (by omega) | (rw [IntKind.wrap_i64]; omega)
      have SA := Lib.hid (sn_pre SD.out j (by omega))
      as_aux_lemma =>
        obtain ⟨sa, hsa⟩ : ∃ sa, sa = (if X.nc = te then some ad else some (ad.add (te * 3))) := ⟨_, rfl⟩
        have HSA := Lib.hid hsa
        have SB := Lib.hid (show SN x8 sa (X.nn - te) (X.nc - te) (N.drop te) from by
          rw [hsa]
          split
          · rename_i hq; rw [show X.nn - te = 0 by omega, show X.nc - te = 0 by omega]; exact sn_end SD.out te (by omega)
          · exact sn_drop SD.out te (by omega))
        clear hsa
        go_upto_region 14 with fail
        have KT := Lib.hid (fun (w' : World) (h : IsB w' A 40 #[.string X.nm, .slice X.ha X.hn X.hc, .slice X.ma X.mn X.mc, .slice X.a0 X.n0 X.c0, .slice X.a1 X.n1 X.c1, .slice X.a2 X.n2 X.c2, .slice X.a3 X.n3 X.c3, .slice X.a4 X.n4 X.c4, .slice X.a5 X.n5 X.c5, .slice X.pa X.pn X.pc, .slice (some ad) X.nn X.nc, .slice X.va X.vn X.vc, .slice X.fa X.fn X.fc, .slice X.ta X.tn X.tc, .slice X.la X.ln X.lc, .slice X.aa X.an X.ac]) => (⟨h.cell 0, h.cell 1, h.cell 2, h.cell 3, h.cell 4, h.cell 5, h.cell 6, h.cell 7, h.cell 8, h.cell 9, h.cell 10, h.cell 11, h.cell 12, h.cell 13, h.cell 14, h.cell 15, trivial⟩ : (fun w' : World => w'.cell? ⟨A, 0, none⟩ = some (.string X.nm) ∧ w'.cell? ⟨A, 1, none⟩ = some (.slice X.ha X.hn X.hc) ∧ w'.cell? ⟨A, 2, none⟩ = some (.slice X.ma X.mn X.mc) ∧ w'.cell? ⟨A, 3, none⟩ = some (.slice X.a0 X.n0 X.c0) ∧ w'.cell? ⟨A, 4, none⟩ = some (.slice X.a1 X.n1 X.c1) ∧ w'.cell? ⟨A, 5, none⟩ = some (.slice X.a2 X.n2 X.c2) ∧ w'.cell? ⟨A, 6, none⟩ = some (.slice X.a3 X.n3 X.c3) ∧ w'.cell? ⟨A, 7, none⟩ = some (.slice X.a4 X.n4 X.c4) ∧ w'.cell? ⟨A, 8, none⟩ = some (.slice X.a5 X.n5 X.c5) ∧ w'.cell? ⟨A, 9, none⟩ = some (.slice X.pa X.pn X.pc) ∧ w'.cell? ⟨A, 10, none⟩ = some (.slice (some ad) X.nn X.nc) ∧ w'.cell? ⟨A, 11, none⟩ = some (.slice X.va X.vn X.vc) ∧ w'.cell? ⟨A, 12, none⟩ = some (.slice X.fa X.fn X.fc) ∧ w'.cell? ⟨A, 13, none⟩ = some (.slice X.ta X.tn X.tc) ∧ w'.cell? ⟨A, 14, none⟩ = some (.slice X.la X.ln X.lc) ∧ w'.cell? ⟨A, 15, none⟩ = some (.slice X.aa X.an X.ac) ∧ True) w'))
        refine wp_region_held_drew (S := (fun w' : World => w'.cell? ⟨A, 0, none⟩ = some (.string X.nm) ∧ w'.cell? ⟨A, 1, none⟩ = some (.slice X.ha X.hn X.hc) ∧ w'.cell? ⟨A, 2, none⟩ = some (.slice X.ma X.mn X.mc) ∧ w'.cell? ⟨A, 3, none⟩ = some (.slice X.a0 X.n0 X.c0) ∧ w'.cell? ⟨A, 4, none⟩ = some (.slice X.a1 X.n1 X.c1) ∧ w'.cell? ⟨A, 5, none⟩ = some (.slice X.a2 X.n2 X.c2) ∧ w'.cell? ⟨A, 6, none⟩ = some (.slice X.a3 X.n3 X.c3) ∧ w'.cell? ⟨A, 7, none⟩ = some (.slice X.a4 X.n4 X.c4) ∧ w'.cell? ⟨A, 8, none⟩ = some (.slice X.a5 X.n5 X.c5) ∧ w'.cell? ⟨A, 9, none⟩ = some (.slice X.pa X.pn X.pc) ∧ w'.cell? ⟨A, 10, none⟩ = some (.slice (some ad) X.nn X.nc) ∧ w'.cell? ⟨A, 11, none⟩ = some (.slice X.va X.vn X.vc) ∧ w'.cell? ⟨A, 12, none⟩ = some (.slice X.fa X.fn X.fc) ∧ w'.cell? ⟨A, 13, none⟩ = some (.slice X.ta X.tn X.tc) ∧ w'.cell? ⟨A, 14, none⟩ = some (.slice X.la X.ln X.lc) ∧ w'.cell? ⟨A, 15, none⟩ = some (.slice X.aa X.an X.ac) ∧ True)) (by kernel_rfl) (KT.out _ (BA.out.keep0 (gb_drew _ none))) (fun hH0 => ?_)
        have g := gb_drew x8 none
        replace GZ := Lib.hid (gb_trans GZ.out g)
        replace BA := Lib.hid (BA.out.keep0 g)
        replace CC := Lib.hid (CC.out.keep0 g)
        replace SD := Lib.hid (SD.out.keep0 g)
        replace SA := Lib.hid (SA.out.keep0 g)
        replace SB := Lib.hid (SB.out.keep0 g)
        clear g
        refine wpAnyH_take (i := 0) (v := ?v40) rfl (by kernel_rfl) (by kernel_rfl) (by kernel_rfl) (fun _ _ _ h => h) (Or.inl ⟨by rfl, ?hy40⟩) (by assumption) ?rest40
        case hy40 => (intro wz hSw; (try dsimp only at hSw); first | (go_simp; done) | (go_simp; with_reducible rfl))
        try simp only [Act.put, List.getElem_toArray, List.getElem_cons_zero, List.setIfInBounds_toArray, List.set_cons_zero, List.set_cons_succ]
        refine wpAnyH_take (i := 1) (v := ?v41) rfl (by kernel_rfl) (by kernel_rfl) (by kernel_rfl) (fun _ _ _ h => h) (Or.inl ⟨by rfl, ?hy41⟩) (by assumption) ?rest41
        case hy41 => (intro wz hSw; (try dsimp only at hSw); first | (go_simp; done) | (go_simp; with_reducible rfl))
        try simp only [Act.put, List.getElem_toArray, List.getElem_cons_succ, List.getElem_cons_zero, List.setIfInBounds_toArray, List.set_cons_zero, List.set_cons_succ]
        refine wpAnyH_take (i := 2) (v := ?v42) rfl (by kernel_rfl) (by kernel_rfl) (by kernel_rfl) (fun _ _ _ h => h) (Or.inl ⟨by rfl, ?hy42⟩) (by assumption) ?rest42
        case hy42 => (intro wz hSw; (try dsimp only at hSw); first | (go_simp; done) | (go_simp; with_reducible rfl))
        try simp only [Act.put, List.getElem_toArray, List.getElem_cons_succ, List.getElem_cons_zero, List.setIfInBounds_toArray, List.set_cons_zero, List.set_cons_succ]
        refine wpAnyH_take (i := 3) (v := ?v43) rfl (by kernel_rfl) (by kernel_rfl) (by kernel_rfl) (fun _ _ _ h => h) (Or.inl ⟨by rfl, ?hy43⟩) (by assumption) ?rest43
        case hy43 => (intro wz hSw; (try dsimp only at hSw); first | (go_simp; done) | (go_simp; with_reducible rfl))
        try simp only [Act.put, List.getElem_toArray, List.getElem_cons_succ, List.getElem_cons_zero, List.setIfInBounds_toArray, List.set_cons_zero, List.set_cons_succ]
        refine wpAnyH_take (i := 4) (v := ?v44) rfl (by kernel_rfl) (by kernel_rfl) (by kernel_rfl) (fun _ _ _ h => h) (Or.inl ⟨by rfl, ?hy44⟩) (by assumption) ?rest44
        case hy44 => (intro wz hSw; (try dsimp only at hSw); first | (go_simp; done) | (go_simp; with_reducible rfl))
        try simp only [Act.put, List.getElem_toArray, List.getElem_cons_succ, List.getElem_cons_zero, List.setIfInBounds_toArray, List.set_cons_zero, List.set_cons_succ]
        refine wpAnyH_take (i := 5) (v := ?v45) rfl (by kernel_rfl) (by kernel_rfl) (by kernel_rfl) (fun _ _ _ h => h) (Or.inl ⟨by rfl, ?hy45⟩) (by assumption) ?rest45
        case hy45 => (intro wz hSw; (try dsimp only at hSw); first | (go_simp; done) | (go_simp; with_reducible rfl))
        try simp only [Act.put, List.getElem_toArray, List.getElem_cons_succ, List.getElem_cons_zero, List.setIfInBounds_toArray, List.set_cons_zero, List.set_cons_succ]
        refine wpAnyH_take (i := 6) (v := ?v46) rfl (by kernel_rfl) (by kernel_rfl) (by kernel_rfl) (fun _ _ _ h => h) (Or.inl ⟨by rfl, ?hy46⟩) (by assumption) ?rest46
        case hy46 => (intro wz hSw; (try dsimp only at hSw); first | (go_simp; done) | (go_simp; with_reducible rfl))
        try simp only [Act.put, List.getElem_toArray, List.getElem_cons_succ, List.getElem_cons_zero, List.setIfInBounds_toArray, List.set_cons_zero, List.set_cons_succ]
        refine wpAnyH_take (i := 7) (v := ?v47) rfl (by kernel_rfl) (by kernel_rfl) (by kernel_rfl) (fun _ _ _ h => h) (Or.inl ⟨by rfl, ?hy47⟩) (by assumption) ?rest47
        case hy47 => (intro wz hSw; (try dsimp only at hSw); first | (go_simp; done) | (go_simp; with_reducible rfl))
        try simp only [Act.put, List.getElem_toArray, List.getElem_cons_succ, List.getElem_cons_zero, List.setIfInBounds_toArray, List.set_cons_zero, List.set_cons_succ]
        refine wpAnyH_take (i := 9) (v := ?v48) rfl (by kernel_rfl) (by kernel_rfl) (by kernel_rfl) (fun _ _ _ h => h) (Or.inl ⟨by rfl, ?hy48⟩) (by assumption) ?rest48
        case hy48 => (intro wz hSw; (try dsimp only at hSw); first | (go_simp; done) | (go_simp; with_reducible rfl))
        try simp only [Act.put, List.getElem_toArray, List.getElem_cons_succ, List.getElem_cons_zero, List.setIfInBounds_toArray, List.set_cons_zero, List.set_cons_succ]
        refine wpAnyH_take (i := 10) (v := ?v49) rfl (by kernel_rfl) (by kernel_rfl) (by kernel_rfl) (fun _ _ _ h => h) (Or.inl ⟨by rfl, ?hy49⟩) (by assumption) ?rest49
        case hy49 => (intro wz hSw; (try dsimp only at hSw); first | (go_simp; done) | (go_simp; with_reducible rfl))
        try simp only [Act.put, List.getElem_toArray, List.getElem_cons_succ, List.getElem_cons_zero, List.setIfInBounds_toArray, List.set_cons_zero, List.set_cons_succ]
        refine wpAnyH_take (i := 11) (v := ?v50) rfl (by kernel_rfl) (by kernel_rfl) (by kernel_rfl) (fun _ _ _ h => h) (Or.inl ⟨by rfl, ?hy50⟩) (by assumption) ?rest50
        case hy50 => (intro wz hSw; (try dsimp only at hSw); first | (go_simp; done) | (go_simp; with_reducible rfl))
        try simp only [Act.put, List.getElem_toArray, List.getElem_cons_succ, List.getElem_cons_zero, List.setIfInBounds_toArray, List.set_cons_zero, List.set_cons_succ]
        refine wpAnyH_take (i := 12) (v := ?v51) rfl (by kernel_rfl) (by kernel_rfl) (by kernel_rfl) (fun _ _ _ h => h) (Or.inl ⟨by rfl, ?hy51⟩) (by assumption) ?rest51
        case hy51 => (intro wz hSw; (try dsimp only at hSw); first | (go_simp; done) | (go_simp; with_reducible rfl))
        try simp only [Act.put, List.getElem_toArray, List.getElem_cons_succ, List.getElem_cons_zero, List.setIfInBounds_toArray, List.set_cons_zero, List.set_cons_succ]
        refine wpAnyH_ready (rs := [8]) (by kernel_rfl) (by simp) ?_
        refine AllReadyH.cons (o := _) rfl (fun K hK => ?_) AllReadyH.nil
        go_simp
        try dsimp only
        obtain ⟨x9, hx9⟩ : ∃ x, x = x8.drew.alloc (.cells #[.int .i64 1, .int .i64 uv, .int .i64 uw] 55) := ⟨_, rfl⟩
        obtain ⟨pone, hpone⟩ : ∃ p, p = x8.heap.size := ⟨_, rfl⟩
        have Sone := Lib.hid (show SN x9 (some ⟨pone, 0, none⟩) 1 1 [(1, uv, uw)] from by
          rw [hx9, hpone]
          exact sn_new _ [(1, uv, uw)] _ _ (IsB.new _ _ _) (by intro j hj; have hj : j < 1 := hj; rcases (show j = 0 by omega) with rfl <;> exact ⟨rfl, rfl, rfl⟩) (by intro x hx; simp only [List.mem_cons, List.not_mem_nil, or_false] at hx; rcases hx with rfl <;> (dsimp only; omega)) _ rfl)
        have g := gb_alloc x8.drew (.cells #[.int .i64 1, .int .i64 uv, .int .i64 uw] 55) none
        rw [← hx9] at g
        replace GZ := Lib.hid (gb_trans GZ.out g)
        replace BA := Lib.hid (BA.out.keep0 g)
        replace CC := Lib.hid (CC.out.keep0 g)
        replace SD := Lib.hid (SD.out.keep0 g)
        replace SA := Lib.hid (SA.out.keep0 g)
        replace SB := Lib.hid (SB.out.keep0 g)
        clear g
        have hcx9 : (x8.alloc (.cells #[.int .i64 1, .int .i64 uv, .int .i64 uw] 55)).drew = x9 := by rw [hx9]; rfl
        rw [← hpone, hcx9]
        clear hcx9 hx9 hpone
        refine hK.out _ _ (KT.out _ BA.out) (fun hH1 => ?_)
        clear hK K hH0
        try simp only [Act.put, List.getElem_toArray, List.getElem_cons_succ, List.getElem_cons_zero, List.setIfInBounds_toArray, List.set_cons_zero, List.set_cons_succ]
        refine wpAnyH_ready (rs := [13]) (by kernel_rfl) (by simp) ?_
        refine AllReadyH.cons (o := _) rfl (fun K hK => ?_) AllReadyH.nil
        go_simp
        rw [← HSA.out]
        refine (join2_any _ _ _ _ _ _ _ _ _ _ _ _ _ SA.out Sone.out SB.out (by have := N1.out; omega) (by decide) (by have := N1.out; omega)).mono ?_
        rintro e x10 ⟨aq, nq, cq, rfl, Sq, g⟩
        try dsimp only
        replace GZ := Lib.hid (gb_trans GZ.out g)
        replace BA := Lib.hid (BA.out.keep0 g)
        replace CC := Lib.hid (CC.out.keep0 g)
        replace SD := Lib.hid (SD.out.keep0 g)
        replace SA := Lib.hid (SA.out.keep0 g)
        replace SB := Lib.hid (SB.out.keep0 g)
        replace Sone := Lib.hid (Sone.out.keep0 g)
        clear g
        replace Sq := Lib.hid Sq
        refine hK.out _ _ (KT.out _ BA.out) (fun hH2 => ?_)
        clear hK K hH1
        try simp only [Act.put, List.getElem_toArray, List.getElem_cons_succ, List.getElem_cons_zero, List.setIfInBounds_toArray, List.set_cons_zero, List.set_cons_succ]
        refine wpAnyH_take (i := 14) (v := ?v52) rfl (by kernel_rfl) (by kernel_rfl) (by kernel_rfl) (fun _ _ _ h => h) (Or.inl ⟨by rfl, ?hy52⟩) (by assumption) ?rest52
        case hy52 => (intro wz hSw; (try dsimp only at hSw); first | (go_simp; done) | (go_simp; with_reducible rfl))
        try simp only [Act.put, List.getElem_toArray, List.getElem_cons_succ, List.getElem_cons_zero, List.setIfInBounds_toArray, List.set_cons_zero, List.set_cons_succ]
        refine wpAnyH_done (by kernel_rfl) ?_ _
        clear hH2 KT
        have s0 : x10.cell? ⟨A, 0, none⟩ = some (.string X.nm) := (BA.out).cell 0
        have s1 : x10.cell? ⟨A, 1, none⟩ = some (.slice X.ha X.hn X.hc) := (BA.out).cell 1
        have s2 : x10.cell? ⟨A, 2, none⟩ = some (.slice X.ma X.mn X.mc) := (BA.out).cell 2
        have s3 : x10.cell? ⟨A, 3, none⟩ = some (.slice X.a0 X.n0 X.c0) := (BA.out).cell 3
        have s4 : x10.cell? ⟨A, 4, none⟩ = some (.slice X.a1 X.n1 X.c1) := (BA.out).cell 4
        have s5 : x10.cell? ⟨A, 5, none⟩ = some (.slice X.a2 X.n2 X.c2) := (BA.out).cell 5
        have s6 : x10.cell? ⟨A, 6, none⟩ = some (.slice X.a3 X.n3 X.c3) := (BA.out).cell 6
        have s7 : x10.cell? ⟨A, 7, none⟩ = some (.slice X.a4 X.n4 X.c4) := (BA.out).cell 7
        have s8 : x10.cell? ⟨A, 8, none⟩ = some (.slice X.a5 X.n5 X.c5) := (BA.out).cell 8
        have s9 : x10.cell? ⟨A, 9, none⟩ = some (.slice X.pa X.pn X.pc) := (BA.out).cell 9
        have s10 : x10.cell? ⟨A, 10, none⟩ = some (.slice (some ad) X.nn X.nc) := (BA.out).cell 10
        have s11 : x10.cell? ⟨A, 11, none⟩ = some (.slice X.va X.vn X.vc) := (BA.out).cell 11
        have s12 : x10.cell? ⟨A, 12, none⟩ = some (.slice X.fa X.fn X.fc) := (BA.out).cell 12
        have s13 : x10.cell? ⟨A, 13, none⟩ = some (.slice X.ta X.tn X.tc) := (BA.out).cell 13
        have s14 : x10.cell? ⟨A, 14, none⟩ = some (.slice X.la X.ln X.lc) := (BA.out).cell 14
        have s15 : x10.cell? ⟨A, 15, none⟩ = some (.slice X.aa X.an X.ac) := (BA.out).cell 15
        go_wp2_with fail
        refine (SCo.out _).mono ?_
        rintro e x11 ⟨rfl, g⟩
        replace GZ := Lib.hid (gb_trans GZ.out g)
        replace BA := Lib.hid (BA.out.keep0 g)
        replace CC := Lib.hid (CC.out.keep0 g)
        replace SD := Lib.hid (SD.out.keep0 g)
        replace SA := Lib.hid (SA.out.keep0 g)
        replace SB := Lib.hid (SB.out.keep0 g)
        replace Sone := Lib.hid (Sone.out.keep0 g)
        replace Sq := Lib.hid (Sq.out.keep0 g)
        clear s0 s1 s2 s3 s4 s5 s6 s7 s8 s9 s10 s11 s12 s13 s14 s15
        clear g
        go_wp2_with fail
        refine (check_sn _ X C N CC.out _ _ _ _ Sq.out tw tv HV.out).mono ?_
        rintro e x12 ⟨rfl, g⟩
        replace GZ := Lib.hid (gb_trans GZ.out g)
        replace BA := Lib.hid (BA.out.keep0 g)
        replace CC := Lib.hid (CC.out.keep0 g)
        replace SD := Lib.hid (SD.out.keep0 g)
        replace SA := Lib.hid (SA.out.keep0 g)
        replace SB := Lib.hid (SB.out.keep0 g)
        replace Sone := Lib.hid (Sone.out.keep0 g)
        replace Sq := Lib.hid (Sq.out.keep0 g)
        clear g
        go_upto_region 16 with fail
        have KT := Lib.hid (fun (w' : World) (h : IsB w' A 40 #[.string X.nm, .slice X.ha X.hn X.hc, .slice X.ma X.mn X.mc, .slice X.a0 X.n0 X.c0, .slice X.a1 X.n1 X.c1, .slice X.a2 X.n2 X.c2, .slice X.a3 X.n3 X.c3, .slice X.a4 X.n4 X.c4, .slice X.a5 X.n5 X.c5, .slice X.pa X.pn X.pc, .slice (some ad) X.nn X.nc, .slice X.va X.vn X.vc, .slice X.fa X.fn X.fc, .slice X.ta X.tn X.tc, .slice X.la X.ln X.lc, .slice X.aa X.an X.ac]) => (⟨h.cell 0, h.cell 1, h.cell 2, h.cell 3, h.cell 4, h.cell 5, h.cell 6, h.cell 7, h.cell 8, h.cell 9, h.cell 10, h.cell 11, h.cell 12, h.cell 13, h.cell 14, h.cell 15, trivial⟩ : (fun w' : World => w'.cell? ⟨A, 0, none⟩ = some (.string X.nm) ∧ w'.cell? ⟨A, 1, none⟩ = some (.slice X.ha X.hn X.hc) ∧ w'.cell? ⟨A, 2, none⟩ = some (.slice X.ma X.mn X.mc) ∧ w'.cell? ⟨A, 3, none⟩ = some (.slice X.a0 X.n0 X.c0) ∧ w'.cell? ⟨A, 4, none⟩ = some (.slice X.a1 X.n1 X.c1) ∧ w'.cell? ⟨A, 5, none⟩ = some (.slice X.a2 X.n2 X.c2) ∧ w'.cell? ⟨A, 6, none⟩ = some (.slice X.a3 X.n3 X.c3) ∧ w'.cell? ⟨A, 7, none⟩ = some (.slice X.a4 X.n4 X.c4) ∧ w'.cell? ⟨A, 8, none⟩ = some (.slice X.a5 X.n5 X.c5) ∧ w'.cell? ⟨A, 9, none⟩ = some (.slice X.pa X.pn X.pc) ∧ w'.cell? ⟨A, 10, none⟩ = some (.slice (some ad) X.nn X.nc) ∧ w'.cell? ⟨A, 11, none⟩ = some (.slice X.va X.vn X.vc) ∧ w'.cell? ⟨A, 12, none⟩ = some (.slice X.fa X.fn X.fc) ∧ w'.cell? ⟨A, 13, none⟩ = some (.slice X.ta X.tn X.tc) ∧ w'.cell? ⟨A, 14, none⟩ = some (.slice X.la X.ln X.lc) ∧ w'.cell? ⟨A, 15, none⟩ = some (.slice X.aa X.an X.ac) ∧ True) w'))
        refine wp_region_held_drew (S := (fun w' : World => w'.cell? ⟨A, 0, none⟩ = some (.string X.nm) ∧ w'.cell? ⟨A, 1, none⟩ = some (.slice X.ha X.hn X.hc) ∧ w'.cell? ⟨A, 2, none⟩ = some (.slice X.ma X.mn X.mc) ∧ w'.cell? ⟨A, 3, none⟩ = some (.slice X.a0 X.n0 X.c0) ∧ w'.cell? ⟨A, 4, none⟩ = some (.slice X.a1 X.n1 X.c1) ∧ w'.cell? ⟨A, 5, none⟩ = some (.slice X.a2 X.n2 X.c2) ∧ w'.cell? ⟨A, 6, none⟩ = some (.slice X.a3 X.n3 X.c3) ∧ w'.cell? ⟨A, 7, none⟩ = some (.slice X.a4 X.n4 X.c4) ∧ w'.cell? ⟨A, 8, none⟩ = some (.slice X.a5 X.n5 X.c5) ∧ w'.cell? ⟨A, 9, none⟩ = some (.slice X.pa X.pn X.pc) ∧ w'.cell? ⟨A, 10, none⟩ = some (.slice (some ad) X.nn X.nc) ∧ w'.cell? ⟨A, 11, none⟩ = some (.slice X.va X.vn X.vc) ∧ w'.cell? ⟨A, 12, none⟩ = some (.slice X.fa X.fn X.fc) ∧ w'.cell? ⟨A, 13, none⟩ = some (.slice X.ta X.tn X.tc) ∧ w'.cell? ⟨A, 14, none⟩ = some (.slice X.la X.ln X.lc) ∧ w'.cell? ⟨A, 15, none⟩ = some (.slice X.aa X.an X.ac) ∧ True)) (by kernel_rfl) (KT.out _ (BA.out.keep0 (gb_drew _ none))) (fun hH0 => ?_)
        have g := gb_drew x12 none
        replace GZ := Lib.hid (gb_trans GZ.out g)
        replace BA := Lib.hid (BA.out.keep0 g)
        replace CC := Lib.hid (CC.out.keep0 g)
        replace SD := Lib.hid (SD.out.keep0 g)
        replace SA := Lib.hid (SA.out.keep0 g)
        replace SB := Lib.hid (SB.out.keep0 g)
        replace Sone := Lib.hid (Sone.out.keep0 g)
        replace Sq := Lib.hid (Sq.out.keep0 g)
        clear g
        refine wpAnyH_take (i := 0) (v := ?v53) rfl (by kernel_rfl) (by kernel_rfl) (by kernel_rfl) (fun _ _ _ h => h) (Or.inl ⟨by rfl, ?hy53⟩) (by assumption) ?rest53
        case hy53 => (intro wz hSw; (try dsimp only at hSw); first | (go_simp; done) | (go_simp; with_reducible rfl))
        try simp only [Act.put, List.getElem_toArray, List.getElem_cons_zero, List.setIfInBounds_toArray, List.set_cons_zero, List.set_cons_succ]
        refine wpAnyH_take (i := 1) (v := ?v54) rfl (by kernel_rfl) (by kernel_rfl) (by kernel_rfl) (fun _ _ _ h => h) (Or.inl ⟨by rfl, ?hy54⟩) (by assumption) ?rest54
        case hy54 => (intro wz hSw; (try dsimp only at hSw); first | (go_simp; done) | (go_simp; with_reducible rfl))
        try simp only [Act.put, List.getElem_toArray, List.getElem_cons_succ, List.getElem_cons_zero, List.setIfInBounds_toArray, List.set_cons_zero, List.set_cons_succ]
        refine wpAnyH_take (i := 2) (v := ?v55) rfl (by kernel_rfl) (by kernel_rfl) (by kernel_rfl) (fun _ _ _ h => h) (Or.inl ⟨by rfl, ?hy55⟩) (by assumption) ?rest55
        case hy55 => (intro wz hSw; (try dsimp only at hSw); first | (go_simp; done) | (go_simp; with_reducible rfl))
        try simp only [Act.put, List.getElem_toArray, List.getElem_cons_succ, List.getElem_cons_zero, List.setIfInBounds_toArray, List.set_cons_zero, List.set_cons_succ]
        refine wpAnyH_take (i := 3) (v := ?v56) rfl (by kernel_rfl) (by kernel_rfl) (by kernel_rfl) (fun _ _ _ h => h) (Or.inl ⟨by rfl, ?hy56⟩) (by assumption) ?rest56
        case hy56 => (intro wz hSw; (try dsimp only at hSw); first | (go_simp; done) | (go_simp; with_reducible rfl))
        try simp only [Act.put, List.getElem_toArray, List.getElem_cons_succ, List.getElem_cons_zero, List.setIfInBounds_toArray, List.set_cons_zero, List.set_cons_succ]
        refine wpAnyH_take (i := 4) (v := ?v57) rfl (by kernel_rfl) (by kernel_rfl) (by kernel_rfl) (fun _ _ _ h => h) (Or.inl ⟨by rfl, ?hy57⟩) (by assumption) ?rest57
        case hy57 => (intro wz hSw; (try dsimp only at hSw); first | (go_simp; done) | (go_simp; with_reducible rfl))
        try simp only [Act.put, List.getElem_toArray, List.getElem_cons_succ, List.getElem_cons_zero, List.setIfInBounds_toArray, List.set_cons_zero, List.set_cons_succ]
        refine wpAnyH_take (i := 5) (v := ?v58) rfl (by kernel_rfl) (by kernel_rfl) (by kernel_rfl) (fun _ _ _ h => h) (Or.inl ⟨by rfl, ?hy58⟩) (by assumption) ?rest58
        case hy58 => (intro wz hSw; (try dsimp only at hSw); first | (go_simp; done) | (go_simp; with_reducible rfl))
        try simp only [Act.put, List.getElem_toArray, List.getElem_cons_succ, List.getElem_cons_zero, List.setIfInBounds_toArray, List.set_cons_zero, List.set_cons_succ]
        refine wpAnyH_take (i := 6) (v := ?v59) rfl (by kernel_rfl) (by kernel_rfl) (by kernel_rfl) (fun _ _ _ h => h) (Or.inl ⟨by rfl, ?hy59⟩) (by assumption) ?rest59
        case hy59 => (intro wz hSw; (try dsimp only at hSw); first | (go_simp; done) | (go_simp; with_reducible rfl))
        try simp only [Act.put, List.getElem_toArray, List.getElem_cons_succ, List.getElem_cons_zero, List.setIfInBounds_toArray, List.set_cons_zero, List.set_cons_succ]
        refine wpAnyH_take (i := 7) (v := ?v60) rfl (by kernel_rfl) (by kernel_rfl) (by kernel_rfl) (fun _ _ _ h => h) (Or.inl ⟨by rfl, ?hy60⟩) (by assumption) ?rest60
        case hy60 => (intro wz hSw; (try dsimp only at hSw); first | (go_simp; done) | (go_simp; with_reducible rfl))
        try simp only [Act.put, List.getElem_toArray, List.getElem_cons_succ, List.getElem_cons_zero, List.setIfInBounds_toArray, List.set_cons_zero, List.set_cons_succ]
        refine wpAnyH_take (i := 8) (v := ?v61) rfl (by kernel_rfl) (by kernel_rfl) (by kernel_rfl) (fun _ _ _ h => h) (Or.inl ⟨by rfl, ?hy61⟩) (by assumption) ?rest61
        case hy61 => (intro wz hSw; (try dsimp only at hSw); first | (go_simp; done) | (go_simp; with_reducible rfl))
        try simp only [Act.put, List.getElem_toArray, List.getElem_cons_succ, List.getElem_cons_zero, List.setIfInBounds_toArray, List.set_cons_zero, List.set_cons_succ]
        refine wpAnyH_take (i := 9) (v := ?v62) rfl (by kernel_rfl) (by kernel_rfl) (by kernel_rfl) (fun _ _ _ h => h) (Or.inl ⟨by rfl, ?hy62⟩) (by assumption) ?rest62
        case hy62 => (intro wz hSw; (try dsimp only at hSw); first | (go_simp; done) | (go_simp; with_reducible rfl))
        try simp only [Act.put, List.getElem_toArray, List.getElem_cons_succ, List.getElem_cons_zero, List.setIfInBounds_toArray, List.set_cons_zero, List.set_cons_succ]
        refine wpAnyH_take (i := 11) (v := ?v63) rfl (by kernel_rfl) (by kernel_rfl) (by kernel_rfl) (fun _ _ _ h => h) (Or.inl ⟨by rfl, ?hy63⟩) (by assumption) ?rest63
        case hy63 => (intro wz hSw; (try dsimp only at hSw); first | (go_simp; done) | (go_simp; with_reducible rfl))
        try simp only [Act.put, List.getElem_toArray, List.getElem_cons_succ, List.getElem_cons_zero, List.setIfInBounds_toArray, List.set_cons_zero, List.set_cons_succ]
        refine wpAnyH_take (i := 12) (v := ?v64) rfl (by kernel_rfl) (by kernel_rfl) (by kernel_rfl) (fun _ _ _ h => h) (Or.inl ⟨by rfl, ?hy64⟩) (by assumption) ?rest64
        case hy64 => (intro wz hSw; (try dsimp only at hSw); first | (go_simp; done) | (go_simp; with_reducible rfl))
        try simp only [Act.put, List.getElem_toArray, List.getElem_cons_succ, List.getElem_cons_zero, List.setIfInBounds_toArray, List.set_cons_zero, List.set_cons_succ]
        refine wpAnyH_take (i := 13) (v := ?v65) rfl (by kernel_rfl) (by kernel_rfl) (by kernel_rfl) (fun _ _ _ h => h) (Or.inl ⟨by rfl, ?hy65⟩) (by assumption) ?rest65
        case hy65 => (intro wz hSw; (try dsimp only at hSw); first | (go_simp; done) | (go_simp; with_reducible rfl))
        try simp only [Act.put, List.getElem_toArray, List.getElem_cons_succ, List.getElem_cons_zero, List.setIfInBounds_toArray, List.set_cons_zero, List.set_cons_succ]
        refine wpAnyH_take (i := 14) (v := ?v66) rfl (by kernel_rfl) (by kernel_rfl) (by kernel_rfl) (fun _ _ _ h => h) (Or.inl ⟨by rfl, ?hy66⟩) (by assumption) ?rest66
        case hy66 => (intro wz hSw; (try dsimp only at hSw); first | (go_simp; done) | (go_simp; with_reducible rfl))
        try simp only [Act.put, List.getElem_toArray, List.getElem_cons_succ, List.getElem_cons_zero, List.setIfInBounds_toArray, List.set_cons_zero, List.set_cons_succ]
        refine wpAnyH_take (i := 16) (v := ?v67) rfl (by kernel_rfl) (by kernel_rfl) (by kernel_rfl) (fun _ _ _ h => h) (Or.inl ⟨by rfl, ?hy67⟩) (by assumption) ?rest67
        case hy67 => (intro wz hSw; (try dsimp only at hSw); first | (go_simp; done) | (go_simp; with_reducible rfl))
        try simp only [Act.put, List.getElem_toArray, List.getElem_cons_succ, List.getElem_cons_zero, List.setIfInBounds_toArray, List.set_cons_zero, List.set_cons_succ]
        refine wpAnyH_take (i := 17) (v := ?v68) rfl (by kernel_rfl) (by kernel_rfl) (by kernel_rfl) (fun _ _ _ h => h) (Or.inl ⟨by rfl, ?hy68⟩) (by assumption) ?rest68
        case hy68 => (intro wz hSw; (try dsimp only at hSw); first | (go_simp; done) | (go_simp; with_reducible rfl))
        try simp only [Act.put, List.getElem_toArray, List.getElem_cons_succ, List.getElem_cons_zero, List.setIfInBounds_toArray, List.set_cons_zero, List.set_cons_succ]
        refine wpAnyH_take (i := 18) (v := ?v69) rfl (by kernel_rfl) (by kernel_rfl) (by kernel_rfl) (fun _ _ _ h => h) (Or.inl ⟨by rfl, ?hy69⟩) (by assumption) ?rest69
        case hy69 => (intro wz hSw; (try dsimp only at hSw); first | (go_simp; done) | (go_simp; with_reducible rfl))
        try simp only [Act.put, List.getElem_toArray, List.getElem_cons_succ, List.getElem_cons_zero, List.setIfInBounds_toArray, List.set_cons_zero, List.set_cons_succ]
        refine wpAnyH_take (i := 20) (v := ?v70) rfl (by kernel_rfl) (by kernel_rfl) (by kernel_rfl) (fun _ _ _ h => h) (Or.inl ⟨by rfl, ?hy70⟩) (by assumption) ?rest70
        case hy70 => (intro wz hSw; (try dsimp only at hSw); first | (go_simp; done) | (go_simp; with_reducible rfl))
        try simp only [Act.put, List.getElem_toArray, List.getElem_cons_succ, List.getElem_cons_zero, List.setIfInBounds_toArray, List.set_cons_zero, List.set_cons_succ]
        refine wpAnyH_take (i := 21) (v := ?v71) rfl (by kernel_rfl) (by kernel_rfl) (by kernel_rfl) (fun _ _ _ h => h) (Or.inl ⟨by rfl, ?hy71⟩) (by assumption) ?rest71
        case hy71 => (intro wz hSw; (try dsimp only at hSw); first | (go_simp; done) | (go_simp; with_reducible rfl))
        try simp only [Act.put, List.getElem_toArray, List.getElem_cons_succ, List.getElem_cons_zero, List.setIfInBounds_toArray, List.set_cons_zero, List.set_cons_succ]
        refine wpAnyH_take (i := 22) (v := ?v72) rfl (by kernel_rfl) (by kernel_rfl) (by kernel_rfl) (fun _ _ _ h => h) (Or.inl ⟨by rfl, ?hy72⟩) (by assumption) ?rest72
        case hy72 => (intro wz hSw; (try dsimp only at hSw); first | (go_simp; done) | (go_simp; with_reducible rfl))
        try simp only [Act.put, List.getElem_toArray, List.getElem_cons_succ, List.getElem_cons_zero, List.setIfInBounds_toArray, List.set_cons_zero, List.set_cons_succ]
        refine wpAnyH_take (i := 23) (v := ?v73) rfl (by kernel_rfl) (by kernel_rfl) (by kernel_rfl) (fun _ _ _ h => h) (Or.inl ⟨by rfl, ?hy73⟩) (by assumption) ?rest73
        case hy73 => (intro wz hSw; (try dsimp only at hSw); first | (go_simp; done) | (go_simp; with_reducible rfl))
        try simp only [Act.put, List.getElem_toArray, List.getElem_cons_succ, List.getElem_cons_zero, List.setIfInBounds_toArray, List.set_cons_zero, List.set_cons_succ]
        refine wpAnyH_ready (rs := [10]) (by kernel_rfl) (by simp) ?_
        refine AllReadyH.cons (o := _) rfl (fun K hK => ?_) AllReadyH.nil
        go_simp
        refine (SCo.out _).mono ?_
        rintro e x13 ⟨rfl, g⟩
        try dsimp only
        replace GZ := Lib.hid (gb_trans GZ.out g)
        replace BA := Lib.hid (BA.out.keep0 g)
        replace CC := Lib.hid (CC.out.keep0 g)
        replace SD := Lib.hid (SD.out.keep0 g)
        replace SA := Lib.hid (SA.out.keep0 g)
        replace SB := Lib.hid (SB.out.keep0 g)
        replace Sone := Lib.hid (Sone.out.keep0 g)
        replace Sq := Lib.hid (Sq.out.keep0 g)
        clear g
        refine hK.out _ _ (KT.out _ BA.out) (fun hH1 => ?_)
        clear hK K hH0
        try simp only [Act.put, List.getElem_toArray, List.getElem_cons_succ, List.getElem_cons_zero, List.setIfInBounds_toArray, List.set_cons_zero, List.set_cons_succ]
        refine wpAnyH_ready (rs := [15]) (by kernel_rfl) (by simp) ?_
        refine AllReadyH.cons (o := _) rfl (fun K hK => ?_) AllReadyH.nil
        go_simp
        refine (eval_sn _ X C N CC.out _ _ _ _ Sq.out tw tv HV.out).mono ?_
        rintro e x14 ⟨rfl, g⟩
        try dsimp only
        replace GZ := Lib.hid (gb_trans GZ.out g)
        replace BA := Lib.hid (BA.out.keep0 g)
        replace CC := Lib.hid (CC.out.keep0 g)
        replace SD := Lib.hid (SD.out.keep0 g)
        replace SA := Lib.hid (SA.out.keep0 g)
        replace SB := Lib.hid (SB.out.keep0 g)
        replace Sone := Lib.hid (Sone.out.keep0 g)
        replace Sq := Lib.hid (Sq.out.keep0 g)
        clear g
        refine hK.out _ _ (KT.out _ BA.out) (fun hH2 => ?_)
        clear hK K hH1
        try simp only [Act.put, List.getElem_toArray, List.getElem_cons_succ, List.getElem_cons_zero, List.setIfInBounds_toArray, List.set_cons_zero, List.set_cons_succ]
        refine wpAnyH_ready (rs := [19]) (by kernel_rfl) (by simp) ?_
        refine AllReadyH.cons (o := _) rfl (fun K hK => ?_) AllReadyH.nil
        go_simp
        refine (SCo.out _).mono ?_
        rintro e x15 ⟨rfl, g⟩
        try dsimp only
        replace GZ := Lib.hid (gb_trans GZ.out g)
        replace BA := Lib.hid (BA.out.keep0 g)
        replace CC := Lib.hid (CC.out.keep0 g)
        replace SD := Lib.hid (SD.out.keep0 g)
        replace SA := Lib.hid (SA.out.keep0 g)
        replace SB := Lib.hid (SB.out.keep0 g)
        replace Sone := Lib.hid (Sone.out.keep0 g)
        replace Sq := Lib.hid (Sq.out.keep0 g)
        clear g
        refine hK.out _ _ (KT.out _ BA.out) (fun hH3 => ?_)
        clear hK K hH2
        try simp only [Act.put, List.getElem_toArray, List.getElem_cons_succ, List.getElem_cons_zero, List.setIfInBounds_toArray, List.set_cons_zero, List.set_cons_succ]
        refine wpAnyH_ready (rs := [24]) (by kernel_rfl) (by simp) ?_
        refine AllReadyH.cons (o := _) rfl (fun K hK => ?_) AllReadyH.nil
        go_simp
        refine (eval_sn _ X C N CC.out _ _ _ _ SD.out tw tv HR.out).mono ?_
        rintro e x16 ⟨rfl, g⟩
        try dsimp only
        replace GZ := Lib.hid (gb_trans GZ.out g)
        replace BA := Lib.hid (BA.out.keep0 g)
        replace CC := Lib.hid (CC.out.keep0 g)
        replace SD := Lib.hid (SD.out.keep0 g)
        replace SA := Lib.hid (SA.out.keep0 g)
        replace SB := Lib.hid (SB.out.keep0 g)
        replace Sone := Lib.hid (Sone.out.keep0 g)
        replace Sq := Lib.hid (Sq.out.keep0 g)
        clear g
        refine hK.out _ _ (KT.out _ BA.out) (fun hH4 => ?_)
        clear hK K hH3
        try simp only [Act.put, List.getElem_toArray, List.getElem_cons_succ, List.getElem_cons_zero, List.setIfInBounds_toArray, List.set_cons_zero, List.set_cons_succ]
        refine wpAnyH_take (i := 25) (v := ?v74) rfl (by kernel_rfl) (by kernel_rfl) (by kernel_rfl) (fun _ _ _ h => h) (Or.inl ⟨by rfl, ?hy74⟩) (by assumption) ?rest74
        case hy74 => (intro wz hSw; (try dsimp only at hSw); first | (go_simp; done) | (go_simp; with_reducible rfl))
        try simp only [Act.put, List.getElem_toArray, List.getElem_cons_succ, List.getElem_cons_zero, List.setIfInBounds_toArray, List.set_cons_zero, List.set_cons_succ]
        refine wpAnyH_take (i := 26) (v := ?v75) rfl (by kernel_rfl) (by kernel_rfl) (by kernel_rfl) (fun _ _ _ h => h) (Or.inl ⟨by rfl, ?hy75⟩) (by assumption) ?rest75
        case hy75 => (intro wz hSw; (try dsimp only at hSw); first | (go_simp; done) | (go_simp; with_reducible rfl))
        try simp only [Act.put, List.getElem_toArray, List.getElem_cons_succ, List.getElem_cons_zero, List.setIfInBounds_toArray, List.set_cons_zero, List.set_cons_succ]
        refine wpAnyH_take (i := 27) (v := ?v76) rfl (by kernel_rfl) (by kernel_rfl) (by kernel_rfl) (fun _ _ _ h => h) (Or.inl ⟨by rfl, ?hy76⟩) (by assumption) ?rest76
        case hy76 => (intro wz hSw; (try dsimp only at hSw); first | (go_simp; done) | (go_simp; with_reducible rfl))
        try simp only [Act.put, List.getElem_toArray, List.getElem_cons_succ, List.getElem_cons_zero, List.setIfInBounds_toArray, List.set_cons_zero, List.set_cons_succ]
        refine wpAnyH_ready (rs := [28]) (by kernel_rfl) (by simp) ?_
        refine AllReadyH.cons (o := _) rfl (fun K hK => ?_) AllReadyH.nil
        go_simp
        refine (AW.out _).mono ?_
        rintro e x17 ⟨rfl, g⟩
        try dsimp only
        replace GZ := Lib.hid (gb_trans GZ.out g)
        replace BA := Lib.hid (BA.out.keep0 g)
        replace CC := Lib.hid (CC.out.keep0 g)
        replace SD := Lib.hid (SD.out.keep0 g)
        replace SA := Lib.hid (SA.out.keep0 g)
        replace SB := Lib.hid (SB.out.keep0 g)
        replace Sone := Lib.hid (Sone.out.keep0 g)
        replace Sq := Lib.hid (Sq.out.keep0 g)
        clear g
        refine hK.out _ _ (KT.out _ BA.out) (fun hH5 => ?_)
        clear hK K hH4
        try simp only [Act.put, List.getElem_toArray, List.getElem_cons_succ, List.getElem_cons_zero, List.setIfInBounds_toArray, List.set_cons_zero, List.set_cons_succ]
        refine wpAnyH_take (i := 29) (v := ?v77) rfl (by kernel_rfl) (by kernel_rfl) (by kernel_rfl) (fun _ _ _ h => h) (Or.inl ⟨by rfl, ?hy77⟩) (by assumption) ?rest77
        case hy77 => (intro wz hSw; (try dsimp only at hSw); first | (go_simp; done) | (go_simp; with_reducible rfl))
        try simp only [Act.put, List.getElem_toArray, List.getElem_cons_succ, List.getElem_cons_zero, List.setIfInBounds_toArray, List.set_cons_zero, List.set_cons_succ]
        refine wpAnyH_take (i := 30) (v := ?v78) rfl (by kernel_rfl) (by kernel_rfl) (by kernel_rfl) (fun _ _ _ h => h) (Or.inl ⟨by rfl, ?hy78⟩) (by assumption) ?rest78
        case hy78 => (intro wz hSw; (try dsimp only at hSw); first | (go_simp; done) | (go_simp; with_reducible rfl))
        try simp only [Act.put, List.getElem_toArray, List.getElem_cons_succ, List.getElem_cons_zero, List.setIfInBounds_toArray, List.set_cons_zero, List.set_cons_succ]
        refine wpAnyH_done (by kernel_rfl) ?_ _
        clear hH5 KT
        go_wp2
        go_ret
        exact ⟨rfl, GZ.out⟩
theorem replaces_law (X : KX) (C : Cx) (N : List Nd) (at_ : Int) (W : World) (h : CR W X C N) (k : (Lit.int .i64 at_).wf = true) : Calls Try.prog 4 #[.agg #[.string X.nm, .slice X.ha X.hn X.hc, .slice X.ma X.mn X.mc, .slice X.a0 X.n0 X.c0, .slice X.a1 X.n1 X.c1, .slice X.a2 X.n2 X.c2, .slice X.a3 X.n3 X.c3, .slice X.a4 X.n4 X.c4, .slice X.a5 X.n5 X.c5, .slice X.pa X.pn X.pc, .slice X.na X.nn X.nc, .slice X.va X.vn X.vc, .slice X.fa X.fn X.fc, .slice X.ta X.tn X.tc, .slice X.la X.ln X.lc, .slice X.aa X.an X.ac], .int .i64 at_] W (fun e w' => e = .returned (.bool true) ∧ Below W.heap.size W w') := by
  refine (replaces_walk W X C N at_ h).mono ?_
  rintro e w' ⟨rfl, g⟩
  exact ⟨rfl, (gr_gb g).below⟩
end Go.Proofs.Ytlbigajhkcnemaa
