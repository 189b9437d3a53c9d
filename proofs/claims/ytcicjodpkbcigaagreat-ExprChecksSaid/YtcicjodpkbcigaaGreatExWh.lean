/- Expr: the reference's Check and Eval, and the law Evaluates; no condition. -/
import Derived.Test.YtcicjodpkbcigaaGreatExWg
import Derived.Test.YtcicjodpkbcigaaGreatExM
import Derived.Test.YtcicjodpkbcigaaGreatExN
import Derived.BigQuiet
namespace Go.Proofs.YtcicjodpkbcigaaGreat
open Go.RowKit
set_option linter.unusedVariables false
set_option maxRecDepth 100000 in
set_option maxHeartbeats 8000000 in
theorem rcheck13_any (w : World) (X : KX) (C : Cx) (N : List Nd) (hC : CR w X C N) :
    Calls Tryz.prog 8 #[.slice X.na X.nn X.nc, .agg #[.string X.nm, .slice X.ha X.hn X.hc, .slice X.ma X.mn X.mc, .slice X.a0 X.n0 X.c0, .slice X.a1 X.n1 X.c1, .slice X.a2 X.n2 X.c2, .slice X.a3 X.n3 X.c3, .slice X.a4 X.n4 X.c4, .slice X.a5 X.n5 X.c5, .slice X.pa X.pn X.pc]] w (RetWE (wholeT C N) w) := by
  have LN := Lib.hid hC.nd.len
  have ncap := hC.nd.cap
  have CHK := Lib.hid (fun (w2 : World) (g : w.grownBy w2 none) (h : N.length ≤ 100000) => by have z := rchk_any (N.length + 1) w2 X C N (hC.keep0 g) 0 (Nat.zero_le _) h (by omega); rw [List.drop_zero] at z; exact z)
  unfold RetChk at CHK
  clear hC
  have G1 := Lib.hid (gb_alloc w (.cells #[.string X.nm, .slice X.ha X.hn X.hc, .slice X.ma X.mn X.mc, .slice X.a0 X.n0 X.c0, .slice X.a1 X.n1 X.c1, .slice X.a2 X.n2 X.c2, .slice X.a3 X.n3 X.c3, .slice X.a4 X.n4 X.c4, .slice X.a5 X.n5 X.c5, .slice X.pa X.pn X.pc] 49) none)
  have B1 := IsB.new w 49 #[.string X.nm, .slice X.ha X.hn X.hc, .slice X.ma X.mn X.mc, .slice X.a0 X.n0 X.c0, .slice X.a1 X.n1 X.c1, .slice X.a2 X.n2 X.c2, .slice X.a3 X.n3 X.c3, .slice X.a4 X.n4 X.c4, .slice X.a5 X.n5 X.c5, .slice X.pa X.pn X.pc]
  replace B1 := Lib.hid B1
  go_enter Tryz.func8, Tryz.ntmps8
  go_upto_region 1 with fail
  generalize w.alloc (.cells #[.string X.nm, .slice X.ha X.hn X.hc, .slice X.ma X.mn X.mc, .slice X.a0 X.n0 X.c0, .slice X.a1 X.n1 X.c1, .slice X.a2 X.n2 X.c2, .slice X.a3 X.n3 X.c3, .slice X.a4 X.n4 X.c4, .slice X.a5 X.n5 X.c5, .slice X.pa X.pn X.pc] 49) = w1 at *
  obtain ⟨bx, hbx⟩ : ∃ b, b = w.heap.size := ⟨_, rfl⟩
  have Lbx := Lib.hid (show w.heap.size ≤ bx by rw [hbx]; exact Nat.le_refl _)
  rw [← hbx] at B1 ⊢
  clear hbx
  by_cases h24 : 24 < X.nn
  · have HS := Lib.hid (show wholeT C N = .error 12 by unfold wholeT; rw [if_pos (by rw [LN.out]; exact h24)])
    have i24 : (24 : Int) < (X.nn : Int) := by omega
    clear h24
    go_wp2
    go_ret2
    rw [HS.out]
    exact ⟨rfl, G1.out⟩
  have i24 : ¬ (24 : Int) < (X.nn : Int) := by omega
  have HS := Lib.hid (show wholeT C N = match subT C (N.length + 1) N with
      | .error e => .error e
      | .ok (t, l) => if l = [] then .ok t else .error 4 by
      unfold wholeT
      rw [if_neg (by rw [LN.out]; exact h24)]
      cases subT C (N.length + 1) N with
      | error e => rfl
      | ok r => obtain ⟨t, l⟩ := r; rfl)
  replace CHK := Lib.hid (fun (w2 : World) (g : w.grownBy w2 none) => CHK.out w2 g (by have := LN.out; omega))
  clear h24
  have a0 := (B1.out).cell 0
  have a1 := (B1.out).cell 1
  have a2 := (B1.out).cell 2
  have a3 := (B1.out).cell 3
  have a4 := (B1.out).cell 4
  have a5 := (B1.out).cell 5
  have a6 := (B1.out).cell 6
  have a7 := (B1.out).cell 7
  have a8 := (B1.out).cell 8
  have a9 := (B1.out).cell 9
  dsimp at a0 a1 a2 a3 a4 a5 a6 a7 a8 a9
  cases hr : subT C (N.length + 1) N with
  | error er =>
    rw [hr] at CHK HS
    have ne := sub_err C _ _ er hr
    have e1 : (er != 0) = true := by rw [bne_iff_ne]; exact ne
    have e2 : (er == 0) = false := by rw [beq_eq_false_iff_ne]; exact ne
    have e3 : ¬ er = 0 := ne
    clear hr ne
    go_wp2_with fail
    refine (CHK.out _ G1.out).mono ?_
    rintro e w7 ⟨g7, j, rfl⟩
    have G7 := Lib.hid (gb_trans G1.out g7)
    clear g7 CHK
    clear a0 a1 a2 a3 a4 a5 a6 a7 a8 a9
    go_wp2
    go_ret2
    rw [HS.out]
    exact ⟨rfl, G7.out⟩
  | ok r =>
    obtain ⟨t, l⟩ := r
    rw [hr] at CHK HS
    clear hr
    go_wp2_with fail
    refine (CHK.out _ G1.out).mono ?_
    rintro e w7 ⟨g7, k2, hk2, rfl, rfl⟩
    have G7 := Lib.hid (gb_trans G1.out g7)
    clear g7 CHK
    clear a0 a1 a2 a3 a4 a5 a6 a7 a8 a9
    by_cases hke : k2 = X.nn
    · have i1 : ¬ (k2 : Int) < (X.nn : Int) := by omega
      have HS2 := Lib.hid (show wholeT C N = .ok t by rw [HS.out]; show (if N.drop k2 = [] then _ else _) = _; rw [if_pos (List.drop_of_length_le (by rw [LN.out]; omega))])
      clear hke
      go_wp2
      go_ret2
      rw [HS2.out]
      exact ⟨rfl, G7.out⟩
    · have i1 : (k2 : Int) < (X.nn : Int) := by have := LN.out; omega
      have HS2 := Lib.hid (show wholeT C N = .error 4 by
        rw [HS.out]
        show (if N.drop k2 = [] then _ else _) = _
        rw [if_neg (fun h => by have := congrArg List.length h; rw [List.length_drop, LN.out] at this; simp at this; omega)])
      clear hke
      go_wp2
      go_ret2
      rw [HS2.out]
      exact ⟨rfl, G7.out⟩
theorem whole_ok2 {C : Cx} {N : List Nd} {t : Tm} (h : wholeT C N = .ok t) : N.length ≤ 24 ∧ subT C (N.length + 1) N = .ok (t, []) := by
  unfold wholeT at h
  split at h
  · cases h
  · rename_i h24
    refine ⟨by omega, ?_⟩
    split at h
    · cases h
    · rename_i t2 l2 hs
      split at h
      · rename_i hl; injection h with h; subst h hl; exact hs
      · cases h
set_option maxRecDepth 100000 in
set_option maxHeartbeats 8000000 in
theorem reval13_any (w : World) (X : KX) (C : Cx) (N : List Nd) (hC : CR w X C N) :
    Calls Tryz.prog 18 #[.slice X.na X.nn X.nc, .agg #[.string X.nm, .slice X.ha X.hn X.hc, .slice X.ma X.mn X.mc, .slice X.a0 X.n0 X.c0, .slice X.a1 X.n1 X.c1, .slice X.a2 X.n2 X.c2, .slice X.a3 X.n3 X.c3, .slice X.a4 X.n4 X.c4, .slice X.a5 X.n5 X.c5, .slice X.pa X.pn X.pc], .agg #[.slice X.va X.vn X.vc, .slice X.fa X.fn X.fc, .slice X.ta X.tn X.tc, .slice X.la X.ln X.lc], .slice X.aa X.an X.ac] w (RetV (.int .u32 (rV (wholeT C N))) w) := by
  have CC := Lib.hid hC
  have LN := Lib.hid hC.nd.len
  have CK := Lib.hid (fun (w2 : World) (g : w.grownBy w2 none) => rcheck13_any w2 X C N (hC.keep0 g))
  unfold RetWE at CK
  clear hC
  obtain ⟨rv, hrv⟩ : ∃ r, r = rV (wholeT C N) := ⟨_, rfl⟩
  rw [← hrv]
  have HV := Lib.hid hrv
  clear hrv
  have G1 := Lib.hid (gb_trans (gb_alloc w (.cells #[.string X.nm, .slice X.ha X.hn X.hc, .slice X.ma X.mn X.mc, .slice X.a0 X.n0 X.c0, .slice X.a1 X.n1 X.c1, .slice X.a2 X.n2 X.c2, .slice X.a3 X.n3 X.c3, .slice X.a4 X.n4 X.c4, .slice X.a5 X.n5 X.c5, .slice X.pa X.pn X.pc] 49) none) (gb_alloc _ (.cells #[.slice X.va X.vn X.vc, .slice X.fa X.fn X.fc, .slice X.ta X.tn X.tc, .slice X.la X.ln X.lc] 38) none))
  have B1 := (IsB.new w 49 #[.string X.nm, .slice X.ha X.hn X.hc, .slice X.ma X.mn X.mc, .slice X.a0 X.n0 X.c0, .slice X.a1 X.n1 X.c1, .slice X.a2 X.n2 X.c2, .slice X.a3 X.n3 X.c3, .slice X.a4 X.n4 X.c4, .slice X.a5 X.n5 X.c5, .slice X.pa X.pn X.pc]).alloc (.cells #[.slice X.va X.vn X.vc, .slice X.fa X.fn X.fc, .slice X.ta X.tn X.tc, .slice X.la X.ln X.lc] 38)
  have B2 := IsB.new (w.alloc (.cells #[.string X.nm, .slice X.ha X.hn X.hc, .slice X.ma X.mn X.mc, .slice X.a0 X.n0 X.c0, .slice X.a1 X.n1 X.c1, .slice X.a2 X.n2 X.c2, .slice X.a3 X.n3 X.c3, .slice X.a4 X.n4 X.c4, .slice X.a5 X.n5 X.c5, .slice X.pa X.pn X.pc] 49)) 38 #[.slice X.va X.vn X.vc, .slice X.fa X.fn X.fc, .slice X.ta X.tn X.tc, .slice X.la X.ln X.lc]
  simp only [sz_al] at B2
  replace B1 := Lib.hid B1
  replace B2 := Lib.hid B2
  go_enter Tryz.func18, Tryz.ntmps18
  go_upto_region 1 with fail
  generalize (w.alloc (.cells #[.string X.nm, .slice X.ha X.hn X.hc, .slice X.ma X.mn X.mc, .slice X.a0 X.n0 X.c0, .slice X.a1 X.n1 X.c1, .slice X.a2 X.n2 X.c2, .slice X.a3 X.n3 X.c3, .slice X.a4 X.n4 X.c4, .slice X.a5 X.n5 X.c5, .slice X.pa X.pn X.pc] 49)).alloc (.cells #[.slice X.va X.vn X.vc, .slice X.fa X.fn X.fc, .slice X.ta X.tn X.tc, .slice X.la X.ln X.lc] 38) = w1 at *
  obtain ⟨bx, hbx⟩ : ∃ b, b = w.heap.size := ⟨_, rfl⟩
  have Lbx := Lib.hid (show w.heap.size ≤ bx by rw [hbx]; exact Nat.le_refl _)
  rw [← hbx] at B1 B2 ⊢
  clear hbx
  have a0 := (B1.out).cell 0
  have a1 := (B1.out).cell 1
  have a2 := (B1.out).cell 2
  have a3 := (B1.out).cell 3
  have a4 := (B1.out).cell 4
  have a5 := (B1.out).cell 5
  have a6 := (B1.out).cell 6
  have a7 := (B1.out).cell 7
  have a8 := (B1.out).cell 8
  have a9 := (B1.out).cell 9
  dsimp at a0 a1 a2 a3 a4 a5 a6 a7 a8 a9
  cases hR : wholeT C N with
  | error er =>
    have ne := whole_err hR
    rw [hR] at CK HV
    have e1 : (er != 0) = true := by rw [bne_iff_ne]; exact ne
    have e2 : (er == 0) = false := by rw [beq_eq_false_iff_ne]; exact ne
    have e3 : ¬ er = 0 := ne
    clear hR ne
    go_upto_region 2 with (go_at_call 8; refine (CK.out _ G1.out).mono ?_; rintro e w7 ⟨rfl, g7⟩; have G7 := Lib.hid (gb_trans G1.out g7); clear g7)
    clear CK
    clear a0 a1 a2 a3 a4 a5 a6 a7 a8 a9
    unfold rE
    go_wp2
    go_ret
    exact ⟨by rw [HV.out] <;> rfl, G7.out⟩
  | ok t =>
    obtain ⟨h24, hs⟩ := whole_ok2 hR
    have EV := Lib.hid (fun (w2 : World) (g : w.grownBy w2 none) => by have z := reval_any (N.length + 1) w2 X C N (CC.out.keep0 g) 0 (Nat.zero_le _) (by omega) (by omega) t [] (by rw [List.drop_zero]; exact hs); unfold RetEv at z; exact z)
    rw [hR] at CK HV
    clear hR h24 hs
    go_upto_region 2 with (go_at_call 8; refine (CK.out _ G1.out).mono ?_; rintro e w7 ⟨rfl, g7⟩; have G7 := Lib.hid (gb_trans G1.out g7); replace B1 := Lib.hid (B1.out.keep0 g7); replace B2 := Lib.hid (B2.out.keep0 g7); clear g7)
    clear CK
    clear a0 a1 a2 a3 a4 a5 a6 a7 a8 a9
    have a0 := (B1.out).cell 0
    have a1 := (B1.out).cell 1
    have a2 := (B1.out).cell 2
    have a3 := (B1.out).cell 3
    have a4 := (B1.out).cell 4
    have a5 := (B1.out).cell 5
    have a6 := (B1.out).cell 6
    have a7 := (B1.out).cell 7
    have a8 := (B1.out).cell 8
    have a9 := (B1.out).cell 9
    dsimp at a0 a1 a2 a3 a4 a5 a6 a7 a8 a9
    have v0 := (B2.out).cell 0
    have v1 := (B2.out).cell 1
    have v2 := (B2.out).cell 2
    have v3 := (B2.out).cell 3
    dsimp at v0 v1 v2 v3
    unfold rE
    go_upto_region 4 with fail
    go_wp2_with fail
    refine (EV.out _ G7.out).mono ?_
    rintro e w8 ⟨g8, k2, hk2, hl2, rfl⟩
    have G8 := Lib.hid (gb_trans G7.out g8)
    clear g8
    have hfd : ∀ w : World, (Instr.field 91 (.agg #[.int .u32 t.2, .int .i64 t.1, .int .i64 (k2 : Int)]) 0).run Tryz.prog w = .ok (.int .u32 t.2) w := fun _ => by kernel_rfl
    go_wp2
    go_ret
    exact ⟨by rw [HV.out] <;> rfl, G8.out⟩
set_option maxRecDepth 100000 in
set_option maxHeartbeats 40000000 in
theorem evaluates_walk (w : World) (X : KX) (C : Cx) (N : List Nd) (hC : CR w X C N) :
    Calls Tryz.prog 4 #[.agg #[.string X.nm, .slice X.ha X.hn X.hc, .slice X.ma X.mn X.mc, .slice X.a0 X.n0 X.c0, .slice X.a1 X.n1 X.c1, .slice X.a2 X.n2 X.c2, .slice X.a3 X.n3 X.c3, .slice X.a4 X.n4 X.c4, .slice X.a5 X.n5 X.c5, .slice X.pa X.pn X.pc, .slice X.na X.nn X.nc, .slice X.va X.vn X.vc, .slice X.fa X.fn X.fc, .slice X.ta X.tn X.tc, .slice X.la X.ln X.lc, .slice X.aa X.an X.ac]] w (RetV (.bool true) w) := by
  have LN := Lib.hid hC.nd.len
  have ncap := hC.nd.cap
  have AW := Lib.hid (fun w => awake_any w)
  have SCo := Lib.hid (fun w => scope_any w X)
  have CE := Lib.hid (fun (w2 : World) (g : w.grownBy w2 none) => keval_any w2 X C N (hC.keep0 g))
  have RE := Lib.hid (fun (w2 : World) (g : w.grownBy w2 none) => reval13_any w2 X C N (hC.keep0 g))
  unfold RetV at AW SCo CE RE
  generalize rV (wholeT C N) = rv at *
  clear hC
  have G1 := Lib.hid (gb_alloc w (.cells #[.string X.nm, .slice X.ha X.hn X.hc, .slice X.ma X.mn X.mc, .slice X.a0 X.n0 X.c0, .slice X.a1 X.n1 X.c1, .slice X.a2 X.n2 X.c2, .slice X.a3 X.n3 X.c3, .slice X.a4 X.n4 X.c4, .slice X.a5 X.n5 X.c5, .slice X.pa X.pn X.pc, .slice X.na X.nn X.nc, .slice X.va X.vn X.vc, .slice X.fa X.fn X.fc, .slice X.ta X.tn X.tc, .slice X.la X.ln X.lc, .slice X.aa X.an X.ac] 40) none)
  have B1 := IsB.new w 40 #[.string X.nm, .slice X.ha X.hn X.hc, .slice X.ma X.mn X.mc, .slice X.a0 X.n0 X.c0, .slice X.a1 X.n1 X.c1, .slice X.a2 X.n2 X.c2, .slice X.a3 X.n3 X.c3, .slice X.a4 X.n4 X.c4, .slice X.a5 X.n5 X.c5, .slice X.pa X.pn X.pc, .slice X.na X.nn X.nc, .slice X.va X.vn X.vc, .slice X.fa X.fn X.fc, .slice X.ta X.tn X.tc, .slice X.la X.ln X.lc, .slice X.aa X.an X.ac]
  replace B1 := Lib.hid B1
  go_enter Tryz.func4, Tryz.ntmps4
  go_upto_region 1 with fail
  generalize w.alloc (.cells #[.string X.nm, .slice X.ha X.hn X.hc, .slice X.ma X.mn X.mc, .slice X.a0 X.n0 X.c0, .slice X.a1 X.n1 X.c1, .slice X.a2 X.n2 X.c2, .slice X.a3 X.n3 X.c3, .slice X.a4 X.n4 X.c4, .slice X.a5 X.n5 X.c5, .slice X.pa X.pn X.pc, .slice X.na X.nn X.nc, .slice X.va X.vn X.vc, .slice X.fa X.fn X.fc, .slice X.ta X.tn X.tc, .slice X.la X.ln X.lc, .slice X.aa X.an X.ac] 40) = w1 at *
  obtain ⟨bx, hbx⟩ : ∃ b, b = w.heap.size := ⟨_, rfl⟩
  have Lbx := Lib.hid (show w.heap.size ≤ bx by rw [hbx]; exact Nat.le_refl _)
  rw [← hbx] at B1 ⊢
  clear hbx
  have s10 := B1.out.cell 10
  dsimp at s10
  by_cases hl : 100 < X.nn
  · have hl2 : (100 : Int) < (X.nn : Int) := by omega
    clear hl
    go_wp2_with fail
    refine (AW.out _).mono ?_
    rintro e x1 ⟨rfl, g⟩
    have GZ := Lib.hid (gb_trans G1.out g)
    clear g
    go_wp2
    go_ret
    exact ⟨rfl, GZ.out⟩
  have hl2 : ¬ (100 : Int) < (X.nn : Int) := by omega
  clear hl
  go_upto_region 3 with fail
  clear s10
  have KS := Lib.hid (fun (w' : World) (q0 : w1.grownBy w' none) => (⟨(B1.out.keep0 q0).cell 0, (B1.out.keep0 q0).cell 1, (B1.out.keep0 q0).cell 2, (B1.out.keep0 q0).cell 3, (B1.out.keep0 q0).cell 4, (B1.out.keep0 q0).cell 5, (B1.out.keep0 q0).cell 6, (B1.out.keep0 q0).cell 7, (B1.out.keep0 q0).cell 8, (B1.out.keep0 q0).cell 9, (B1.out.keep0 q0).cell 10, (B1.out.keep0 q0).cell 11, (B1.out.keep0 q0).cell 12, (B1.out.keep0 q0).cell 13, (B1.out.keep0 q0).cell 14, (B1.out.keep0 q0).cell 15, q0⟩ : (fun w' : World => w'.cell? ⟨bx, 0, none⟩ = some (.string X.nm) ∧ w'.cell? ⟨bx, 1, none⟩ = some (.slice X.ha X.hn X.hc) ∧ w'.cell? ⟨bx, 2, none⟩ = some (.slice X.ma X.mn X.mc) ∧ w'.cell? ⟨bx, 3, none⟩ = some (.slice X.a0 X.n0 X.c0) ∧ w'.cell? ⟨bx, 4, none⟩ = some (.slice X.a1 X.n1 X.c1) ∧ w'.cell? ⟨bx, 5, none⟩ = some (.slice X.a2 X.n2 X.c2) ∧ w'.cell? ⟨bx, 6, none⟩ = some (.slice X.a3 X.n3 X.c3) ∧ w'.cell? ⟨bx, 7, none⟩ = some (.slice X.a4 X.n4 X.c4) ∧ w'.cell? ⟨bx, 8, none⟩ = some (.slice X.a5 X.n5 X.c5) ∧ w'.cell? ⟨bx, 9, none⟩ = some (.slice X.pa X.pn X.pc) ∧ w'.cell? ⟨bx, 10, none⟩ = some (.slice X.na X.nn X.nc) ∧ w'.cell? ⟨bx, 11, none⟩ = some (.slice X.va X.vn X.vc) ∧ w'.cell? ⟨bx, 12, none⟩ = some (.slice X.fa X.fn X.fc) ∧ w'.cell? ⟨bx, 13, none⟩ = some (.slice X.ta X.tn X.tc) ∧ w'.cell? ⟨bx, 14, none⟩ = some (.slice X.la X.ln X.lc) ∧ w'.cell? ⟨bx, 15, none⟩ = some (.slice X.aa X.an X.ac) ∧ w1.grownBy w' none) w'))
  have H0 := Lib.hid (gb_drew w1 none)
  refine wp_region_held_drew (S := (fun w' : World => w'.cell? ⟨bx, 0, none⟩ = some (.string X.nm) ∧ w'.cell? ⟨bx, 1, none⟩ = some (.slice X.ha X.hn X.hc) ∧ w'.cell? ⟨bx, 2, none⟩ = some (.slice X.ma X.mn X.mc) ∧ w'.cell? ⟨bx, 3, none⟩ = some (.slice X.a0 X.n0 X.c0) ∧ w'.cell? ⟨bx, 4, none⟩ = some (.slice X.a1 X.n1 X.c1) ∧ w'.cell? ⟨bx, 5, none⟩ = some (.slice X.a2 X.n2 X.c2) ∧ w'.cell? ⟨bx, 6, none⟩ = some (.slice X.a3 X.n3 X.c3) ∧ w'.cell? ⟨bx, 7, none⟩ = some (.slice X.a4 X.n4 X.c4) ∧ w'.cell? ⟨bx, 8, none⟩ = some (.slice X.a5 X.n5 X.c5) ∧ w'.cell? ⟨bx, 9, none⟩ = some (.slice X.pa X.pn X.pc) ∧ w'.cell? ⟨bx, 10, none⟩ = some (.slice X.na X.nn X.nc) ∧ w'.cell? ⟨bx, 11, none⟩ = some (.slice X.va X.vn X.vc) ∧ w'.cell? ⟨bx, 12, none⟩ = some (.slice X.fa X.fn X.fc) ∧ w'.cell? ⟨bx, 13, none⟩ = some (.slice X.ta X.tn X.tc) ∧ w'.cell? ⟨bx, 14, none⟩ = some (.slice X.la X.ln X.lc) ∧ w'.cell? ⟨bx, 15, none⟩ = some (.slice X.aa X.an X.ac) ∧ w1.grownBy w' none)) (by kernel_rfl) (KS.out _ H0.out) (fun hH0 => ?_)
  refine wpAnyH_take (i := 0) (v := ?v1) rfl (by kernel_rfl) (by kernel_rfl) (by kernel_rfl) (fun _ _ _ h => h) (Or.inl ⟨by rfl, ?hy1⟩) (by assumption) ?rest1
  case hy1 => (intro wz hSw; (try dsimp only at hSw); first | (go_simp; done) | (go_simp; with_reducible rfl))
  try simp only [Act.put, List.getElem_toArray, List.getElem_cons_zero, List.setIfInBounds_toArray, List.set_cons_zero, List.set_cons_succ]
  refine wpAnyH_take (i := 1) (v := ?v2) rfl (by kernel_rfl) (by kernel_rfl) (by kernel_rfl) (fun _ _ _ h => h) (Or.inl ⟨by rfl, ?hy2⟩) (by assumption) ?rest2
  case hy2 => (intro wz hSw; (try dsimp only at hSw); first | (go_simp; done) | (go_simp; with_reducible rfl))
  try simp only [Act.put, List.getElem_toArray, List.getElem_cons_succ, List.getElem_cons_zero, List.setIfInBounds_toArray, List.set_cons_zero, List.set_cons_succ]
  refine wpAnyH_take (i := 2) (v := ?v3) rfl (by kernel_rfl) (by kernel_rfl) (by kernel_rfl) (fun _ _ _ h => h) (Or.inl ⟨by rfl, ?hy3⟩) (by assumption) ?rest3
  case hy3 => (intro wz hSw; (try dsimp only at hSw); first | (go_simp; done) | (go_simp; with_reducible rfl))
  try simp only [Act.put, List.getElem_toArray, List.getElem_cons_succ, List.getElem_cons_zero, List.setIfInBounds_toArray, List.set_cons_zero, List.set_cons_succ]
  refine wpAnyH_take (i := 4) (v := ?v4) rfl (by kernel_rfl) (by kernel_rfl) (by kernel_rfl) (fun _ _ _ h => h) (Or.inl ⟨by rfl, ?hy4⟩) (by assumption) ?rest4
  case hy4 => (intro wz hSw; (try dsimp only at hSw); first | (go_simp; done) | (go_simp; with_reducible rfl))
  try simp only [Act.put, List.getElem_toArray, List.getElem_cons_succ, List.getElem_cons_zero, List.setIfInBounds_toArray, List.set_cons_zero, List.set_cons_succ]
  refine wpAnyH_take (i := 5) (v := ?v5) rfl (by kernel_rfl) (by kernel_rfl) (by kernel_rfl) (fun _ _ _ h => h) (Or.inl ⟨by rfl, ?hy5⟩) (by assumption) ?rest5
  case hy5 => (intro wz hSw; (try dsimp only at hSw); first | (go_simp; done) | (go_simp; with_reducible rfl))
  try simp only [Act.put, List.getElem_toArray, List.getElem_cons_succ, List.getElem_cons_zero, List.setIfInBounds_toArray, List.set_cons_zero, List.set_cons_succ]
  refine wpAnyH_take (i := 6) (v := ?v6) rfl (by kernel_rfl) (by kernel_rfl) (by kernel_rfl) (fun _ _ _ h => h) (Or.inl ⟨by rfl, ?hy6⟩) (by assumption) ?rest6
  case hy6 => (intro wz hSw; (try dsimp only at hSw); first | (go_simp; done) | (go_simp; with_reducible rfl))
  try simp only [Act.put, List.getElem_toArray, List.getElem_cons_succ, List.getElem_cons_zero, List.setIfInBounds_toArray, List.set_cons_zero, List.set_cons_succ]
  refine wpAnyH_take (i := 7) (v := ?v7) rfl (by kernel_rfl) (by kernel_rfl) (by kernel_rfl) (fun _ _ _ h => h) (Or.inl ⟨by rfl, ?hy7⟩) (by assumption) ?rest7
  case hy7 => (intro wz hSw; (try dsimp only at hSw); first | (go_simp; done) | (go_simp; with_reducible rfl))
  try simp only [Act.put, List.getElem_toArray, List.getElem_cons_succ, List.getElem_cons_zero, List.setIfInBounds_toArray, List.set_cons_zero, List.set_cons_succ]
  refine wpAnyH_take (i := 9) (v := ?v8) rfl (by kernel_rfl) (by kernel_rfl) (by kernel_rfl) (fun _ _ _ h => h) (Or.inl ⟨by rfl, ?hy8⟩) (by assumption) ?rest8
  case hy8 => (intro wz hSw; (try dsimp only at hSw); first | (go_simp; done) | (go_simp; with_reducible rfl))
  try simp only [Act.put, List.getElem_toArray, List.getElem_cons_succ, List.getElem_cons_zero, List.setIfInBounds_toArray, List.set_cons_zero, List.set_cons_succ]
  refine wpAnyH_take (i := 10) (v := ?v9) rfl (by kernel_rfl) (by kernel_rfl) (by kernel_rfl) (fun _ _ _ h => h) (Or.inl ⟨by rfl, ?hy9⟩) (by assumption) ?rest9
  case hy9 => (intro wz hSw; (try dsimp only at hSw); first | (go_simp; done) | (go_simp; with_reducible rfl))
  try simp only [Act.put, List.getElem_toArray, List.getElem_cons_succ, List.getElem_cons_zero, List.setIfInBounds_toArray, List.set_cons_zero, List.set_cons_succ]
  refine wpAnyH_take (i := 11) (v := ?v10) rfl (by kernel_rfl) (by kernel_rfl) (by kernel_rfl) (fun _ _ _ h => h) (Or.inl ⟨by rfl, ?hy10⟩) (by assumption) ?rest10
  case hy10 => (intro wz hSw; (try dsimp only at hSw); first | (go_simp; done) | (go_simp; with_reducible rfl))
  try simp only [Act.put, List.getElem_toArray, List.getElem_cons_succ, List.getElem_cons_zero, List.setIfInBounds_toArray, List.set_cons_zero, List.set_cons_succ]
  refine wpAnyH_take (i := 12) (v := ?v11) rfl (by kernel_rfl) (by kernel_rfl) (by kernel_rfl) (fun _ _ _ h => h) (Or.inl ⟨by rfl, ?hy11⟩) (by assumption) ?rest11
  case hy11 => (intro wz hSw; (try dsimp only at hSw); first | (go_simp; done) | (go_simp; with_reducible rfl))
  try simp only [Act.put, List.getElem_toArray, List.getElem_cons_succ, List.getElem_cons_zero, List.setIfInBounds_toArray, List.set_cons_zero, List.set_cons_succ]
  refine wpAnyH_take (i := 13) (v := ?v12) rfl (by kernel_rfl) (by kernel_rfl) (by kernel_rfl) (fun _ _ _ h => h) (Or.inl ⟨by rfl, ?hy12⟩) (by assumption) ?rest12
  case hy12 => (intro wz hSw; (try dsimp only at hSw); first | (go_simp; done) | (go_simp; with_reducible rfl))
  try simp only [Act.put, List.getElem_toArray, List.getElem_cons_succ, List.getElem_cons_zero, List.setIfInBounds_toArray, List.set_cons_zero, List.set_cons_succ]
  refine wpAnyH_take (i := 14) (v := ?v13) rfl (by kernel_rfl) (by kernel_rfl) (by kernel_rfl) (fun _ _ _ h => h) (Or.inl ⟨by rfl, ?hy13⟩) (by assumption) ?rest13
  case hy13 => (intro wz hSw; (try dsimp only at hSw); first | (go_simp; done) | (go_simp; with_reducible rfl))
  try simp only [Act.put, List.getElem_toArray, List.getElem_cons_succ, List.getElem_cons_zero, List.setIfInBounds_toArray, List.set_cons_zero, List.set_cons_succ]
  refine wpAnyH_take (i := 15) (v := ?v14) rfl (by kernel_rfl) (by kernel_rfl) (by kernel_rfl) (fun _ _ _ h => h) (Or.inl ⟨by rfl, ?hy14⟩) (by assumption) ?rest14
  case hy14 => (intro wz hSw; (try dsimp only at hSw); first | (go_simp; done) | (go_simp; with_reducible rfl))
  try simp only [Act.put, List.getElem_toArray, List.getElem_cons_succ, List.getElem_cons_zero, List.setIfInBounds_toArray, List.set_cons_zero, List.set_cons_succ]
  refine wpAnyH_take (i := 16) (v := ?v15) rfl (by kernel_rfl) (by kernel_rfl) (by kernel_rfl) (fun _ _ _ h => h) (Or.inl ⟨by rfl, ?hy15⟩) (by assumption) ?rest15
  case hy15 => (intro wz hSw; (try dsimp only at hSw); first | (go_simp; done) | (go_simp; with_reducible rfl))
  try simp only [Act.put, List.getElem_toArray, List.getElem_cons_succ, List.getElem_cons_zero, List.setIfInBounds_toArray, List.set_cons_zero, List.set_cons_succ]
  refine wpAnyH_take (i := 17) (v := ?v16) rfl (by kernel_rfl) (by kernel_rfl) (by kernel_rfl) (fun _ _ _ h => h) (Or.inl ⟨by rfl, ?hy16⟩) (by assumption) ?rest16
  case hy16 => (intro wz hSw; (try dsimp only at hSw); first | (go_simp; done) | (go_simp; with_reducible rfl))
  try simp only [Act.put, List.getElem_toArray, List.getElem_cons_succ, List.getElem_cons_zero, List.setIfInBounds_toArray, List.set_cons_zero, List.set_cons_succ]
  refine wpAnyH_take (i := 18) (v := ?v17) rfl (by kernel_rfl) (by kernel_rfl) (by kernel_rfl) (fun _ _ _ h => h) (Or.inl ⟨by rfl, ?hy17⟩) (by assumption) ?rest17
  case hy17 => (intro wz hSw; (try dsimp only at hSw); first | (go_simp; done) | (go_simp; with_reducible rfl))
  try simp only [Act.put, List.getElem_toArray, List.getElem_cons_succ, List.getElem_cons_zero, List.setIfInBounds_toArray, List.set_cons_zero, List.set_cons_succ]
  refine wpAnyH_take (i := 19) (v := ?v18) rfl (by kernel_rfl) (by kernel_rfl) (by kernel_rfl) (fun _ _ _ h => h) (Or.inl ⟨by rfl, ?hy18⟩) (by assumption) ?rest18
  case hy18 => (intro wz hSw; (try dsimp only at hSw); first | (go_simp; done) | (go_simp; with_reducible rfl))
  try simp only [Act.put, List.getElem_toArray, List.getElem_cons_succ, List.getElem_cons_zero, List.setIfInBounds_toArray, List.set_cons_zero, List.set_cons_succ]
  refine wpAnyH_ready (rs := [3]) (by kernel_rfl) (by simp) ?_
  refine AllReadyH.cons (o := _) rfl (fun K hK => ?_) AllReadyH.nil
  go_simp
  (with_reducible refine (SCo.out _).mono ?_)
  rintro e hw1 ⟨rfl, g⟩
  have H1 := Lib.hid (gb_trans H0.out g)
  clear g
  try dsimp only
  refine hK.out _ _ (KS.out _ H1.out) (fun hH1 => ?_)
  clear hK K hH0
  try simp only [Act.put, List.getElem_toArray, List.getElem_cons_succ, List.getElem_cons_zero, List.setIfInBounds_toArray, List.set_cons_zero, List.set_cons_succ]
  refine wpAnyH_ready (rs := [8]) (by kernel_rfl) (by simp) ?_
  refine AllReadyH.cons (o := _) rfl (fun K hK => ?_) AllReadyH.nil
  go_simp
  (with_reducible refine (CE.out _ (gb_trans G1.out H1.out)).mono ?_)
  rintro e hw2 ⟨rfl, g⟩
  have H2 := Lib.hid (gb_trans H1.out g)
  clear g
  try dsimp only
  refine hK.out _ _ (KS.out _ H2.out) (fun hH2 => ?_)
  clear hK K hH1
  try simp only [Act.put, List.getElem_toArray, List.getElem_cons_succ, List.getElem_cons_zero, List.setIfInBounds_toArray, List.set_cons_zero, List.set_cons_succ]
  refine wpAnyH_ready (rs := [20]) (by kernel_rfl) (by simp) ?_
  refine AllReadyH.cons (o := _) rfl (fun K hK => ?_) AllReadyH.nil
  go_simp
  (with_reducible refine (RE.out _ (gb_trans G1.out H2.out)).mono ?_)
  rintro e hw3 ⟨rfl, g⟩
  have H3 := Lib.hid (gb_trans H2.out g)
  clear g
  try dsimp only
  refine hK.out _ _ (KS.out _ H3.out) (fun hH3 => ?_)
  clear hK K hH2
  try simp only [Act.put, List.getElem_toArray, List.getElem_cons_succ, List.getElem_cons_zero, List.setIfInBounds_toArray, List.set_cons_zero, List.set_cons_succ]
  refine wpAnyH_take (i := 21) (v := ?v19) rfl (by kernel_rfl) (by kernel_rfl) (by kernel_rfl) (fun _ _ _ h => h) (Or.inl ⟨by rfl, ?hy19⟩) (by assumption) ?rest19
  case hy19 => (intro wz hSw; (try dsimp only at hSw); first | (go_simp; done) | (go_simp; with_reducible rfl))
  try simp only [Act.put, List.getElem_toArray, List.getElem_cons_succ, List.getElem_cons_zero, List.setIfInBounds_toArray, List.set_cons_zero, List.set_cons_succ]
  refine wpAnyH_take (i := 22) (v := ?v20) rfl (by kernel_rfl) (by kernel_rfl) (by kernel_rfl) (fun _ _ _ h => h) (Or.inl ⟨by rfl, ?hy20⟩) (by assumption) ?rest20
  case hy20 => (intro wz hSw; (try dsimp only at hSw); first | (go_simp; done) | (go_simp; with_reducible rfl))
  try simp only [Act.put, List.getElem_toArray, List.getElem_cons_succ, List.getElem_cons_zero, List.setIfInBounds_toArray, List.set_cons_zero, List.set_cons_succ]
  refine wpAnyH_ready (rs := [23]) (by kernel_rfl) (by simp) ?_
  refine AllReadyH.cons (o := _) rfl (fun K hK => ?_) AllReadyH.nil
  go_simp
  (with_reducible refine (AW.out _).mono ?_)
  rintro e hw4 ⟨rfl, g⟩
  have H4 := Lib.hid (gb_trans H3.out g)
  clear g
  try dsimp only
  refine hK.out _ _ (KS.out _ H4.out) (fun hH4 => ?_)
  clear hK K hH3
  try simp only [Act.put, List.getElem_toArray, List.getElem_cons_succ, List.getElem_cons_zero, List.setIfInBounds_toArray, List.set_cons_zero, List.set_cons_succ]
  refine wpAnyH_take (i := 24) (v := ?v21) rfl (by kernel_rfl) (by kernel_rfl) (by kernel_rfl) (fun _ _ _ h => h) (Or.inl ⟨by rfl, ?hy21⟩) (by assumption) ?rest21
  case hy21 => (intro wz hSw; (try dsimp only at hSw); first | (go_simp; done) | (go_simp; with_reducible rfl))
  try simp only [Act.put, List.getElem_toArray, List.getElem_cons_succ, List.getElem_cons_zero, List.setIfInBounds_toArray, List.set_cons_zero, List.set_cons_succ]
  refine wpAnyH_take (i := 25) (v := ?v22) rfl (by kernel_rfl) (by kernel_rfl) (by kernel_rfl) (fun _ _ _ h => h) (Or.inl ⟨by rfl, ?hy22⟩) (by assumption) ?rest22
  case hy22 => (intro wz hSw; (try dsimp only at hSw); first | (go_simp; done) | (go_simp; with_reducible rfl))
  try simp only [Act.put, List.getElem_toArray, List.getElem_cons_succ, List.getElem_cons_zero, List.setIfInBounds_toArray, List.set_cons_zero, List.set_cons_succ]
  refine wpAnyH_done (by kernel_rfl) ?_ _
  clear hH4
  have GZ := Lib.hid (gb_trans G1.out H4.out)
  go_wp2
  go_ret
  exact ⟨rfl, GZ.out⟩
theorem low13 {W W' : World} {e : Ending} (h : RetV (.bool true) W e W') : e = .returned (.bool true) ∧ Below W.heap.size W W' := ⟨h.1, ⟨h.2.os, h.2.tape, h.2.output, h.2.size, fun i hi => h.2.block i hi (by simp)⟩⟩
end Go.Proofs.YtcicjodpkbcigaaGreat
