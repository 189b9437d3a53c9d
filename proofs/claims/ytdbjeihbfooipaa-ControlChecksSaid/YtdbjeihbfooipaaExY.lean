/- Expr: the reference: fields, parameters, validities; every leaf; no condition. -/
import Derived.Test.YtdbjeihbfooipaaExX
namespace Go.Proofs.Ytdbjeihbfooipaa
open Go.RowKit
set_option linter.unusedVariables false
set_option maxRecDepth 100000 in
set_option maxHeartbeats 4000000 in
theorem rleaf_field (w : World) (X : KX) (C : Cx) (N : List Nd) (hC : CR w X C N) (op n wd : Int) (ho : op = 2) (hn : -9223372036854775808 ≤ n ∧ n ≤ 9223372036854775807) (rw_ re : Int) (h1 : rW (fieldT C n wd) = rw_) (h2 : rE (fieldT C n wd) = re) :
    Calls Try.prog 156 #[.agg #[.int .i64 op, .int .i64 n, .int .i64 wd], .agg #[.string X.nm, .slice X.ha X.hn X.hc, .slice X.ma X.mn X.mc, .slice X.a0 X.n0 X.c0, .slice X.a1 X.n1 X.c1, .slice X.a2 X.n2 X.c2, .slice X.a3 X.n3 X.c3, .slice X.a4 X.n4 X.c4, .slice X.a5 X.n5 X.c5, .slice X.pa X.pn X.pc]] w (RetV (.tuple #[.int .i64 rw_, .int .i64 re]) w) := by
  have H1 := Lib.hid h1
  have H2 := Lib.hid h2
  have CC := Lib.hid hC
  clear h1 h2 hC
  subst ho
  obtain ⟨A, hA⟩ : ∃ A, A = w.heap.size := ⟨_, rfl⟩
  obtain ⟨D, hD⟩ : ∃ D, D = A + 1 := ⟨_, rfl⟩
  obtain ⟨w1, hw1⟩ : ∃ w1, w1 = (w.alloc (.cells #[.int .i64 2, .int .i64 n, .int .i64 wd] 61)).alloc (.cells #[.string X.nm, .slice X.ha X.hn X.hc, .slice X.ma X.mn X.mc, .slice X.a0 X.n0 X.c0, .slice X.a1 X.n1 X.c1, .slice X.a2 X.n2 X.c2, .slice X.a3 X.n3 X.c3, .slice X.a4 X.n4 X.c4, .slice X.a5 X.n5 X.c5, .slice X.pa X.pn X.pc] 179) := ⟨_, rfl⟩
  have BA := Lib.hid (show IsB w1 A 61 #[.int .i64 2, .int .i64 n, .int .i64 wd] from by rw [hw1, hA]; exact (IsB.new _ _ _).alloc _)
  have BD := Lib.hid (show IsB w1 D 179 #[.string X.nm, .slice X.ha X.hn X.hc, .slice X.ma X.mn X.mc, .slice X.a0 X.n0 X.c0, .slice X.a1 X.n1 X.c1, .slice X.a2 X.n2 X.c2, .slice X.a3 X.n3 X.c3, .slice X.a4 X.n4 X.c4, .slice X.a5 X.n5 X.c5, .slice X.pa X.pn X.pc] from by rw [hw1, hD, hA, ← sz_al w (.cells #[.int .i64 2, .int .i64 n, .int .i64 wd] 61)]; exact IsB.new _ _ _)
  have GZ := Lib.hid (show w.grownBy w1 none from by rw [hw1]; exact gb_al (gb_al (gb_refl _ _)))
  go_enter Try.func156, Try.ntmps156
  go_upto_region 1 with fail
  rw [← hA, ← hD, ← hw1]
  clear hw1 hD hA
  have a0 : w1.cell? ⟨A, 0, none⟩ = some (.int .i64 2) := BA.out.cell 0
  have a1 : w1.cell? ⟨A, 1, none⟩ = some (.int .i64 n) := BA.out.cell 1
  have a2 : w1.cell? ⟨A, 2, none⟩ = some (.int .i64 wd) := BA.out.cell 2
  have DE := Lib.hid (fun (W : World) (k : w.grownBy W none) => rdecl_any W (.string X.nm) (.slice X.a0 X.n0 X.c0) (.slice X.a1 X.n1 X.c1) (.slice X.a2 X.n2 X.c2) (.slice X.a3 X.n3 X.c3) (.slice X.a4 X.n4 X.c4) (.slice X.a5 X.n5 X.c5) X.ha X.ma X.hn X.hc X.mn X.mc C.H C.M (CC.out.hd.keep0 k) (CC.out.md.keep0 k) n wd)
  unfold RetV at DE
  unfold fieldT at H1 H2
  have d0 : w1.cell? ⟨D, 0, none⟩ = some (.string X.nm) := (BD.out).cell 0
  have d1 : w1.cell? ⟨D, 1, none⟩ = some (.slice X.ha X.hn X.hc) := (BD.out).cell 1
  have d2 : w1.cell? ⟨D, 2, none⟩ = some (.slice X.ma X.mn X.mc) := (BD.out).cell 2
  have d3 : w1.cell? ⟨D, 3, none⟩ = some (.slice X.a0 X.n0 X.c0) := (BD.out).cell 3
  have d4 : w1.cell? ⟨D, 4, none⟩ = some (.slice X.a1 X.n1 X.c1) := (BD.out).cell 4
  have d5 : w1.cell? ⟨D, 5, none⟩ = some (.slice X.a2 X.n2 X.c2) := (BD.out).cell 5
  have d6 : w1.cell? ⟨D, 6, none⟩ = some (.slice X.a3 X.n3 X.c3) := (BD.out).cell 6
  have d7 : w1.cell? ⟨D, 7, none⟩ = some (.slice X.a4 X.n4 X.c4) := (BD.out).cell 7
  have d8 : w1.cell? ⟨D, 8, none⟩ = some (.slice X.a5 X.n5 X.c5) := (BD.out).cell 8
  cases hx : isX wd (dfs C.H C.M n).length
  · have e : declT C.H C.M n wd = (0, false) := by unfold declT; rw [hx]; rfl
    rw [e] at DE
    obtain rfl : rw_ = 0 := by rw [← H1.out, hx]; rfl
    obtain rfl : re = 8 := by rw [← H2.out, hx]; rfl
    clear H1 H2 hx e
    go_wp2_with fail
    refine (DE.out _ GZ.out).mono ?_
    rintro e w3 ⟨rfl, g⟩
    have G3 := Lib.hid (gb_trans GZ.out g)
    clear g
    go_wp2
    go_ret2
    exact ⟨rfl, G3.out⟩
  · have e : declT C.H C.M n wd = (((dfs C.H C.M n).getD wd.toNat fz).2, true) := by unfold declT; rw [hx]; rfl
    have ew : widE C.H C.M n wd = if okW ((dfs C.H C.M n).getD wd.toNat fz).2 = true then ((dfs C.H C.M n).getD wd.toNat fz).2 else 0 := by unfold widE; rw [if_pos hx]
    rw [if_pos hx, ew] at H1 H2
    rw [e] at DE
    generalize ((dfs C.H C.M n).getD wd.toNat fz).2 = v at DE H1 H2
    clear hx e ew
    cases hw : okW v
    · have WI := Lib.hid (fun W => rwide_no W v hw)
      unfold RetS at WI
      rw [hw] at H1 H2
      obtain rfl : rw_ = 0 := by rw [← H1.out]; rfl
      obtain rfl : re = 10 := by rw [← H2.out]; rfl
      clear H1 H2 hw
      go_wp2_with fail
      refine (DE.out _ GZ.out).mono ?_
      rintro e w3 ⟨rfl, g⟩
      have G3 := Lib.hid (gb_trans GZ.out g)
      clear g
      go_wp2_with fail
      refine (WI.out _).mono ?_
      rintro e w4 ⟨rfl, rfl⟩
      go_wp2
      go_ret2
      exact ⟨rfl, G3.out⟩
    · have WI := Lib.hid (fun W => rwide_yes W v hw)
      unfold RetS at WI
      have hv := (okW_iff v).1 hw
      rw [if_pos hw, if_neg (by omega)] at H1 H2
      obtain rfl : rw_ = v := by rw [← H1.out]; rfl
      obtain rfl : re = 0 := by rw [← H2.out]; rfl
      clear H1 H2 hw hv
      go_wp2_with fail
      refine (DE.out _ GZ.out).mono ?_
      rintro e w3 ⟨rfl, g⟩
      have G3 := Lib.hid (gb_trans GZ.out g)
      clear g
      go_wp2_with fail
      refine (WI.out _).mono ?_
      rintro e w4 ⟨rfl, rfl⟩
      go_wp2
      go_ret2
      exact ⟨rfl, G3.out⟩
set_option maxRecDepth 100000 in
set_option maxHeartbeats 4000000 in
theorem rleaf_param (w : World) (X : KX) (C : Cx) (N : List Nd) (hC : CR w X C N) (op n wd : Int) (ho : op = 3) (hn : -9223372036854775808 ≤ n ∧ n ≤ 9223372036854775807) (rw_ re : Int) (h1 : rW (paramT C n) = rw_) (h2 : rE (paramT C n) = re) :
    Calls Try.prog 156 #[.agg #[.int .i64 op, .int .i64 n, .int .i64 wd], .agg #[.string X.nm, .slice X.ha X.hn X.hc, .slice X.ma X.mn X.mc, .slice X.a0 X.n0 X.c0, .slice X.a1 X.n1 X.c1, .slice X.a2 X.n2 X.c2, .slice X.a3 X.n3 X.c3, .slice X.a4 X.n4 X.c4, .slice X.a5 X.n5 X.c5, .slice X.pa X.pn X.pc]] w (RetV (.tuple #[.int .i64 rw_, .int .i64 re]) w) := by
  have H1 := Lib.hid h1
  have H2 := Lib.hid h2
  have CC := Lib.hid hC
  clear h1 h2 hC
  subst ho
  obtain ⟨A, hA⟩ : ∃ A, A = w.heap.size := ⟨_, rfl⟩
  obtain ⟨D, hD⟩ : ∃ D, D = A + 1 := ⟨_, rfl⟩
  obtain ⟨w1, hw1⟩ : ∃ w1, w1 = (w.alloc (.cells #[.int .i64 3, .int .i64 n, .int .i64 wd] 61)).alloc (.cells #[.string X.nm, .slice X.ha X.hn X.hc, .slice X.ma X.mn X.mc, .slice X.a0 X.n0 X.c0, .slice X.a1 X.n1 X.c1, .slice X.a2 X.n2 X.c2, .slice X.a3 X.n3 X.c3, .slice X.a4 X.n4 X.c4, .slice X.a5 X.n5 X.c5, .slice X.pa X.pn X.pc] 179) := ⟨_, rfl⟩
  have BA := Lib.hid (show IsB w1 A 61 #[.int .i64 3, .int .i64 n, .int .i64 wd] from by rw [hw1, hA]; exact (IsB.new _ _ _).alloc _)
  have BD := Lib.hid (show IsB w1 D 179 #[.string X.nm, .slice X.ha X.hn X.hc, .slice X.ma X.mn X.mc, .slice X.a0 X.n0 X.c0, .slice X.a1 X.n1 X.c1, .slice X.a2 X.n2 X.c2, .slice X.a3 X.n3 X.c3, .slice X.a4 X.n4 X.c4, .slice X.a5 X.n5 X.c5, .slice X.pa X.pn X.pc] from by rw [hw1, hD, hA, ← sz_al w (.cells #[.int .i64 3, .int .i64 n, .int .i64 wd] 61)]; exact IsB.new _ _ _)
  have GZ := Lib.hid (show w.grownBy w1 none from by rw [hw1]; exact gb_al (gb_al (gb_refl _ _)))
  go_enter Try.func156, Try.ntmps156
  go_upto_region 1 with fail
  rw [← hA, ← hD, ← hw1]
  clear hw1 hD hA
  have a0 : w1.cell? ⟨A, 0, none⟩ = some (.int .i64 3) := BA.out.cell 0
  have a1 : w1.cell? ⟨A, 1, none⟩ = some (.int .i64 n) := BA.out.cell 1
  have a2 : w1.cell? ⟨A, 2, none⟩ = some (.int .i64 wd) := BA.out.cell 2
  unfold paramT at H1 H2
  have PL := Lib.hid CC.out.pd.len
  have d9 : w1.cell? ⟨D, 9, none⟩ = some (.slice X.pa X.pn X.pc) := (BD.out).cell 9
  rcases (show n < 0 ∨ (0 ≤ n ∧ (X.pn : Int) ≤ n) ∨ (0 ≤ n ∧ n < (X.pn : Int)) by omega) with q | ⟨q, q2⟩ | ⟨q, q2⟩
  · rw [isX_no (.inl q)] at H1 H2
    obtain rfl : rw_ = 0 := by rw [← H1.out]; rfl
    obtain rfl : re = 8 := by rw [← H2.out]; rfl
    clear H1 H2
    go_wp2
    go_ret2
    exact ⟨rfl, GZ.out⟩
  · rw [isX_no (.inr (by rw [PL.out]; exact q2))] at H1 H2
    obtain rfl : rw_ = 0 := by rw [← H1.out]; rfl
    obtain rfl : re = 8 := by rw [← H2.out]; rfl
    have q3 : ¬ n < 0 := by omega
    clear H1 H2
    go_wp2
    go_ret2
    exact ⟨rfl, GZ.out⟩
  · obtain ⟨i, rfl⟩ := Int.eq_ofNat_of_zero_le q
    have hi : i < X.pn := by omega
    obtain ⟨bd, HFA⟩ := CC.out.pd.some (by omega)
    obtain ⟨e0, e1⟩ := (CC.out.pd.keep0 GZ.out).cells bd HFA i hi
    have hxi : isX (i : Int) C.P.length = true := isX_yes (by rw [PL.out]; exact hi)
    rw [if_pos hxi, Int.toNat_natCast] at H1 H2
    generalize (C.P.getD i fz).2 = v at *
    have q3 : ¬ (i : Int) < 0 := by omega
    have q4 : ¬ (X.pn : Int) ≤ (i : Int) := by omega
    rw [HFA] at d9 ⊢
    clear hxi e0
    cases hw : okW v
    · have WI := Lib.hid (fun W => rwide_no W v hw)
      unfold RetS at WI
      rw [hw] at H1 H2
      obtain rfl : rw_ = 0 := by rw [← H1.out]; rfl
      obtain rfl : re = 10 := by rw [← H2.out]; rfl
      clear H1 H2 hw
      go_wp2_with fail
      refine (WI.out _).mono ?_
      rintro e w4 ⟨rfl, rfl⟩
      go_wp2
      go_ret2
      exact ⟨rfl, GZ.out⟩
    · have WI := Lib.hid (fun W => rwide_yes W v hw)
      unfold RetS at WI
      rw [if_pos hw] at H1 H2
      obtain rfl : rw_ = v := by rw [← H1.out]; split <;> rfl
      obtain rfl : re = 0 := by rw [← H2.out]; split <;> rfl
      clear H1 H2 hw
      go_wp2_with fail
      refine (WI.out _).mono ?_
      rintro e w4 ⟨rfl, rfl⟩
      go_wp2
      go_ret2
      exact ⟨rfl, GZ.out⟩
set_option maxRecDepth 100000 in
set_option maxHeartbeats 4000000 in
theorem rleaf_valid (w : World) (X : KX) (C : Cx) (N : List Nd) (hC : CR w X C N) (op n wd : Int) (ho : op = 4) (hn : -9223372036854775808 ≤ n ∧ n ≤ 9223372036854775807) (rw_ re : Int) (h1 : rW (validT C n) = rw_) (h2 : rE (validT C n) = re) :
    Calls Try.prog 156 #[.agg #[.int .i64 op, .int .i64 n, .int .i64 wd], .agg #[.string X.nm, .slice X.ha X.hn X.hc, .slice X.ma X.mn X.mc, .slice X.a0 X.n0 X.c0, .slice X.a1 X.n1 X.c1, .slice X.a2 X.n2 X.c2, .slice X.a3 X.n3 X.c3, .slice X.a4 X.n4 X.c4, .slice X.a5 X.n5 X.c5, .slice X.pa X.pn X.pc]] w (RetV (.tuple #[.int .i64 rw_, .int .i64 re]) w) := by
  have H1 := Lib.hid h1
  have H2 := Lib.hid h2
  have CC := Lib.hid hC
  clear h1 h2 hC
  subst ho
  obtain ⟨A, hA⟩ : ∃ A, A = w.heap.size := ⟨_, rfl⟩
  obtain ⟨D, hD⟩ : ∃ D, D = A + 1 := ⟨_, rfl⟩
  obtain ⟨w1, hw1⟩ : ∃ w1, w1 = (w.alloc (.cells #[.int .i64 4, .int .i64 n, .int .i64 wd] 61)).alloc (.cells #[.string X.nm, .slice X.ha X.hn X.hc, .slice X.ma X.mn X.mc, .slice X.a0 X.n0 X.c0, .slice X.a1 X.n1 X.c1, .slice X.a2 X.n2 X.c2, .slice X.a3 X.n3 X.c3, .slice X.a4 X.n4 X.c4, .slice X.a5 X.n5 X.c5, .slice X.pa X.pn X.pc] 179) := ⟨_, rfl⟩
  have BA := Lib.hid (show IsB w1 A 61 #[.int .i64 4, .int .i64 n, .int .i64 wd] from by rw [hw1, hA]; exact (IsB.new _ _ _).alloc _)
  have BD := Lib.hid (show IsB w1 D 179 #[.string X.nm, .slice X.ha X.hn X.hc, .slice X.ma X.mn X.mc, .slice X.a0 X.n0 X.c0, .slice X.a1 X.n1 X.c1, .slice X.a2 X.n2 X.c2, .slice X.a3 X.n3 X.c3, .slice X.a4 X.n4 X.c4, .slice X.a5 X.n5 X.c5, .slice X.pa X.pn X.pc] from by rw [hw1, hD, hA, ← sz_al w (.cells #[.int .i64 4, .int .i64 n, .int .i64 wd] 61)]; exact IsB.new _ _ _)
  have GZ := Lib.hid (show w.grownBy w1 none from by rw [hw1]; exact gb_al (gb_al (gb_refl _ _)))
  go_enter Try.func156, Try.ntmps156
  go_upto_region 1 with fail
  rw [← hA, ← hD, ← hw1]
  clear hw1 hD hA
  have a0 : w1.cell? ⟨A, 0, none⟩ = some (.int .i64 4) := BA.out.cell 0
  have a1 : w1.cell? ⟨A, 1, none⟩ = some (.int .i64 n) := BA.out.cell 1
  have a2 : w1.cell? ⟨A, 2, none⟩ = some (.int .i64 wd) := BA.out.cell 2
  unfold validT at H1 H2
  have PL := Lib.hid CC.out.hd.len
  have d1 : w1.cell? ⟨D, 1, none⟩ = some (.slice X.ha X.hn X.hc) := (BD.out).cell 1
  rcases (show n < 0 ∨ (0 ≤ n ∧ (X.hn : Int) ≤ n) ∨ (0 ≤ n ∧ n < (X.hn : Int)) by omega) with q | ⟨q, q2⟩ | ⟨q, q2⟩
  · rw [isX_no (.inl q)] at H1 H2
    obtain rfl : rw_ = 0 := by rw [← H1.out]; rfl
    obtain rfl : re = 8 := by rw [← H2.out]; rfl
    clear H1 H2
    go_wp2
    go_ret2
    exact ⟨rfl, GZ.out⟩
  · rw [isX_no (.inr (by rw [PL.out]; exact q2))] at H1 H2
    obtain rfl : rw_ = 0 := by rw [← H1.out]; rfl
    obtain rfl : re = 8 := by rw [← H2.out]; rfl
    have q3 : ¬ n < 0 := by omega
    clear H1 H2
    go_wp2
    go_ret2
    exact ⟨rfl, GZ.out⟩
  · obtain ⟨i, rfl⟩ := Int.eq_ofNat_of_zero_le q
    have hxi : isX (i : Int) C.H.length = true := isX_yes (by rw [PL.out]; omega)
    rw [if_pos hxi] at H1 H2
    obtain rfl : rw_ = 1 := by rw [← H1.out]; rfl
    obtain rfl : re = 0 := by rw [← H2.out]; rfl
    have q3 : ¬ (i : Int) < 0 := by omega
    have q4 : ¬ (X.hn : Int) ≤ (i : Int) := by omega
    clear H1 H2 hxi
    go_wp2
    go_ret2
    exact ⟨rfl, GZ.out⟩
theorem rleaf_any (w : World) (X : KX) (C : Cx) (N : List Nd) (hC : CR w X C N) (op n wd : Int) (h1 : 1 ≤ op) (h4 : op ≤ 4) (hn : -9223372036854775808 ≤ n ∧ n ≤ 9223372036854775807) :
    Calls Try.prog 156 #[.agg #[.int .i64 op, .int .i64 n, .int .i64 wd], .agg #[.string X.nm, .slice X.ha X.hn X.hc, .slice X.ma X.mn X.mc, .slice X.a0 X.n0 X.c0, .slice X.a1 X.n1 X.c1, .slice X.a2 X.n2 X.c2, .slice X.a3 X.n3 X.c3, .slice X.a4 X.n4 X.c4, .slice X.a5 X.n5 X.c5, .slice X.pa X.pn X.pc]] w (RetWE (leafT C (op, n, wd)) w) := by
  rcases (show op = 1 ∨ op = 2 ∨ op = 3 ∨ op = 4 by omega) with h | h | h | h
  · rw [show leafT C (op, n, wd) = constT n wd by unfold leafT; exact if_pos h]
    exact rleaf_const w X op n wd h hn _ _ rfl rfl
  · rw [show leafT C (op, n, wd) = fieldT C n wd by unfold leafT; rw [if_neg (by show ¬ op = 1; omega), if_pos h]]
    exact rleaf_field w X C N hC op n wd h hn _ _ rfl rfl
  · rw [show leafT C (op, n, wd) = paramT C n by unfold leafT; rw [if_neg (by show ¬ op = 1; omega), if_neg (by show ¬ op = 2; omega), if_pos h]]
    exact rleaf_param w X C N hC op n wd h hn _ _ rfl rfl
  · rw [show leafT C (op, n, wd) = validT C n by unfold leafT; rw [if_neg (by show ¬ op = 1; omega), if_neg (by show ¬ op = 2; omega), if_neg (by show ¬ op = 3; omega)]]
    exact rleaf_valid w X C N hC op n wd h hn _ _ rfl rfl
end Go.Proofs.Ytdbjeihbfooipaa
