/- Expr: the operators' functions; no condition but that the operands fit their widths. -/
import Derived.Test.YtfjeonoihdgdoaaExC
namespace Go.Proofs.Ytfjeonoihdgdoaa
open Go.RowKit
set_option linter.unusedVariables false
theorem isb_al {w : World} {g : Nat} {t : TypeId} {cs : Array Value} {o : Obj} (h : IsB w g t cs) : IsB (w.alloc o) g t cs := h.alloc o
theorem isb1 (w : World) (t : TypeId) (cs : Array Value) : IsB (w.alloc (.cells cs t)) w.heap.size t cs := IsB.new w t cs
theorem isb2 (w : World) (t : TypeId) (cs : Array Value) (o : Obj) : IsB ((w.alloc o).alloc (.cells cs t)) (w.heap.size + 1) t cs := by
  have := IsB.new (w.alloc o) t cs
  rwa [sz_al] at this
theorem isb3 (w : World) (t : TypeId) (cs : Array Value) (o o2 : Obj) : IsB (((w.alloc o).alloc o2).alloc (.cells cs t)) (w.heap.size + 2) t cs := by
  have := IsB.new ((w.alloc o).alloc o2) t cs
  rwa [sz_al, sz_al] at this
theorem isb4 (w : World) (t : TypeId) (cs : Array Value) (o o2 o3 : Obj) : IsB ((((w.alloc o).alloc o2).alloc o3).alloc (.cells cs t)) (w.heap.size + 3) t cs := by
  have := IsB.new (((w.alloc o).alloc o2).alloc o3) t cs
  rwa [sz_al, sz_al, sz_al] at this
/-- A term and an error come back, and memory is made at most. -/
def RetT (r : Except Int Tm) (w : World) (e : Ending) (w' : World) : Prop := e = .returned (.tuple #[.agg #[.int .i64 (rW r), .int .u32 (rV r)], .int .i64 (rE r)]) ∧ w.grownBy w' none
set_option maxRecDepth 100000 in
set_option maxHeartbeats 4000000 in
theorem const_any (w : World) (n wd : Int) (hn : -9223372036854775808 ≤ n ∧ n ≤ 9223372036854775807) :
    Calls Try.prog 97 #[.int .i64 n, .int .i64 wd] w (RetT (constT n wd) w) := by
  obtain ⟨W2, hW2⟩ : ∃ W2, W2 = (w.alloc (.cells #[.int .i64 0, .int .u32 0] 88)) := ⟨_, rfl⟩
  have G2 := Lib.hid (show w.grownBy W2 none from by rw [hW2]; exact gb_al (gb_refl _ _))
  obtain ⟨A, hA⟩ : ∃ A, A = w.heap.size := ⟨_, rfl⟩
  have HA := Lib.hid (show w.heap.size ≤ A by omega)
  have B0 := Lib.hid (show IsB W2 A 88 #[.int .i64 0, .int .u32 0] from by rw [hW2, hA]; exact isb1 _ _ _ )
  have IW := Lib.hid (fun w => isw_any w wd)
  unfold RetV at IW
  have HD := Lib.hid (show constT n wd = if okW wd = true then (if 0 ≤ n ∧ n ≤ mkB wd then .ok (wd, n) else .error 9) else .error 10 from by unfold constT; simp only [okW_iff])
  go_enter Try.func97, Try.ntmps97
  go_upto_region 1 with fail
  rw [← hW2, ← hA]
  clear hW2 hA
  cases ho : okW wd with
  | false =>
    rw [ho] at IW HD
    rw [if_neg (by decide)] at HD
    clear ho
    go_wp2_with fail
    refine (IW.out _).mono ?_
    rintro e w3 ⟨rfl, g3⟩
    have G4 := Lib.hid (gb_trans G2.out g3)
    have k00 := ((B0.out.keep0 g3)).cell 0
    have k01 := ((B0.out.keep0 g3)).cell 1
    simp at k00 k01
    have f00 := ((B0.out.keep0 g3)).free 0
    have f01 := ((B0.out.keep0 g3)).free 1
    clear g3
    go_wp2
    (try simp only [Exit.inBlock, Exit.then])
    refine bodyPost_ret (v := (.tuple #[.agg #[.int .i64 (0), .int .u32 (0)], .int .i64 (10)])) (by rw [results_cell_tmp rfl]; go_simp) rfl ⟨by rw [HD.out] <;> rfl, ?_⟩
    exact gb_put (gb_put (G4.out) (by have := HA.out; omega)) (by have := HA.out; omega)
  | true =>
    have hw := (okW_iff _).1 ho
    rw [ho] at IW HD
    rw [if_pos rfl] at HD
    have MK := Lib.hid (fun W => mask_any wd W)
    have mr := mkB_range wd
    generalize mkB wd = m at *
    clear ho
    by_cases h0 : n < 0
    · rw [if_neg (by omega)] at HD
      go_wp2_with fail
      refine (IW.out _).mono ?_
      rintro e w3 ⟨rfl, g3⟩
      have G4 := Lib.hid (gb_trans G2.out g3)
      have k00 := ((B0.out.keep0 g3)).cell 0
      have k01 := ((B0.out.keep0 g3)).cell 1
      simp at k00 k01
      have f00 := ((B0.out.keep0 g3)).free 0
      have f01 := ((B0.out.keep0 g3)).free 1
      clear g3
      go_wp2
      (try simp only [Exit.inBlock, Exit.then])
      refine bodyPost_ret (v := (.tuple #[.agg #[.int .i64 (0), .int .u32 (0)], .int .i64 (9)])) (by rw [results_cell_tmp rfl]; go_simp) rfl ⟨by rw [HD.out] <;> rfl, ?_⟩
      exact gb_put (gb_put (G4.out) (by have := HA.out; omega)) (by have := HA.out; omega)
    · have h0' : 0 ≤ n := by omega
      have en : IntKind.u64.wrap n = n := by rw [IntKind.wrap_u64]; omega
      have em : IntKind.u64.wrap m = m := by rw [IntKind.wrap_u64]; omega
      by_cases h1 : n ≤ m
      · have h2 : ¬ m < n := by omega
        have en2 : IntKind.u32.wrap n = n := by rw [wrap32_u]; omega
        rw [if_pos ⟨h0', h1⟩] at HD
        go_wp2_with fail
        refine (IW.out _).mono ?_
        rintro e w3 ⟨rfl, g3⟩
        go_wp2_with fail
        refine (MK.out _).mono ?_
        rintro e w4 ⟨rfl, g4⟩
        have g5 := gb_trans g3 (gb_gr g4 none)
        have G4 := Lib.hid (gb_trans G2.out g5)
        have k00 := ((B0.out.keep0 g5)).cell 0
        have k01 := ((B0.out.keep0 g5)).cell 1
        simp at k00 k01
        have f00 := ((B0.out.keep0 g5)).free 0
        have f01 := ((B0.out.keep0 g5)).free 1
        clear g3 g4 g5
        go_wp2
        (try simp only [Exit.inBlock, Exit.then])
        refine bodyPost_ret (v := (.tuple #[.agg #[.int .i64 (wd), .int .u32 (n)], .int .i64 (0)])) (by rw [results_cell_tmp rfl]; go_simp) rfl ⟨by rw [HD.out] <;> rfl, ?_⟩
        exact gb_put (gb_put (G4.out) (by have := HA.out; omega)) (by have := HA.out; omega)
      · have h2 : m < n := by omega
        rw [if_neg (fun h => h1 h.2)] at HD
        go_wp2_with fail
        refine (IW.out _).mono ?_
        rintro e w3 ⟨rfl, g3⟩
        go_wp2_with fail
        refine (MK.out _).mono ?_
        rintro e w4 ⟨rfl, g4⟩
        have g5 := gb_trans g3 (gb_gr g4 none)
        have G4 := Lib.hid (gb_trans G2.out g5)
        have k00 := ((B0.out.keep0 g5)).cell 0
        have k01 := ((B0.out.keep0 g5)).cell 1
        simp at k00 k01
        have f00 := ((B0.out.keep0 g5)).free 0
        have f01 := ((B0.out.keep0 g5)).free 1
        clear g3 g4 g5
        go_wp2
        (try simp only [Exit.inBlock, Exit.then])
        refine bodyPost_ret (v := (.tuple #[.agg #[.int .i64 (0), .int .u32 (0)], .int .i64 (9)])) (by rw [results_cell_tmp rfl]; go_simp) rfl ⟨by rw [HD.out] <;> rfl, ?_⟩
        exact gb_put (gb_put (G4.out) (by have := HA.out; omega)) (by have := HA.out; omega)
set_option maxRecDepth 100000 in
set_option maxHeartbeats 4000000 in
theorem slice_any (w : World) (aw av lo wd : Int) (hg : GT (aw, av)) :
    Calls Try.prog 102 #[.agg #[.int .i64 aw, .int .u32 av], .int .i64 lo, .int .i64 wd] w (RetT (sliceT (aw, av) lo wd) w) := by
  obtain ⟨W2, hW2⟩ : ∃ W2, W2 = ((w.alloc (.cells #[.int .i64 aw, .int .u32 av] 88)).alloc (.cells #[.int .i64 0, .int .u32 0] 88)) := ⟨_, rfl⟩
  have G2 := Lib.hid (show w.grownBy W2 none from by rw [hW2]; exact gb_al (gb_al (gb_refl _ _)))
  obtain ⟨A, hA⟩ : ∃ A, A = w.heap.size := ⟨_, rfl⟩
  have HA := Lib.hid (show w.heap.size ≤ A by omega)
  have B0 := Lib.hid (show IsB W2 A 88 #[.int .i64 aw, .int .u32 av] from by rw [hW2, hA]; exact isb_al (isb1 _ _ _ ))
  have B1 := Lib.hid (show IsB W2 (A + 1) 88 #[.int .i64 0, .int .u32 0] from by rw [hW2, hA]; exact isb2 _ _ _  _)
  have IW := Lib.hid (fun w => isw_any w wd)
  unfold RetV at IW
  have HD := Lib.hid (show sliceT (aw, av) lo wd = if lo < 0 then .error 9 else if okW wd = true ∧ lo ≤ aw - wd then .ok (wd, sliceB av lo wd) else .error 10 from rfl)
  have ga := Lib.hid (gt_u32 hg)
  have gw := Lib.hid hg.1
  clear hg
  go_enter Try.func102, Try.ntmps102
  go_upto_region 1 with fail
  rw [← hW2, ← hA]
  clear hW2 hA
  by_cases h0 : lo < 0
  · rw [if_pos h0] at HD
    have k10 := ((B1.out)).cell 0
    have k11 := ((B1.out)).cell 1
    simp at k10 k11
    have f10 := ((B1.out)).free 0
    have f11 := ((B1.out)).free 1
    have G4 := Lib.hid G2.out
    go_wp2
    (try simp only [Exit.inBlock, Exit.then])
    refine bodyPost_ret (v := (.tuple #[.agg #[.int .i64 (0), .int .u32 (0)], .int .i64 (9)])) (by rw [results_cell_tmp rfl]; go_simp) rfl ⟨by rw [HD.out] <;> rfl, ?_⟩
    exact gb_put (gb_put (G4.out) (by have := HA.out; omega)) (by have := HA.out; omega)
  · rw [if_neg h0] at HD
    cases ho : okW wd with
    | false =>
      rw [ho] at IW HD
      rw [if_neg (by simp)] at HD
      clear ho
      go_wp2_with fail
      refine (IW.out _).mono ?_
      rintro e w3 ⟨rfl, g3⟩
      have G4 := Lib.hid (gb_trans G2.out g3)
      have k10 := ((B1.out.keep0 g3)).cell 0
      have k11 := ((B1.out.keep0 g3)).cell 1
      simp at k10 k11
      have f10 := ((B1.out.keep0 g3)).free 0
      have f11 := ((B1.out.keep0 g3)).free 1
      clear g3
      go_wp2
      (try simp only [Exit.inBlock, Exit.then])
      refine bodyPost_ret (v := (.tuple #[.agg #[.int .i64 (0), .int .u32 (0)], .int .i64 (10)])) (by rw [results_cell_tmp rfl]; go_simp) rfl ⟨by rw [HD.out] <;> rfl, ?_⟩
      exact gb_put (gb_put (G4.out) (by have := HA.out; omega)) (by have := HA.out; omega)
    | true =>
      rw [ho] at IW HD
      have hw := (okW_iff _).1 ho
      have aw1 := gw.out.1
      have aw2 := gw.out.2
      clear ho
      by_cases h1 : lo ≤ aw - wd
      · have h2 : ¬ aw - wd < lo := by omega
        rw [if_pos ⟨rfl, h1⟩] at HD
        have SL := Lib.hid (fun W => slice_yes_any av lo wd W ga.out.1 ga.out.2 hw.1 hw.2 (by omega) (by omega))
        generalize sliceB av lo wd = r at *
        go_wp2_with fail
        refine (IW.out _).mono ?_
        rintro e w3 ⟨rfl, g3⟩
        have k00 := ((B0.out.keep0 g3)).cell 0
        have k01 := ((B0.out.keep0 g3)).cell 1
        simp at k00 k01
        go_wp2_with fail
        refine (SL.out _).mono ?_
        rintro e w4 ⟨rfl, g4⟩
        have g5 := gb_trans g3 (gb_gr g4 none)
        have G4 := Lib.hid (gb_trans G2.out g5)
        have k10 := ((B1.out.keep0 g5)).cell 0
        have k11 := ((B1.out.keep0 g5)).cell 1
        simp at k10 k11
        have f10 := ((B1.out.keep0 g5)).free 0
        have f11 := ((B1.out.keep0 g5)).free 1
        clear g3 g4 g5 k00 k01
        go_wp2
        (try simp only [Exit.inBlock, Exit.then])
        refine bodyPost_ret (v := (.tuple #[.agg #[.int .i64 (wd), .int .u32 (r)], .int .i64 (0)])) (by rw [results_cell_tmp rfl]; go_simp) rfl ⟨by rw [HD.out] <;> rfl, ?_⟩
        exact gb_put (gb_put (G4.out) (by have := HA.out; omega)) (by have := HA.out; omega)
      · have h2 : aw - wd < lo := by omega
        rw [if_neg (fun h => h1 h.2)] at HD
        go_wp2_with fail
        refine (IW.out _).mono ?_
        rintro e w3 ⟨rfl, g3⟩
        have G4 := Lib.hid (gb_trans G2.out g3)
        have k00 := ((B0.out.keep0 g3)).cell 0
        have k01 := ((B0.out.keep0 g3)).cell 1
        simp at k00 k01
        have k10 := ((B1.out.keep0 g3)).cell 0
        have k11 := ((B1.out.keep0 g3)).cell 1
        simp at k10 k11
        have f10 := ((B1.out.keep0 g3)).free 0
        have f11 := ((B1.out.keep0 g3)).free 1
        clear g3
        go_wp2
        (try simp only [Exit.inBlock, Exit.then])
        refine bodyPost_ret (v := (.tuple #[.agg #[.int .i64 (0), .int .u32 (0)], .int .i64 (10)])) (by rw [results_cell_tmp rfl]; go_simp) rfl ⟨by rw [HD.out] <;> rfl, ?_⟩
        exact gb_put (gb_put (G4.out) (by have := HA.out; omega)) (by have := HA.out; omega)
end Go.Proofs.Ytfjeonoihdgdoaa
