/- Env: the reference's Width, Has, element, Get, modulo; no condition but sizes. -/
import Derived.Test.YtjhknmklejkknaaGxB
namespace Go.Proofs.Ytjhknmklejkknaa
open Go.RowKit
set_option linter.unusedVariables false
set_option maxRecDepth 100000 in
set_option maxHeartbeats 4000000 in
theorem rwid12_any (w : World) (nm v3 v4 v5 v6 v7 v8 : Value) (ha ma : Option Addr) (hn hc mn mc : Nat) (H : List (ByteArray × List Fld)) (M : List Fld) (hH : SH w ha hn hc H) (hM : SF w ma mn mc M) (h f : Int) :
    Calls Try.prog 53 #[.agg #[nm, .slice ha hn hc, .slice ma mn mc, v3, v4, v5, v6, v7, v8], .agg #[.int .i64 h, .int .i64 f]] w (RetV (.int .i64 (widE H M h f)) w) := by
  have HH := Lib.hid hH
  have HM := Lib.hid hM
  have HL := Lib.hid hH.len
  have HD := Lib.hid (show widE H M h f = if isX f (dfs H M h).length = true then (if okW ((dfs H M h).getD f.toNat fz).2 = true then ((dfs H M h).getD f.toNat fz).2 else 0) else 0 from rfl)
  have GB0 := Lib.hid (gb_trans (gb_alloc w (.cells #[nm, .slice ha hn hc, .slice ma mn mc, v3, v4, v5, v6, v7, v8] 31) none) (gb_alloc _ (.cells #[.int .i64 h, .int .i64 f] 52) none))
  have GB := Lib.hid (gb_trans (gb_alloc w (.cells #[nm, .slice ha hn hc, .slice ma mn mc, v3, v4, v5, v6, v7, v8] 31) none) (gb_alloc _ (.cells #[.int .i64 h, .int .i64 f] 52) none))
  have B1 := (IsB.new w 31 #[nm, .slice ha hn hc, .slice ma mn mc, v3, v4, v5, v6, v7, v8]).alloc (.cells #[.int .i64 h, .int .i64 f] 52)
  have B2 := IsB.new (w.alloc (.cells #[nm, .slice ha hn hc, .slice ma mn mc, v3, v4, v5, v6, v7, v8] 31)) 52 #[.int .i64 h, .int .i64 f]
  simp only [sz_al] at B2
  replace B1 := Lib.hid B1
  replace B2 := Lib.hid B2
  clear hH hM
  by_cases h0 : h < 0
  · have h0' : ¬ (0 : Int) ≤ h := by omega
    by_cases h1 : h < -1
    · have WE := Lib.hid (show widE H M h f = 0 by
        rw [HD.out]
        have : dfs H M h = [] := by unfold dfs; rw [if_neg (by omega), (isX_not h H.length).2 (by omega)]; rfl
        rw [this, (isX_not f ([] : List Fld).length).2 (by simp)]; rfl)
      clear HD
      go_enter Try.func53, Try.ntmps53
      go_upto_region 1 with fail
      generalize (w.alloc (.cells #[nm, .slice ha hn hc, .slice ma mn mc, v3, v4, v5, v6, v7, v8] 31)).alloc (.cells #[.int .i64 h, .int .i64 f] 52) = w2 at *
      obtain ⟨bx, hbx⟩ : ∃ b, b = w.heap.size := ⟨_, rfl⟩
      have Lbx := Lib.hid (show w.heap.size ≤ bx by rw [hbx]; exact Nat.le_refl _)
      rw [← hbx] at B1 B2 ⊢
      clear hbx
      have c0 := B1.out.cell 0
      have c1 := B1.out.cell 1
      have c2 := B1.out.cell 2
      have c3 := B1.out.cell 3
      have c4 := B1.out.cell 4
      have c5 := B1.out.cell 5
      have c6 := B1.out.cell 6
      have c7 := B1.out.cell 7
      have c8 := B1.out.cell 8
      dsimp at c0 c1 c2 c3 c4 c5 c6 c7 c8
      have r0 := B2.out.cell 0
      have r1 := B2.out.cell 1
      dsimp at r0 r1
      go_wp2
      go_ret
      exact ⟨by rw [WE.out] <;> rfl, GB.out⟩
    obtain rfl : h = -1 := by omega
    have SD := HM
    have DL := Lib.hid HM.out.len
    rw [show dfs H M (-1) = M from by unfold dfs; rw [if_pos rfl]] at HD
    by_cases f0 : f < 0
    · have WE := Lib.hid (show widE H M (-1) f = 0 by rw [HD.out, (isX_not f M.length).2 (by omega)]; rfl)
      clear HD
      go_enter Try.func53, Try.ntmps53
      go_upto_region 1 with fail
      generalize (w.alloc (.cells #[nm, .slice ha hn hc, .slice ma mn mc, v3, v4, v5, v6, v7, v8] 31)).alloc (.cells #[.int .i64 (-1), .int .i64 f] 52) = w2 at *
      obtain ⟨bx, hbx⟩ : ∃ b, b = w.heap.size := ⟨_, rfl⟩
      have Lbx := Lib.hid (show w.heap.size ≤ bx by rw [hbx]; exact Nat.le_refl _)
      rw [← hbx] at B1 B2 ⊢
      clear hbx
      have c0 := B1.out.cell 0
      have c1 := B1.out.cell 1
      have c2 := B1.out.cell 2
      have c3 := B1.out.cell 3
      have c4 := B1.out.cell 4
      have c5 := B1.out.cell 5
      have c6 := B1.out.cell 6
      have c7 := B1.out.cell 7
      have c8 := B1.out.cell 8
      dsimp at c0 c1 c2 c3 c4 c5 c6 c7 c8
      have r0 := B2.out.cell 0
      have r1 := B2.out.cell 1
      dsimp at r0 r1
      go_wp2
      go_ret
      exact ⟨by rw [WE.out] <;> rfl, GB.out⟩
    by_cases f1 : (mn : Int) ≤ f
    · have WE := Lib.hid (show widE H M (-1) f = 0 by rw [HD.out, (isX_not f M.length).2 (by rw [DL.out]; omega)]; rfl)
      clear HD
      go_enter Try.func53, Try.ntmps53
      go_upto_region 1 with fail
      generalize (w.alloc (.cells #[nm, .slice ha hn hc, .slice ma mn mc, v3, v4, v5, v6, v7, v8] 31)).alloc (.cells #[.int .i64 (-1), .int .i64 f] 52) = w2 at *
      obtain ⟨bx, hbx⟩ : ∃ b, b = w.heap.size := ⟨_, rfl⟩
      have Lbx := Lib.hid (show w.heap.size ≤ bx by rw [hbx]; exact Nat.le_refl _)
      rw [← hbx] at B1 B2 ⊢
      clear hbx
      have c0 := B1.out.cell 0
      have c1 := B1.out.cell 1
      have c2 := B1.out.cell 2
      have c3 := B1.out.cell 3
      have c4 := B1.out.cell 4
      have c5 := B1.out.cell 5
      have c6 := B1.out.cell 6
      have c7 := B1.out.cell 7
      have c8 := B1.out.cell 8
      dsimp at c0 c1 c2 c3 c4 c5 c6 c7 c8
      have r0 := B2.out.cell 0
      have r1 := B2.out.cell 1
      dsimp at r0 r1
      go_wp2
      go_ret
      exact ⟨by rw [WE.out] <;> rfl, GB.out⟩
    obtain ⟨j, rfl⟩ : ∃ j : Nat, f = (j : Int) := ⟨f.toNat, by omega⟩
    have hj : j < mn := by omega
    obtain ⟨fd, hfd⟩ := SD.out.some (by omega)
    obtain ⟨-, e1⟩ := SD.out.cells fd hfd j hj
    rw [(isX_iff (j : Int) M.length).2 (by rw [DL.out]; omega), if_pos rfl, Int.toNat_natCast] at HD
    generalize (M.getD j fz).2 = wd at *
    have i1 : (j : Int) < mn := by omega
    have i0 : (0 : Int) ≤ (j : Int) := by omega
    have e2 := (GB0.out).cell e1 (by simp)
    subst hfd
    clear f0 f1 e1
    by_cases w0 : wd < 1
    · have WE := Lib.hid (show widE H M (-1) (j : Int) = 0 by rw [HD.out, show okW wd = false from decide_eq_false (by omega)]; rfl)
      clear HD
      go_enter Try.func53, Try.ntmps53
      go_upto_region 1 with fail
      generalize (w.alloc (.cells #[nm, .slice ha hn hc, .slice (some fd) mn mc, v3, v4, v5, v6, v7, v8] 31)).alloc (.cells #[.int .i64 (-1), .int .i64 (j : Int)] 52) = w2 at *
      obtain ⟨bx, hbx⟩ : ∃ b, b = w.heap.size := ⟨_, rfl⟩
      have Lbx := Lib.hid (show w.heap.size ≤ bx by rw [hbx]; exact Nat.le_refl _)
      rw [← hbx] at B1 B2 ⊢
      clear hbx
      have c0 := B1.out.cell 0
      have c1 := B1.out.cell 1
      have c2 := B1.out.cell 2
      have c3 := B1.out.cell 3
      have c4 := B1.out.cell 4
      have c5 := B1.out.cell 5
      have c6 := B1.out.cell 6
      have c7 := B1.out.cell 7
      have c8 := B1.out.cell 8
      dsimp at c0 c1 c2 c3 c4 c5 c6 c7 c8
      have r0 := B2.out.cell 0
      have r1 := B2.out.cell 1
      dsimp at r0 r1
      go_wp2
      go_ret
      exact ⟨by rw [WE.out] <;> rfl, GB.out⟩
    by_cases w1 : 32 < wd
    · have WE := Lib.hid (show widE H M (-1) (j : Int) = 0 by rw [HD.out, show okW wd = false from decide_eq_false (by omega)]; rfl)
      clear HD
      go_enter Try.func53, Try.ntmps53
      go_upto_region 1 with fail
      generalize (w.alloc (.cells #[nm, .slice ha hn hc, .slice (some fd) mn mc, v3, v4, v5, v6, v7, v8] 31)).alloc (.cells #[.int .i64 (-1), .int .i64 (j : Int)] 52) = w2 at *
      obtain ⟨bx, hbx⟩ : ∃ b, b = w.heap.size := ⟨_, rfl⟩
      have Lbx := Lib.hid (show w.heap.size ≤ bx by rw [hbx]; exact Nat.le_refl _)
      rw [← hbx] at B1 B2 ⊢
      clear hbx
      have c0 := B1.out.cell 0
      have c1 := B1.out.cell 1
      have c2 := B1.out.cell 2
      have c3 := B1.out.cell 3
      have c4 := B1.out.cell 4
      have c5 := B1.out.cell 5
      have c6 := B1.out.cell 6
      have c7 := B1.out.cell 7
      have c8 := B1.out.cell 8
      dsimp at c0 c1 c2 c3 c4 c5 c6 c7 c8
      have r0 := B2.out.cell 0
      have r1 := B2.out.cell 1
      dsimp at r0 r1
      go_wp2
      go_ret
      exact ⟨by rw [WE.out] <;> rfl, GB.out⟩
    have WE := Lib.hid (show widE H M (-1) (j : Int) = wd by rw [HD.out, show okW wd = true from decide_eq_true (by omega)]; rfl)
    clear HD
    go_enter Try.func53, Try.ntmps53
    go_upto_region 1 with fail
    generalize (w.alloc (.cells #[nm, .slice ha hn hc, .slice (some fd) mn mc, v3, v4, v5, v6, v7, v8] 31)).alloc (.cells #[.int .i64 (-1), .int .i64 (j : Int)] 52) = w2 at *
    obtain ⟨bx, hbx⟩ : ∃ b, b = w.heap.size := ⟨_, rfl⟩
    have Lbx := Lib.hid (show w.heap.size ≤ bx by rw [hbx]; exact Nat.le_refl _)
    rw [← hbx] at B1 B2 ⊢
    clear hbx
    have c0 := B1.out.cell 0
    have c1 := B1.out.cell 1
    have c2 := B1.out.cell 2
    have c3 := B1.out.cell 3
    have c4 := B1.out.cell 4
    have c5 := B1.out.cell 5
    have c6 := B1.out.cell 6
    have c7 := B1.out.cell 7
    have c8 := B1.out.cell 8
    dsimp at c0 c1 c2 c3 c4 c5 c6 c7 c8
    have r0 := B2.out.cell 0
    have r1 := B2.out.cell 1
    dsimp at r0 r1
    go_wp2
    go_ret
    exact ⟨by rw [WE.out] <;> rfl, GB.out⟩
  · by_cases h1 : (hn : Int) ≤ h
    · have h0' : (0 : Int) ≤ h := by omega
      have WE := Lib.hid (show widE H M h f = 0 by
        rw [HD.out]
        have : dfs H M h = [] := by unfold dfs; rw [if_neg (by omega), (isX_not h H.length).2 (by rw [HL.out]; omega)]; rfl
        rw [this, (isX_not f ([] : List Fld).length).2 (by simp)]; rfl)
      clear HD
      go_enter Try.func53, Try.ntmps53
      go_upto_region 1 with fail
      generalize (w.alloc (.cells #[nm, .slice ha hn hc, .slice ma mn mc, v3, v4, v5, v6, v7, v8] 31)).alloc (.cells #[.int .i64 h, .int .i64 f] 52) = w2 at *
      obtain ⟨bx, hbx⟩ : ∃ b, b = w.heap.size := ⟨_, rfl⟩
      have Lbx := Lib.hid (show w.heap.size ≤ bx by rw [hbx]; exact Nat.le_refl _)
      rw [← hbx] at B1 B2 ⊢
      clear hbx
      have c0 := B1.out.cell 0
      have c1 := B1.out.cell 1
      have c2 := B1.out.cell 2
      have c3 := B1.out.cell 3
      have c4 := B1.out.cell 4
      have c5 := B1.out.cell 5
      have c6 := B1.out.cell 6
      have c7 := B1.out.cell 7
      have c8 := B1.out.cell 8
      dsimp at c0 c1 c2 c3 c4 c5 c6 c7 c8
      have r0 := B2.out.cell 0
      have r1 := B2.out.cell 1
      dsimp at r0 r1
      go_wp2
      go_ret
      exact ⟨by rw [WE.out] <;> rfl, GB.out⟩
    obtain ⟨k, rfl⟩ : ∃ k : Nat, h = (k : Int) := ⟨h.toNat, by omega⟩
    have hk : k < hn := by omega
    obtain ⟨hd, hhd⟩ := HH.out.some (by omega)
    obtain ⟨-, fa, fn, fc, g1, sf⟩ := HH.out.cells hd hhd k hk
    have SD := Lib.hid sf
    have DL := Lib.hid sf.len
    rw [show dfs H M (k : Int) = (H.getD k hz).2 from by unfold dfs; rw [if_neg (by omega), (isX_iff (k : Int) H.length).2 (by rw [HL.out]; omega), if_pos rfl, Int.toNat_natCast]] at HD
    generalize (H.getD k hz).2 = D at *
    have k1 : (k : Int) < hn := by omega
    have k0 : (0 : Int) ≤ (k : Int) := by omega
    have k2 : ¬ (hn : Int) ≤ (k : Int) := by omega
    have k3 : ¬ (k : Int) < -1 := by omega
    have g2 := (GB0.out).cell g1 (by simp)
    subst hhd
    clear sf g1 h0 h1
    by_cases f0 : f < 0
    · have WE := Lib.hid (show widE H M (k : Int) f = 0 by rw [HD.out, (isX_not f D.length).2 (by omega)]; rfl)
      clear HD
      go_enter Try.func53, Try.ntmps53
      go_upto_region 1 with fail
      generalize (w.alloc (.cells #[nm, .slice (some hd) hn hc, .slice ma mn mc, v3, v4, v5, v6, v7, v8] 31)).alloc (.cells #[.int .i64 (k : Int), .int .i64 f] 52) = w2 at *
      obtain ⟨bx, hbx⟩ : ∃ b, b = w.heap.size := ⟨_, rfl⟩
      have Lbx := Lib.hid (show w.heap.size ≤ bx by rw [hbx]; exact Nat.le_refl _)
      rw [← hbx] at B1 B2 ⊢
      clear hbx
      have c0 := B1.out.cell 0
      have c1 := B1.out.cell 1
      have c2 := B1.out.cell 2
      have c3 := B1.out.cell 3
      have c4 := B1.out.cell 4
      have c5 := B1.out.cell 5
      have c6 := B1.out.cell 6
      have c7 := B1.out.cell 7
      have c8 := B1.out.cell 8
      dsimp at c0 c1 c2 c3 c4 c5 c6 c7 c8
      have r0 := B2.out.cell 0
      have r1 := B2.out.cell 1
      dsimp at r0 r1
      go_wp2
      go_ret
      exact ⟨by rw [WE.out] <;> rfl, GB.out⟩
    by_cases f1 : (fn : Int) ≤ f
    · have WE := Lib.hid (show widE H M (k : Int) f = 0 by rw [HD.out, (isX_not f D.length).2 (by rw [DL.out]; omega)]; rfl)
      clear HD
      go_enter Try.func53, Try.ntmps53
      go_upto_region 1 with fail
      generalize (w.alloc (.cells #[nm, .slice (some hd) hn hc, .slice ma mn mc, v3, v4, v5, v6, v7, v8] 31)).alloc (.cells #[.int .i64 (k : Int), .int .i64 f] 52) = w2 at *
      obtain ⟨bx, hbx⟩ : ∃ b, b = w.heap.size := ⟨_, rfl⟩
      have Lbx := Lib.hid (show w.heap.size ≤ bx by rw [hbx]; exact Nat.le_refl _)
      rw [← hbx] at B1 B2 ⊢
      clear hbx
      have c0 := B1.out.cell 0
      have c1 := B1.out.cell 1
      have c2 := B1.out.cell 2
      have c3 := B1.out.cell 3
      have c4 := B1.out.cell 4
      have c5 := B1.out.cell 5
      have c6 := B1.out.cell 6
      have c7 := B1.out.cell 7
      have c8 := B1.out.cell 8
      dsimp at c0 c1 c2 c3 c4 c5 c6 c7 c8
      have r0 := B2.out.cell 0
      have r1 := B2.out.cell 1
      dsimp at r0 r1
      go_wp2
      go_ret
      exact ⟨by rw [WE.out] <;> rfl, GB.out⟩
    obtain ⟨j, rfl⟩ : ∃ j : Nat, f = (j : Int) := ⟨f.toNat, by omega⟩
    have hj : j < fn := by omega
    obtain ⟨fd, hfd⟩ := SD.out.some (by omega)
    obtain ⟨-, e1⟩ := SD.out.cells fd hfd j hj
    rw [(isX_iff (j : Int) D.length).2 (by rw [DL.out]; omega), if_pos rfl, Int.toNat_natCast] at HD
    generalize (D.getD j fz).2 = wd at *
    have i1 : (j : Int) < fn := by omega
    have i0 : (0 : Int) ≤ (j : Int) := by omega
    have e2 := (GB0.out).cell e1 (by simp)
    subst hfd
    clear f0 f1 e1
    by_cases w0 : wd < 1
    · have WE := Lib.hid (show widE H M (k : Int) (j : Int) = 0 by rw [HD.out, show okW wd = false from decide_eq_false (by omega)]; rfl)
      clear HD
      go_enter Try.func53, Try.ntmps53
      go_upto_region 1 with fail
      generalize (w.alloc (.cells #[nm, .slice (some hd) hn hc, .slice ma mn mc, v3, v4, v5, v6, v7, v8] 31)).alloc (.cells #[.int .i64 (k : Int), .int .i64 (j : Int)] 52) = w2 at *
      obtain ⟨bx, hbx⟩ : ∃ b, b = w.heap.size := ⟨_, rfl⟩
      have Lbx := Lib.hid (show w.heap.size ≤ bx by rw [hbx]; exact Nat.le_refl _)
      rw [← hbx] at B1 B2 ⊢
      clear hbx
      have c0 := B1.out.cell 0
      have c1 := B1.out.cell 1
      have c2 := B1.out.cell 2
      have c3 := B1.out.cell 3
      have c4 := B1.out.cell 4
      have c5 := B1.out.cell 5
      have c6 := B1.out.cell 6
      have c7 := B1.out.cell 7
      have c8 := B1.out.cell 8
      dsimp at c0 c1 c2 c3 c4 c5 c6 c7 c8
      have r0 := B2.out.cell 0
      have r1 := B2.out.cell 1
      dsimp at r0 r1
      go_wp2
      go_ret
      exact ⟨by rw [WE.out] <;> rfl, GB.out⟩
    by_cases w1 : 32 < wd
    · have WE := Lib.hid (show widE H M (k : Int) (j : Int) = 0 by rw [HD.out, show okW wd = false from decide_eq_false (by omega)]; rfl)
      clear HD
      go_enter Try.func53, Try.ntmps53
      go_upto_region 1 with fail
      generalize (w.alloc (.cells #[nm, .slice (some hd) hn hc, .slice ma mn mc, v3, v4, v5, v6, v7, v8] 31)).alloc (.cells #[.int .i64 (k : Int), .int .i64 (j : Int)] 52) = w2 at *
      obtain ⟨bx, hbx⟩ : ∃ b, b = w.heap.size := ⟨_, rfl⟩
      have Lbx := Lib.hid (show w.heap.size ≤ bx by rw [hbx]; exact Nat.le_refl _)
      rw [← hbx] at B1 B2 ⊢
      clear hbx
      have c0 := B1.out.cell 0
      have c1 := B1.out.cell 1
      have c2 := B1.out.cell 2
      have c3 := B1.out.cell 3
      have c4 := B1.out.cell 4
      have c5 := B1.out.cell 5
      have c6 := B1.out.cell 6
      have c7 := B1.out.cell 7
      have c8 := B1.out.cell 8
      dsimp at c0 c1 c2 c3 c4 c5 c6 c7 c8
      have r0 := B2.out.cell 0
      have r1 := B2.out.cell 1
      dsimp at r0 r1
      go_wp2
      go_ret
      exact ⟨by rw [WE.out] <;> rfl, GB.out⟩
    have WE := Lib.hid (show widE H M (k : Int) (j : Int) = wd by rw [HD.out, show okW wd = true from decide_eq_true (by omega)]; rfl)
    clear HD
    go_enter Try.func53, Try.ntmps53
    go_upto_region 1 with fail
    generalize (w.alloc (.cells #[nm, .slice (some hd) hn hc, .slice ma mn mc, v3, v4, v5, v6, v7, v8] 31)).alloc (.cells #[.int .i64 (k : Int), .int .i64 (j : Int)] 52) = w2 at *
    obtain ⟨bx, hbx⟩ : ∃ b, b = w.heap.size := ⟨_, rfl⟩
    have Lbx := Lib.hid (show w.heap.size ≤ bx by rw [hbx]; exact Nat.le_refl _)
    rw [← hbx] at B1 B2 ⊢
    clear hbx
    have c0 := B1.out.cell 0
    have c1 := B1.out.cell 1
    have c2 := B1.out.cell 2
    have c3 := B1.out.cell 3
    have c4 := B1.out.cell 4
    have c5 := B1.out.cell 5
    have c6 := B1.out.cell 6
    have c7 := B1.out.cell 7
    have c8 := B1.out.cell 8
    dsimp at c0 c1 c2 c3 c4 c5 c6 c7 c8
    have r0 := B2.out.cell 0
    have r1 := B2.out.cell 1
    dsimp at r0 r1
    go_wp2
    go_ret
    exact ⟨by rw [WE.out] <;> rfl, GB.out⟩
end Go.Proofs.Ytjhknmklejkknaa
