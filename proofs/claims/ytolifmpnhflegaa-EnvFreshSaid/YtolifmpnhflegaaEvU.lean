/- Env: the reference's AddHeader and RemoveHeader; no condition but sizes. -/
import Derived.Test.YtolifmpnhflegaaEvT
namespace Go.Proofs.Ytolifmpnhflegaa
open Go.RowKit
set_option linter.unusedVariables false
set_option maxRecDepth 100000 in
set_option maxHeartbeats 4000000 in
theorem radd_any (w : World) (nm m v3 v4 v5 v6 v7 v8 : Value) (ha : Option Addr) (hn hc : Nat) (X : EX) (L : EL) (he : ER w X L) (hz : EZ X L) (h : Int) :
    Calls Try.prog 24 #[.agg #[nm, .slice ha hn hc, m, v3, v4, v5, v6, v7, v8], .agg #[.slice X.va X.vn X.vc, .slice X.fa X.fn X.fc, .slice X.ta X.tn X.tc, .slice X.pa X.pn X.pc], .int .i64 h] w (RetE (if (isX h hn && isX h X.vn && !(validB L.V h)) = true then withE L h.toNat true else L) w) := by
  have HR := Lib.hid he
  have HZ := Lib.hid hz
  obtain ⟨R, hR⟩ : ∃ R, R = (if (isX h hn && isX h X.vn && !(validB L.V h)) = true then withE L h.toNat true else L) := ⟨_, rfl⟩
  rw [← hR]
  have G3 := Lib.hid (gb_trans (gb_trans (gb_alloc w (.cells #[nm, .slice ha hn hc, m, v3, v4, v5, v6, v7, v8] 31) none) (gb_alloc _ (.cells #[.slice X.va X.vn X.vc, .slice X.fa X.fn X.fc, .slice X.ta X.tn X.tc, .slice X.pa X.pn X.pc] 37) none)) (gb_alloc _ (.cells #[.slice none 0 0, .slice none 0 0, .slice none 0 0, .slice none 0 0] 37) none))
  have B1 := ((IsB.new w 31 #[nm, .slice ha hn hc, m, v3, v4, v5, v6, v7, v8]).alloc (.cells #[.slice X.va X.vn X.vc, .slice X.fa X.fn X.fc, .slice X.ta X.tn X.tc, .slice X.pa X.pn X.pc] 37)).alloc (.cells #[.slice none 0 0, .slice none 0 0, .slice none 0 0, .slice none 0 0] 37)
  have B2 := (IsB.new (w.alloc (.cells #[nm, .slice ha hn hc, m, v3, v4, v5, v6, v7, v8] 31)) 37 #[.slice X.va X.vn X.vc, .slice X.fa X.fn X.fc, .slice X.ta X.tn X.tc, .slice X.pa X.pn X.pc]).alloc (.cells #[.slice none 0 0, .slice none 0 0, .slice none 0 0, .slice none 0 0] 37)
  have B3 := IsB.new ((w.alloc (.cells #[nm, .slice ha hn hc, m, v3, v4, v5, v6, v7, v8] 31)).alloc (.cells #[.slice X.va X.vn X.vc, .slice X.fa X.fn X.fc, .slice X.ta X.tn X.tc, .slice X.pa X.pn X.pc] 37)) 37 #[.slice none 0 0, .slice none 0 0, .slice none 0 0, .slice none 0 0]
  simp only [sz_al] at B2 B3
  replace B1 := Lib.hid B1
  replace B2 := Lib.hid B2
  replace B3 := Lib.hid B3
  clear he hz
  go_enter Try.func24, Try.ntmps24
  go_upto_region 1 with fail
  generalize ((w.alloc (.cells #[nm, .slice ha hn hc, m, v3, v4, v5, v6, v7, v8] 31)).alloc (.cells #[.slice X.va X.vn X.vc, .slice X.fa X.fn X.fc, .slice X.ta X.tn X.tc, .slice X.pa X.pn X.pc] 37)).alloc (.cells #[.slice none 0 0, .slice none 0 0, .slice none 0 0, .slice none 0 0] 37) = w3 at *
  obtain ⟨bx, hbx⟩ : ∃ b, b = w.heap.size := ⟨_, rfl⟩
  have Lbx := Lib.hid (show w.heap.size ≤ bx by rw [hbx]; exact Nat.le_refl _)
  rw [← hbx] at B1 B2 B3 ⊢
  clear hbx
  have c0 := B1.out.cell 0
  have c1 := B1.out.cell 1
  have c2 := B1.out.cell 2
  have c3 := B1.out.cell 3
  have c4 := B1.out.cell 4
  have c5 := B1.out.cell 5
  have c6 := B1.out.cell 6
  have c7 := B1.out.cell 7
  have c8 := B1.out.cell 8
  dsimp at c0 c1 c2 c3 c4 c5 c6 c7 c8
  have x0 := B2.out.cell 0
  have x1 := B2.out.cell 1
  have x2 := B2.out.cell 2
  have x3 := B2.out.cell 3
  dsimp at x0 x1 x2 x3
  have L3 := Lib.hid (show w.heap.size ≤ bx + 1 + 1 from by have := Lbx.out; omega)
  have VL := Lib.hid (show L.V.length = X.vn from HR.out.v.len)
  by_cases a1 : h < 0
  · have C : (isX h hn && isX h X.vn && !(validB L.V h)) = false := by rw [(isX_not h hn).2 (by omega)]; rfl
    rw [C, if_neg (by simp)] at hR
    have HQ := Lib.hid hR
    clear C hR
    have CC := Lib.hid (rclone_any w3 X L (HR.out.keep0 G3.out) HZ.out)
    go_wp2_with (go_at_call 31; refine (CC.out).mono ?_; rintro e wz ⟨Xz, Vz, rfl, oe, gz⟩; have bz := B3.out.keep0 gz; obtain ⟨Wz, hWz, oz, iz⟩ := oe_store oe bz; have z0 := bz.cell 0; have z1 := bz.cell 1; have z2 := bz.cell 2; have z3 := bz.cell 3; dsimp at z0 z1 z2 z3; have f0 := bz.free 0; have f1 := bz.free 1; have f2 := bz.free 2; have f3 := bz.free 3; have GZ := Lib.hid gz; have OZ := Lib.hid oz; clear oe oz gz bz)
    rw [← hWz]
    have k0 := iz.cell 0
    have k1 := iz.cell 1
    have k2 := iz.cell 2
    have k3 := iz.cell 3
    dsimp at k0 k1 k2 k3
    refine bodyPost_ret (v := .agg #[.slice Xz.va Xz.vn Xz.vc, .slice Xz.fa Xz.fn Xz.fc, .slice Xz.ta Xz.tn Xz.tc, .slice Xz.pa Xz.pn Xz.pc]) (by rw [results_cell1 rfl]; go_simp; try rfl) rfl ⟨Xz, Vz, rfl, (by rw [HQ.out]; exact OZ.out.low G3.out.size), ?_⟩
    rw [hWz]
    exact gb_put (gb_put (gb_put (gb_put (gb_trans G3.out GZ.out) L3.out) L3.out) L3.out) L3.out
  · by_cases a2 : (hn : Int) ≤ h
    · have C : (isX h hn && isX h X.vn && !(validB L.V h)) = false := by rw [(isX_not h hn).2 (by omega)]; rfl
      rw [C, if_neg (by simp)] at hR
      have HQ := Lib.hid hR
      clear C hR
      have CC := Lib.hid (rclone_any w3 X L (HR.out.keep0 G3.out) HZ.out)
      go_wp2_with (go_at_call 31; refine (CC.out).mono ?_; rintro e wz ⟨Xz, Vz, rfl, oe, gz⟩; have bz := B3.out.keep0 gz; obtain ⟨Wz, hWz, oz, iz⟩ := oe_store oe bz; have z0 := bz.cell 0; have z1 := bz.cell 1; have z2 := bz.cell 2; have z3 := bz.cell 3; dsimp at z0 z1 z2 z3; have f0 := bz.free 0; have f1 := bz.free 1; have f2 := bz.free 2; have f3 := bz.free 3; have GZ := Lib.hid gz; have OZ := Lib.hid oz; clear oe oz gz bz)
      rw [← hWz]
      have k0 := iz.cell 0
      have k1 := iz.cell 1
      have k2 := iz.cell 2
      have k3 := iz.cell 3
      dsimp at k0 k1 k2 k3
      refine bodyPost_ret (v := .agg #[.slice Xz.va Xz.vn Xz.vc, .slice Xz.fa Xz.fn Xz.fc, .slice Xz.ta Xz.tn Xz.tc, .slice Xz.pa Xz.pn Xz.pc]) (by rw [results_cell1 rfl]; go_simp; try rfl) rfl ⟨Xz, Vz, rfl, (by rw [HQ.out]; exact OZ.out.low G3.out.size), ?_⟩
      rw [hWz]
      exact gb_put (gb_put (gb_put (gb_put (gb_trans G3.out GZ.out) L3.out) L3.out) L3.out) L3.out
    · by_cases a3 : (X.vn : Int) ≤ h
      · have C : (isX h hn && isX h X.vn && !(validB L.V h)) = false := by rw [(isX_not h X.vn).2 (by omega), Bool.and_false]; rfl
        rw [C, if_neg (by simp)] at hR
        have HQ := Lib.hid hR
        clear C hR
        have CC := Lib.hid (rclone_any w3 X L (HR.out.keep0 G3.out) HZ.out)
        go_wp2_with (go_at_call 31; refine (CC.out).mono ?_; rintro e wz ⟨Xz, Vz, rfl, oe, gz⟩; have bz := B3.out.keep0 gz; obtain ⟨Wz, hWz, oz, iz⟩ := oe_store oe bz; have z0 := bz.cell 0; have z1 := bz.cell 1; have z2 := bz.cell 2; have z3 := bz.cell 3; dsimp at z0 z1 z2 z3; have f0 := bz.free 0; have f1 := bz.free 1; have f2 := bz.free 2; have f3 := bz.free 3; have GZ := Lib.hid gz; have OZ := Lib.hid oz; clear oe oz gz bz)
        rw [← hWz]
        have k0 := iz.cell 0
        have k1 := iz.cell 1
        have k2 := iz.cell 2
        have k3 := iz.cell 3
        dsimp at k0 k1 k2 k3
        refine bodyPost_ret (v := .agg #[.slice Xz.va Xz.vn Xz.vc, .slice Xz.fa Xz.fn Xz.fc, .slice Xz.ta Xz.tn Xz.tc, .slice Xz.pa Xz.pn Xz.pc]) (by rw [results_cell1 rfl]; go_simp; try rfl) rfl ⟨Xz, Vz, rfl, (by rw [HQ.out]; exact OZ.out.low G3.out.size), ?_⟩
        rw [hWz]
        exact gb_put (gb_put (gb_put (gb_put (gb_trans G3.out GZ.out) L3.out) L3.out) L3.out) L3.out
      · obtain ⟨j, rfl⟩ : ∃ j : Nat, h = (j : Int) := ⟨h.toNat, by omega⟩
        have hj : j < X.vn := by omega
        have i0 : (0 : Int) ≤ (j : Int) := by omega
        have i1 : (j : Int) < (X.vn : Int) := by omega
        obtain ⟨vd, hvd⟩ := HR.out.v.some (by omega)
        have r0 := (HR.out.v.keep0 G3.out).cells vd hvd j hj
        have VB : validB L.V (j : Int) = L.V.getD j false := by unfold validB; rw [(isX_iff (j : Int) L.V.length).2 (by rw [VL.out]; omega), Int.toNat_natCast]; rfl
        cases hb : L.V.getD j false with
        | true =>
          rw [hb] at r0 VB
          have C : (isX (j : Int) hn && isX (j : Int) X.vn && !(validB L.V (j : Int))) = false := by rw [VB]; simp
          rw [C, if_neg (by simp)] at hR
          have HQ := Lib.hid hR
          clear C VB hR
          have CC := Lib.hid (rclone_any w3 X L (HR.out.keep0 G3.out) HZ.out)
          rw [hvd] at x0 CC
          go_wp2_with (go_at_call 31; refine (CC.out).mono ?_; rintro e wz ⟨Xz, Vz, rfl, oe, gz⟩; have bz := B3.out.keep0 gz; obtain ⟨Wz, hWz, oz, iz⟩ := oe_store oe bz; have z0 := bz.cell 0; have z1 := bz.cell 1; have z2 := bz.cell 2; have z3 := bz.cell 3; dsimp at z0 z1 z2 z3; have f0 := bz.free 0; have f1 := bz.free 1; have f2 := bz.free 2; have f3 := bz.free 3; have GZ := Lib.hid gz; have OZ := Lib.hid oz; clear oe oz gz bz)
          rw [← hWz]
          have k0 := iz.cell 0
          have k1 := iz.cell 1
          have k2 := iz.cell 2
          have k3 := iz.cell 3
          dsimp at k0 k1 k2 k3
          refine bodyPost_ret (v := .agg #[.slice Xz.va Xz.vn Xz.vc, .slice Xz.fa Xz.fn Xz.fc, .slice Xz.ta Xz.tn Xz.tc, .slice Xz.pa Xz.pn Xz.pc]) (by rw [results_cell1 rfl]; go_simp; try rfl) rfl ⟨Xz, Vz, rfl, (by rw [HQ.out]; exact OZ.out.low G3.out.size), ?_⟩
          rw [hWz]
          exact gb_put (gb_put (gb_put (gb_put (gb_trans G3.out GZ.out) L3.out) L3.out) L3.out) L3.out
        | false =>
          rw [hb] at r0 VB
          have C : (isX (j : Int) hn && isX (j : Int) X.vn && !(validB L.V (j : Int))) = true := by rw [(isX_iff (j : Int) hn).2 (by omega), (isX_iff (j : Int) X.vn).2 (by omega), VB]; rfl
          rw [C, if_pos rfl, Int.toNat_natCast] at hR
          have HQ := Lib.hid hR
          clear C hR
          have CC := Lib.hid (rvalid_any w3 X L (HR.out.keep0 G3.out) HZ.out j true hj)
          rw [withV_eq] at CC
          rw [hvd] at x0 CC
          go_wp2_with (go_at_call 52; refine (CC.out).mono ?_; rintro e wz ⟨Xz, Vz, rfl, oe, gz⟩; have bz := B3.out.keep0 gz; obtain ⟨Wz, hWz, oz, iz⟩ := oe_store oe bz; have z0 := bz.cell 0; have z1 := bz.cell 1; have z2 := bz.cell 2; have z3 := bz.cell 3; dsimp at z0 z1 z2 z3; have f0 := bz.free 0; have f1 := bz.free 1; have f2 := bz.free 2; have f3 := bz.free 3; have GZ := Lib.hid gz; have OZ := Lib.hid oz; clear oe oz gz bz)
          rw [← hWz]
          have k0 := iz.cell 0
          have k1 := iz.cell 1
          have k2 := iz.cell 2
          have k3 := iz.cell 3
          dsimp at k0 k1 k2 k3
          refine bodyPost_ret (v := .agg #[.slice Xz.va Xz.vn Xz.vc, .slice Xz.fa Xz.fn Xz.fc, .slice Xz.ta Xz.tn Xz.tc, .slice Xz.pa Xz.pn Xz.pc]) (by rw [results_cell1 rfl]; go_simp; try rfl) rfl ⟨Xz, Vz, rfl, (by rw [HQ.out]; exact OZ.out.low G3.out.size), ?_⟩
          rw [hWz]
          exact gb_put (gb_put (gb_put (gb_put (gb_trans G3.out GZ.out) L3.out) L3.out) L3.out) L3.out
set_option maxRecDepth 100000 in
set_option maxHeartbeats 4000000 in
theorem rrem_any (w : World) (nm m v3 v4 v5 v6 v7 v8 : Value) (ha : Option Addr) (hn hc : Nat) (X : EX) (L : EL) (he : ER w X L) (hz : EZ X L) (h : Int) :
    Calls Try.prog 26 #[.agg #[nm, .slice ha hn hc, m, v3, v4, v5, v6, v7, v8], .agg #[.slice X.va X.vn X.vc, .slice X.fa X.fn X.fc, .slice X.ta X.tn X.tc, .slice X.pa X.pn X.pc], .int .i64 h] w (RetE (if (isX h hn && isX h X.vn) = true then withE L h.toNat false else L) w) := by
  have HR := Lib.hid he
  have HZ := Lib.hid hz
  obtain ⟨R, hR⟩ : ∃ R, R = (if (isX h hn && isX h X.vn) = true then withE L h.toNat false else L) := ⟨_, rfl⟩
  rw [← hR]
  have G3 := Lib.hid (gb_trans (gb_trans (gb_alloc w (.cells #[nm, .slice ha hn hc, m, v3, v4, v5, v6, v7, v8] 31) none) (gb_alloc _ (.cells #[.slice X.va X.vn X.vc, .slice X.fa X.fn X.fc, .slice X.ta X.tn X.tc, .slice X.pa X.pn X.pc] 37) none)) (gb_alloc _ (.cells #[.slice none 0 0, .slice none 0 0, .slice none 0 0, .slice none 0 0] 37) none))
  have B1 := ((IsB.new w 31 #[nm, .slice ha hn hc, m, v3, v4, v5, v6, v7, v8]).alloc (.cells #[.slice X.va X.vn X.vc, .slice X.fa X.fn X.fc, .slice X.ta X.tn X.tc, .slice X.pa X.pn X.pc] 37)).alloc (.cells #[.slice none 0 0, .slice none 0 0, .slice none 0 0, .slice none 0 0] 37)
  have B2 := (IsB.new (w.alloc (.cells #[nm, .slice ha hn hc, m, v3, v4, v5, v6, v7, v8] 31)) 37 #[.slice X.va X.vn X.vc, .slice X.fa X.fn X.fc, .slice X.ta X.tn X.tc, .slice X.pa X.pn X.pc]).alloc (.cells #[.slice none 0 0, .slice none 0 0, .slice none 0 0, .slice none 0 0] 37)
  have B3 := IsB.new ((w.alloc (.cells #[nm, .slice ha hn hc, m, v3, v4, v5, v6, v7, v8] 31)).alloc (.cells #[.slice X.va X.vn X.vc, .slice X.fa X.fn X.fc, .slice X.ta X.tn X.tc, .slice X.pa X.pn X.pc] 37)) 37 #[.slice none 0 0, .slice none 0 0, .slice none 0 0, .slice none 0 0]
  simp only [sz_al] at B2 B3
  replace B1 := Lib.hid B1
  replace B2 := Lib.hid B2
  replace B3 := Lib.hid B3
  clear he hz
  go_enter Try.func26, Try.ntmps26
  go_upto_region 1 with fail
  generalize ((w.alloc (.cells #[nm, .slice ha hn hc, m, v3, v4, v5, v6, v7, v8] 31)).alloc (.cells #[.slice X.va X.vn X.vc, .slice X.fa X.fn X.fc, .slice X.ta X.tn X.tc, .slice X.pa X.pn X.pc] 37)).alloc (.cells #[.slice none 0 0, .slice none 0 0, .slice none 0 0, .slice none 0 0] 37) = w3 at *
  obtain ⟨bx, hbx⟩ : ∃ b, b = w.heap.size := ⟨_, rfl⟩
  have Lbx := Lib.hid (show w.heap.size ≤ bx by rw [hbx]; exact Nat.le_refl _)
  rw [← hbx] at B1 B2 B3 ⊢
  clear hbx
  have c0 := B1.out.cell 0
  have c1 := B1.out.cell 1
  have c2 := B1.out.cell 2
  have c3 := B1.out.cell 3
  have c4 := B1.out.cell 4
  have c5 := B1.out.cell 5
  have c6 := B1.out.cell 6
  have c7 := B1.out.cell 7
  have c8 := B1.out.cell 8
  dsimp at c0 c1 c2 c3 c4 c5 c6 c7 c8
  have x0 := B2.out.cell 0
  have x1 := B2.out.cell 1
  have x2 := B2.out.cell 2
  have x3 := B2.out.cell 3
  dsimp at x0 x1 x2 x3
  have L3 := Lib.hid (show w.heap.size ≤ bx + 1 + 1 from by have := Lbx.out; omega)
  have VL := Lib.hid (show L.V.length = X.vn from HR.out.v.len)
  by_cases a1 : h < 0
  · have C : (isX h hn && isX h X.vn) = false := by rw [(isX_not h hn).2 (by omega)]; rfl
    rw [C, if_neg (by simp)] at hR
    have HQ := Lib.hid hR
    clear C hR
    have CC := Lib.hid (rclone_any w3 X L (HR.out.keep0 G3.out) HZ.out)
    go_wp2_with (go_at_call 31; refine (CC.out).mono ?_; rintro e wz ⟨Xz, Vz, rfl, oe, gz⟩; have bz := B3.out.keep0 gz; obtain ⟨Wz, hWz, oz, iz⟩ := oe_store oe bz; have z0 := bz.cell 0; have z1 := bz.cell 1; have z2 := bz.cell 2; have z3 := bz.cell 3; dsimp at z0 z1 z2 z3; have f0 := bz.free 0; have f1 := bz.free 1; have f2 := bz.free 2; have f3 := bz.free 3; have GZ := Lib.hid gz; have OZ := Lib.hid oz; clear oe oz gz bz)
    rw [← hWz]
    have k0 := iz.cell 0
    have k1 := iz.cell 1
    have k2 := iz.cell 2
    have k3 := iz.cell 3
    dsimp at k0 k1 k2 k3
    refine bodyPost_ret (v := .agg #[.slice Xz.va Xz.vn Xz.vc, .slice Xz.fa Xz.fn Xz.fc, .slice Xz.ta Xz.tn Xz.tc, .slice Xz.pa Xz.pn Xz.pc]) (by rw [results_cell1 rfl]; go_simp; try rfl) rfl ⟨Xz, Vz, rfl, (by rw [HQ.out]; exact OZ.out.low G3.out.size), ?_⟩
    rw [hWz]
    exact gb_put (gb_put (gb_put (gb_put (gb_trans G3.out GZ.out) L3.out) L3.out) L3.out) L3.out
  · by_cases a2 : (hn : Int) ≤ h
    · have C : (isX h hn && isX h X.vn) = false := by rw [(isX_not h hn).2 (by omega)]; rfl
      rw [C, if_neg (by simp)] at hR
      have HQ := Lib.hid hR
      clear C hR
      have CC := Lib.hid (rclone_any w3 X L (HR.out.keep0 G3.out) HZ.out)
      go_wp2_with (go_at_call 31; refine (CC.out).mono ?_; rintro e wz ⟨Xz, Vz, rfl, oe, gz⟩; have bz := B3.out.keep0 gz; obtain ⟨Wz, hWz, oz, iz⟩ := oe_store oe bz; have z0 := bz.cell 0; have z1 := bz.cell 1; have z2 := bz.cell 2; have z3 := bz.cell 3; dsimp at z0 z1 z2 z3; have f0 := bz.free 0; have f1 := bz.free 1; have f2 := bz.free 2; have f3 := bz.free 3; have GZ := Lib.hid gz; have OZ := Lib.hid oz; clear oe oz gz bz)
      rw [← hWz]
      have k0 := iz.cell 0
      have k1 := iz.cell 1
      have k2 := iz.cell 2
      have k3 := iz.cell 3
      dsimp at k0 k1 k2 k3
      refine bodyPost_ret (v := .agg #[.slice Xz.va Xz.vn Xz.vc, .slice Xz.fa Xz.fn Xz.fc, .slice Xz.ta Xz.tn Xz.tc, .slice Xz.pa Xz.pn Xz.pc]) (by rw [results_cell1 rfl]; go_simp; try rfl) rfl ⟨Xz, Vz, rfl, (by rw [HQ.out]; exact OZ.out.low G3.out.size), ?_⟩
      rw [hWz]
      exact gb_put (gb_put (gb_put (gb_put (gb_trans G3.out GZ.out) L3.out) L3.out) L3.out) L3.out
    · by_cases a3 : (X.vn : Int) ≤ h
      · have C : (isX h hn && isX h X.vn) = false := by rw [(isX_not h X.vn).2 (by omega), Bool.and_false]
        rw [C, if_neg (by simp)] at hR
        have HQ := Lib.hid hR
        clear C hR
        have CC := Lib.hid (rclone_any w3 X L (HR.out.keep0 G3.out) HZ.out)
        go_wp2_with (go_at_call 31; refine (CC.out).mono ?_; rintro e wz ⟨Xz, Vz, rfl, oe, gz⟩; have bz := B3.out.keep0 gz; obtain ⟨Wz, hWz, oz, iz⟩ := oe_store oe bz; have z0 := bz.cell 0; have z1 := bz.cell 1; have z2 := bz.cell 2; have z3 := bz.cell 3; dsimp at z0 z1 z2 z3; have f0 := bz.free 0; have f1 := bz.free 1; have f2 := bz.free 2; have f3 := bz.free 3; have GZ := Lib.hid gz; have OZ := Lib.hid oz; clear oe oz gz bz)
        rw [← hWz]
        have k0 := iz.cell 0
        have k1 := iz.cell 1
        have k2 := iz.cell 2
        have k3 := iz.cell 3
        dsimp at k0 k1 k2 k3
        refine bodyPost_ret (v := .agg #[.slice Xz.va Xz.vn Xz.vc, .slice Xz.fa Xz.fn Xz.fc, .slice Xz.ta Xz.tn Xz.tc, .slice Xz.pa Xz.pn Xz.pc]) (by rw [results_cell1 rfl]; go_simp; try rfl) rfl ⟨Xz, Vz, rfl, (by rw [HQ.out]; exact OZ.out.low G3.out.size), ?_⟩
        rw [hWz]
        exact gb_put (gb_put (gb_put (gb_put (gb_trans G3.out GZ.out) L3.out) L3.out) L3.out) L3.out
      · obtain ⟨j, rfl⟩ : ∃ j : Nat, h = (j : Int) := ⟨h.toNat, by omega⟩
        have hj : j < X.vn := by omega
        have i0 : (0 : Int) ≤ (j : Int) := by omega
        have i1 : (j : Int) < (X.vn : Int) := by omega
        have C : (isX (j : Int) hn && isX (j : Int) X.vn) = true := by rw [(isX_iff (j : Int) hn).2 (by omega), (isX_iff (j : Int) X.vn).2 (by omega)]; rfl
        rw [C, if_pos rfl, Int.toNat_natCast] at hR
        have HQ := Lib.hid hR
        clear C hR
        have CC := Lib.hid (rvalid_any w3 X L (HR.out.keep0 G3.out) HZ.out j false hj)
        rw [withV_eq] at CC
        go_wp2_with (go_at_call 52; refine (CC.out).mono ?_; rintro e wz ⟨Xz, Vz, rfl, oe, gz⟩; have bz := B3.out.keep0 gz; obtain ⟨Wz, hWz, oz, iz⟩ := oe_store oe bz; have z0 := bz.cell 0; have z1 := bz.cell 1; have z2 := bz.cell 2; have z3 := bz.cell 3; dsimp at z0 z1 z2 z3; have f0 := bz.free 0; have f1 := bz.free 1; have f2 := bz.free 2; have f3 := bz.free 3; have GZ := Lib.hid gz; have OZ := Lib.hid oz; clear oe oz gz bz)
        rw [← hWz]
        have k0 := iz.cell 0
        have k1 := iz.cell 1
        have k2 := iz.cell 2
        have k3 := iz.cell 3
        dsimp at k0 k1 k2 k3
        refine bodyPost_ret (v := .agg #[.slice Xz.va Xz.vn Xz.vc, .slice Xz.fa Xz.fn Xz.fc, .slice Xz.ta Xz.tn Xz.tc, .slice Xz.pa Xz.pn Xz.pc]) (by rw [results_cell1 rfl]; go_simp; try rfl) rfl ⟨Xz, Vz, rfl, (by rw [HQ.out]; exact OZ.out.low G3.out.size), ?_⟩
        rw [hWz]
        exact gb_put (gb_put (gb_put (gb_put (gb_trans G3.out GZ.out) L3.out) L3.out) L3.out) L3.out
end Go.Proofs.Ytolifmpnhflegaa
