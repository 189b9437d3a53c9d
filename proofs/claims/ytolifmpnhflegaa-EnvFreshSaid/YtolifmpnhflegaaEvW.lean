/- Env: the reference's Set; no condition but sizes. -/
import Derived.Test.YtolifmpnhflegaaEvV
namespace Go.Proofs.Ytolifmpnhflegaa
open Go.RowKit
set_option linter.unusedVariables false
set_option maxRecDepth 100000 in
set_option maxHeartbeats 8000000 in
theorem rset_any (w : World) (nm v3 v4 v5 v6 v7 v8 : Value) (ha ma : Option Addr) (hn hc mn mc : Nat) (H : List (ByteArray × List Fld)) (M : List Fld) (hH : SH w ha hn hc H) (hM : SF w ma mn mc M) (X : EX) (L : EL) (he : ER w X L) (hz : EZ X L) (rh rf v : Int) (v0 : 0 ≤ v) (v1 : v < 4294967296) :
    Calls Try.prog 22 #[.agg #[nm, .slice ha hn hc, .slice ma mn mc, v3, v4, v5, v6, v7, v8], .agg #[.slice X.va X.vn X.vc, .slice X.fa X.fn X.fc, .slice X.ta X.tn X.tc, .slice X.pa X.pn X.pc], .agg #[.int .i64 rh, .int .i64 rf], .int .u32 v] w (RetE (setE H M L rh rf v) w) := by
  have HR := Lib.hid he
  have HZ := Lib.hid hz
  have WR := wid_rng H M rh rf
  have WD := Lib.hid (fun (w2 : World) (q : w.grownBy w2 none) => rwid12_any w2 nm v3 v4 v5 v6 v7 v8 ha ma hn hc mn mc H M (hH.keep0 q) (hM.keep0 q) rh rf)
  have EC := Lib.hid (fun (w2 : World) (q : w.grownBy w2 none) => relem_any w2 X.va X.fa X.ta X.pa X.vn X.vc X.fn X.fc X.tn X.tc X.pn X.pc L (he.f.keep0 q) (he.t.keep0 q) rh rf)
  have HC := Lib.hid (fun (w2 : World) (q : w.grownBy w2 none) => rhas_any w2 X.va X.fa X.ta X.pa X.vn X.vc X.fn X.fc X.tn X.tc X.pn X.pc L (he.v.keep0 q) rh)
  unfold RetV at WD EC HC
  have SI := Lib.hid (fun e => set_in L rh rf v (widE H M rh rf) e)
  have SO := Lib.hid (fun e => set_out L rh rf v (widE H M rh rf) e)
  have EB := Lib.hid (show elB L.F L.T rh rf = isX rf (vls L.F L.T rh).length from rfl)
  obtain ⟨R, hR⟩ : ∃ R, R = setE H M L rh rf v := ⟨_, rfl⟩
  rw [← hR]
  unfold setE at hR
  have OB := Lib.hid (show openB L.V rh = (decide (rh = -1) || validB L.V rh) from rfl)
  have RB := Lib.hid (show 0 ≤ redB v (widE H M rh rf) ∧ redB v (widE H M rh rf) < 4294967296 from by have := redB_range v (widE H M rh rf); omega)
  generalize openB L.V rh = ob at *
  generalize validB L.V rh = vb at *
  generalize elB L.F L.T rh rf = eb at *
  generalize widE H M rh rf = wd at *
  have MO := Lib.hid (fun (W : World) (h0 : 1 ≤ wd) => rmod_any v wd W v0 v1 h0 WR.2)
  unfold RetS at MO
  have G3 := Lib.hid (gb_trans (gb_trans (gb_trans (gb_alloc w (.cells #[nm, .slice ha hn hc, .slice ma mn mc, v3, v4, v5, v6, v7, v8] 31) none) (gb_alloc _ (.cells #[.slice X.va X.vn X.vc, .slice X.fa X.fn X.fc, .slice X.ta X.tn X.tc, .slice X.pa X.pn X.pc] 37) none)) (gb_alloc _ (.cells #[.int .i64 rh, .int .i64 rf] 39) none)) (gb_alloc _ (.cells #[.slice none 0 0, .slice none 0 0, .slice none 0 0, .slice none 0 0] 37) none))
  have B1 := (((IsB.new w 31 #[nm, .slice ha hn hc, .slice ma mn mc, v3, v4, v5, v6, v7, v8]).alloc (.cells #[.slice X.va X.vn X.vc, .slice X.fa X.fn X.fc, .slice X.ta X.tn X.tc, .slice X.pa X.pn X.pc] 37)).alloc (.cells #[.int .i64 rh, .int .i64 rf] 39)).alloc (.cells #[.slice none 0 0, .slice none 0 0, .slice none 0 0, .slice none 0 0] 37)
  have B2 := ((IsB.new (w.alloc (.cells #[nm, .slice ha hn hc, .slice ma mn mc, v3, v4, v5, v6, v7, v8] 31)) 37 #[.slice X.va X.vn X.vc, .slice X.fa X.fn X.fc, .slice X.ta X.tn X.tc, .slice X.pa X.pn X.pc]).alloc (.cells #[.int .i64 rh, .int .i64 rf] 39)).alloc (.cells #[.slice none 0 0, .slice none 0 0, .slice none 0 0, .slice none 0 0] 37)
  have B3 := (IsB.new ((w.alloc (.cells #[nm, .slice ha hn hc, .slice ma mn mc, v3, v4, v5, v6, v7, v8] 31)).alloc (.cells #[.slice X.va X.vn X.vc, .slice X.fa X.fn X.fc, .slice X.ta X.tn X.tc, .slice X.pa X.pn X.pc] 37)) 39 #[.int .i64 rh, .int .i64 rf]).alloc (.cells #[.slice none 0 0, .slice none 0 0, .slice none 0 0, .slice none 0 0] 37)
  have B4 := IsB.new (((w.alloc (.cells #[nm, .slice ha hn hc, .slice ma mn mc, v3, v4, v5, v6, v7, v8] 31)).alloc (.cells #[.slice X.va X.vn X.vc, .slice X.fa X.fn X.fc, .slice X.ta X.tn X.tc, .slice X.pa X.pn X.pc] 37)).alloc (.cells #[.int .i64 rh, .int .i64 rf] 39)) 37 #[.slice none 0 0, .slice none 0 0, .slice none 0 0, .slice none 0 0]
  simp only [sz_al] at B2 B3 B4
  replace B1 := Lib.hid B1
  replace B2 := Lib.hid B2
  replace B3 := Lib.hid B3
  replace B4 := Lib.hid B4
  clear he hz hH hM
  go_enter Try.func22, Try.ntmps22
  go_upto_region 1 with fail
  generalize (((w.alloc (.cells #[nm, .slice ha hn hc, .slice ma mn mc, v3, v4, v5, v6, v7, v8] 31)).alloc (.cells #[.slice X.va X.vn X.vc, .slice X.fa X.fn X.fc, .slice X.ta X.tn X.tc, .slice X.pa X.pn X.pc] 37)).alloc (.cells #[.int .i64 rh, .int .i64 rf] 39)).alloc (.cells #[.slice none 0 0, .slice none 0 0, .slice none 0 0, .slice none 0 0] 37) = w3 at *
  obtain ⟨bx, hbx⟩ : ∃ b, b = w.heap.size := ⟨_, rfl⟩
  have Lbx := Lib.hid (show w.heap.size ≤ bx by rw [hbx]; exact Nat.le_refl _)
  rw [← hbx] at B1 B2 B3 B4 ⊢
  clear hbx
  have CC := Lib.hid (rclone_any w3 X L (HR.out.keep0 G3.out) HZ.out)
  have c0 := B2.out.cell 0
  have c1 := B2.out.cell 1
  have c2 := B2.out.cell 2
  have c3 := B2.out.cell 3
  dsimp at c0 c1 c2 c3
  go_upto_region 2 with (go_at_call 31; refine CC.out.mono ?_; clear CC; rintro e wz ⟨Xz, Vz, rfl, oe, gz⟩)
  have GA := gb_alloc wz (.cells #[.slice Xz.va Xz.vn Xz.vc, .slice Xz.fa Xz.fn Xz.fc, .slice Xz.ta Xz.tn Xz.tc, .slice Xz.pa Xz.pn Xz.pc] 37) none
  have N7 := IsB.new wz 37 #[.slice Xz.va Xz.vn Xz.vc, .slice Xz.fa Xz.fn Xz.fc, .slice Xz.ta Xz.tn Xz.tc, .slice Xz.pa Xz.pn Xz.pc]
  have OA := oe.keep0 GA
  have G5 := Lib.hid (gb_trans gz GA)
  clear c0 c1 c2 c3
  generalize wz.alloc (.cells #[.slice Xz.va Xz.vn Xz.vc, .slice Xz.fa Xz.fn Xz.fc, .slice Xz.ta Xz.tn Xz.tc, .slice Xz.pa Xz.pn Xz.pc] 37) = w5 at *
  have S7 := Lib.hid gz.size
  generalize wz.heap.size = b7 at *
  clear oe gz GA
  have ON := Lib.hid OA
  have NN := Lib.hid N7
  clear OA N7
  have c0 := (B1.out.keep0 G5.out).cell 0
  have c1 := (B1.out.keep0 G5.out).cell 1
  have c2 := (B1.out.keep0 G5.out).cell 2
  have c3 := (B1.out.keep0 G5.out).cell 3
  have c4 := (B1.out.keep0 G5.out).cell 4
  have c5 := (B1.out.keep0 G5.out).cell 5
  have c6 := (B1.out.keep0 G5.out).cell 6
  have c7 := (B1.out.keep0 G5.out).cell 7
  have c8 := (B1.out.keep0 G5.out).cell 8
  dsimp at c0 c1 c2 c3 c4 c5 c6 c7 c8
  have d0 := (B3.out.keep0 G5.out).cell 0
  have d1 := (B3.out.keep0 G5.out).cell 1
  dsimp at d0 d1
  go_upto_region 3 with (go_at_call 13; refine (WD.out _ (gb_trans G3.out G5.out)).mono ?_; clear WD; rintro e w6 ⟨rfl, g6⟩)
  have G6 := Lib.hid (gb_trans G5.out g6)
  have ON := Lib.hid (ON.out.keep0 g6)
  have NN := Lib.hid (NN.out.keep0 g6)
  clear c0 c1 c2 c3 c4 c5 c6 c7 c8 d0 d1 g6
  have x0 := (B2.out.keep0 G6.out).cell 0
  have x1 := (B2.out.keep0 G6.out).cell 1
  have x2 := (B2.out.keep0 G6.out).cell 2
  have x3 := (B2.out.keep0 G6.out).cell 3
  dsimp at x0 x1 x2 x3
  have d0 := (B3.out.keep0 G6.out).cell 0
  have d1 := (B3.out.keep0 G6.out).cell 1
  dsimp at d0 d1
  by_cases e0 : wd = 0
  · rw [if_pos (.inl e0)] at hR
    have HQ := Lib.hid hR
    clear hR
    go_upto_region 4 with (first
      | (go_at_call 44; refine (EC.out _ (gb_trans G3.out G6.out)).mono ?_; rintro e w7 ⟨rfl, g7⟩; have x0 := (B2.out.keep0 (gb_trans G6.out g7)).cell 0; have x1 := (B2.out.keep0 (gb_trans G6.out g7)).cell 1; have x2 := (B2.out.keep0 (gb_trans G6.out g7)).cell 2; have x3 := (B2.out.keep0 (gb_trans G6.out g7)).cell 3; dsimp at x0 x1 x2 x3; have d0 := (B3.out.keep0 (gb_trans G6.out g7)).cell 0; dsimp at d0)
      | (go_at_call 27; refine (HC.out _ (gb_trans (gb_trans G3.out G6.out) g7)).mono ?_; rintro e w8 ⟨rfl, g8⟩; have d0 := (B3.out.keep0 (gb_trans G6.out (gb_trans g7 g8))).cell 0; dsimp at d0))
    have GQ := Lib.hid (show w6.grownBy w6 none from gb_refl _ _)
    have ON := Lib.hid (ON.out.keep0 GQ.out)
    have NN := Lib.hid (NN.out.keep0 GQ.out)
    have GN := Lib.hid (gb_trans G6.out GQ.out)
    obtain ⟨Wz, hWz, oz, iz⟩ := oe_store ON.out (B4.out.keep0 GN.out)
    have OZ := Lib.hid oz
    have L8 := Lib.hid (show w.heap.size ≤ bx + 1 + 1 + 1 from by have := Lbx.out; omega)
    have GW := Lib.hid (show w.grownBy Wz none by rw [hWz]; exact gb_put (gb_put (gb_put (gb_put (gb_trans G3.out GN.out) L8.out) L8.out) L8.out) L8.out)
    have n0 := NN.out.cell 0
    have n1 := NN.out.cell 1
    have n2 := NN.out.cell 2
    have n3 := NN.out.cell 3
    dsimp at n0 n1 n2 n3
    have b4x := B4.out.keep0 GN.out
    have z0 := b4x.cell 0
    have z1 := b4x.cell 1
    have z2 := b4x.cell 2
    have z3 := b4x.cell 3
    dsimp at z0 z1 z2 z3
    have f0 := b4x.free 0
    have f1 := b4x.free 1
    have f2 := b4x.free 2
    have f3 := b4x.free 3
    clear oz b4x
    go_wp2
    (try dsimp only at hWz)
    try rw [← hWz]
    have k0 := iz.cell 0
    have k1 := iz.cell 1
    have k2 := iz.cell 2
    have k3 := iz.cell 3
    dsimp at k0 k1 k2 k3
    have OF := OZ.out.low G3.out.size
    rw [← HQ.out] at OF
    refine bodyPost_ret (v := .agg #[.slice Xz.va Xz.vn Xz.vc, .slice Xz.fa Xz.fn Xz.fc, .slice Xz.ta Xz.tn Xz.tc, .slice Xz.pa Xz.pn Xz.pc]) (by rw [results_cell1 rfl]; go_simp; try rfl) rfl ⟨Xz, _, rfl, OF, GW.out⟩
  · have W1 := Lib.hid (show 1 ≤ wd by omega)
    cases eb with
    | false =>
      rw [SO.out rfl, ite_self] at hR
      have HQ := Lib.hid hR
      clear hR
      go_upto_region 4 with (first
        | (go_at_call 44; refine (EC.out _ (gb_trans G3.out G6.out)).mono ?_; rintro e w7 ⟨rfl, g7⟩; have x0 := (B2.out.keep0 (gb_trans G6.out g7)).cell 0; have x1 := (B2.out.keep0 (gb_trans G6.out g7)).cell 1; have x2 := (B2.out.keep0 (gb_trans G6.out g7)).cell 2; have x3 := (B2.out.keep0 (gb_trans G6.out g7)).cell 3; dsimp at x0 x1 x2 x3; have d0 := (B3.out.keep0 (gb_trans G6.out g7)).cell 0; dsimp at d0)
        | (go_at_call 27; refine (HC.out _ (gb_trans (gb_trans G3.out G6.out) g7)).mono ?_; rintro e w8 ⟨rfl, g8⟩; have d0 := (B3.out.keep0 (gb_trans G6.out (gb_trans g7 g8))).cell 0; dsimp at d0))
      have GQ := Lib.hid (show w6.grownBy w7 none from g7)
      have ON := Lib.hid (ON.out.keep0 GQ.out)
      have NN := Lib.hid (NN.out.keep0 GQ.out)
      have GN := Lib.hid (gb_trans G6.out GQ.out)
      generalize w7 = wq at *
      obtain ⟨Wz, hWz, oz, iz⟩ := oe_store ON.out (B4.out.keep0 GN.out)
      have OZ := Lib.hid oz
      have L8 := Lib.hid (show w.heap.size ≤ bx + 1 + 1 + 1 from by have := Lbx.out; omega)
      have GW := Lib.hid (show w.grownBy Wz none by rw [hWz]; exact gb_put (gb_put (gb_put (gb_put (gb_trans G3.out GN.out) L8.out) L8.out) L8.out) L8.out)
      have n0 := NN.out.cell 0
      have n1 := NN.out.cell 1
      have n2 := NN.out.cell 2
      have n3 := NN.out.cell 3
      dsimp at n0 n1 n2 n3
      have b4x := B4.out.keep0 GN.out
      have z0 := b4x.cell 0
      have z1 := b4x.cell 1
      have z2 := b4x.cell 2
      have z3 := b4x.cell 3
      dsimp at z0 z1 z2 z3
      have f0 := b4x.free 0
      have f1 := b4x.free 1
      have f2 := b4x.free 2
      have f3 := b4x.free 3
      clear oz b4x
      go_wp2
      (try dsimp only at hWz)
      try rw [← hWz]
      have k0 := iz.cell 0
      have k1 := iz.cell 1
      have k2 := iz.cell 2
      have k3 := iz.cell 3
      dsimp at k0 k1 k2 k3
      have OF := OZ.out.low G3.out.size
      rw [← HQ.out] at OF
      refine bodyPost_ret (v := .agg #[.slice Xz.va Xz.vn Xz.vc, .slice Xz.fa Xz.fn Xz.fc, .slice Xz.ta Xz.tn Xz.tc, .slice Xz.pa Xz.pn Xz.pc]) (by rw [results_cell1 rfl]; go_simp; try rfl) rfl ⟨Xz, _, rfl, OF, GW.out⟩
    | true =>
      rw [SI.out rfl] at hR
      by_cases e1 : rh = -1
      · subst e1
        rw [if_neg (by rw [OB.out]; simp [e0])] at hR
        unfold setV at hR
        rw [if_pos rfl] at hR
        have HQ := Lib.hid hR
        clear hR
        have EB := EB.out
        rw [show vls L.F L.T (-1) = L.T from rfl] at EB
        obtain ⟨j, rfl, hj⟩ := isx_nat EB.symm
        rw [Int.toNat_natCast] at HQ
        clear EB
        go_upto_region 6 with (first
          | (go_at_call 44; refine (EC.out _ (gb_trans G3.out G6.out)).mono ?_; rintro e w7 ⟨rfl, g7⟩; have x0 := (B2.out.keep0 (gb_trans G6.out g7)).cell 0; have x1 := (B2.out.keep0 (gb_trans G6.out g7)).cell 1; have x2 := (B2.out.keep0 (gb_trans G6.out g7)).cell 2; have x3 := (B2.out.keep0 (gb_trans G6.out g7)).cell 3; dsimp at x0 x1 x2 x3; have d0 := (B3.out.keep0 (gb_trans G6.out g7)).cell 0; dsimp at d0)
          | (go_at_call 27; refine (HC.out _ (gb_trans (gb_trans G3.out G6.out) g7)).mono ?_; rintro e w8 ⟨rfl, g8⟩; have d0 := (B3.out.keep0 (gb_trans G6.out (gb_trans g7 g8))).cell 0; dsimp at d0))
        have GQ := Lib.hid (show w6.grownBy w7 none from g7)
        clear x0 x1 x2 x3 d0 d1
        have ON := Lib.hid (ON.out.keep0 GQ.out)
        have NN := Lib.hid (NN.out.keep0 GQ.out)
        have G6 := Lib.hid (gb_trans G6.out GQ.out)
        clear GQ
        generalize w7 = wq at *
        obtain ⟨gm, cm, hvm⟩ := own_head ON.out.t (by show 0 < L.T.length; omega)
        have FX := Lib.hid hvm
        have GM := Lib.hid (show w3.heap.size ≤ gm from by have k := ON.out.t; unfold NU at k; rw [hvm] at k; exact (World.ownsRow.lt k gm rfl).1)
        have B3Q := Lib.hid (B3.out.keep0 G6.out)
        have KT := Lib.hid (fun (w' : World) (q : IsB w' b7 37 #[.slice Xz.va Xz.vn Xz.vc, .slice Xz.fa Xz.fn Xz.fc, .slice Xz.ta Xz.tn Xz.tc, .slice Xz.pa Xz.pn Xz.pc]) (q2 : IsB w' (bx + 1 + 1) 39 #[.int .i64 (-1), .int .i64 (j : Int)]) => (⟨by have k := q.cell 2; dsimp at k; rw [FX.out] at k; exact k, q2.cell 1⟩ : (fun w' : World => w'.cell? ⟨b7, 2, none⟩ = some (.slice (some ⟨gm, 0, none⟩) L.T.length cm) ∧ w'.cell? ⟨(bx + 1 + 1), 1, none⟩ = some (.int .i64 (j : Int))) w'))
        have G := Lib.hid (gb_drew wq none)
        have i0 : (0 : Int) ≤ (j : Int) := by omega
        have i1 : (j : Int) < (L.T.length : Nat) := by omega
        clear hvm
        refine wp_region_held_drew (S := (fun w' : World => w'.cell? ⟨b7, 2, none⟩ = some (.slice (some ⟨gm, 0, none⟩) L.T.length cm) ∧ w'.cell? ⟨(bx + 1 + 1), 1, none⟩ = some (.int .i64 (j : Int)))) (by kernel_rfl) (KT.out _ (NN.out.keep0 G.out) (B3Q.out.keep0 G.out)) (fun hH0 => ?_)
        generalize wq.drew = v0 at *
        have ON := Lib.hid (ON.out.keep0 G.out)
        have NN := Lib.hid (NN.out.keep0 G.out)
        have B3V := Lib.hid (B3Q.out.keep0 G.out)
        have GV := Lib.hid (gb_trans G6.out G.out)
        refine wpAnyH_take (i := 0) (v := ?v249) rfl (by kernel_rfl) (by kernel_rfl) (by kernel_rfl) (fun _ _ _ h => h) (Or.inl ⟨by rfl, ?hy249⟩) (by assumption) ?rest249
        case hy249 => (intro wz hSw; (try dsimp only at hSw); first | (go_simp; done) | (go_simp; with_reducible rfl))
        try simp only [Act.put, List.getElem_toArray, List.getElem_cons_zero, List.setIfInBounds_toArray, List.set_cons_zero, List.set_cons_succ]
        refine wpAnyH_take (i := 1) (v := ?v250) rfl (by kernel_rfl) (by kernel_rfl) (by kernel_rfl) (fun _ _ _ h => h) (Or.inl ⟨by rfl, ?hy250⟩) (by assumption) ?rest250
        case hy250 => (intro wz hSw; (try dsimp only at hSw); first | (go_simp; done) | (go_simp; with_reducible rfl))
        try simp only [Act.put, List.getElem_toArray, List.getElem_cons_succ, List.getElem_cons_zero, List.setIfInBounds_toArray, List.set_cons_zero, List.set_cons_succ]
        refine wpAnyH_take (i := 2) (v := ?v251) rfl (by kernel_rfl) (by kernel_rfl) (by kernel_rfl) (fun _ _ _ h => h) (Or.inl ⟨by rfl, ?hy251⟩) (by assumption) ?rest251
        case hy251 => (intro wz hSw; (try dsimp only at hSw); first | (go_simp; done) | (go_simp; with_reducible rfl))
        try simp only [Act.put, List.getElem_toArray, List.getElem_cons_succ, List.getElem_cons_zero, List.setIfInBounds_toArray, List.set_cons_zero, List.set_cons_succ]
        refine wpAnyH_take (i := 3) (v := ?v252) rfl (by kernel_rfl) (by kernel_rfl) (by kernel_rfl) (fun _ _ _ h => h) (Or.inl ⟨by rfl, ?hy252⟩) (by assumption) ?rest252
        case hy252 => (intro wz hSw; (try dsimp only at hSw); first | (go_simp; done) | (go_simp; with_reducible rfl))
        try simp only [Act.put, List.getElem_toArray, List.getElem_cons_succ, List.getElem_cons_zero, List.setIfInBounds_toArray, List.set_cons_zero, List.set_cons_succ]
        refine wpAnyH_take (i := 4) (v := ?v253) rfl (by kernel_rfl) (by kernel_rfl) (by kernel_rfl) (fun _ _ _ h => h) (Or.inl ⟨by rfl, ?hy253⟩) (by assumption) ?rest253
        case hy253 => (intro wz hSw; (try dsimp only at hSw); first | (go_simp; done) | (go_simp; with_reducible rfl))
        try simp only [Act.put, List.getElem_toArray, List.getElem_cons_succ, List.getElem_cons_zero, List.setIfInBounds_toArray, List.set_cons_zero, List.set_cons_succ]
        refine wpAnyH_take (i := 5) (v := ?v254) rfl (by kernel_rfl) (by kernel_rfl) (by kernel_rfl) (fun _ _ _ h => h) (Or.inl ⟨by rfl, ?hy254⟩) (by assumption) ?rest254
        case hy254 => (intro wz hSw; (try dsimp only at hSw); first | (go_simp; done) | (go_simp; with_reducible rfl))
        try simp only [Act.put, List.getElem_toArray, List.getElem_cons_succ, List.getElem_cons_zero, List.setIfInBounds_toArray, List.set_cons_zero, List.set_cons_succ]
        refine wpAnyH_ready (rs := [6]) (by kernel_rfl) (by simp) ?_
        refine AllReadyH.cons (o := _) rfl (fun K hK => ?_) AllReadyH.nil
        go_simp
        refine (MO.out _ W1.out).mono ?_
        rintro e vx ⟨rfl, rfl⟩
        try dsimp only
        refine hK.out _ _ (KT.out _ NN.out B3V.out) (fun hH1 => ?_)
        clear hK K hH0
        try simp only [Act.put, List.getElem_toArray, List.getElem_cons_succ, List.getElem_cons_zero, List.setIfInBounds_toArray, List.set_cons_zero, List.set_cons_succ]
        refine wpAnyH_take (i := 7) (v := ?v255) rfl (by kernel_rfl) (by kernel_rfl) (by kernel_rfl) (fun _ _ _ h => h) (Or.inl ⟨by rfl, ?hy255⟩) (by assumption) ?rest255
        case hy255 => (intro wz hSw; (try dsimp only at hSw); first | (go_simp; done) | (go_simp; with_reducible rfl))
        try simp only [Act.put, List.getElem_toArray, List.getElem_cons_succ, List.getElem_cons_zero, List.setIfInBounds_toArray, List.set_cons_zero, List.set_cons_succ]
        obtain ⟨o9, cs9, ib9⟩ := oe_sett (j := j) (x := redB v wd) ON.out FX.out RB.out
        have ne7 := IsB.ne NN.out ib9 (by decide)
        have ne3 := IsB.ne B3V.out ib9 (by decide)
        have r9 := (nu_su ON.out.t ON.out.tl ON.out.trng).cells ⟨gm, 0, none⟩ (by have q := FX.out; injection q) j (by have q := ON.out.tl; have q : L.T.length = Xz.tn := q; omega)
        rw [addr0] at r9
        have f9 := ib9.free j
        have ON := Lib.hid o9
        have NN := Lib.hid (NN.out.set_far (g2 := gm) ne7 j (.int .u32 (redB v wd)))
        have B3V := Lib.hid (B3V.out.set_far (g2 := gm) ne3 j (.int .u32 (redB v wd)))
        have GN := Lib.hid (gb_put GV.out GM.out (i := j) (u := .int .u32 (redB v wd)))
        refine wpAnyH_ready (rs := [8]) (by kernel_rfl) (by simp) ?_
        refine AllReadyH.cons (o := _) rfl (fun K hK => ?_) AllReadyH.nil
        go_simp
        refine hK.out _ _ (KT.out _ NN.out B3V.out) (fun hH2 => ?_)
        clear hK K hH1
        try simp only [Act.put, List.getElem_toArray, List.getElem_cons_succ, List.getElem_cons_zero, List.setIfInBounds_toArray, List.set_cons_zero, List.set_cons_succ]
        refine wpAnyH_done (by kernel_rfl) ?_ _
        clear hH2 f9 r9 ib9 o9
        generalize World.setCell _ ⟨gm, j, none⟩ (.int .u32 (redB v wd)) = w9 at *
        obtain ⟨Wz, hWz, oz, iz⟩ := oe_store ON.out (B4.out.keep0 GN.out)
        have OZ := Lib.hid oz
        have L8 := Lib.hid (show w.heap.size ≤ bx + 1 + 1 + 1 from by have := Lbx.out; omega)
        have GW := Lib.hid (show w.grownBy Wz none by rw [hWz]; exact gb_put (gb_put (gb_put (gb_put (gb_trans G3.out GN.out) L8.out) L8.out) L8.out) L8.out)
        have n0 := NN.out.cell 0
        have n1 := NN.out.cell 1
        have n2 := NN.out.cell 2
        have n3 := NN.out.cell 3
        dsimp at n0 n1 n2 n3
        have b4x := B4.out.keep0 GN.out
        have z0 := b4x.cell 0
        have z1 := b4x.cell 1
        have z2 := b4x.cell 2
        have z3 := b4x.cell 3
        dsimp at z0 z1 z2 z3
        have f0 := b4x.free 0
        have f1 := b4x.free 1
        have f2 := b4x.free 2
        have f3 := b4x.free 3
        clear oz b4x
        go_wp2
        (try dsimp only at hWz)
        try rw [← hWz]
        have k0 := iz.cell 0
        have k1 := iz.cell 1
        have k2 := iz.cell 2
        have k3 := iz.cell 3
        dsimp at k0 k1 k2 k3
        have OF := OZ.out.low G3.out.size
        rw [← HQ.out] at OF
        refine bodyPost_ret (v := .agg #[.slice Xz.va Xz.vn Xz.vc, .slice Xz.fa Xz.fn Xz.fc, .slice Xz.ta Xz.tn Xz.tc, .slice Xz.pa Xz.pn Xz.pc]) (by rw [results_cell1 rfl]; go_simp; try rfl) rfl ⟨Xz, _, rfl, OF, GW.out⟩
      · have e2 : (rh != -1) = true := by rw [bne_iff_ne]; exact e1
        have e3 : (rh == -1) = false := by rw [beq_eq_false_iff_ne]; exact e1
        cases vb with
        | false =>
          rw [if_pos (.inr (by rw [OB.out]; simp [e1]))] at hR
          have HQ := Lib.hid hR
          clear hR
          go_upto_region 4 with (first
            | (go_at_call 44; refine (EC.out _ (gb_trans G3.out G6.out)).mono ?_; rintro e w7 ⟨rfl, g7⟩; have x0 := (B2.out.keep0 (gb_trans G6.out g7)).cell 0; have x1 := (B2.out.keep0 (gb_trans G6.out g7)).cell 1; have x2 := (B2.out.keep0 (gb_trans G6.out g7)).cell 2; have x3 := (B2.out.keep0 (gb_trans G6.out g7)).cell 3; dsimp at x0 x1 x2 x3; have d0 := (B3.out.keep0 (gb_trans G6.out g7)).cell 0; dsimp at d0)
            | (go_at_call 27; refine (HC.out _ (gb_trans (gb_trans G3.out G6.out) g7)).mono ?_; rintro e w8 ⟨rfl, g8⟩; have d0 := (B3.out.keep0 (gb_trans G6.out (gb_trans g7 g8))).cell 0; dsimp at d0))
          have GQ := Lib.hid (show w6.grownBy w8 none from gb_trans g7 g8)
          have ON := Lib.hid (ON.out.keep0 GQ.out)
          have NN := Lib.hid (NN.out.keep0 GQ.out)
          have GN := Lib.hid (gb_trans G6.out GQ.out)
          generalize w8 = wq at *
          obtain ⟨Wz, hWz, oz, iz⟩ := oe_store ON.out (B4.out.keep0 GN.out)
          have OZ := Lib.hid oz
          have L8 := Lib.hid (show w.heap.size ≤ bx + 1 + 1 + 1 from by have := Lbx.out; omega)
          have GW := Lib.hid (show w.grownBy Wz none by rw [hWz]; exact gb_put (gb_put (gb_put (gb_put (gb_trans G3.out GN.out) L8.out) L8.out) L8.out) L8.out)
          have n0 := NN.out.cell 0
          have n1 := NN.out.cell 1
          have n2 := NN.out.cell 2
          have n3 := NN.out.cell 3
          dsimp at n0 n1 n2 n3
          have b4x := B4.out.keep0 GN.out
          have z0 := b4x.cell 0
          have z1 := b4x.cell 1
          have z2 := b4x.cell 2
          have z3 := b4x.cell 3
          dsimp at z0 z1 z2 z3
          have f0 := b4x.free 0
          have f1 := b4x.free 1
          have f2 := b4x.free 2
          have f3 := b4x.free 3
          clear oz b4x
          go_wp2
          (try dsimp only at hWz)
          try rw [← hWz]
          have k0 := iz.cell 0
          have k1 := iz.cell 1
          have k2 := iz.cell 2
          have k3 := iz.cell 3
          dsimp at k0 k1 k2 k3
          have OF := OZ.out.low G3.out.size
          rw [← HQ.out] at OF
          refine bodyPost_ret (v := .agg #[.slice Xz.va Xz.vn Xz.vc, .slice Xz.fa Xz.fn Xz.fc, .slice Xz.ta Xz.tn Xz.tc, .slice Xz.pa Xz.pn Xz.pc]) (by rw [results_cell1 rfl]; go_simp; try rfl) rfl ⟨Xz, _, rfl, OF, GW.out⟩
        | true =>
          rw [if_neg (by rw [OB.out]; simp [e0])] at hR
          unfold setV at hR
          rw [if_neg e1] at hR
          have HQ := Lib.hid hR
          clear hR
          go_upto_region 7 with (first
            | (go_at_call 44; refine (EC.out _ (gb_trans G3.out G6.out)).mono ?_; rintro e w7 ⟨rfl, g7⟩; have x0 := (B2.out.keep0 (gb_trans G6.out g7)).cell 0; have x1 := (B2.out.keep0 (gb_trans G6.out g7)).cell 1; have x2 := (B2.out.keep0 (gb_trans G6.out g7)).cell 2; have x3 := (B2.out.keep0 (gb_trans G6.out g7)).cell 3; dsimp at x0 x1 x2 x3; have d0 := (B3.out.keep0 (gb_trans G6.out g7)).cell 0; dsimp at d0)
            | (go_at_call 27; refine (HC.out _ (gb_trans (gb_trans G3.out G6.out) g7)).mono ?_; rintro e w8 ⟨rfl, g8⟩; have d0 := (B3.out.keep0 (gb_trans G6.out (gb_trans g7 g8))).cell 0; dsimp at d0))
          have GQ := Lib.hid (show w6.grownBy w8 none from gb_trans g7 g8)
          have EB := EB.out
          have KX : isX rh L.F.length = true := by
            cases hx : isX rh L.F.length with
            | true => rfl
            | false => unfold vls at EB; rw [if_neg e1, hx] at EB; simp [isX] at EB; omega
          obtain ⟨k, rfl, hk⟩ := isx_nat KX
          rw [show vls L.F L.T (k : Int) = L.F.getD k [] by unfold vls; rw [if_neg e1, KX, if_pos rfl, Int.toNat_natCast]] at EB
          obtain ⟨j, rfl, hj⟩ := isx_nat EB.symm
          rw [Int.toNat_natCast, Int.toNat_natCast] at HQ
          clear EB KX
          clear x0 x1 x2 x3 d0 d1
          have ON := Lib.hid (ON.out.keep0 GQ.out)
          have NN := Lib.hid (NN.out.keep0 GQ.out)
          have G6 := Lib.hid (gb_trans G6.out GQ.out)
          clear GQ
          generalize w8 = wq at *
          have NU5 := ON.out.f.own k hk
          obtain ⟨g, c, hrow⟩ := own_head NU5 (by omega)
          have HW := Lib.hid hrow
          have hkV : k < Vz.length := by rw [ON.out.f.nV]; exact hk
          obtain ⟨gf, cf, hvf⟩ := own_head ON.out.f.out (by show 0 < L.F.length; omega)
          have FX := Lib.hid hvf
          obtain ⟨n5, hn5⟩ : ∃ n, n = (L.F.getD k []).length := ⟨_, rfl⟩
          rw [← hn5] at hj
          have LN := Lib.hid hn5
          have RC := Lib.hid (show ∀ v, wq.grownBy v none → v.cell? ⟨gf, k, none⟩ = some (.slice (some ⟨g, 0, none⟩) n5 c) from fun v q => by
            have kk := (own_keep0 ON.out.f.out q)
            rw [hvf] at kk
            have k2 := kk.cells (g := gf) rfl k (Vz.getD k nilV) (by rw [List.getD_eq_getElem?_getD, List.getElem?_eq_getElem hkV]; rfl)
            rw [addr0, hrow] at k2
            rw [hn5]; exact k2)
          have GM := Lib.hid (show w3.heap.size ≤ g from by have q := NU5; unfold NU at q; rw [hrow] at q; exact (World.ownsRow.lt q g rfl).1)
          have NEF := Lib.hid (show gf ≠ g from by
            have q := NU5; unfold NU at q; rw [hrow] at q
            obtain ⟨_, i1⟩ := own_blk q
            have q2 := ON.out.f.out; rw [hvf] at q2
            obtain ⟨_, i2⟩ := own_blk q2
            exact IsB.ne i2 i1 (by decide))
          have NUV := Lib.hid (show ∀ v, wq.grownBy v none → NU v w3.heap.size (.slice (some ⟨g, 0, none⟩) (L.F.getD k []).length c) (L.F.getD k []) from fun v q => by have kk := NU5.keep0 q; rw [hrow] at kk; exact kk)
          have B3Q := Lib.hid (B3.out.keep0 G6.out)
          have KT := Lib.hid (fun (w' : World) (q : IsB w' b7 37 #[.slice Xz.va Xz.vn Xz.vc, .slice Xz.fa Xz.fn Xz.fc, .slice Xz.ta Xz.tn Xz.tc, .slice Xz.pa Xz.pn Xz.pc]) (q2 : IsB w' (bx + 1 + 1) 39 #[.int .i64 (k : Int), .int .i64 (j : Int)]) (q3 : w'.cell? ⟨gf, k, none⟩ = some (.slice (some ⟨g, 0, none⟩) n5 c)) => (⟨by have kk := q.cell 1; dsimp at kk; rw [FX.out] at kk; exact kk, q2.cell 0, q2.cell 1, q3⟩ : (fun w' : World => w'.cell? ⟨b7, 1, none⟩ = some (.slice (some ⟨gf, 0, none⟩) L.F.length cf) ∧ w'.cell? ⟨(bx + 1 + 1), 0, none⟩ = some (.int .i64 (k : Int)) ∧ w'.cell? ⟨(bx + 1 + 1), 1, none⟩ = some (.int .i64 (j : Int)) ∧ w'.cell? ⟨gf, k, none⟩ = some (.slice (some ⟨g, 0, none⟩) n5 c)) w'))
          have G := Lib.hid (gb_drew wq none)
          have i0 : (0 : Int) ≤ (k : Int) := by omega
          have i1 : (k : Int) < (L.F.length : Nat) := by omega
          have i2 : (0 : Int) ≤ (j : Int) := by omega
          have i3 : (j : Int) < (n5 : Nat) := by omega
          have HK := Lib.hid hk
          have HJ := Lib.hid hj
          clear hvf hrow hn5 NU5 hkV hk hj
          refine wp_region_held_drew (S := (fun w' : World => w'.cell? ⟨b7, 1, none⟩ = some (.slice (some ⟨gf, 0, none⟩) L.F.length cf) ∧ w'.cell? ⟨(bx + 1 + 1), 0, none⟩ = some (.int .i64 (k : Int)) ∧ w'.cell? ⟨(bx + 1 + 1), 1, none⟩ = some (.int .i64 (j : Int)) ∧ w'.cell? ⟨gf, k, none⟩ = some (.slice (some ⟨g, 0, none⟩) n5 c))) (by kernel_rfl) (KT.out _ (NN.out.keep0 G.out) (B3Q.out.keep0 G.out) (RC.out _ G.out)) (fun hH0 => ?_)
          generalize wq.drew = v0 at *
          have ON := Lib.hid (ON.out.keep0 G.out)
          have NN := Lib.hid (NN.out.keep0 G.out)
          have B3V := Lib.hid (B3Q.out.keep0 G.out)
          have GV := Lib.hid (gb_trans G6.out G.out)
          have R3 := Lib.hid (RC.out _ G.out)
          have NV := Lib.hid (NUV.out _ G.out)
          clear RC NUV
          refine wpAnyH_take (i := 0) (v := ?v256) rfl (by kernel_rfl) (by kernel_rfl) (by kernel_rfl) (fun _ _ _ h => h) (Or.inl ⟨by rfl, ?hy256⟩) (by assumption) ?rest256
          case hy256 => (intro wz hSw; (try dsimp only at hSw); first | (go_simp; done) | (go_simp; with_reducible rfl))
          try simp only [Act.put, List.getElem_toArray, List.getElem_cons_zero, List.setIfInBounds_toArray, List.set_cons_zero, List.set_cons_succ]
          refine wpAnyH_take (i := 1) (v := ?v257) rfl (by kernel_rfl) (by kernel_rfl) (by kernel_rfl) (fun _ _ _ h => h) (Or.inl ⟨by rfl, ?hy257⟩) (by assumption) ?rest257
          case hy257 => (intro wz hSw; (try dsimp only at hSw); first | (go_simp; done) | (go_simp; with_reducible rfl))
          try simp only [Act.put, List.getElem_toArray, List.getElem_cons_succ, List.getElem_cons_zero, List.setIfInBounds_toArray, List.set_cons_zero, List.set_cons_succ]
          refine wpAnyH_take (i := 2) (v := ?v258) rfl (by kernel_rfl) (by kernel_rfl) (by kernel_rfl) (fun _ _ _ h => h) (Or.inl ⟨by rfl, ?hy258⟩) (by assumption) ?rest258
          case hy258 => (intro wz hSw; (try dsimp only at hSw); first | (go_simp; done) | (go_simp; with_reducible rfl))
          try simp only [Act.put, List.getElem_toArray, List.getElem_cons_succ, List.getElem_cons_zero, List.setIfInBounds_toArray, List.set_cons_zero, List.set_cons_succ]
          refine wpAnyH_take (i := 3) (v := ?v259) rfl (by kernel_rfl) (by kernel_rfl) (by kernel_rfl) (fun _ _ _ h => h) (Or.inl ⟨by rfl, ?hy259⟩) (by assumption) ?rest259
          case hy259 => (intro wz hSw; (try dsimp only at hSw); first | (go_simp; done) | (go_simp; with_reducible rfl))
          try simp only [Act.put, List.getElem_toArray, List.getElem_cons_succ, List.getElem_cons_zero, List.setIfInBounds_toArray, List.set_cons_zero, List.set_cons_succ]
          refine wpAnyH_take (i := 4) (v := ?v260) rfl (by kernel_rfl) (by kernel_rfl) (by kernel_rfl) (fun _ _ _ h => h) (Or.inl ⟨by rfl, ?hy260⟩) (by assumption) ?rest260
          case hy260 => (intro wz hSw; (try dsimp only at hSw); first | (go_simp; done) | (go_simp; with_reducible rfl))
          try simp only [Act.put, List.getElem_toArray, List.getElem_cons_succ, List.getElem_cons_zero, List.setIfInBounds_toArray, List.set_cons_zero, List.set_cons_succ]
          refine wpAnyH_take (i := 5) (v := ?v261) rfl (by kernel_rfl) (by kernel_rfl) (by kernel_rfl) (fun _ _ _ h => h) (Or.inl ⟨by rfl, ?hy261⟩) (by assumption) ?rest261
          case hy261 => (intro wz hSw; (try dsimp only at hSw); first | (go_simp; done) | (go_simp; with_reducible rfl))
          try simp only [Act.put, List.getElem_toArray, List.getElem_cons_succ, List.getElem_cons_zero, List.setIfInBounds_toArray, List.set_cons_zero, List.set_cons_succ]
          refine wpAnyH_take (i := 6) (v := ?v262) rfl (by kernel_rfl) (by kernel_rfl) (by kernel_rfl) (fun _ _ _ h => h) (Or.inl ⟨by rfl, ?hy262⟩) (by assumption) ?rest262
          case hy262 => (intro wz hSw; (try dsimp only at hSw); first | (go_simp; done) | (go_simp; with_reducible rfl))
          try simp only [Act.put, List.getElem_toArray, List.getElem_cons_succ, List.getElem_cons_zero, List.setIfInBounds_toArray, List.set_cons_zero, List.set_cons_succ]
          refine wpAnyH_take (i := 7) (v := ?v263) rfl (by kernel_rfl) (by kernel_rfl) (by kernel_rfl) (fun _ _ _ h => h) (Or.inl ⟨by rfl, ?hy263⟩) (by assumption) ?rest263
          case hy263 => (intro wz hSw; (try dsimp only at hSw); first | (go_simp; done) | (go_simp; with_reducible rfl))
          try simp only [Act.put, List.getElem_toArray, List.getElem_cons_succ, List.getElem_cons_zero, List.setIfInBounds_toArray, List.set_cons_zero, List.set_cons_succ]
          refine wpAnyH_take (i := 8) (v := ?v264) rfl (by kernel_rfl) (by kernel_rfl) (by kernel_rfl) (fun _ _ _ h => h) (Or.inl ⟨by rfl, ?hy264⟩) (by assumption) ?rest264
          case hy264 => (intro wz hSw; (try dsimp only at hSw); first | (go_simp; done) | (go_simp; with_reducible rfl))
          try simp only [Act.put, List.getElem_toArray, List.getElem_cons_succ, List.getElem_cons_zero, List.setIfInBounds_toArray, List.set_cons_zero, List.set_cons_succ]
          refine wpAnyH_take (i := 9) (v := ?v265) rfl (by kernel_rfl) (by kernel_rfl) (by kernel_rfl) (fun _ _ _ h => h) (Or.inl ⟨by rfl, ?hy265⟩) (by assumption) ?rest265
          case hy265 => (intro wz hSw; (try dsimp only at hSw); first | (go_simp; done) | (go_simp; with_reducible rfl))
          try simp only [Act.put, List.getElem_toArray, List.getElem_cons_succ, List.getElem_cons_zero, List.setIfInBounds_toArray, List.set_cons_zero, List.set_cons_succ]
          refine wpAnyH_ready (rs := [10]) (by kernel_rfl) (by simp) ?_
          refine AllReadyH.cons (o := _) rfl (fun K hK => ?_) AllReadyH.nil
          go_simp
          refine (MO.out _ W1.out).mono ?_
          rintro e vq ⟨rfl, rfl⟩
          try dsimp only
          refine hK.out _ _ (KT.out _ NN.out B3V.out R3.out) (fun hH1 => ?_)
          clear hK K hH0
          try simp only [Act.put, List.getElem_toArray, List.getElem_cons_succ, List.getElem_cons_zero, List.setIfInBounds_toArray, List.set_cons_zero, List.set_cons_succ]
          refine wpAnyH_take (i := 11) (v := ?v266) rfl (by kernel_rfl) (by kernel_rfl) (by kernel_rfl) (fun _ _ _ h => h) (Or.inl ⟨by rfl, ?hy266⟩) (by assumption) ?rest266
          case hy266 => (intro wz hSw; (try dsimp only at hSw); first | (go_simp; done) | (go_simp; with_reducible rfl))
          try simp only [Act.put, List.getElem_toArray, List.getElem_cons_succ, List.getElem_cons_zero, List.setIfInBounds_toArray, List.set_cons_zero, List.set_cons_succ]
          obtain ⟨o9, cs9, ib9⟩ := oe_setu (j := j) (x := redB v wd) ON.out HK.out HW.out RB.out
          have ne7 := IsB.ne NN.out ib9 (by decide)
          have ne3 := IsB.ne B3V.out ib9 (by decide)
          have r9 := (nu_su NV.out rfl (rrng_at ON.out.f.rng k)).cells ⟨g, 0, none⟩ rfl j (by have := LN.out; have := HJ.out; omega)
          rw [addr0] at r9
          have f9 := ib9.free j
          have ON := Lib.hid o9
          have NN := Lib.hid (NN.out.set_far (g2 := g) ne7 j (.int .u32 (redB v wd)))
          have B3V := Lib.hid (B3V.out.set_far (g2 := g) ne3 j (.int .u32 (redB v wd)))
          have GN := Lib.hid (gb_put GV.out GM.out (i := j) (u := .int .u32 (redB v wd)))
          have R3 := Lib.hid ((gb_set _ g j (.int .u32 (redB v wd))).cell R3.out (by first | exact NEF.out | simpa using NEF.out | (intro e; exact NEF.out (by simpa using e.symm)) | (intro e; exact NEF.out (by simpa using e))))
          refine wpAnyH_ready (rs := [12]) (by kernel_rfl) (by simp) ?_
          refine AllReadyH.cons (o := _) rfl (fun K hK => ?_) AllReadyH.nil
          go_simp
          refine hK.out _ _ (KT.out _ NN.out B3V.out R3.out) (fun hH2 => ?_)
          clear hK K hH1
          try simp only [Act.put, List.getElem_toArray, List.getElem_cons_succ, List.getElem_cons_zero, List.setIfInBounds_toArray, List.set_cons_zero, List.set_cons_succ]
          refine wpAnyH_done (by kernel_rfl) ?_ _
          clear hH2 f9 r9 ib9 o9
          generalize World.setCell _ ⟨g, j, none⟩ (.int .u32 (redB v wd)) = w9 at *
          obtain ⟨Wz, hWz, oz, iz⟩ := oe_store ON.out (B4.out.keep0 GN.out)
          have OZ := Lib.hid oz
          have L8 := Lib.hid (show w.heap.size ≤ bx + 1 + 1 + 1 from by have := Lbx.out; omega)
          have GW := Lib.hid (show w.grownBy Wz none by rw [hWz]; exact gb_put (gb_put (gb_put (gb_put (gb_trans G3.out GN.out) L8.out) L8.out) L8.out) L8.out)
          have n0 := NN.out.cell 0
          have n1 := NN.out.cell 1
          have n2 := NN.out.cell 2
          have n3 := NN.out.cell 3
          dsimp at n0 n1 n2 n3
          have b4x := B4.out.keep0 GN.out
          have z0 := b4x.cell 0
          have z1 := b4x.cell 1
          have z2 := b4x.cell 2
          have z3 := b4x.cell 3
          dsimp at z0 z1 z2 z3
          have f0 := b4x.free 0
          have f1 := b4x.free 1
          have f2 := b4x.free 2
          have f3 := b4x.free 3
          clear oz b4x
          go_wp2
          (try dsimp only at hWz)
          try rw [← hWz]
          have k0 := iz.cell 0
          have k1 := iz.cell 1
          have k2 := iz.cell 2
          have k3 := iz.cell 3
          dsimp at k0 k1 k2 k3
          have OF := OZ.out.low G3.out.size
          rw [← HQ.out] at OF
          refine bodyPost_ret (v := .agg #[.slice Xz.va Xz.vn Xz.vc, .slice Xz.fa Xz.fn Xz.fc, .slice Xz.ta Xz.tn Xz.tc, .slice Xz.pa Xz.pn Xz.pc]) (by rw [results_cell1 rfl]; go_simp; try rfl) rfl ⟨Xz, _, rfl, OF, GW.out⟩
end Go.Proofs.Ytolifmpnhflegaa
