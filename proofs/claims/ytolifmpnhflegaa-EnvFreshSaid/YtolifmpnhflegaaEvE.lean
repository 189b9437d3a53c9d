/- Env: Clone, withHeader, Set, AddHeader, RemoveHeader; no condition but sizes. -/
import Derived.Test.YtolifmpnhflegaaEvC
import Derived.Test.YtolifmpnhflegaaEvD
namespace Go.Proofs.Ytolifmpnhflegaa
open Go.RowKit
set_option linter.unusedVariables false
theorem oe_store {w : World} {base b : Nat} {X : EX} {L : EL} {Vs : List Value} {x0 x1 x2 x3 : Value} (h : OE w base X L Vs) (hb : IsB w b 37 #[x0, x1, x2, x3]) :
    ∃ W', W' = ((((w.setCell ⟨b, 0, none⟩ (.slice X.va X.vn X.vc)).setCell ⟨b, 1, none⟩ (.slice X.fa X.fn X.fc)).setCell ⟨b, 2, none⟩ (.slice X.ta X.tn X.tc)).setCell ⟨b, 3, none⟩ (.slice X.pa X.pn X.pc)) ∧ OE W' base X L Vs ∧ IsB W' b 37 #[.slice X.va X.vn X.vc, .slice X.fa X.fn X.fc, .slice X.ta X.tn X.tc, .slice X.pa X.pn X.pc] := by
  refine ⟨_, rfl, ?_, (((hb.set 0 _).set 1 _).set 2 _).set 3 _⟩
  have j1 := hb.set 0 (.slice X.va X.vn X.vc)
  have j2 := j1.set 1 (.slice X.fa X.fn X.fc)
  have j3 := j2.set 2 (.slice X.ta X.tn X.tc)
  have kp : ∀ {e : TypeId} {base : Nat} {v : Value} {n : Nat} {xs : List Value}, w.ownsRow base e 1 v n xs → e ≠ 37 → World.ownsRow ((((w.setCell ⟨b, 0, none⟩ (.slice X.va X.vn X.vc)).setCell ⟨b, 1, none⟩ (.slice X.fa X.fn X.fc)).setCell ⟨b, 2, none⟩ (.slice X.ta X.tn X.tc)).setCell ⟨b, 3, none⟩ (.slice X.pa X.pn X.pc)) base e 1 v n xs := fun h hn =>
    own_keepS (own_keepS (own_keepS (own_keepS h (gb_set _ _ _ _) hb hn) (gb_set _ _ _ _) j1 hn) (gb_set _ _ _ _) j2 hn) (gb_set _ _ _ _) j3 hn
  exact ⟨kp h.v (by decide), ⟨kp h.f.out (by decide), fun x hx => kp (h.f.own x hx) (by decide), h.f.dis, h.f.rng⟩, kp h.t (by decide), kp h.p (by decide), h.vl, h.fl, h.tl, h.pl, h.trng, h.prng, h.dis⟩
theorem addr0 (g j : Nat) : ((⟨g, 0, none⟩ : Addr).add j) = ⟨g, j, none⟩ := by unfold Addr.add; split <;> simp_all
theorem chL_id (l : List Int) (h : Int) : chL (idG h) l = l := by apply List.ext_getElem <;> simp [chL, idG]
theorem chE_id (L : EL) : chE idG L = L := by
  obtain ⟨V, F, T, P⟩ := L
  unfold chE
  simp only [chL_id]
  congr 1
  apply List.ext_getElem (by simp [chF])
  intro i h1 h2
  simp [chF, chL_id]
def withE (L : EL) (j : Nat) (b : Bool) : EL := ⟨L.V.set j b, chF (zerG j) L.F, chL (zerG j (-1)) L.T, L.P⟩
theorem enters_fn {P : Program} {f : Nat} {fn : Func} (h : P.funcs[f]? = some fn) : True := trivial
set_option maxRecDepth 100000 in
set_option maxHeartbeats 1000000 in
theorem eclone_any (w : World) (X : EX) (L : EL) (h : ER w X L) (hz : EZ X L) : Calls Try.prog 30 #[.agg #[.slice X.va X.vn X.vc, .slice X.fa X.fn X.fc, .slice X.ta X.tn X.tc, .slice X.pa X.pn X.pc]] w (RetE L w) := by
  have HR := Lib.hid h
  have HZ := Lib.hid hz
  have G2 := Lib.hid (gb_trans (gb_alloc w (.cells #[.slice X.va X.vn X.vc, .slice X.fa X.fn X.fc, .slice X.ta X.tn X.tc, .slice X.pa X.pn X.pc] 37) none) (gb_alloc _ (.cells #[.slice none 0 0, .slice none 0 0, .slice none 0 0, .slice none 0 0] 37) none))
  have B1 := (IsB.new w 37 #[.slice X.va X.vn X.vc, .slice X.fa X.fn X.fc, .slice X.ta X.tn X.tc, .slice X.pa X.pn X.pc]).alloc (.cells #[.slice none 0 0, .slice none 0 0, .slice none 0 0, .slice none 0 0] 37)
  have B2 := IsB.new (w.alloc (.cells #[.slice X.va X.vn X.vc, .slice X.fa X.fn X.fc, .slice X.ta X.tn X.tc, .slice X.pa X.pn X.pc] 37)) 37 #[.slice none 0 0, .slice none 0 0, .slice none 0 0, .slice none 0 0]
  simp only [sz_al] at B2
  replace B1 := Lib.hid B1
  replace B2 := Lib.hid B2
  clear h hz
  go_enter Try.func30, Try.ntmps30
  go_upto_region 1 with fail
  generalize (w.alloc (.cells #[.slice X.va X.vn X.vc, .slice X.fa X.fn X.fc, .slice X.ta X.tn X.tc, .slice X.pa X.pn X.pc] 37)).alloc (.cells #[.slice none 0 0, .slice none 0 0, .slice none 0 0, .slice none 0 0] 37) = w2 at *
  obtain ⟨bx, hbx⟩ : ∃ b, b = w.heap.size := ⟨_, rfl⟩
  have Lbx := Lib.hid (show w.heap.size ≤ bx by rw [hbx]; exact Nat.le_refl _)
  rw [← hbx] at B1 B2 ⊢
  clear hbx
  have CC := Lib.hid (chg_any w2 X L (HR.out.keep0 G2.out) HZ.out 59 #[] idG (by intro args w; rfl) idG_rng (fun h i v W k v0 v1 => by have q := cl1_any W h i v; simpa [idG] using q))
  rw [chE_id] at CC
  have c0 := B1.out.cell 0
  have c1 := B1.out.cell 1
  have c2 := B1.out.cell 2
  have c3 := B1.out.cell 3
  dsimp at c0 c1 c2 c3
  go_wp2_with (go_at_call 45; refine (CC.out).mono ?_; rintro e wz ⟨Xz, Vz, rfl, oe, gz⟩; have bz := B2.out.keep0 gz; obtain ⟨Wz, hWz, oz, iz⟩ := oe_store oe bz; have z0 := bz.cell 0; have z1 := bz.cell 1; have z2 := bz.cell 2; have z3 := bz.cell 3; dsimp at z0 z1 z2 z3; have f0 := bz.free 0; have f1 := bz.free 1; have f2 := bz.free 2; have f3 := bz.free 3; have GZ := Lib.hid gz; have OZ := Lib.hid oz; clear oe oz gz bz)
  rw [← hWz]
  have k0 := iz.cell 0
  have k1 := iz.cell 1
  have k2 := iz.cell 2
  have k3 := iz.cell 3
  dsimp at k0 k1 k2 k3
  refine bodyPost_ret (v := .agg #[.slice Xz.va Xz.vn Xz.vc, .slice Xz.fa Xz.fn Xz.fc, .slice Xz.ta Xz.tn Xz.tc, .slice Xz.pa Xz.pn Xz.pc]) (by rw [results_cell1 rfl]; go_simp; try rfl) rfl ⟨Xz, Vz, rfl, OZ.out.low G2.out.size, ?_⟩
  rw [hWz]
  exact gb_put (gb_put (gb_put (gb_put (gb_trans G2.out GZ.out) (Nat.le_trans Lbx.out (Nat.le_add_right bx 1))) (Nat.le_trans Lbx.out (Nat.le_add_right bx 1))) (Nat.le_trans Lbx.out (Nat.le_add_right bx 1))) (Nat.le_trans Lbx.out (Nat.le_add_right bx 1))
theorem oe_setv {w : World} {base g n c j : Nat} {b : Bool} {X : EX} {L : EL} {Vs : List Value} (h : OE w base X L Vs) (hv : Value.slice X.va X.vn X.vc = .slice (some ⟨g, 0, none⟩) n c) :
    OE (w.setCell ⟨g, j, none⟩ (.bool b)) base X ⟨L.V.set j b, L.F, L.T, L.P⟩ Vs ∧ ∃ cs, IsB w g 4 cs := by
  have hb := h.v
  unfold NB at hb
  rw [hv] at hb
  have hn : n = L.V.length := by injection hv with _ q _; rw [h.vl]; exact q.symm
  subst hn
  obtain ⟨cs, ib⟩ := own_blk hb
  have kp : ∀ {e : TypeId} {base : Nat} {v : Value} {n : Nat} {xs : List Value}, w.ownsRow base e 1 v n xs → e ≠ 4 → World.ownsRow (w.setCell ⟨g, j, none⟩ (.bool b)) base e 1 v n xs := fun h hn => own_keepS h (gb_set _ _ _ _) ib hn
  refine ⟨⟨?_, ⟨kp h.f.out (by decide), fun x hx => kp (h.f.own x hx) (by decide), h.f.dis, h.f.rng⟩, kp h.t (by decide), kp h.p (by decide), ?_, h.fl, h.tl, h.pl, h.trng, h.prng, h.dis⟩, cs, ib⟩
  · have k := (World.ownsRow.stored hb j (.bool b)).1
    show NB _ _ _ _
    unfold NB
    rw [hv, List.map_set, List.length_set]
    exact k
  · show (L.V.set j b).length = _
    rw [List.length_set]; exact h.vl
set_option maxRecDepth 100000 in
set_option maxHeartbeats 2000000 in
theorem ewith_any (w : World) (X : EX) (L : EL) (h : ER w X L) (hz : EZ X L) (j : Nat) (b : Bool) (hj : j < X.vn) : Calls Try.prog 51 #[.agg #[.slice X.va X.vn X.vc, .slice X.fa X.fn X.fc, .slice X.ta X.tn X.tc, .slice X.pa X.pn X.pc], .int .i64 (j : Int), .bool b] w (RetE (withE L j b) w) := by
  have HR := Lib.hid h
  have HZ := Lib.hid hz
  have G3 := Lib.hid (gb_trans (gb_trans (gb_alloc w (.cells #[.slice X.va X.vn X.vc, .slice X.fa X.fn X.fc, .slice X.ta X.tn X.tc, .slice X.pa X.pn X.pc] 37) none) (gb_alloc _ (.cells #[.int .i64 (j : Int)] 3) none)) (gb_alloc _ (.cells #[.slice none 0 0, .slice none 0 0, .slice none 0 0, .slice none 0 0] 37) none))
  have B1 := ((IsB.new w 37 #[.slice X.va X.vn X.vc, .slice X.fa X.fn X.fc, .slice X.ta X.tn X.tc, .slice X.pa X.pn X.pc]).alloc (.cells #[.int .i64 (j : Int)] 3)).alloc (.cells #[.slice none 0 0, .slice none 0 0, .slice none 0 0, .slice none 0 0] 37)
  have B2 := (IsB.new (w.alloc (.cells #[.slice X.va X.vn X.vc, .slice X.fa X.fn X.fc, .slice X.ta X.tn X.tc, .slice X.pa X.pn X.pc] 37)) 3 #[.int .i64 (j : Int)]).alloc (.cells #[.slice none 0 0, .slice none 0 0, .slice none 0 0, .slice none 0 0] 37)
  have B3 := IsB.new ((w.alloc (.cells #[.slice X.va X.vn X.vc, .slice X.fa X.fn X.fc, .slice X.ta X.tn X.tc, .slice X.pa X.pn X.pc] 37)).alloc (.cells #[.int .i64 (j : Int)] 3)) 37 #[.slice none 0 0, .slice none 0 0, .slice none 0 0, .slice none 0 0]
  simp only [sz_al] at B2 B3
  replace B1 := Lib.hid B1
  replace B2 := Lib.hid B2
  replace B3 := Lib.hid B3
  clear h hz
  go_enter Try.func51, Try.ntmps51
  go_upto_region 1 with fail
  generalize ((w.alloc (.cells #[.slice X.va X.vn X.vc, .slice X.fa X.fn X.fc, .slice X.ta X.tn X.tc, .slice X.pa X.pn X.pc] 37)).alloc (.cells #[.int .i64 (j : Int)] 3)).alloc (.cells #[.slice none 0 0, .slice none 0 0, .slice none 0 0, .slice none 0 0] 37) = w3 at *
  obtain ⟨bx, hbx⟩ : ∃ b, b = w.heap.size := ⟨_, rfl⟩
  have Lbx := Lib.hid (show w.heap.size ≤ bx by rw [hbx]; exact Nat.le_refl _)
  rw [← hbx] at B1 B2 B3 ⊢
  clear hbx
  have CC := Lib.hid (chg_any w3 X L (HR.out.keep0 G3.out) HZ.out 70 #[.pointer (some ⟨bx + 1, 0, none⟩)] (zerG j) (by intro args w; rfl) (zerG_rng j) (fun h i v W k v0 v1 => by have q := wh1_any W h i v j (bx + 1) (B2.out.keep0 k); simpa using q))
  have c0 := B1.out.cell 0
  have c1 := B1.out.cell 1
  have c2 := B1.out.cell 2
  have c3 := B1.out.cell 3
  dsimp at c0 c1 c2 c3
  go_upto_region 2 with (go_at_call 45; refine CC.out.mono ?_; clear CC; rintro e wz ⟨Xz, Vz, rfl, oe, gz⟩)
  have GA := gb_alloc wz (.cells #[.slice Xz.va Xz.vn Xz.vc, .slice Xz.fa Xz.fn Xz.fc, .slice Xz.ta Xz.tn Xz.tc, .slice Xz.pa Xz.pn Xz.pc] 37) none
  have N7 := IsB.new wz 37 #[.slice Xz.va Xz.vn Xz.vc, .slice Xz.fa Xz.fn Xz.fc, .slice Xz.ta Xz.tn Xz.tc, .slice Xz.pa Xz.pn Xz.pc]
  have OA := oe.keep0 GA
  have G5 := Lib.hid (gb_trans gz GA)
  clear c0 c1 c2 c3
  generalize wz.alloc (.cells #[.slice Xz.va Xz.vn Xz.vc, .slice Xz.fa Xz.fn Xz.fc, .slice Xz.ta Xz.tn Xz.tc, .slice Xz.pa Xz.pn Xz.pc] 37) = w5 at *
  have S7 := Lib.hid gz.size
  generalize wz.heap.size = b7 at *
  have hvl : Xz.vn = X.vn := by have a1 := oe.vl; have a2 := HR.out.v.len; show Xz.vn = X.vn; rw [← a2]; exact a1.symm
  obtain ⟨g, c, hv⟩ := own_head (show w5.ownsRow w3.heap.size 4 1 (.slice Xz.va Xz.vn Xz.vc) Xz.vn (L.V.map Value.bool) by have k := OA.v; unfold NB at k; rw [OA.vl] at k; exact k) (by omega)
  obtain ⟨o2, cs, ibg⟩ := oe_setv (j := j) (b := b) OA hv
  have q1 := ibg.free j
  have GL := Lib.hid (show w3.heap.size ≤ g from by have k := OA.v; unfold NB at k; rw [hv] at k; exact (World.ownsRow.lt k g rfl).1)
  have ne : b7 ≠ g := IsB.ne N7 ibg (by decide)
  have N8 := N7.set_far (g2 := g) ne j (.bool b)
  have B3' := (B3.out.keep0 G5.out).set_far (g2 := g) (IsB.ne (B3.out.keep0 G5.out) ibg (by decide)) j (.bool b)
  have e0 := N7.cell 0
  have d2 := (B2.out.keep0 G5.out).cell 0
  dsimp at e0 d2
  have hva : Xz.va = some ⟨g, 0, none⟩ := by injection hv
  have hvc : Xz.vc = c := by injection hv
  have q2 := (nb_sb OA.v OA.vl).cells ⟨g, 0, none⟩ hva j (by rw [hvl]; exact hj)
  rw [addr0] at q2
  have O2 := Lib.hid o2
  have G6 := Lib.hid (show w3.grownBy (w5.setCell ⟨g, j, none⟩ (.bool b)) none from gb_put G5.out GL.out)
  have i1 : (j : Int) < Xz.vn := by rw [hvl]; omega
  have i0 : (0 : Int) ≤ (j : Int) := by omega
  rw [hv] at e0
  obtain ⟨Wz, hWz, oz, iz⟩ := oe_store O2.out B3'
  have OZ := Lib.hid oz
  have L8 := Lib.hid (Nat.le_trans Lbx.out (Nat.le_add_right bx (1 + 1)))
  have GW := Lib.hid (show w.grownBy Wz none by rw [hWz]; exact gb_put (gb_put (gb_put (gb_put (gb_trans G3.out G6.out) L8.out) L8.out) L8.out) L8.out)
  have n0 := N8.cell 0
  have n1 := N8.cell 1
  have n2 := N8.cell 2
  have n3 := N8.cell 3
  have z0 := B3'.cell 0
  have z1 := B3'.cell 1
  have z2 := B3'.cell 2
  have z3 := B3'.cell 3
  dsimp at n0 n1 n2 n3 z0 z1 z2 z3
  have f0 := B3'.free 0
  have f1 := B3'.free 1
  have f2 := B3'.free 2
  have f3 := B3'.free 3
  clear oe gz OA o2 ibg ne N7 N8 B3' hv hva hvc hvl oz GA
  go_wp2
  rw [← hWz]
  have k0 := iz.cell 0
  have k1 := iz.cell 1
  have k2 := iz.cell 2
  have k3 := iz.cell 3
  dsimp at k0 k1 k2 k3
  refine bodyPost_ret (v := .agg #[.slice Xz.va Xz.vn Xz.vc, .slice Xz.fa Xz.fn Xz.fc, .slice Xz.ta Xz.tn Xz.tc, .slice Xz.pa Xz.pn Xz.pc]) (by rw [results_cell1 rfl]; go_simp; try rfl) rfl ⟨Xz, Vz, rfl, OZ.out.low G3.out.size, GW.out⟩
def setE (H : List (ByteArray × List Fld)) (M : List Fld) (L : EL) (rh rf v : Int) : EL := if widE H M rh rf = 0 ∨ openB L.V rh = false then L else chE (setG rh rf v (widE H M rh rf)) L
set_option maxRecDepth 100000 in
set_option maxHeartbeats 4000000 in
theorem eset_any (w : World) (nm v3 v4 v5 v6 v7 v8 : Value) (ha ma : Option Addr) (hn hc mn mc : Nat) (H : List (ByteArray × List Fld)) (M : List Fld) (hH : SH w ha hn hc H) (hM : SF w ma mn mc M) (X : EX) (L : EL) (h : ER w X L) (hz : EZ X L) (rh rf v : Int) (v0 : 0 ≤ v) (v1 : v < 4294967296) :
    Calls Try.prog 21 #[.agg #[nm, .slice ha hn hc, .slice ma mn mc, v3, v4, v5, v6, v7, v8], .agg #[.slice X.va X.vn X.vc, .slice X.fa X.fn X.fc, .slice X.ta X.tn X.tc, .slice X.pa X.pn X.pc], .agg #[.int .i64 rh, .int .i64 rf], .int .u32 v] w (RetE (setE H M L rh rf v) w) := by
  have HR := Lib.hid h
  have HZ := Lib.hid hz
  have WD := Lib.hid (fun (w2 : World) (q : w.grownBy w2 none) => ewid_any w2 nm v3 v4 v5 v6 v7 v8 ha ma hn hc mn mc H M (hH.keep0 q) (hM.keep0 q) rh rf)
  have OP := Lib.hid (fun (w2 : World) (q : w.grownBy w2 none) => eopen_any w2 (.slice X.fa X.fn X.fc) (.slice X.ta X.tn X.tc) (.slice X.pa X.pn X.pc) X.va X.vn X.vc L.V (h.v.keep0 q) rh)
  unfold RetV at WD OP
  have SE := Lib.hid (show setE H M L rh rf v = if widE H M rh rf = 0 ∨ openB L.V rh = false then L else chE (setG rh rf v (widE H M rh rf)) L from rfl)
  obtain ⟨R, hR⟩ : ∃ R, R = setE H M L rh rf v := ⟨_, rfl⟩
  rw [← hR] at SE ⊢
  generalize widE H M rh rf = wd at *
  generalize openB L.V rh = ob at *
  have G5 := Lib.hid (gb_trans (gb_trans (gb_trans (gb_trans (gb_alloc w (.cells #[nm, .slice ha hn hc, .slice ma mn mc, v3, v4, v5, v6, v7, v8] 31) none) (gb_alloc _ (.cells #[.slice X.va X.vn X.vc, .slice X.fa X.fn X.fc, .slice X.ta X.tn X.tc, .slice X.pa X.pn X.pc] 37) none)) (gb_alloc _ (.cells #[.int .i64 rh, .int .i64 rf] 39) none)) (gb_alloc _ (.cells #[.int .u32 v] 49) none)) (gb_alloc _ (.cells #[.slice none 0 0, .slice none 0 0, .slice none 0 0, .slice none 0 0] 37) none))
  have B1 := ((((IsB.new w 31 #[nm, .slice ha hn hc, .slice ma mn mc, v3, v4, v5, v6, v7, v8]).alloc (.cells #[.slice X.va X.vn X.vc, .slice X.fa X.fn X.fc, .slice X.ta X.tn X.tc, .slice X.pa X.pn X.pc] 37)).alloc (.cells #[.int .i64 rh, .int .i64 rf] 39)).alloc (.cells #[.int .u32 v] 49)).alloc (.cells #[.slice none 0 0, .slice none 0 0, .slice none 0 0, .slice none 0 0] 37)
  have B2 := (((IsB.new (w.alloc (.cells #[nm, .slice ha hn hc, .slice ma mn mc, v3, v4, v5, v6, v7, v8] 31)) 37 #[.slice X.va X.vn X.vc, .slice X.fa X.fn X.fc, .slice X.ta X.tn X.tc, .slice X.pa X.pn X.pc]).alloc (.cells #[.int .i64 rh, .int .i64 rf] 39)).alloc (.cells #[.int .u32 v] 49)).alloc (.cells #[.slice none 0 0, .slice none 0 0, .slice none 0 0, .slice none 0 0] 37)
  have B3 := ((IsB.new ((w.alloc (.cells #[nm, .slice ha hn hc, .slice ma mn mc, v3, v4, v5, v6, v7, v8] 31)).alloc (.cells #[.slice X.va X.vn X.vc, .slice X.fa X.fn X.fc, .slice X.ta X.tn X.tc, .slice X.pa X.pn X.pc] 37)) 39 #[.int .i64 rh, .int .i64 rf]).alloc (.cells #[.int .u32 v] 49)).alloc (.cells #[.slice none 0 0, .slice none 0 0, .slice none 0 0, .slice none 0 0] 37)
  have B4 := (IsB.new (((w.alloc (.cells #[nm, .slice ha hn hc, .slice ma mn mc, v3, v4, v5, v6, v7, v8] 31)).alloc (.cells #[.slice X.va X.vn X.vc, .slice X.fa X.fn X.fc, .slice X.ta X.tn X.tc, .slice X.pa X.pn X.pc] 37)).alloc (.cells #[.int .i64 rh, .int .i64 rf] 39)) 49 #[.int .u32 v]).alloc (.cells #[.slice none 0 0, .slice none 0 0, .slice none 0 0, .slice none 0 0] 37)
  have B5 := IsB.new ((((w.alloc (.cells #[nm, .slice ha hn hc, .slice ma mn mc, v3, v4, v5, v6, v7, v8] 31)).alloc (.cells #[.slice X.va X.vn X.vc, .slice X.fa X.fn X.fc, .slice X.ta X.tn X.tc, .slice X.pa X.pn X.pc] 37)).alloc (.cells #[.int .i64 rh, .int .i64 rf] 39)).alloc (.cells #[.int .u32 v] 49)) 37 #[.slice none 0 0, .slice none 0 0, .slice none 0 0, .slice none 0 0]
  simp only [sz_al] at B2 B3 B4 B5
  replace B1 := Lib.hid B1
  replace B2 := Lib.hid B2
  replace B3 := Lib.hid B3
  replace B4 := Lib.hid B4
  replace B5 := Lib.hid B5
  clear h hz hH hM hR
  go_enter Try.func21, Try.ntmps21
  go_upto_region 1 with fail
  generalize ((((w.alloc (.cells #[nm, .slice ha hn hc, .slice ma mn mc, v3, v4, v5, v6, v7, v8] 31)).alloc (.cells #[.slice X.va X.vn X.vc, .slice X.fa X.fn X.fc, .slice X.ta X.tn X.tc, .slice X.pa X.pn X.pc] 37)).alloc (.cells #[.int .i64 rh, .int .i64 rf] 39)).alloc (.cells #[.int .u32 v] 49)).alloc (.cells #[.slice none 0 0, .slice none 0 0, .slice none 0 0, .slice none 0 0] 37) = w5 at *
  obtain ⟨bx, hbx⟩ : ∃ b, b = w.heap.size := ⟨_, rfl⟩
  have Lbx := Lib.hid (show w.heap.size ≤ bx by rw [hbx]; exact Nat.le_refl _)
  rw [← hbx] at B1 B2 B3 B4 B5 ⊢
  clear hbx
  have c0 := B1.out.cell 0
  have c1 := B1.out.cell 1
  have c2 := B1.out.cell 2
  have c3 := B1.out.cell 3
  have c4 := B1.out.cell 4
  have c5 := B1.out.cell 5
  have c6 := B1.out.cell 6
  have c7 := B1.out.cell 7
  have c8 := B1.out.cell 8
  dsimp at c0 c1 c2 c3 c4 c5 c6 c7 c8
  have r0 := B3.out.cell 0
  have r1 := B3.out.cell 1
  dsimp at r0 r1
  go_upto_region 2 with (go_at_call 12; refine (WD.out _ G5.out).mono ?_; clear WD; rintro e wz ⟨rfl, gz⟩)
  have GA := gb_alloc wz (.cells #[.int .i64 wd] 3) none
  have B9 := IsB.new wz 3 #[.int .i64 wd]
  have G6 := Lib.hid (gb_trans gz GA)
  clear c0 c1 c2 c3 c4 c5 c6 c7 c8 r0 r1
  generalize wz.alloc (.cells #[.int .i64 wd] 3) = w6 at *
  generalize wz.heap.size = b9 at *
  have B9 := Lib.hid B9
  clear gz GA
  have L5 := Lib.hid (show w.heap.size ≤ bx + 1 + 1 + 1 + 1 from by have := Lbx.out; omega)
  have e0 := B9.out.cell 0
  dsimp at e0
  have x0 := (B2.out.keep0 G6.out).cell 0
  have x1 := (B2.out.keep0 G6.out).cell 1
  have x2 := (B2.out.keep0 G6.out).cell 2
  have x3 := (B2.out.keep0 G6.out).cell 3
  dsimp at x0 x1 x2 x3
  have r0 := (B3.out.keep0 G6.out).cell 0
  dsimp at r0
  by_cases hw : wd = 0
  · rw [if_pos (.inl hw)] at SE
    have sr := SE.out.symm; subst sr
    have d1 : (wd == 0) = true := by rw [beq_iff_eq]; exact hw
    have CC := Lib.hid (eclone_any w6 X L (HR.out.keep0 (gb_trans G5.out G6.out)) HZ.out)
    have G7 := Lib.hid (gb_trans G5.out G6.out)
    have B5 := Lib.hid (B5.out.keep0 G6.out)
    subst hw
    go_wp2_with (go_at_call 30; refine (CC.out).mono ?_; rintro e wz ⟨Xz, Vz, rfl, oe, gz⟩; have bz := B5.out.keep0 gz; obtain ⟨Wz, hWz, oz, iz⟩ := oe_store oe bz; have z0 := bz.cell 0; have z1 := bz.cell 1; have z2 := bz.cell 2; have z3 := bz.cell 3; dsimp at z0 z1 z2 z3; have f0 := bz.free 0; have f1 := bz.free 1; have f2 := bz.free 2; have f3 := bz.free 3; have GZ := Lib.hid gz; have OZ := Lib.hid oz; clear oe oz gz bz)
    rw [← hWz]
    have k0 := iz.cell 0
    have k1 := iz.cell 1
    have k2 := iz.cell 2
    have k3 := iz.cell 3
    dsimp at k0 k1 k2 k3
    refine bodyPost_ret (v := .agg #[.slice Xz.va Xz.vn Xz.vc, .slice Xz.fa Xz.fn Xz.fc, .slice Xz.ta Xz.tn Xz.tc, .slice Xz.pa Xz.pn Xz.pc]) (by rw [results_cell1 rfl]; go_simp; try rfl) rfl ⟨Xz, Vz, rfl, OZ.out.low G7.out.size, ?_⟩
    rw [hWz]
    exact gb_put (gb_put (gb_put (gb_put (gb_trans G7.out GZ.out) L5.out) L5.out) L5.out) L5.out

  · have d1 : (wd == 0) = false := by rw [beq_eq_false_iff_ne]; exact hw
    have OC := Lib.hid (OP.out w6 (gb_trans G5.out G6.out))
    cases ob with
    | false =>
      rw [if_pos (.inr rfl)] at SE
      have sr := SE.out.symm; subst sr
      go_upto_region 3 with (go_at_call 43; refine OC.out.mono ?_; clear OC; rintro e w7 ⟨rfl, g7⟩)
      have G7 := Lib.hid (gb_trans (gb_trans G5.out G6.out) g7)
      have B5 := Lib.hid (B5.out.keep0 (gb_trans G6.out g7))
      have CC := Lib.hid (eclone_any w7 X L (HR.out.keep0 G7.out) HZ.out)
      clear x0 x1 x2 x3 r0 e0
      have y0 := (B2.out.keep0 (gb_trans G6.out g7)).cell 0
      have y1 := (B2.out.keep0 (gb_trans G6.out g7)).cell 1
      have y2 := (B2.out.keep0 (gb_trans G6.out g7)).cell 2
      have y3 := (B2.out.keep0 (gb_trans G6.out g7)).cell 3
      dsimp at y0 y1 y2 y3
      go_wp2_with (go_at_call 30; refine (CC.out).mono ?_; rintro e wz ⟨Xz, Vz, rfl, oe, gz⟩; have bz := B5.out.keep0 gz; obtain ⟨Wz, hWz, oz, iz⟩ := oe_store oe bz; have z0 := bz.cell 0; have z1 := bz.cell 1; have z2 := bz.cell 2; have z3 := bz.cell 3; dsimp at z0 z1 z2 z3; have f0 := bz.free 0; have f1 := bz.free 1; have f2 := bz.free 2; have f3 := bz.free 3; have GZ := Lib.hid gz; have OZ := Lib.hid oz; clear oe oz gz bz)
      rw [← hWz]
      have k0 := iz.cell 0
      have k1 := iz.cell 1
      have k2 := iz.cell 2
      have k3 := iz.cell 3
      dsimp at k0 k1 k2 k3
      refine bodyPost_ret (v := .agg #[.slice Xz.va Xz.vn Xz.vc, .slice Xz.fa Xz.fn Xz.fc, .slice Xz.ta Xz.tn Xz.tc, .slice Xz.pa Xz.pn Xz.pc]) (by rw [results_cell1 rfl]; go_simp; try rfl) rfl ⟨Xz, Vz, rfl, OZ.out.low G7.out.size, ?_⟩
      rw [hWz]
      exact gb_put (gb_put (gb_put (gb_put (gb_trans G7.out GZ.out) L5.out) L5.out) L5.out) L5.out

    | true =>
      rw [if_neg (by simp [hw])] at SE
      have sr := SE.out.symm; subst sr
      go_upto_region 4 with (go_at_call 43; refine OC.out.mono ?_; clear OC; rintro e w7 ⟨rfl, g7⟩)
      have G7 := Lib.hid (gb_trans (gb_trans G5.out G6.out) g7)
      have B3' := Lib.hid (B3.out.keep0 (gb_trans G6.out g7))
      have B4' := Lib.hid (B4.out.keep0 (gb_trans G6.out g7))
      have B9' := Lib.hid (B9.out.keep0 g7)
      have B5 := Lib.hid (B5.out.keep0 (gb_trans G6.out g7))
      have CC := Lib.hid (chg_any w7 X L (HR.out.keep0 G7.out) HZ.out 46 #[.pointer (some ⟨bx + 1 + 1, 0, none⟩), .pointer (some ⟨bx + 1 + 1 + 1, 0, none⟩), .pointer (some ⟨b9, 0, none⟩)] (setG rh rf v wd) (by intro args w; rfl) (setG_rng rh rf v wd) (fun h i x W k x0 x1 => by have q := st1_any W h i x rh rf v wd v0 v1 (bx + 1 + 1) (bx + 1 + 1 + 1) b9 (B3'.out.keep0 k) (B4'.out.keep0 k) (B9'.out.keep0 k); simpa using q))
      clear x0 x1 x2 x3 r0 e0
      have y0 := (B2.out.keep0 (gb_trans G6.out g7)).cell 0
      have y1 := (B2.out.keep0 (gb_trans G6.out g7)).cell 1
      have y2 := (B2.out.keep0 (gb_trans G6.out g7)).cell 2
      have y3 := (B2.out.keep0 (gb_trans G6.out g7)).cell 3
      dsimp at y0 y1 y2 y3
      go_wp2_with (go_at_call 45; refine (CC.out).mono ?_; rintro e wz ⟨Xz, Vz, rfl, oe, gz⟩; have bz := B5.out.keep0 gz; obtain ⟨Wz, hWz, oz, iz⟩ := oe_store oe bz; have z0 := bz.cell 0; have z1 := bz.cell 1; have z2 := bz.cell 2; have z3 := bz.cell 3; dsimp at z0 z1 z2 z3; have f0 := bz.free 0; have f1 := bz.free 1; have f2 := bz.free 2; have f3 := bz.free 3; have GZ := Lib.hid gz; have OZ := Lib.hid oz; clear oe oz gz bz)
      rw [← hWz]
      have k0 := iz.cell 0
      have k1 := iz.cell 1
      have k2 := iz.cell 2
      have k3 := iz.cell 3
      dsimp at k0 k1 k2 k3
      refine bodyPost_ret (v := .agg #[.slice Xz.va Xz.vn Xz.vc, .slice Xz.fa Xz.fn Xz.fc, .slice Xz.ta Xz.tn Xz.tc, .slice Xz.pa Xz.pn Xz.pc]) (by rw [results_cell1 rfl]; go_simp; try rfl) rfl ⟨Xz, Vz, rfl, OZ.out.low G7.out.size, ?_⟩
      rw [hWz]
      exact gb_put (gb_put (gb_put (gb_put (gb_trans G7.out GZ.out) L5.out) L5.out) L5.out) L5.out

set_option maxRecDepth 100000 in
set_option maxHeartbeats 4000000 in
theorem eadd_any (w : World) (nm m v3 v4 v5 v6 v7 v8 : Value) (ha : Option Addr) (hn hc : Nat) (X : EX) (L : EL) (he : ER w X L) (hz : EZ X L) (h : Int) :
    Calls Try.prog 23 #[.agg #[nm, .slice ha hn hc, m, v3, v4, v5, v6, v7, v8], .agg #[.slice X.va X.vn X.vc, .slice X.fa X.fn X.fc, .slice X.ta X.tn X.tc, .slice X.pa X.pn X.pc], .int .i64 h] w (RetE (if (isX h hn && isX h X.vn && !(validB L.V h)) = true then withE L h.toNat true else L) w) := by
  have HR := Lib.hid he
  have HZ := Lib.hid hz
  have HA := Lib.hid (fun (w2 : World) => hash_any w2 nm m v3 v4 v5 v6 v7 v8 (.slice X.fa X.fn X.fc) (.slice X.ta X.tn X.tc) (.slice X.pa X.pn X.pc) ha X.va hn hc X.vn X.vc h)
  have VA := Lib.hid (fun (w2 : World) (q : w.grownBy w2 none) => evalid_any w2 (.slice X.fa X.fn X.fc) (.slice X.ta X.tn X.tc) (.slice X.pa X.pn X.pc) X.va X.vn X.vc L.V (he.v.keep0 q) h)
  unfold RetV at HA VA
  have XV := Lib.hid (show (isX h hn && isX h X.vn) = true → isX h X.vn = true by intro q; simp at q; exact q.2)
  generalize (isX h hn && isX h X.vn) = bh at *
  generalize validB L.V h = bv at *
  have G3 := Lib.hid (gb_trans (gb_trans (gb_alloc w (.cells #[nm, .slice ha hn hc, m, v3, v4, v5, v6, v7, v8] 31) none) (gb_alloc _ (.cells #[.slice X.va X.vn X.vc, .slice X.fa X.fn X.fc, .slice X.ta X.tn X.tc, .slice X.pa X.pn X.pc] 37) none)) (gb_alloc _ (.cells #[.slice none 0 0, .slice none 0 0, .slice none 0 0, .slice none 0 0] 37) none))
  have B1 := ((IsB.new w 31 #[nm, .slice ha hn hc, m, v3, v4, v5, v6, v7, v8]).alloc (.cells #[.slice X.va X.vn X.vc, .slice X.fa X.fn X.fc, .slice X.ta X.tn X.tc, .slice X.pa X.pn X.pc] 37)).alloc (.cells #[.slice none 0 0, .slice none 0 0, .slice none 0 0, .slice none 0 0] 37)
  have B2 := (IsB.new (w.alloc (.cells #[nm, .slice ha hn hc, m, v3, v4, v5, v6, v7, v8] 31)) 37 #[.slice X.va X.vn X.vc, .slice X.fa X.fn X.fc, .slice X.ta X.tn X.tc, .slice X.pa X.pn X.pc]).alloc (.cells #[.slice none 0 0, .slice none 0 0, .slice none 0 0, .slice none 0 0] 37)
  have B3 := IsB.new ((w.alloc (.cells #[nm, .slice ha hn hc, m, v3, v4, v5, v6, v7, v8] 31)).alloc (.cells #[.slice X.va X.vn X.vc, .slice X.fa X.fn X.fc, .slice X.ta X.tn X.tc, .slice X.pa X.pn X.pc] 37)) 37 #[.slice none 0 0, .slice none 0 0, .slice none 0 0, .slice none 0 0]
  simp only [sz_al] at B2 B3
  replace B1 := Lib.hid B1
  replace B2 := Lib.hid B2
  replace B3 := Lib.hid B3
  clear he hz
  go_enter Try.func23, Try.ntmps23
  go_upto_region 1 with fail
  generalize ((w.alloc (.cells #[nm, .slice ha hn hc, m, v3, v4, v5, v6, v7, v8] 31)).alloc (.cells #[.slice X.va X.vn X.vc, .slice X.fa X.fn X.fc, .slice X.ta X.tn X.tc, .slice X.pa X.pn X.pc] 37)).alloc (.cells #[.slice none 0 0, .slice none 0 0, .slice none 0 0, .slice none 0 0] 37) = w3 at *
  obtain ⟨bx, hbx⟩ : ∃ b, b = w.heap.size := ⟨_, rfl⟩
  have Lbx := Lib.hid (show w.heap.size ≤ bx by rw [hbx]; exact Nat.le_refl _)
  rw [← hbx] at B1 B2 B3 ⊢
  clear hbx
  have c0 := B1.out.cell 0
  have c1 := B1.out.cell 1
  have c2 := B1.out.cell 2
  have c3 := B1.out.cell 3
  have c4 := B1.out.cell 4
  have c5 := B1.out.cell 5
  have c6 := B1.out.cell 6
  have c7 := B1.out.cell 7
  have c8 := B1.out.cell 8
  dsimp at c0 c1 c2 c3 c4 c5 c6 c7 c8
  have x0 := B2.out.cell 0
  have x1 := B2.out.cell 1
  have x2 := B2.out.cell 2
  have x3 := B2.out.cell 3
  dsimp at x0 x1 x2 x3
  have L3 := Lib.hid (show w.heap.size ≤ bx + 1 + 1 from by have := Lbx.out; omega)
  cases bh with
  | false =>
    rw [if_neg (by simp)]
    go_upto_region 2 with (first
      | (go_at_call 49; refine (HA.out _).mono ?_; clear HA; rintro e w6 ⟨rfl, g6⟩)
      | (go_at_call 50; refine (VA.out _ (gb_trans G3.out g6)).mono ?_; clear VA; rintro e w7 ⟨rfl, g7⟩))
    have G7 := Lib.hid (gb_trans G3.out g6)
    have B7 := Lib.hid (B3.out.keep0 g6)
    have CC := Lib.hid (eclone_any w6 X L (HR.out.keep0 G7.out) HZ.out)
    have y0 := (B2.out.keep0 g6).cell 0
    have y1 := (B2.out.keep0 g6).cell 1
    have y2 := (B2.out.keep0 g6).cell 2
    have y3 := (B2.out.keep0 g6).cell 3
    dsimp at y0 y1 y2 y3
    go_wp2_with (go_at_call 30; refine (CC.out).mono ?_; rintro e wz ⟨Xz, Vz, rfl, oe, gz⟩; have bz := B7.out.keep0 gz; obtain ⟨Wz, hWz, oz, iz⟩ := oe_store oe bz; have z0 := bz.cell 0; have z1 := bz.cell 1; have z2 := bz.cell 2; have z3 := bz.cell 3; dsimp at z0 z1 z2 z3; have f0 := bz.free 0; have f1 := bz.free 1; have f2 := bz.free 2; have f3 := bz.free 3; have GZ := Lib.hid gz; have OZ := Lib.hid oz; clear oe oz gz bz)
    rw [← hWz]
    have k0 := iz.cell 0
    have k1 := iz.cell 1
    have k2 := iz.cell 2
    have k3 := iz.cell 3
    dsimp at k0 k1 k2 k3
    refine bodyPost_ret (v := .agg #[.slice Xz.va Xz.vn Xz.vc, .slice Xz.fa Xz.fn Xz.fc, .slice Xz.ta Xz.tn Xz.tc, .slice Xz.pa Xz.pn Xz.pc]) (by rw [results_cell1 rfl]; go_simp; try rfl) rfl ⟨Xz, Vz, rfl, OZ.out.low G7.out.size, ?_⟩
    rw [hWz]
    exact gb_put (gb_put (gb_put (gb_put (gb_trans G7.out GZ.out) L3.out) L3.out) L3.out) L3.out
  | true =>
    cases bv with
    | true =>
      rw [if_neg (by simp)]
      go_upto_region 2 with (first
        | (go_at_call 49; refine (HA.out _).mono ?_; clear HA; rintro e w6 ⟨rfl, g6⟩; have x0 := (B2.out.keep0 g6).cell 0; have x1 := (B2.out.keep0 g6).cell 1; have x2 := (B2.out.keep0 g6).cell 2; have x3 := (B2.out.keep0 g6).cell 3; dsimp at x0 x1 x2 x3)
        | (go_at_call 50; refine (VA.out _ (gb_trans G3.out g6)).mono ?_; clear VA; rintro e w7 ⟨rfl, g7⟩))
      have G7 := Lib.hid (gb_trans G3.out (gb_trans g6 g7))
      have B7 := Lib.hid (B3.out.keep0 (gb_trans g6 g7))
      have CC := Lib.hid (eclone_any w7 X L (HR.out.keep0 G7.out) HZ.out)
      have y0 := (B2.out.keep0 (gb_trans g6 g7)).cell 0
      have y1 := (B2.out.keep0 (gb_trans g6 g7)).cell 1
      have y2 := (B2.out.keep0 (gb_trans g6 g7)).cell 2
      have y3 := (B2.out.keep0 (gb_trans g6 g7)).cell 3
      dsimp at y0 y1 y2 y3
      go_wp2_with (go_at_call 30; refine (CC.out).mono ?_; rintro e wz ⟨Xz, Vz, rfl, oe, gz⟩; have bz := B7.out.keep0 gz; obtain ⟨Wz, hWz, oz, iz⟩ := oe_store oe bz; have z0 := bz.cell 0; have z1 := bz.cell 1; have z2 := bz.cell 2; have z3 := bz.cell 3; dsimp at z0 z1 z2 z3; have f0 := bz.free 0; have f1 := bz.free 1; have f2 := bz.free 2; have f3 := bz.free 3; have GZ := Lib.hid gz; have OZ := Lib.hid oz; clear oe oz gz bz)
      rw [← hWz]
      have k0 := iz.cell 0
      have k1 := iz.cell 1
      have k2 := iz.cell 2
      have k3 := iz.cell 3
      dsimp at k0 k1 k2 k3
      refine bodyPost_ret (v := .agg #[.slice Xz.va Xz.vn Xz.vc, .slice Xz.fa Xz.fn Xz.fc, .slice Xz.ta Xz.tn Xz.tc, .slice Xz.pa Xz.pn Xz.pc]) (by rw [results_cell1 rfl]; go_simp; try rfl) rfl ⟨Xz, Vz, rfl, OZ.out.low G7.out.size, ?_⟩
      rw [hWz]
      exact gb_put (gb_put (gb_put (gb_put (gb_trans G7.out GZ.out) L3.out) L3.out) L3.out) L3.out
    | false =>
      rw [if_pos (by simp)]
      obtain ⟨j, rfl, hj⟩ := isx_nat (XV.out rfl)
      rw [Int.toNat_natCast]
      go_upto_region 3 with (first
        | (go_at_call 49; refine (HA.out _).mono ?_; clear HA; rintro e w6 ⟨rfl, g6⟩; have x0 := (B2.out.keep0 g6).cell 0; have x1 := (B2.out.keep0 g6).cell 1; have x2 := (B2.out.keep0 g6).cell 2; have x3 := (B2.out.keep0 g6).cell 3; dsimp at x0 x1 x2 x3)
        | (go_at_call 50; refine (VA.out _ (gb_trans G3.out g6)).mono ?_; clear VA; rintro e w7 ⟨rfl, g7⟩))
      have G7 := Lib.hid (gb_trans G3.out (gb_trans g6 g7))
      have B7 := Lib.hid (B3.out.keep0 (gb_trans g6 g7))
      have CC := Lib.hid (ewith_any w7 X L (HR.out.keep0 G7.out) HZ.out j true hj)
      have y0 := (B2.out.keep0 (gb_trans g6 g7)).cell 0
      have y1 := (B2.out.keep0 (gb_trans g6 g7)).cell 1
      have y2 := (B2.out.keep0 (gb_trans g6 g7)).cell 2
      have y3 := (B2.out.keep0 (gb_trans g6 g7)).cell 3
      dsimp at y0 y1 y2 y3
      go_wp2_with (go_at_call 51; refine (CC.out).mono ?_; rintro e wz ⟨Xz, Vz, rfl, oe, gz⟩; have bz := B7.out.keep0 gz; obtain ⟨Wz, hWz, oz, iz⟩ := oe_store oe bz; have z0 := bz.cell 0; have z1 := bz.cell 1; have z2 := bz.cell 2; have z3 := bz.cell 3; dsimp at z0 z1 z2 z3; have f0 := bz.free 0; have f1 := bz.free 1; have f2 := bz.free 2; have f3 := bz.free 3; have GZ := Lib.hid gz; have OZ := Lib.hid oz; clear oe oz gz bz)
      rw [← hWz]
      have k0 := iz.cell 0
      have k1 := iz.cell 1
      have k2 := iz.cell 2
      have k3 := iz.cell 3
      dsimp at k0 k1 k2 k3
      refine bodyPost_ret (v := .agg #[.slice Xz.va Xz.vn Xz.vc, .slice Xz.fa Xz.fn Xz.fc, .slice Xz.ta Xz.tn Xz.tc, .slice Xz.pa Xz.pn Xz.pc]) (by rw [results_cell1 rfl]; go_simp; try rfl) rfl ⟨Xz, Vz, rfl, OZ.out.low G7.out.size, ?_⟩
      rw [hWz]
      exact gb_put (gb_put (gb_put (gb_put (gb_trans G7.out GZ.out) L3.out) L3.out) L3.out) L3.out
set_option maxRecDepth 100000 in
set_option maxHeartbeats 4000000 in
theorem erem_any (w : World) (nm m v3 v4 v5 v6 v7 v8 : Value) (ha : Option Addr) (hn hc : Nat) (X : EX) (L : EL) (he : ER w X L) (hz : EZ X L) (h : Int) :
    Calls Try.prog 25 #[.agg #[nm, .slice ha hn hc, m, v3, v4, v5, v6, v7, v8], .agg #[.slice X.va X.vn X.vc, .slice X.fa X.fn X.fc, .slice X.ta X.tn X.tc, .slice X.pa X.pn X.pc], .int .i64 h] w (RetE (if (isX h hn && isX h X.vn) = true then withE L h.toNat false else L) w) := by
  have HR := Lib.hid he
  have HZ := Lib.hid hz
  have HA := Lib.hid (fun (w2 : World) => hash_any w2 nm m v3 v4 v5 v6 v7 v8 (.slice X.fa X.fn X.fc) (.slice X.ta X.tn X.tc) (.slice X.pa X.pn X.pc) ha X.va hn hc X.vn X.vc h)
  have VA := Lib.hid (fun (w2 : World) (q : w.grownBy w2 none) => evalid_any w2 (.slice X.fa X.fn X.fc) (.slice X.ta X.tn X.tc) (.slice X.pa X.pn X.pc) X.va X.vn X.vc L.V (he.v.keep0 q) h)
  unfold RetV at HA VA
  have XV := Lib.hid (show (isX h hn && isX h X.vn) = true → isX h X.vn = true by intro q; simp at q; exact q.2)
  generalize (isX h hn && isX h X.vn) = bh at *
  generalize validB L.V h = bv at *
  have G3 := Lib.hid (gb_trans (gb_trans (gb_alloc w (.cells #[nm, .slice ha hn hc, m, v3, v4, v5, v6, v7, v8] 31) none) (gb_alloc _ (.cells #[.slice X.va X.vn X.vc, .slice X.fa X.fn X.fc, .slice X.ta X.tn X.tc, .slice X.pa X.pn X.pc] 37) none)) (gb_alloc _ (.cells #[.slice none 0 0, .slice none 0 0, .slice none 0 0, .slice none 0 0] 37) none))
  have B1 := ((IsB.new w 31 #[nm, .slice ha hn hc, m, v3, v4, v5, v6, v7, v8]).alloc (.cells #[.slice X.va X.vn X.vc, .slice X.fa X.fn X.fc, .slice X.ta X.tn X.tc, .slice X.pa X.pn X.pc] 37)).alloc (.cells #[.slice none 0 0, .slice none 0 0, .slice none 0 0, .slice none 0 0] 37)
  have B2 := (IsB.new (w.alloc (.cells #[nm, .slice ha hn hc, m, v3, v4, v5, v6, v7, v8] 31)) 37 #[.slice X.va X.vn X.vc, .slice X.fa X.fn X.fc, .slice X.ta X.tn X.tc, .slice X.pa X.pn X.pc]).alloc (.cells #[.slice none 0 0, .slice none 0 0, .slice none 0 0, .slice none 0 0] 37)
  have B3 := IsB.new ((w.alloc (.cells #[nm, .slice ha hn hc, m, v3, v4, v5, v6, v7, v8] 31)).alloc (.cells #[.slice X.va X.vn X.vc, .slice X.fa X.fn X.fc, .slice X.ta X.tn X.tc, .slice X.pa X.pn X.pc] 37)) 37 #[.slice none 0 0, .slice none 0 0, .slice none 0 0, .slice none 0 0]
  simp only [sz_al] at B2 B3
  replace B1 := Lib.hid B1
  replace B2 := Lib.hid B2
  replace B3 := Lib.hid B3
  clear he hz
  go_enter Try.func25, Try.ntmps25
  go_upto_region 1 with fail
  generalize ((w.alloc (.cells #[nm, .slice ha hn hc, m, v3, v4, v5, v6, v7, v8] 31)).alloc (.cells #[.slice X.va X.vn X.vc, .slice X.fa X.fn X.fc, .slice X.ta X.tn X.tc, .slice X.pa X.pn X.pc] 37)).alloc (.cells #[.slice none 0 0, .slice none 0 0, .slice none 0 0, .slice none 0 0] 37) = w3 at *
  obtain ⟨bx, hbx⟩ : ∃ b, b = w.heap.size := ⟨_, rfl⟩
  have Lbx := Lib.hid (show w.heap.size ≤ bx by rw [hbx]; exact Nat.le_refl _)
  rw [← hbx] at B1 B2 B3 ⊢
  clear hbx
  have c0 := B1.out.cell 0
  have c1 := B1.out.cell 1
  have c2 := B1.out.cell 2
  have c3 := B1.out.cell 3
  have c4 := B1.out.cell 4
  have c5 := B1.out.cell 5
  have c6 := B1.out.cell 6
  have c7 := B1.out.cell 7
  have c8 := B1.out.cell 8
  dsimp at c0 c1 c2 c3 c4 c5 c6 c7 c8
  have x0 := B2.out.cell 0
  have x1 := B2.out.cell 1
  have x2 := B2.out.cell 2
  have x3 := B2.out.cell 3
  dsimp at x0 x1 x2 x3
  have L3 := Lib.hid (show w.heap.size ≤ bx + 1 + 1 from by have := Lbx.out; omega)
  cases bh with
  | false =>
    rw [if_neg (by simp)]
    go_upto_region 2 with (first
      | (go_at_call 49; refine (HA.out _).mono ?_; clear HA; rintro e w6 ⟨rfl, g6⟩)
      | (go_at_call 50; refine (VA.out _ (gb_trans G3.out g6)).mono ?_; clear VA; rintro e w7 ⟨rfl, g7⟩))
    have G7 := Lib.hid (gb_trans G3.out g6)
    have B7 := Lib.hid (B3.out.keep0 g6)
    have CC := Lib.hid (eclone_any w6 X L (HR.out.keep0 G7.out) HZ.out)
    have y0 := (B2.out.keep0 g6).cell 0
    have y1 := (B2.out.keep0 g6).cell 1
    have y2 := (B2.out.keep0 g6).cell 2
    have y3 := (B2.out.keep0 g6).cell 3
    dsimp at y0 y1 y2 y3
    go_wp2_with (go_at_call 30; refine (CC.out).mono ?_; rintro e wz ⟨Xz, Vz, rfl, oe, gz⟩; have bz := B7.out.keep0 gz; obtain ⟨Wz, hWz, oz, iz⟩ := oe_store oe bz; have z0 := bz.cell 0; have z1 := bz.cell 1; have z2 := bz.cell 2; have z3 := bz.cell 3; dsimp at z0 z1 z2 z3; have f0 := bz.free 0; have f1 := bz.free 1; have f2 := bz.free 2; have f3 := bz.free 3; have GZ := Lib.hid gz; have OZ := Lib.hid oz; clear oe oz gz bz)
    rw [← hWz]
    have k0 := iz.cell 0
    have k1 := iz.cell 1
    have k2 := iz.cell 2
    have k3 := iz.cell 3
    dsimp at k0 k1 k2 k3
    refine bodyPost_ret (v := .agg #[.slice Xz.va Xz.vn Xz.vc, .slice Xz.fa Xz.fn Xz.fc, .slice Xz.ta Xz.tn Xz.tc, .slice Xz.pa Xz.pn Xz.pc]) (by rw [results_cell1 rfl]; go_simp; try rfl) rfl ⟨Xz, Vz, rfl, OZ.out.low G7.out.size, ?_⟩
    rw [hWz]
    exact gb_put (gb_put (gb_put (gb_put (gb_trans G7.out GZ.out) L3.out) L3.out) L3.out) L3.out
  | true =>
    rw [if_pos (by simp)]
    obtain ⟨j, rfl, hj⟩ := isx_nat (XV.out rfl)
    rw [Int.toNat_natCast]
    go_upto_region 3 with (first
      | (go_at_call 49; refine (HA.out _).mono ?_; clear HA; rintro e w6 ⟨rfl, g6⟩)
      | (go_at_call 50; refine (VA.out _ (gb_trans G3.out g6)).mono ?_; clear VA; rintro e w7 ⟨rfl, g7⟩))
    have G7 := Lib.hid (gb_trans G3.out g6)
    have B7 := Lib.hid (B3.out.keep0 g6)
    have CC := Lib.hid (ewith_any w6 X L (HR.out.keep0 G7.out) HZ.out j false hj)
    have y0 := (B2.out.keep0 g6).cell 0
    have y1 := (B2.out.keep0 g6).cell 1
    have y2 := (B2.out.keep0 g6).cell 2
    have y3 := (B2.out.keep0 g6).cell 3
    dsimp at y0 y1 y2 y3
    go_wp2_with (go_at_call 51; refine (CC.out).mono ?_; rintro e wz ⟨Xz, Vz, rfl, oe, gz⟩; have bz := B7.out.keep0 gz; obtain ⟨Wz, hWz, oz, iz⟩ := oe_store oe bz; have z0 := bz.cell 0; have z1 := bz.cell 1; have z2 := bz.cell 2; have z3 := bz.cell 3; dsimp at z0 z1 z2 z3; have f0 := bz.free 0; have f1 := bz.free 1; have f2 := bz.free 2; have f3 := bz.free 3; have GZ := Lib.hid gz; have OZ := Lib.hid oz; clear oe oz gz bz)
    rw [← hWz]
    have k0 := iz.cell 0
    have k1 := iz.cell 1
    have k2 := iz.cell 2
    have k3 := iz.cell 3
    dsimp at k0 k1 k2 k3
    refine bodyPost_ret (v := .agg #[.slice Xz.va Xz.vn Xz.vc, .slice Xz.fa Xz.fn Xz.fc, .slice Xz.ta Xz.tn Xz.tc, .slice Xz.pa Xz.pn Xz.pc]) (by rw [results_cell1 rfl]; go_simp; try rfl) rfl ⟨Xz, Vz, rfl, OZ.out.low G7.out.size, ?_⟩
    rw [hWz]
    exact gb_put (gb_put (gb_put (gb_put (gb_trans G7.out GZ.out) L3.out) L3.out) L3.out) L3.out
end Go.Proofs.Ytolifmpnhflegaa
