/- Env: the law Fresh; no condition. -/
import Derived.Test.YtolifmpnhflegaaEwE
import Derived.Test.YtolifmpnhflegaaEwB
import Derived.Test.YtolifmpnhflegaaEwC
import Derived.Test.YtolifmpnhflegaaEvP
import Derived.Test.YtolifmpnhflegaaEvS
import Derived.Test.YtolifmpnhflegaaEvU
namespace Go.Proofs.Ytolifmpnhflegaa
open Go.RowKit
set_option linter.unusedVariables false
theorem spoil_x (w : World) (base top : Nat) (X : EX) (L : EL) (Vs : List Value) (h : OE w base X L Vs) (o : OT top X L Vs) (ht : top ≤ w.heap.size) (z : EZ X L) :
    Calls Try.prog 32 #[.agg #[.slice X.va X.vn X.vc, .slice X.fa X.fn X.fc, .slice X.ta X.tn X.tc, .slice X.pa X.pn X.pc]] w (fun e w' => e = .returned (.tuple #[]) ∧ SpR base top w w') :=
  (spoil_any w base top X.va X.fa X.ta X.pa X.vn X.vc X.fn X.fc X.tn X.tc X.pn X.pc L Vs h o ht z.v z.f z.t z.p z.r).mono fun e w' q => ⟨q.1, q.2.2⟩
theorem gb_spr {w a b : World} {base top : Nat} (h : w.grownBy a none) (k : SpR base top a b) (hb : w.heap.size ≤ base) : w.grownBy b none :=
  ⟨k.os.trans h.os, k.tape.trans h.tape, k.output.trans h.output, Nat.le_trans h.size k.size, fun i hi hn => (k.block i (Nat.lt_of_lt_of_le hi h.size) (.inl (by omega))).trans (h.block i hi hn)⟩
/-- The state of the law Fresh behind k spoilt environments. -/
structure FS (w : World) (bE b7 bl s0 s1 s2 s3 : Nat) (X XO XA XB XC XD : EX) (L LA LB LC LD : EL) (VO VA VB VC VD : List Value) (k : Nat) (wr : World) : Prop where
  iE : IsB wr bE 37 #[.slice X.va X.vn X.vc, .slice X.fa X.fn X.fc, .slice X.ta X.tn X.tc, .slice X.pa X.pn X.pc]
  i7 : IsB wr b7 37 #[.slice XO.va XO.vn XO.vc, .slice XO.fa XO.fn XO.fc, .slice XO.ta XO.tn XO.tc, .slice XO.pa XO.pn XO.pc]
  il : IsB wr bl 37 #[.slice XA.va XA.vn XA.vc, .slice XA.fa XA.fn XA.fc, .slice XA.ta XA.tn XA.tc, .slice XA.pa XA.pn XA.pc, .slice XB.va XB.vn XB.vc, .slice XB.fa XB.fn XB.fc, .slice XB.ta XB.tn XB.tc, .slice XB.pa XB.pn XB.pc, .slice XC.va XC.vn XC.vc, .slice XC.fa XC.fn XC.fc, .slice XC.ta XC.tn XC.tc, .slice XC.pa XC.pn XC.pc, .slice XD.va XD.vn XD.vc, .slice XD.fa XD.fn XD.fc, .slice XD.ta XD.tn XD.tc, .slice XD.pa XD.pn XD.pc]
  o : OE wr w.heap.size XO L VO
  a : k ≤ 0 → OE wr s0 XA LA VA
  b : k ≤ 1 → OE wr s1 XB LB VB
  c : k ≤ 2 → OE wr s2 XC LC VC
  d : k ≤ 3 → OE wr s3 XD LD VD
  g : w.grownBy wr none
theorem FS.next {w w2 wr : World} {bE b7 bl s0 s1 s2 s3 : Nat} {X XO XA XB XC XD : EX} {L LA LB LC LD : EL} {VO VA VB VC VD : List Value} {k base top : Nat} (h : FS w bE b7 bl s0 s1 s2 s3 X XO XA XB XC XD L LA LB LC LD VO VA VB VC VD k wr)
    (r : SpR base top wr w2) (h0 : w.heap.size ≤ s0) (hb : s0 ≤ base) (ht : top ≤ bl) (hE : bE < s0) (h7 : b7 < s0) (oto : OT s0 XO L VO) (tb : k + 1 ≤ 1 → top ≤ s1) (tc : k + 1 ≤ 2 → top ≤ s2) (td : k + 1 ≤ 3 → top ≤ s3) :
    FS w bE b7 bl s0 s1 s2 s3 X XO XA XB XC XD L LA LB LC LD VO VA VB VC VD (k + 1) w2 :=
  ⟨h.iE.spr r (.inl (by omega)), h.i7.spr r (.inl (by omega)), h.il.spr r (.inr ht), h.o.spr r (.inl (oto.up hb)), fun q => absurd q (by omega), fun q => (h.b (by omega)).spr r (.inr (tb q)), fun q => (h.c (by omega)).spr r (.inr (tc q)), fun q => (h.d (by omega)).spr r (.inr (td q)), gb_spr h.g r (by omega)⟩
set_option maxRecDepth 100000 in
set_option maxHeartbeats 40000000 in
theorem fresh_walk (w : World) (nm v3 v4 v5 v6 v7 v8 : Value) (ha ma : Option Addr) (hn hc mn mc : Nat) (H : List (ByteArray × List Fld)) (M : List Fld) (hH : SH w ha hn hc H) (hM : SF w ma mn mc M) (X : EX) (L : EL) (he : ER w X L) (rh rf v hd : Int) (v0 : 0 ≤ v) (v1 : v < 4294967296) : Calls Try.prog 8 #[.agg #[nm, .slice ha hn hc, .slice ma mn mc, v3, v4, v5, v6, v7, v8], .agg #[.slice X.va X.vn X.vc, .slice X.fa X.fn X.fc, .slice X.ta X.tn X.tc, .slice X.pa X.pn X.pc], .agg #[.int .i64 rh, .int .i64 rf, .int .u32 v, .int .i64 hd]] w (RetV (.bool true) w) := by
  have GZ := Lib.hid (gb_trans (gb_trans (gb_alloc w (.cells #[nm, .slice ha hn hc, .slice ma mn mc, v3, v4, v5, v6, v7, v8] 31) none) (gb_alloc _ (.cells #[.slice X.va X.vn X.vc, .slice X.fa X.fn X.fc, .slice X.ta X.tn X.tc, .slice X.pa X.pn X.pc] 37) none)) (gb_alloc _ (.cells #[.int .i64 rh, .int .i64 rf, .int .u32 v, .int .i64 hd] 51) none))
  have BP := ((IsB.new w 31 #[nm, .slice ha hn hc, .slice ma mn mc, v3, v4, v5, v6, v7, v8]).alloc (.cells #[.slice X.va X.vn X.vc, .slice X.fa X.fn X.fc, .slice X.ta X.tn X.tc, .slice X.pa X.pn X.pc] 37)).alloc (.cells #[.int .i64 rh, .int .i64 rf, .int .u32 v, .int .i64 hd] 51)
  have BE := (IsB.new (w.alloc (.cells #[nm, .slice ha hn hc, .slice ma mn mc, v3, v4, v5, v6, v7, v8] 31)) 37 #[.slice X.va X.vn X.vc, .slice X.fa X.fn X.fc, .slice X.ta X.tn X.tc, .slice X.pa X.pn X.pc]).alloc (.cells #[.int .i64 rh, .int .i64 rf, .int .u32 v, .int .i64 hd] 51)
  have BR := IsB.new ((w.alloc (.cells #[nm, .slice ha hn hc, .slice ma mn mc, v3, v4, v5, v6, v7, v8] 31)).alloc (.cells #[.slice X.va X.vn X.vc, .slice X.fa X.fn X.fc, .slice X.ta X.tn X.tc, .slice X.pa X.pn X.pc] 37)) 51 #[.int .i64 rh, .int .i64 rf, .int .u32 v, .int .i64 hd]
  simp only [sz_al] at BE BR
  replace BP := Lib.hid BP
  replace BE := Lib.hid BE
  replace BR := Lib.hid BR
  have HD := Lib.hid (fun (W : World) (k : w.grownBy W none) => (⟨hH.keep0 k, hM.keep0 k⟩ : SH W ha hn hc H ∧ SF W ma mn mc M))
  have EA := Lib.hid (fun (W : World) (k : w.grownBy W none) => he.keep0 k)
  have EAW := Lib.hid (fun (W : World) (k : w.grownBy W none) => he.keep0 k)
  have HN := Lib.hid hH.len
  have V0 := Lib.hid v0
  have V1 := Lib.hid v1
  clear v0 v1
  clear hH hM he
  go_enter Try.func8, Try.ntmps8
  go_upto_region 1 with fail
  generalize ((w.alloc (.cells #[nm, .slice ha hn hc, .slice ma mn mc, v3, v4, v5, v6, v7, v8] 31)).alloc (.cells #[.slice X.va X.vn X.vc, .slice X.fa X.fn X.fc, .slice X.ta X.tn X.tc, .slice X.pa X.pn X.pc] 37)).alloc (.cells #[.int .i64 rh, .int .i64 rf, .int .u32 v, .int .i64 hd] 51) = w1 at *
  obtain ⟨bx, hbx⟩ : ∃ b, b = w.heap.size := ⟨_, rfl⟩
  have Lbx := Lib.hid (show w.heap.size ≤ bx by rw [hbx]; exact Nat.le_refl _)
  rw [← hbx] at BP BE BR ⊢
  clear hbx
  clear Lbx
  have KT := Lib.hid (fun (w' : World) (q : w1.grownBy w' none) => (⟨(BP.out.keep0 q).cell 0, (BP.out.keep0 q).cell 1, (BP.out.keep0 q).cell 2, (BP.out.keep0 q).cell 3, (BP.out.keep0 q).cell 4, (BP.out.keep0 q).cell 5, (BP.out.keep0 q).cell 6, (BP.out.keep0 q).cell 7, (BP.out.keep0 q).cell 8, (BE.out.keep0 q).cell 0, (BE.out.keep0 q).cell 1, (BE.out.keep0 q).cell 2, (BE.out.keep0 q).cell 3, (BR.out.keep0 q).cell 0, (BR.out.keep0 q).cell 1, (BR.out.keep0 q).cell 2, (BR.out.keep0 q).cell 3, trivial⟩ : (fun w' : World => w'.cell? ⟨bx, 0, none⟩ = some (nm) ∧ w'.cell? ⟨bx, 1, none⟩ = some (.slice ha hn hc) ∧ w'.cell? ⟨bx, 2, none⟩ = some (.slice ma mn mc) ∧ w'.cell? ⟨bx, 3, none⟩ = some (v3) ∧ w'.cell? ⟨bx, 4, none⟩ = some (v4) ∧ w'.cell? ⟨bx, 5, none⟩ = some (v5) ∧ w'.cell? ⟨bx, 6, none⟩ = some (v6) ∧ w'.cell? ⟨bx, 7, none⟩ = some (v7) ∧ w'.cell? ⟨bx, 8, none⟩ = some (v8) ∧ w'.cell? ⟨bx + 1, 0, none⟩ = some (.slice X.va X.vn X.vc) ∧ w'.cell? ⟨bx + 1, 1, none⟩ = some (.slice X.fa X.fn X.fc) ∧ w'.cell? ⟨bx + 1, 2, none⟩ = some (.slice X.ta X.tn X.tc) ∧ w'.cell? ⟨bx + 1, 3, none⟩ = some (.slice X.pa X.pn X.pc) ∧ w'.cell? ⟨bx + 1 + 1, 0, none⟩ = some (.int .i64 rh) ∧ w'.cell? ⟨bx + 1 + 1, 1, none⟩ = some (.int .i64 rf) ∧ w'.cell? ⟨bx + 1 + 1, 2, none⟩ = some (.int .u32 v) ∧ w'.cell? ⟨bx + 1 + 1, 3, none⟩ = some (.int .i64 hd) ∧ True) w'))
  replace EA := Lib.hid (fun (W : World) (k : w1.grownBy W none) => EA.out W (gb_trans GZ.out k))
  replace HD := Lib.hid (fun (W : World) (k : w1.grownBy W none) => HD.out W (gb_trans GZ.out k))
  have hS := KT.out w1 (gb_refl _ _)
  obtain ⟨c0, c1, c2, c3, c4, c5, c6, c7, c8, c9, c10, c11, c12, c13, c14, c15, c16, _⟩ := hS
  by_cases sP : sizeP H M
  · have LP := Lib.hid (large_any w1 nm v3 v4 v5 v6 v7 v8 ha ma hn hc mn mc H M (HD.out _ (gb_refl _ _)).1 (HD.out _ (gb_refl _ _)).2 false ⟨fun _ => sP, fun _ => rfl⟩)
    go_wp2_with fail
    refine LP.out.mono ?_
    rintro e w2 ⟨rfl, g⟩
    have G2 := Lib.hid g
    clear g LP c0 c1 c2 c3 c4 c5 c6 c7 c8 c9 c10 c11 c12 c13 c14 c15 c16
    have c0 := (BP.out.keep0 G2.out).cell 0
    have c1 := (BP.out.keep0 G2.out).cell 1
    have c2 := (BP.out.keep0 G2.out).cell 2
    have c3 := (BP.out.keep0 G2.out).cell 3
    have c4 := (BP.out.keep0 G2.out).cell 4
    have c5 := (BP.out.keep0 G2.out).cell 5
    have c6 := (BP.out.keep0 G2.out).cell 6
    have c7 := (BP.out.keep0 G2.out).cell 7
    have c8 := (BP.out.keep0 G2.out).cell 8
    have c9 := (BE.out.keep0 G2.out).cell 0
    have c10 := (BE.out.keep0 G2.out).cell 1
    have c11 := (BE.out.keep0 G2.out).cell 2
    have c12 := (BE.out.keep0 G2.out).cell 3
    have c13 := (BR.out.keep0 G2.out).cell 0
    have c14 := (BR.out.keep0 G2.out).cell 1
    have c15 := (BR.out.keep0 G2.out).cell 2
    have c16 := (BR.out.keep0 G2.out).cell 3
    by_cases sE : sizeE L
    · have LE := Lib.hid (long_any w2 X L (EA.out _ G2.out) false ⟨fun _ => sE, fun _ => rfl⟩)
      have SP := Lib.hid sP
      have SE := Lib.hid sE
      clear sP sE
      go_wp2_with fail
      refine LE.out.mono ?_
      rintro e w4 ⟨rfl, g⟩
      have G4 := Lib.hid (gb_trans G2.out g)
      replace GZ := Lib.hid (gb_trans GZ.out G4.out)
      replace KT := Lib.hid (fun (w' : World) (q : w4.grownBy w' none) => KT.out w' (gb_trans G4.out q))
      replace EA := Lib.hid (fun (W : World) (q : w4.grownBy W none) => EA.out W (gb_trans G4.out q))
      replace HD := Lib.hid (fun (W : World) (q : w4.grownBy W none) => HD.out W (gb_trans G4.out q))
      replace BP := Lib.hid (BP.out.keep0 G4.out)
      replace BE := Lib.hid (BE.out.keep0 G4.out)
      replace BR := Lib.hid (BR.out.keep0 G4.out)
      clear g G2 G4 LE c0 c1 c2 c3 c4 c5 c6 c7 c8 c9 c10 c11 c12 c13 c14 c15 c16
      have HB := Lib.hid (show hn ≤ 100000 by have := SP.out.1; have := HN.out; omega)
      have DB := Lib.hid (fun j => Nat.le_trans (dcl_bd SP.out j) (by decide : 16 ≤ 100000))
      have c9 := (BE.out.keep0 (gb_refl _ _)).cell 0
      have c10 := (BE.out.keep0 (gb_refl _ _)).cell 1
      have c11 := (BE.out.keep0 (gb_refl _ _)).cell 2
      have c12 := (BE.out.keep0 (gb_refl _ _)).cell 3
      go_wp2_with fail
      refine (rclone_any w4 X L (EA.out _ (gb_refl _ _)) (ez_of (EA.out _ (gb_refl _ _)) SE.out)).mono ?_
      rintro e w5 ⟨XO, VO, rfl, o, g⟩
      have OO := Lib.hid (o.low GZ.out.size)
      have K5 := Lib.hid g
      clear o g c9 c10 c11 c12
      have G6 := Lib.hid (gb_alloc w5 (.cells #[.slice XO.va XO.vn XO.vc, .slice XO.fa XO.fn XO.fc, .slice XO.ta XO.tn XO.tc, .slice XO.pa XO.pn XO.pc] 37) none)
      have BO := IsB.new w5 37 #[.slice XO.va XO.vn XO.vc, .slice XO.fa XO.fn XO.fc, .slice XO.ta XO.tn XO.tc, .slice XO.pa XO.pn XO.pc]
      replace BO := Lib.hid BO
      go_upto_region 4 with fail
      generalize w5.alloc (.cells #[.slice XO.va XO.vn XO.vc, .slice XO.fa XO.fn XO.fc, .slice XO.ta XO.tn XO.tc, .slice XO.pa XO.pn XO.pc] 37) = w6 at *
      obtain ⟨b7, hb7⟩ : ∃ b, b = w5.heap.size := ⟨_, rfl⟩
      have Lb7 := Lib.hid (show w5.heap.size ≤ b7 by rw [hb7]; exact Nat.le_refl _)
      rw [← hb7] at BO ⊢
      clear hb7
      replace OO := Lib.hid (OO.out.keep0 G6.out)
      replace K5 := Lib.hid (gb_trans K5.out G6.out)
      replace GZ := Lib.hid (gb_trans GZ.out K5.out)
      replace EA := Lib.hid (fun (W : World) (q : w6.grownBy W none) => EA.out W (gb_trans K5.out q))
      replace HD := Lib.hid (fun (W : World) (q : w6.grownBy W none) => HD.out W (gb_trans K5.out q))
      replace BP := Lib.hid (BP.out.keep0 K5.out)
      replace BE := Lib.hid (BE.out.keep0 K5.out)
      replace BR := Lib.hid (BR.out.keep0 K5.out)
      obtain ⟨s0, hs⟩ : ∃ s, s = w6.heap.size := ⟨_, rfl⟩
      have HS0 := Lib.hid hs
      have TO := Lib.hid (show OT s0 XO L VO by rw [hs]; exact OO.out.ot)
      have Q0 := Lib.hid (show w.heap.size ≤ s0 by rw [hs]; exact GZ.out.size)
      have LE7 := Lib.hid (show b7 < s0 by rw [hs]; exact BO.out.lt)
      have LEE := Lib.hid (show bx + 1 < s0 by rw [hs]; exact BE.out.lt)
      have ERO := Lib.hid OO.out.er
      have Z1 := Lib.hid (sizeE_set SE.out H M rh rf v)
      clear hs K5 G6 KT Lb7
      have KT := Lib.hid (fun (w' : World) (q : w6.grownBy w' none) => (⟨(BP.out.keep0 q).cell 0, (BP.out.keep0 q).cell 1, (BP.out.keep0 q).cell 2, (BP.out.keep0 q).cell 3, (BP.out.keep0 q).cell 4, (BP.out.keep0 q).cell 5, (BP.out.keep0 q).cell 6, (BP.out.keep0 q).cell 7, (BP.out.keep0 q).cell 8, (BO.out.keep0 q).cell 0, (BO.out.keep0 q).cell 1, (BO.out.keep0 q).cell 2, (BO.out.keep0 q).cell 3, (BR.out.keep0 q).cell 0, (BR.out.keep0 q).cell 1, (BR.out.keep0 q).cell 2, (BR.out.keep0 q).cell 3, trivial⟩ : (fun w' : World => w'.cell? ⟨bx, 0, none⟩ = some (nm) ∧ w'.cell? ⟨bx, 1, none⟩ = some (.slice ha hn hc) ∧ w'.cell? ⟨bx, 2, none⟩ = some (.slice ma mn mc) ∧ w'.cell? ⟨bx, 3, none⟩ = some (v3) ∧ w'.cell? ⟨bx, 4, none⟩ = some (v4) ∧ w'.cell? ⟨bx, 5, none⟩ = some (v5) ∧ w'.cell? ⟨bx, 6, none⟩ = some (v6) ∧ w'.cell? ⟨bx, 7, none⟩ = some (v7) ∧ w'.cell? ⟨bx, 8, none⟩ = some (v8) ∧ w'.cell? ⟨b7, 0, none⟩ = some (.slice XO.va XO.vn XO.vc) ∧ w'.cell? ⟨b7, 1, none⟩ = some (.slice XO.fa XO.fn XO.fc) ∧ w'.cell? ⟨b7, 2, none⟩ = some (.slice XO.ta XO.tn XO.tc) ∧ w'.cell? ⟨b7, 3, none⟩ = some (.slice XO.pa XO.pn XO.pc) ∧ w'.cell? ⟨bx + 1 + 1, 0, none⟩ = some (.int .i64 rh) ∧ w'.cell? ⟨bx + 1 + 1, 1, none⟩ = some (.int .i64 rf) ∧ w'.cell? ⟨bx + 1 + 1, 2, none⟩ = some (.int .u32 v) ∧ w'.cell? ⟨bx + 1 + 1, 3, none⟩ = some (.int .i64 hd) ∧ True) w'))
      have G0 := Lib.hid (gb_drew w6 none)
      refine wp_region_held_drew (S := (fun w' : World => w'.cell? ⟨bx, 0, none⟩ = some (nm) ∧ w'.cell? ⟨bx, 1, none⟩ = some (.slice ha hn hc) ∧ w'.cell? ⟨bx, 2, none⟩ = some (.slice ma mn mc) ∧ w'.cell? ⟨bx, 3, none⟩ = some (v3) ∧ w'.cell? ⟨bx, 4, none⟩ = some (v4) ∧ w'.cell? ⟨bx, 5, none⟩ = some (v5) ∧ w'.cell? ⟨bx, 6, none⟩ = some (v6) ∧ w'.cell? ⟨bx, 7, none⟩ = some (v7) ∧ w'.cell? ⟨bx, 8, none⟩ = some (v8) ∧ w'.cell? ⟨b7, 0, none⟩ = some (.slice XO.va XO.vn XO.vc) ∧ w'.cell? ⟨b7, 1, none⟩ = some (.slice XO.fa XO.fn XO.fc) ∧ w'.cell? ⟨b7, 2, none⟩ = some (.slice XO.ta XO.tn XO.tc) ∧ w'.cell? ⟨b7, 3, none⟩ = some (.slice XO.pa XO.pn XO.pc) ∧ w'.cell? ⟨bx + 1 + 1, 0, none⟩ = some (.int .i64 rh) ∧ w'.cell? ⟨bx + 1 + 1, 1, none⟩ = some (.int .i64 rf) ∧ w'.cell? ⟨bx + 1 + 1, 2, none⟩ = some (.int .u32 v) ∧ w'.cell? ⟨bx + 1 + 1, 3, none⟩ = some (.int .i64 hd) ∧ True)) (by kernel_rfl) (KT.out _ G0.out) (fun hH0 => ?_)
      refine wpAnyH_take (i := 0) (v := ?v1) rfl (by kernel_rfl) (by kernel_rfl) (by kernel_rfl) (fun _ _ _ h => h) (Or.inl ⟨by rfl, ?hy1⟩) (by assumption) ?rest1
      case hy1 => (intro wz hSw; (try dsimp only at hSw); first | (go_simp; done) | (go_simp; with_reducible rfl))
      try simp only [Act.put, List.getElem_toArray, List.getElem_cons_zero, List.setIfInBounds_toArray, List.set_cons_zero, List.set_cons_succ]
      refine wpAnyH_take (i := 2) (v := ?v2) rfl (by kernel_rfl) (by kernel_rfl) (by kernel_rfl) (fun _ _ _ h => h) (Or.inl ⟨by rfl, ?hy2⟩) (by assumption) ?rest2
      case hy2 => (intro wz hSw; (try dsimp only at hSw); first | (go_simp; done) | (go_simp; with_reducible rfl))
      try simp only [Act.put, List.getElem_toArray, List.getElem_cons_succ, List.getElem_cons_zero, List.setIfInBounds_toArray, List.set_cons_zero, List.set_cons_succ]
      refine wpAnyH_take (i := 3) (v := ?v3) rfl (by kernel_rfl) (by kernel_rfl) (by kernel_rfl) (fun _ _ _ h => h) (Or.inl ⟨by rfl, ?hy3⟩) (by assumption) ?rest3
      case hy3 => (intro wz hSw; (try dsimp only at hSw); first | (go_simp; done) | (go_simp; with_reducible rfl))
      try simp only [Act.put, List.getElem_toArray, List.getElem_cons_succ, List.getElem_cons_zero, List.setIfInBounds_toArray, List.set_cons_zero, List.set_cons_succ]
      refine wpAnyH_take (i := 4) (v := ?v4) rfl (by kernel_rfl) (by kernel_rfl) (by kernel_rfl) (fun _ _ _ h => h) (Or.inl ⟨by rfl, ?hy4⟩) (by assumption) ?rest4
      case hy4 => (intro wz hSw; (try dsimp only at hSw); first | (go_simp; done) | (go_simp; with_reducible rfl))
      try simp only [Act.put, List.getElem_toArray, List.getElem_cons_succ, List.getElem_cons_zero, List.setIfInBounds_toArray, List.set_cons_zero, List.set_cons_succ]
      refine wpAnyH_take (i := 5) (v := ?v5) rfl (by kernel_rfl) (by kernel_rfl) (by kernel_rfl) (fun _ _ _ h => h) (Or.inl ⟨by rfl, ?hy5⟩) (by assumption) ?rest5
      case hy5 => (intro wz hSw; (try dsimp only at hSw); first | (go_simp; done) | (go_simp; with_reducible rfl))
      try simp only [Act.put, List.getElem_toArray, List.getElem_cons_succ, List.getElem_cons_zero, List.setIfInBounds_toArray, List.set_cons_zero, List.set_cons_succ]
      refine wpAnyH_take (i := 6) (v := ?v6) rfl (by kernel_rfl) (by kernel_rfl) (by kernel_rfl) (fun _ _ _ h => h) (Or.inl ⟨by rfl, ?hy6⟩) (by assumption) ?rest6
      case hy6 => (intro wz hSw; (try dsimp only at hSw); first | (go_simp; done) | (go_simp; with_reducible rfl))
      try simp only [Act.put, List.getElem_toArray, List.getElem_cons_succ, List.getElem_cons_zero, List.setIfInBounds_toArray, List.set_cons_zero, List.set_cons_succ]
      refine wpAnyH_take (i := 7) (v := ?v7) rfl (by kernel_rfl) (by kernel_rfl) (by kernel_rfl) (fun _ _ _ h => h) (Or.inl ⟨by rfl, ?hy7⟩) (by assumption) ?rest7
      case hy7 => (intro wz hSw; (try dsimp only at hSw); first | (go_simp; done) | (go_simp; with_reducible rfl))
      try simp only [Act.put, List.getElem_toArray, List.getElem_cons_succ, List.getElem_cons_zero, List.setIfInBounds_toArray, List.set_cons_zero, List.set_cons_succ]
      refine wpAnyH_take (i := 9) (v := ?v8) rfl (by kernel_rfl) (by kernel_rfl) (by kernel_rfl) (fun _ _ _ h => h) (Or.inl ⟨by rfl, ?hy8⟩) (by assumption) ?rest8
      case hy8 => (intro wz hSw; (try dsimp only at hSw); first | (go_simp; done) | (go_simp; with_reducible rfl))
      try simp only [Act.put, List.getElem_toArray, List.getElem_cons_succ, List.getElem_cons_zero, List.setIfInBounds_toArray, List.set_cons_zero, List.set_cons_succ]
      refine wpAnyH_take (i := 10) (v := ?v9) rfl (by kernel_rfl) (by kernel_rfl) (by kernel_rfl) (fun _ _ _ h => h) (Or.inl ⟨by rfl, ?hy9⟩) (by assumption) ?rest9
      case hy9 => (intro wz hSw; (try dsimp only at hSw); first | (go_simp; done) | (go_simp; with_reducible rfl))
      try simp only [Act.put, List.getElem_toArray, List.getElem_cons_succ, List.getElem_cons_zero, List.setIfInBounds_toArray, List.set_cons_zero, List.set_cons_succ]
      refine wpAnyH_take (i := 11) (v := ?v10) rfl (by kernel_rfl) (by kernel_rfl) (by kernel_rfl) (fun _ _ _ h => h) (Or.inl ⟨by rfl, ?hy10⟩) (by assumption) ?rest10
      case hy10 => (intro wz hSw; (try dsimp only at hSw); first | (go_simp; done) | (go_simp; with_reducible rfl))
      try simp only [Act.put, List.getElem_toArray, List.getElem_cons_succ, List.getElem_cons_zero, List.setIfInBounds_toArray, List.set_cons_zero, List.set_cons_succ]
      refine wpAnyH_take (i := 12) (v := ?v11) rfl (by kernel_rfl) (by kernel_rfl) (by kernel_rfl) (fun _ _ _ h => h) (Or.inl ⟨by rfl, ?hy11⟩) (by assumption) ?rest11
      case hy11 => (intro wz hSw; (try dsimp only at hSw); first | (go_simp; done) | (go_simp; with_reducible rfl))
      try simp only [Act.put, List.getElem_toArray, List.getElem_cons_succ, List.getElem_cons_zero, List.setIfInBounds_toArray, List.set_cons_zero, List.set_cons_succ]
      refine wpAnyH_take (i := 14) (v := ?v12) rfl (by kernel_rfl) (by kernel_rfl) (by kernel_rfl) (fun _ _ _ h => h) (Or.inl ⟨by rfl, ?hy12⟩) (by assumption) ?rest12
      case hy12 => (intro wz hSw; (try dsimp only at hSw); first | (go_simp; done) | (go_simp; with_reducible rfl))
      try simp only [Act.put, List.getElem_toArray, List.getElem_cons_succ, List.getElem_cons_zero, List.setIfInBounds_toArray, List.set_cons_zero, List.set_cons_succ]
      refine wpAnyH_take (i := 15) (v := ?v13) rfl (by kernel_rfl) (by kernel_rfl) (by kernel_rfl) (fun _ _ _ h => h) (Or.inl ⟨by rfl, ?hy13⟩) (by assumption) ?rest13
      case hy13 => (intro wz hSw; (try dsimp only at hSw); first | (go_simp; done) | (go_simp; with_reducible rfl))
      try simp only [Act.put, List.getElem_toArray, List.getElem_cons_succ, List.getElem_cons_zero, List.setIfInBounds_toArray, List.set_cons_zero, List.set_cons_succ]
      refine wpAnyH_take (i := 16) (v := ?v14) rfl (by kernel_rfl) (by kernel_rfl) (by kernel_rfl) (fun _ _ _ h => h) (Or.inl ⟨by rfl, ?hy14⟩) (by assumption) ?rest14
      case hy14 => (intro wz hSw; (try dsimp only at hSw); first | (go_simp; done) | (go_simp; with_reducible rfl))
      try simp only [Act.put, List.getElem_toArray, List.getElem_cons_succ, List.getElem_cons_zero, List.setIfInBounds_toArray, List.set_cons_zero, List.set_cons_succ]
      refine wpAnyH_take (i := 17) (v := ?v15) rfl (by kernel_rfl) (by kernel_rfl) (by kernel_rfl) (fun _ _ _ h => h) (Or.inl ⟨by rfl, ?hy15⟩) (by assumption) ?rest15
      case hy15 => (intro wz hSw; (try dsimp only at hSw); first | (go_simp; done) | (go_simp; with_reducible rfl))
      try simp only [Act.put, List.getElem_toArray, List.getElem_cons_succ, List.getElem_cons_zero, List.setIfInBounds_toArray, List.set_cons_zero, List.set_cons_succ]
      refine wpAnyH_ready (rs := [1]) (by kernel_rfl) (by simp) ?_
      refine AllReadyH.cons (o := _) rfl (fun K hK => ?_) AllReadyH.nil
      go_simp
      refine (eclone_any _ XO L (ERO.out.keep0 G0.out) (ez_of (ERO.out.keep0 G0.out) SE.out)).mono ?_
      rintro e wh1 ⟨XA, VA, rfl, o, g⟩
      have OA := Lib.hid (show OE wh1 s0 XA (L) VA by rw [HS0.out]; exact o)
      obtain ⟨s1, hs⟩ : ∃ s, s = wh1.heap.size := ⟨_, rfl⟩
      have HS1 := Lib.hid hs
      have TA := Lib.hid (show OT s1 XA (L) VA by rw [hs]; exact o.ot)
      have Q1 := Lib.hid (show s0 ≤ s1 by rw [HS0.out, hs]; exact g.size)
      clear o hs
      have G1 := Lib.hid (gb_trans G0.out g)
      clear g
      try dsimp only
      refine hK.out _ _ (KT.out _ G1.out) (fun hH1 => ?_)
      clear hK K hH0
      try simp only [Act.put, List.getElem_toArray, List.getElem_cons_succ, List.getElem_cons_zero, List.setIfInBounds_toArray, List.set_cons_zero, List.set_cons_succ]
      refine wpAnyH_ready (rs := [8]) (by kernel_rfl) (by simp) ?_
      refine AllReadyH.cons (o := _) rfl (fun K hK => ?_) AllReadyH.nil
      go_simp
      refine (eset_any _ nm v3 v4 v5 v6 v7 v8 ha ma hn hc mn mc H M (HD.out _ G1.out).1 (HD.out _ G1.out).2 XO L (ERO.out.keep0 G1.out) (ez_of (ERO.out.keep0 G1.out) SE.out) rh rf v V0.out V1.out).mono ?_
      rintro e wh2 ⟨XB, VB, rfl, o, g⟩
      replace OA := Lib.hid (OA.out.keep0 g)
      have OB := Lib.hid (show OE wh2 s1 XB (setE H M L rh rf v) VB by rw [HS1.out]; exact o)
      obtain ⟨s2, hs⟩ : ∃ s, s = wh2.heap.size := ⟨_, rfl⟩
      have HS2 := Lib.hid hs
      have TB := Lib.hid (show OT s2 XB (setE H M L rh rf v) VB by rw [hs]; exact o.ot)
      have Q2 := Lib.hid (show s1 ≤ s2 by rw [HS1.out, hs]; exact g.size)
      clear o hs
      have G2 := Lib.hid (gb_trans G1.out g)
      clear g
      try dsimp only
      refine hK.out _ _ (KT.out _ G2.out) (fun hH2 => ?_)
      clear hK K hH1
      try simp only [Act.put, List.getElem_toArray, List.getElem_cons_succ, List.getElem_cons_zero, List.setIfInBounds_toArray, List.set_cons_zero, List.set_cons_succ]
      refine wpAnyH_ready (rs := [13]) (by kernel_rfl) (by simp) ?_
      refine AllReadyH.cons (o := _) rfl (fun K hK => ?_) AllReadyH.nil
      go_simp
      refine (eadd_any _ nm (.slice ma mn mc) v3 v4 v5 v6 v7 v8 ha hn hc XO L (ERO.out.keep0 G2.out) (ez_of (ERO.out.keep0 G2.out) SE.out) hd).mono ?_
      rintro e wh3 ⟨XC, VC, rfl, o, g⟩
      obtain ⟨LC, hlc⟩ : ∃ L2, L2 = (if (isX hd hn && isX hd XO.vn && !(validB L.V hd)) = true then withE L hd.toNat true else L) := ⟨_, rfl⟩
      rw [← hlc] at o
      have Z2 := Lib.hid (show sizeE LC by rw [hlc]; exact sizeE_if SE.out _ _ _)
      clear hlc
      replace OA := Lib.hid (OA.out.keep0 g)
      replace OB := Lib.hid (OB.out.keep0 g)
      have OC := Lib.hid (show OE wh3 s2 XC (LC) VC by rw [HS2.out]; exact o)
      obtain ⟨s3, hs⟩ : ∃ s, s = wh3.heap.size := ⟨_, rfl⟩
      have HS3 := Lib.hid hs
      have TC := Lib.hid (show OT s3 XC (LC) VC by rw [hs]; exact o.ot)
      have Q3 := Lib.hid (show s2 ≤ s3 by rw [HS2.out, hs]; exact g.size)
      clear o hs
      have G3 := Lib.hid (gb_trans G2.out g)
      clear g
      try dsimp only
      refine hK.out _ _ (KT.out _ G3.out) (fun hH3 => ?_)
      clear hK K hH2
      try simp only [Act.put, List.getElem_toArray, List.getElem_cons_succ, List.getElem_cons_zero, List.setIfInBounds_toArray, List.set_cons_zero, List.set_cons_succ]
      refine wpAnyH_ready (rs := [18]) (by kernel_rfl) (by simp) ?_
      refine AllReadyH.cons (o := _) rfl (fun K hK => ?_) AllReadyH.nil
      go_simp
      refine (erem_any _ nm (.slice ma mn mc) v3 v4 v5 v6 v7 v8 ha hn hc XO L (ERO.out.keep0 G3.out) (ez_of (ERO.out.keep0 G3.out) SE.out) hd).mono ?_
      rintro e wh4 ⟨XD, VD, rfl, o, g⟩
      obtain ⟨LD, hld⟩ : ∃ L2, L2 = (if (isX hd hn && isX hd XO.vn) = true then withE L hd.toNat false else L) := ⟨_, rfl⟩
      rw [← hld] at o
      have Z3 := Lib.hid (show sizeE LD by rw [hld]; exact sizeE_if SE.out _ _ _)
      clear hld
      replace OA := Lib.hid (OA.out.keep0 g)
      replace OB := Lib.hid (OB.out.keep0 g)
      replace OC := Lib.hid (OC.out.keep0 g)
      have OD := Lib.hid (show OE wh4 s3 XD (LD) VD by rw [HS3.out]; exact o)
      obtain ⟨s4, hs⟩ : ∃ s, s = wh4.heap.size := ⟨_, rfl⟩
      have HS4 := Lib.hid hs
      have TD := Lib.hid (show OT s4 XD (LD) VD by rw [hs]; exact o.ot)
      have Q4 := Lib.hid (show s3 ≤ s4 by rw [HS3.out, hs]; exact g.size)
      clear o hs
      have G4 := Lib.hid (gb_trans G3.out g)
      clear g
      try dsimp only
      refine hK.out _ _ (KT.out _ G4.out) (fun hH4 => ?_)
      clear hK K hH3
      try simp only [Act.put, List.getElem_toArray, List.getElem_cons_succ, List.getElem_cons_zero, List.setIfInBounds_toArray, List.set_cons_zero, List.set_cons_succ]
      refine wpAnyH_ready (rs := [19]) (by kernel_rfl) (by simp) ?_
      refine AllReadyH.cons (o := _) rfl (fun K hK => ?_) AllReadyH.nil
      go_simp
      have g := gb_alloc wh4 (.cells #[.slice XA.va XA.vn XA.vc, .slice XA.fa XA.fn XA.fc, .slice XA.ta XA.tn XA.tc, .slice XA.pa XA.pn XA.pc, .slice XB.va XB.vn XB.vc, .slice XB.fa XB.fn XB.fc, .slice XB.ta XB.tn XB.tc, .slice XB.pa XB.pn XB.pc, .slice XC.va XC.vn XC.vc, .slice XC.fa XC.fn XC.fc, .slice XC.ta XC.tn XC.tc, .slice XC.pa XC.pn XC.pc, .slice XD.va XD.vn XD.vc, .slice XD.fa XD.fn XD.fc, .slice XD.ta XD.tn XD.tc, .slice XD.pa XD.pn XD.pc] 37) none
      have nb := IsB.new wh4 37 #[.slice XA.va XA.vn XA.vc, .slice XA.fa XA.fn XA.fc, .slice XA.ta XA.tn XA.tc, .slice XA.pa XA.pn XA.pc, .slice XB.va XB.vn XB.vc, .slice XB.fa XB.fn XB.fc, .slice XB.ta XB.tn XB.tc, .slice XB.pa XB.pn XB.pc, .slice XC.va XC.vn XC.vc, .slice XC.fa XC.fn XC.fc, .slice XC.ta XC.tn XC.tc, .slice XC.pa XC.pn XC.pc, .slice XD.va XD.vn XD.vc, .slice XD.fa XD.fn XD.fc, .slice XD.ta XD.tn XD.tc, .slice XD.pa XD.pn XD.pc]
      refine hK.out _ _ (KT.out _ (gb_trans G4.out g)) (fun hH9 => ?_)
      clear hK K
      replace OA := Lib.hid (OA.out.keep0 g)
      replace OB := Lib.hid (OB.out.keep0 g)
      replace OC := Lib.hid (OC.out.keep0 g)
      replace OD := Lib.hid (OD.out.keep0 g)
      replace OO := Lib.hid (OO.out.keep0 (gb_trans G4.out g))
      have G5 := Lib.hid (gb_trans G4.out g)
      have IL := Lib.hid nb
      obtain ⟨bl, hbl⟩ : ∃ b, b = wh4.heap.size := ⟨_, rfl⟩
      have QL := Lib.hid (show s4 ≤ bl by rw [HS4.out, hbl]; exact Nat.le_refl _)
      rw [← hbl] at IL ⊢
      clear g nb hbl
      generalize wh4.alloc (.cells #[.slice XA.va XA.vn XA.vc, .slice XA.fa XA.fn XA.fc, .slice XA.ta XA.tn XA.tc, .slice XA.pa XA.pn XA.pc, .slice XB.va XB.vn XB.vc, .slice XB.fa XB.fn XB.fc, .slice XB.ta XB.tn XB.tc, .slice XB.pa XB.pn XB.pc, .slice XC.va XC.vn XC.vc, .slice XC.fa XC.fn XC.fc, .slice XC.ta XC.tn XC.tc, .slice XC.pa XC.pn XC.pc, .slice XD.va XD.vn XD.vc, .slice XD.fa XD.fn XD.fc, .slice XD.ta XD.tn XD.tc, .slice XD.pa XD.pn XD.pc] 37) = w9 at *
      try simp only [Act.put, List.getElem_toArray, List.getElem_cons_succ, List.getElem_cons_zero, List.setIfInBounds_toArray, List.set_cons_zero, List.set_cons_succ]
      refine wpAnyH_take (i := 20) (v := ?v16) rfl (by kernel_rfl) (by kernel_rfl) (by kernel_rfl) (fun _ _ _ h => h) (Or.inl ⟨by rfl, ?hy16⟩) (by assumption) ?rest16
      case hy16 => (intro wz hSw; (try dsimp only at hSw); first | (go_simp; done) | (go_simp; with_reducible rfl))
      try simp only [Act.put, List.getElem_toArray, List.getElem_cons_succ, List.getElem_cons_zero, List.setIfInBounds_toArray, List.set_cons_zero, List.set_cons_succ]
      refine wpAnyH_done (by kernel_rfl) ?_ _
      have FS0 := Lib.hid (show FS w (bx + 1) b7 bl s0 s1 s2 s3 X XO XA XB XC XD L L (setE H M L rh rf v) LC LD VO VA VB VC VD 0 w9 from ⟨BE.out.keep0 G5.out, BO.out.keep0 G5.out, IL.out, OO.out, fun _ => OA.out, fun _ => OB.out, fun _ => OC.out, fun _ => OD.out, gb_trans GZ.out G5.out⟩)
      have EZ4 := Lib.hid (⟨ez_of OA.out.er SE.out, ez_of OB.out.er Z1.out, ez_of OC.out.er Z2.out, ez_of OD.out.er Z3.out⟩ : EZ XA L ∧ EZ XB (setE H M L rh rf v) ∧ EZ XC LC ∧ EZ XD LD)
      have EW := Lib.hid (fun (W : World) (q : w.grownBy W none) => EAW.out W q)
      clear G0 G1 G2 G3 G4 G5 KT IL OA OB OC OD OO GZ BP BE BR BO EA HD ERO hH9 HS0 HS1 HS2 HS3 HS4
      go_wp2
      go_loopw [9] (fun i wr => ∃ k : Nat, k ≤ 4 ∧ i = .int .i64 k ∧ FS w (bx + 1) b7 bl s0 s1 s2 s3 X XO XA XB XC XD L L (setE H M L rh rf v) LC LD VO VA VB VC VD k wr) (fun i _ => 4 - (intOf i).toNat)
      case atStart => exact ⟨0, by omega, rfl, FS0.out⟩
      case round =>
        obtain ⟨k, hk, rfl, fs⟩ := hrel
        have F1 := Lib.hid fs
        clear fs FS0
        rcases (show k = 0 ∨ k = 1 ∨ k = 2 ∨ k = 3 ∨ k = 4 by omega) with rfl | rfl | rfl | rfl | rfl
        · have x0 := F1.out.il.cell 0
          have x1 := F1.out.il.cell 1
          have x2 := F1.out.il.cell 2
          have x3 := F1.out.il.cell 3
          dsimp at x0 x1 x2 x3
          have q5 : s1 ≤ bl := by have := Q0.out; have := Q1.out; have := Q2.out; have := Q3.out; have := Q4.out; have := QL.out; omega
          have q6 : s0 ≤ s0 := by have := Q1.out; have := Q2.out; have := Q3.out; have := Q4.out; omega
          have SPX := Lib.hid (spoil_x _ s0 s1 XA L VA (F1.out.a (by omega)) TA.out (Nat.le_trans q5 (Nat.le_of_lt F1.out.il.lt)) EZ4.out.1)
          have q7 := Lib.hid q5
          have q8 := Lib.hid q6
          clear q5 q6
          have kk : IntKind.i64.wrap (0 + 1) = 1 := by rfl
          try simp only [Nat.cast_ofNat]
          go_wp2_with fail
          refine SPX.out.mono ?_
          rintro e wz ⟨rfl, r⟩
          have F2 := Lib.hid (F1.out.next r Q0.out q8.out q7.out LEE.out LE7.out TO.out (fun q => by first | exact absurd q (by omega) | exact Nat.le_refl _) (fun q => by have := Q2.out; first | exact absurd q (by omega) | omega) (fun q => by have := Q2.out; have := Q3.out; first | exact absurd q (by omega) | omega))
          clear r x0 x1 x2 x3 SPX
          go_wp2
          go_roundw
          case rel => exact ⟨1, by omega, rfl, F2.out⟩
          case measure => simp [intOf]
        · have x0 := F1.out.il.cell 4
          have x1 := F1.out.il.cell 5
          have x2 := F1.out.il.cell 6
          have x3 := F1.out.il.cell 7
          dsimp at x0 x1 x2 x3
          have q5 : s2 ≤ bl := by have := Q0.out; have := Q1.out; have := Q2.out; have := Q3.out; have := Q4.out; have := QL.out; omega
          have q6 : s0 ≤ s1 := by have := Q1.out; have := Q2.out; have := Q3.out; have := Q4.out; omega
          have SPX := Lib.hid (spoil_x _ s1 s2 XB (setE H M L rh rf v) VB (F1.out.b (by omega)) TB.out (Nat.le_trans q5 (Nat.le_of_lt F1.out.il.lt)) EZ4.out.2.1)
          have q7 := Lib.hid q5
          have q8 := Lib.hid q6
          clear q5 q6
          have kk : IntKind.i64.wrap (1 + 1) = 2 := by rfl
          try simp only [Nat.cast_ofNat]
          go_wp2_with fail
          refine SPX.out.mono ?_
          rintro e wz ⟨rfl, r⟩
          have F2 := Lib.hid (F1.out.next r Q0.out q8.out q7.out LEE.out LE7.out TO.out (fun q => by first | exact absurd q (by omega) | exact Nat.le_refl _) (fun q => by have := Q2.out; first | exact absurd q (by omega) | omega) (fun q => by have := Q2.out; have := Q3.out; first | exact absurd q (by omega) | omega))
          clear r x0 x1 x2 x3 SPX
          go_wp2
          go_roundw
          case rel => exact ⟨2, by omega, rfl, F2.out⟩
          case measure => simp [intOf]
        · have x0 := F1.out.il.cell 8
          have x1 := F1.out.il.cell 9
          have x2 := F1.out.il.cell 10
          have x3 := F1.out.il.cell 11
          dsimp at x0 x1 x2 x3
          have q5 : s3 ≤ bl := by have := Q0.out; have := Q1.out; have := Q2.out; have := Q3.out; have := Q4.out; have := QL.out; omega
          have q6 : s0 ≤ s2 := by have := Q1.out; have := Q2.out; have := Q3.out; have := Q4.out; omega
          have SPX := Lib.hid (spoil_x _ s2 s3 XC LC VC (F1.out.c (by omega)) TC.out (Nat.le_trans q5 (Nat.le_of_lt F1.out.il.lt)) EZ4.out.2.2.1)
          have q7 := Lib.hid q5
          have q8 := Lib.hid q6
          clear q5 q6
          have kk : IntKind.i64.wrap (2 + 1) = 3 := by rfl
          try simp only [Nat.cast_ofNat]
          go_wp2_with fail
          refine SPX.out.mono ?_
          rintro e wz ⟨rfl, r⟩
          have F2 := Lib.hid (F1.out.next r Q0.out q8.out q7.out LEE.out LE7.out TO.out (fun q => by first | exact absurd q (by omega) | exact Nat.le_refl _) (fun q => by have := Q2.out; first | exact absurd q (by omega) | omega) (fun q => by have := Q2.out; have := Q3.out; first | exact absurd q (by omega) | omega))
          clear r x0 x1 x2 x3 SPX
          go_wp2
          go_roundw
          case rel => exact ⟨3, by omega, rfl, F2.out⟩
          case measure => simp [intOf]
        · have x0 := F1.out.il.cell 12
          have x1 := F1.out.il.cell 13
          have x2 := F1.out.il.cell 14
          have x3 := F1.out.il.cell 15
          dsimp at x0 x1 x2 x3
          have q5 : s4 ≤ bl := by have := Q0.out; have := Q1.out; have := Q2.out; have := Q3.out; have := Q4.out; have := QL.out; omega
          have q6 : s0 ≤ s3 := by have := Q1.out; have := Q2.out; have := Q3.out; have := Q4.out; omega
          have SPX := Lib.hid (spoil_x _ s3 s4 XD LD VD (F1.out.d (by omega)) TD.out (Nat.le_trans q5 (Nat.le_of_lt F1.out.il.lt)) EZ4.out.2.2.2)
          have q7 := Lib.hid q5
          have q8 := Lib.hid q6
          clear q5 q6
          have kk : IntKind.i64.wrap (3 + 1) = 4 := by rfl
          try simp only [Nat.cast_ofNat]
          go_wp2_with fail
          refine SPX.out.mono ?_
          rintro e wz ⟨rfl, r⟩
          have F2 := Lib.hid (F1.out.next r Q0.out q8.out q7.out LEE.out LE7.out TO.out (fun q => by first | exact absurd q (by omega) | exact Nat.le_refl _) (fun q => by have := Q2.out; first | exact absurd q (by omega) | omega) (fun q => by have := Q2.out; have := Q3.out; first | exact absurd q (by omega) | omega))
          clear r x0 x1 x2 x3 SPX
          go_wp2
          go_roundw
          case rel => exact ⟨4, by omega, rfl, F2.out⟩
          case measure => simp [intOf]
        · have x0 := F1.out.i7.cell 0
          have x1 := F1.out.i7.cell 1
          have x2 := F1.out.i7.cell 2
          have x3 := F1.out.i7.cell 3
          have y0 := F1.out.iE.cell 0
          have y1 := F1.out.iE.cell 1
          have y2 := F1.out.iE.cell 2
          have y3 := F1.out.iE.cell 3
          dsimp at x0 x1 x2 x3 y0 y1 y2 y3
          go_wp2_with fail
          refine (requal_any _ XO X L L F1.out.o.er (EW.out _ F1.out.g) (ez_of F1.out.o.er SE.out) (ez_of (EW.out _ F1.out.g) SE.out) true (by simp [sameE])).mono ?_
          rintro e wz ⟨rfl, g⟩
          have GZ := Lib.hid (gb_trans F1.out.g g)
          clear g x0 x1 x2 x3 y0 y1 y2 y3
          go_wp2_with fail
          refine (works_any _).mono ?_
          rintro e w3 ⟨rfl, g⟩
          have G3 := Lib.hid (gb_trans GZ.out g)
          clear g
          go_wp2
          go_ret
          exact ⟨rfl, G3.out⟩
    · have LE := Lib.hid (long_any w2 X L (EA.out _ G2.out) true ⟨fun e => (by cases e), fun q => absurd q sE⟩)
      clear sP sE
      go_wp2_with fail
      refine LE.out.mono ?_
      rintro e w4 ⟨rfl, g⟩
      replace GZ := Lib.hid (gb_trans GZ.out (gb_trans G2.out g))
      clear g
      go_wp2_with fail
      refine (works_any _).mono ?_
      rintro e w3 ⟨rfl, g⟩
      have G3 := Lib.hid (gb_trans GZ.out g)
      clear g
      go_wp2
      go_ret
      exact ⟨rfl, G3.out⟩
  · have LP := Lib.hid (large_any w1 nm v3 v4 v5 v6 v7 v8 ha ma hn hc mn mc H M (HD.out _ (gb_refl _ _)).1 (HD.out _ (gb_refl _ _)).2 true ⟨fun e => (by cases e), fun q => absurd q sP⟩)
    clear sP
    go_wp2_with fail
    refine LP.out.mono ?_
    rintro e w2 ⟨rfl, g⟩
    replace GZ := Lib.hid (gb_trans GZ.out g)
    clear g
    go_wp2_with fail
    refine (works_any _).mono ?_
    rintro e w3 ⟨rfl, g⟩
    have G3 := Lib.hid (gb_trans GZ.out g)
    clear g
    go_wp2
    go_ret
    exact ⟨rfl, G3.out⟩
end Go.Proofs.Ytolifmpnhflegaa
