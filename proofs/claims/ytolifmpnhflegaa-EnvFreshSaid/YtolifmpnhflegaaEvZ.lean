/- Env: the law's works; no condition. -/
import Derived.Test.YtolifmpnhflegaaEvY
import Derived.Test.YtolifmpnhflegaaEvW
namespace Go.Proofs.Ytolifmpnhflegaa
open Go.RowKit
set_option linter.unusedVariables false
def k0 : EL := ⟨[false], [[0, 0]], [0], []⟩
def k1 : EL := ⟨[true], [[0, 0]], [0], []⟩
def k2 : EL := ⟨[true], [[7, 0]], [0], []⟩
def k3 : EL := ⟨[true], [[7, 5]], [0], []⟩
def kz : EL := ⟨[], [], [], []⟩
theorem el_ext {A B : EL} (h1 : A.V = B.V) (h2 : A.F = B.F) (h3 : A.T = B.T) (h4 : A.P = B.P) : A = B := by
  obtain ⟨a, b, c, d⟩ := A
  obtain ⟨e, f, g, h⟩ := B
  simp_all
theorem q0 : newE hX mX = k0 := el_ext (by decide +kernel) (by decide +kernel) (by decide +kernel) (by decide +kernel)
theorem q1 : setE hX mX k0 0 0 7 = k0 := el_ext (by decide +kernel) (by decide +kernel) (by decide +kernel) (by decide +kernel)
theorem q2 : withE k0 0 true = k1 := el_ext (by decide +kernel) (by decide +kernel) (by decide +kernel) (by decide +kernel)
theorem q3 : setE hX mX k1 0 0 7 = k2 := el_ext (by decide +kernel) (by decide +kernel) (by decide +kernel) (by decide +kernel)
theorem q4 : setE hX mX k2 0 1 21 = k3 := el_ext (by decide +kernel) (by decide +kernel) (by decide +kernel) (by decide +kernel)
theorem q5 : withE k3 0 false = k0 := el_ext (by decide +kernel) (by decide +kernel) (by decide +kernel) (by decide +kernel)
theorem c3 : chkE hX mX k3 0 := .inr (.inr (.inr ⟨by unfold shP; decide +kernel, by unfold ftP; decide +kernel, by unfold zrP; decide +kernel, rfl⟩))
theorem cz : chkE hX mX kz 2 := .inl ⟨by unfold shP; decide +kernel, rfl⟩
theorem u0 : sizeE k0 := by unfold sizeE; decide +kernel
theorem u1 : sizeE k1 := by unfold sizeE; decide +kernel
theorem u2 : sizeE k2 := by unfold sizeE; decide +kernel
theorem u3 : sizeE k3 := by unfold sizeE; decide +kernel
theorem uz : sizeE kz := by unfold sizeE; decide +kernel
theorem sameE_rfl (L : EL) : sameE L L := ⟨rfl, rfl, rfl, rfl⟩
theorem ez_of {w : World} {X : EX} {L : EL} (h : ER w X L) (z : sizeE L) : EZ X L := by
  obtain ⟨z1, z2, z3, z4, z5⟩ := z
  have := h.v.len; have := h.f.len; have := h.t.len; have := h.p.len
  refine ⟨by omega, by omega, by omega, by omega, fun j => ?_⟩
  by_cases hj : j < L.F.length
  · have := z5 j hj; omega
  · rw [List.getD_eq_getElem?_getD, List.getElem?_eq_none (by omega)]; exact Nat.zero_le _
theorem dclX (j : Nat) : ((dclL hX mX).getD j []).length ≤ 100000 := by
  match j with
  | 0 => decide +kernel
  | 1 => decide +kernel
  | j + 2 => simp [dclL, hX]
theorem hXf (j : Nat) : (hX.getD j hz).2.length ≤ 100000 := by
  match j with
  | 0 => decide +kernel
  | j + 1 => simp [hX, hz]
theorem wnew (w : World) (h m : Addr) (hH : SH w (some h) 1 1 hX) (hM : SF w (some m) 1 1 mX) : Calls Try.prog 15 #[.agg #[.string ⟨#[]⟩, .slice (some h) 1 1, .slice (some m) 1 1, .slice none 0 0, .slice none 0 0, .slice none 0 0, .slice none 0 0, .slice none 0 0, .slice none 0 0]] w (RetE k0 w) := by
  have k := enew_any w (.string ⟨#[]⟩) (.slice none 0 0) (.slice none 0 0) (.slice none 0 0) (.slice none 0 0) (.slice none 0 0) (.slice none 0 0) (some h) (some m) 1 1 1 1 hX mX hH hM (by decide) (by decide) hXf
  rwa [q0] at k
theorem wset (w : World) (h m : Addr) (hH : SH w (some h) 1 1 hX) (hM : SF w (some m) 1 1 mX) (X : EX) (L : EL) (er : ER w X L) (z : sizeE L) (rh rf v : Int) (v0 : 0 ≤ v) (v1 : v < 4294967296) (L2 : EL) (q : setE hX mX L rh rf v = L2) : Calls Try.prog 21 #[.agg #[.string ⟨#[]⟩, .slice (some h) 1 1, .slice (some m) 1 1, .slice none 0 0, .slice none 0 0, .slice none 0 0, .slice none 0 0, .slice none 0 0, .slice none 0 0], .agg #[.slice X.va X.vn X.vc, .slice X.fa X.fn X.fc, .slice X.ta X.tn X.tc, .slice X.pa X.pn X.pc], .agg #[.int .i64 rh, .int .i64 rf], .int .u32 v] w (RetE L2 w) := by
  have k := eset_any w (.string ⟨#[]⟩) (.slice none 0 0) (.slice none 0 0) (.slice none 0 0) (.slice none 0 0) (.slice none 0 0) (.slice none 0 0) (some h) (some m) 1 1 1 1 hX mX hH hM X L er (ez_of er z) rh rf v v0 v1
  rwa [q] at k
theorem wadd (w : World) (h m : Addr) (hH : SH w (some h) 1 1 hX) (hM : SF w (some m) 1 1 mX) (X : EX) (L : EL) (er : ER w X L) (z : sizeE L) (hv : L.V.length = 1) (hb : validB L.V 0 = false) (L2 : EL) (q : withE L 0 true = L2) : Calls Try.prog 23 #[.agg #[.string ⟨#[]⟩, .slice (some h) 1 1, .slice (some m) 1 1, .slice none 0 0, .slice none 0 0, .slice none 0 0, .slice none 0 0, .slice none 0 0, .slice none 0 0], .agg #[.slice X.va X.vn X.vc, .slice X.fa X.fn X.fc, .slice X.ta X.tn X.tc, .slice X.pa X.pn X.pc], .int .i64 0] w (RetE L2 w) := by
  have k := eadd_any w (.string ⟨#[]⟩) (.slice (some m) 1 1) (.slice none 0 0) (.slice none 0 0) (.slice none 0 0) (.slice none 0 0) (.slice none 0 0) (.slice none 0 0) (some h) 1 1 X L er (ez_of er z) 0
  rw [if_pos (by rw [← er.v.len, hv, hb]; decide)] at k
  rw [← q]
  exact k
theorem wrem (w : World) (h m : Addr) (hH : SH w (some h) 1 1 hX) (hM : SF w (some m) 1 1 mX) (X : EX) (L : EL) (er : ER w X L) (z : sizeE L) (hv : L.V.length = 1) (L2 : EL) (q : withE L 0 false = L2) : Calls Try.prog 25 #[.agg #[.string ⟨#[]⟩, .slice (some h) 1 1, .slice (some m) 1 1, .slice none 0 0, .slice none 0 0, .slice none 0 0, .slice none 0 0, .slice none 0 0, .slice none 0 0], .agg #[.slice X.va X.vn X.vc, .slice X.fa X.fn X.fc, .slice X.ta X.tn X.tc, .slice X.pa X.pn X.pc], .int .i64 0] w (RetE L2 w) := by
  have k := erem_any w (.string ⟨#[]⟩) (.slice (some m) 1 1) (.slice none 0 0) (.slice none 0 0) (.slice none 0 0) (.slice none 0 0) (.slice none 0 0) (.slice none 0 0) (some h) 1 1 X L er (ez_of er z) 0
  rw [if_pos (by rw [← er.v.len, hv]; decide)] at k
  rw [← q]
  exact k
theorem wwid (w : World) (h m : Addr) (hH : SH w (some h) 1 1 hX) (hM : SF w (some m) 1 1 mX) : Calls Try.prog 12 #[.agg #[.string ⟨#[]⟩, .slice (some h) 1 1, .slice (some m) 1 1, .slice none 0 0, .slice none 0 0, .slice none 0 0, .slice none 0 0, .slice none 0 0, .slice none 0 0], .agg #[.int .i64 0, .int .i64 1]] w (RetV (.int .i64 4) w) := by
  have k := ewid_any w (.string ⟨#[]⟩) (.slice none 0 0) (.slice none 0 0) (.slice none 0 0) (.slice none 0 0) (.slice none 0 0) (.slice none 0 0) (some h) (some m) 1 1 1 1 hX mX hH hM 0 1
  rwa [show widE hX mX 0 1 = 4 by decide +kernel] at k
theorem weq (w : World) (X Y : EX) (A B : EL) (ha : ER w X A) (hb : ER w Y B) (za : sizeE A) (zb : sizeE B) (bo : Bool) (q : bo = true ↔ sameE A B) : Calls Try.prog 29 #[.agg #[.slice X.va X.vn X.vc, .slice X.fa X.fn X.fc, .slice X.ta X.tn X.tc, .slice X.pa X.pn X.pc], .agg #[.slice Y.va Y.vn Y.vc, .slice Y.fa Y.fn Y.fc, .slice Y.ta Y.tn Y.tc, .slice Y.pa Y.pn Y.pc]] w (RetV (.bool bo) w) :=
  eequal_any w X Y A B ha hb (ez_of ha za) (ez_of hb zb) bo q
theorem wget (w : World) (X : EX) (L : EL) (er : ER w X L) (h f v : Int) (q : getE L.V L.F L.T h f = v) : Calls Try.prog 19 #[.agg #[.slice X.va X.vn X.vc, .slice X.fa X.fn X.fc, .slice X.ta X.tn X.tc, .slice X.pa X.pn X.pc], .agg #[.int .i64 h, .int .i64 f]] w (RetV (.int .u32 v) w) := by
  have k := eget_any w (.slice X.pa X.pn X.pc) X.va X.fa X.ta X.vn X.vc X.fn X.fc X.tn X.tc L.V L.F L.T er.v er.f er.t h f
  rwa [q] at k
theorem wchk (w : World) (h m : Addr) (hH : SH w (some h) 1 1 hX) (hM : SF w (some m) 1 1 mX) (X : EX) (L : EL) (er : ER w X L) (z : sizeE L) (r : Int) (q : chkE hX mX L r) : Calls Try.prog 17 #[.agg #[.string ⟨#[]⟩, .slice (some h) 1 1, .slice (some m) 1 1, .slice none 0 0, .slice none 0 0, .slice none 0 0, .slice none 0 0, .slice none 0 0, .slice none 0 0], .agg #[.slice X.va X.vn X.vc, .slice X.fa X.fn X.fc, .slice X.ta X.tn X.tc, .slice X.pa X.pn X.pc]] w (RetV (.int .i64 r) w) :=
  echeck_any w (.string ⟨#[]⟩) (.slice none 0 0) (.slice none 0 0) (.slice none 0 0) (.slice none 0 0) (.slice none 0 0) (.slice none 0 0) (some h) (some m) 1 1 1 1 hX mX hH hM X L er (ez_of er z) (by decide) dclX r q
theorem er_nil (w : World) : ER w ⟨none, none, none, none, 0, 0, 0, 0, 0, 0, 0, 0⟩ kz :=
  ⟨⟨rfl, fun _ => ⟨rfl, rfl⟩, Nat.le_refl _, fun ad e j hj => by cases e⟩, ⟨rfl, fun _ => ⟨rfl, rfl⟩, Nat.le_refl _, fun ad e j hj => by cases e⟩, su_nil w, ⟨⟨rfl, fun _ => ⟨rfl, rfl⟩, fun ad e j u hu => by cases e⟩, Nat.le_refl _, fun x hx => by cases hx⟩⟩
theorem works_cut {w6 w : World} {b8 : Nat} {X3 : EX} {x0 x1 x2 x3 : Value} (g : w6.grownBy w none) (l : w6.heap.size ≤ b8) (i : IsB w b8 37 #[x0, x1, x2, x3]) {base : Nat} {Vs : List Value} (o : OE w base X3 k3 Vs) :
    ∃ (b9 : Nat) (X4 : EX), Value.pointer (some ⟨b8, 0, none⟩) = .pointer (some ⟨b9, 0, none⟩) ∧ IsB ((((w.setCell ⟨b8, 0, none⟩ (.slice X3.va X3.vn X3.vc)).setCell ⟨b8, 1, none⟩ (.slice X3.fa X3.fn X3.fc)).setCell ⟨b8, 2, none⟩ (.slice X3.ta X3.tn X3.tc)).setCell ⟨b8, 3, none⟩ (.slice X3.pa X3.pn X3.pc)) b9 37 #[.slice X4.va X4.vn X4.vc, .slice X4.fa X4.fn X4.fc, .slice X4.ta X4.tn X4.tc, .slice X4.pa X4.pn X4.pc] ∧ ER ((((w.setCell ⟨b8, 0, none⟩ (.slice X3.va X3.vn X3.vc)).setCell ⟨b8, 1, none⟩ (.slice X3.fa X3.fn X3.fc)).setCell ⟨b8, 2, none⟩ (.slice X3.ta X3.tn X3.tc)).setCell ⟨b8, 3, none⟩ (.slice X3.pa X3.pn X3.pc)) X4 k3 ∧ w6.grownBy ((((w.setCell ⟨b8, 0, none⟩ (.slice X3.va X3.vn X3.vc)).setCell ⟨b8, 1, none⟩ (.slice X3.fa X3.fn X3.fc)).setCell ⟨b8, 2, none⟩ (.slice X3.ta X3.tn X3.tc)).setCell ⟨b8, 3, none⟩ (.slice X3.pa X3.pn X3.pc)) none := by
  obtain ⟨W', hW', oe, ib⟩ := oe_store o i
  rw [← hW']
  refine ⟨b8, X3, rfl, ib, oe.er, ?_⟩
  rw [hW']
  exact gb_put (gb_put (gb_put (gb_put g l) l) l) l
set_option maxRecDepth 100000 in
set_option maxHeartbeats 4000000 in
theorem works_any (w : World) : Calls Try.prog 11 #[] w (RetV (.bool true) w) := by
  go_enter Try.func11, Try.ntmps11
  go_wp2_with fail
  refine (example_any _).mono ?_
  rintro e w1 ⟨h, m, rfl, sh, sf, g⟩
  have HD := Lib.hid (fun (W : World) (k : w1.grownBy W none) => (⟨sh.keep0 k, sf.keep0 k⟩ : SH W (some h) 1 1 hX ∧ SF W (some m) 1 1 mX))
  have G1 := Lib.hid g
  clear sh sf g
  have G2 := Lib.hid (gb_trans (gb_trans (gb_alloc w1 (.cells #[.string ⟨#[]⟩, .slice (some h) 1 1, .slice (some m) 1 1, .slice none 0 0, .slice none 0 0, .slice none 0 0, .slice none 0 0, .slice none 0 0, .slice none 0 0] 31) none) (gb_alloc _ (.cells #[.int .i64 0, .int .i64 0] 39) none)) (gb_alloc _ (.cells #[.int .i64 0, .int .i64 1] 39) none))
  have BP := ((IsB.new w1 31 #[.string ⟨#[]⟩, .slice (some h) 1 1, .slice (some m) 1 1, .slice none 0 0, .slice none 0 0, .slice none 0 0, .slice none 0 0, .slice none 0 0, .slice none 0 0]).alloc (.cells #[.int .i64 0, .int .i64 0] 39)).alloc (.cells #[.int .i64 0, .int .i64 1] 39)
  have BA := (IsB.new (w1.alloc (.cells #[.string ⟨#[]⟩, .slice (some h) 1 1, .slice (some m) 1 1, .slice none 0 0, .slice none 0 0, .slice none 0 0, .slice none 0 0, .slice none 0 0, .slice none 0 0] 31)) 39 #[.int .i64 0, .int .i64 0]).alloc (.cells #[.int .i64 0, .int .i64 1] 39)
  have BB := IsB.new ((w1.alloc (.cells #[.string ⟨#[]⟩, .slice (some h) 1 1, .slice (some m) 1 1, .slice none 0 0, .slice none 0 0, .slice none 0 0, .slice none 0 0, .slice none 0 0, .slice none 0 0] 31)).alloc (.cells #[.int .i64 0, .int .i64 0] 39)) 39 #[.int .i64 0, .int .i64 1]
  simp only [sz_al] at BA BB
  replace BP := Lib.hid BP
  replace BA := Lib.hid BA
  replace BB := Lib.hid BB
  go_upto_region 3 with fail
  generalize ((w1.alloc (.cells #[.string ⟨#[]⟩, .slice (some h) 1 1, .slice (some m) 1 1, .slice none 0 0, .slice none 0 0, .slice none 0 0, .slice none 0 0, .slice none 0 0, .slice none 0 0] 31)).alloc (.cells #[.int .i64 0, .int .i64 0] 39)).alloc (.cells #[.int .i64 0, .int .i64 1] 39) = w2 at *
  obtain ⟨bp, hbp⟩ : ∃ b, b = w1.heap.size := ⟨_, rfl⟩
  have Lbp := Lib.hid (show w1.heap.size ≤ bp by rw [hbp]; exact Nat.le_refl _)
  rw [← hbp] at BP BA BB ⊢
  clear hbp
  clear Lbp
  have s0 : w2.cell? ⟨bp, 0, none⟩ = some (.string ⟨#[]⟩) := (BP.out.keep0 (gb_refl w2 none)).cell 0
  have s1 : w2.cell? ⟨bp, 1, none⟩ = some (.slice (some h) 1 1) := (BP.out.keep0 (gb_refl w2 none)).cell 1
  have s2 : w2.cell? ⟨bp, 2, none⟩ = some (.slice (some m) 1 1) := (BP.out.keep0 (gb_refl w2 none)).cell 2
  have s3 : w2.cell? ⟨bp, 3, none⟩ = some (.slice none 0 0) := (BP.out.keep0 (gb_refl w2 none)).cell 3
  have s4 : w2.cell? ⟨bp, 4, none⟩ = some (.slice none 0 0) := (BP.out.keep0 (gb_refl w2 none)).cell 4
  have s5 : w2.cell? ⟨bp, 5, none⟩ = some (.slice none 0 0) := (BP.out.keep0 (gb_refl w2 none)).cell 5
  have s6 : w2.cell? ⟨bp, 6, none⟩ = some (.slice none 0 0) := (BP.out.keep0 (gb_refl w2 none)).cell 6
  have s7 : w2.cell? ⟨bp, 7, none⟩ = some (.slice none 0 0) := (BP.out.keep0 (gb_refl w2 none)).cell 7
  have s8 : w2.cell? ⟨bp, 8, none⟩ = some (.slice none 0 0) := (BP.out.keep0 (gb_refl w2 none)).cell 8
  go_wp2_with fail
  refine (wnew w2 h m (HD.out _ G2.out).1 (HD.out _ G2.out).2).mono ?_
  rintro e w3 ⟨X1, V1, rfl, o, g⟩
  have E3 := Lib.hid o.er
  have K3 := Lib.hid g
  clear o g V1
  clear s0 s1 s2 s3 s4 s5 s6 s7 s8
  have G4 := Lib.hid (gb_alloc w3 (.cells #[.slice X1.va X1.vn X1.vc, .slice X1.fa X1.fn X1.fc, .slice X1.ta X1.tn X1.tc, .slice X1.pa X1.pn X1.pc] 37) none)
  have B4 := IsB.new w3 37 #[.slice X1.va X1.vn X1.vc, .slice X1.fa X1.fn X1.fc, .slice X1.ta X1.tn X1.tc, .slice X1.pa X1.pn X1.pc]
  replace B4 := Lib.hid B4
  go_upto_region 4 with fail
  generalize w3.alloc (.cells #[.slice X1.va X1.vn X1.vc, .slice X1.fa X1.fn X1.fc, .slice X1.ta X1.tn X1.tc, .slice X1.pa X1.pn X1.pc] 37) = w4 at *
  obtain ⟨b4, hb4⟩ : ∃ b, b = w3.heap.size := ⟨_, rfl⟩
  have Lb4 := Lib.hid (show w3.heap.size ≤ b4 by rw [hb4]; exact Nat.le_refl _)
  rw [← hb4] at B4 ⊢
  clear hb4
  have E4 := Lib.hid (E3.out.keep0 G4.out)
  have K4 := Lib.hid (gb_trans K3.out G4.out)
  clear E3 K3 G4 Lb4
  have s0 : w4.cell? ⟨bp, 0, none⟩ = some (.string ⟨#[]⟩) := (BP.out.keep0 K4.out).cell 0
  have s1 : w4.cell? ⟨bp, 1, none⟩ = some (.slice (some h) 1 1) := (BP.out.keep0 K4.out).cell 1
  have s2 : w4.cell? ⟨bp, 2, none⟩ = some (.slice (some m) 1 1) := (BP.out.keep0 K4.out).cell 2
  have s3 : w4.cell? ⟨bp, 3, none⟩ = some (.slice none 0 0) := (BP.out.keep0 K4.out).cell 3
  have s4 : w4.cell? ⟨bp, 4, none⟩ = some (.slice none 0 0) := (BP.out.keep0 K4.out).cell 4
  have s5 : w4.cell? ⟨bp, 5, none⟩ = some (.slice none 0 0) := (BP.out.keep0 K4.out).cell 5
  have s6 : w4.cell? ⟨bp, 6, none⟩ = some (.slice none 0 0) := (BP.out.keep0 K4.out).cell 6
  have s7 : w4.cell? ⟨bp, 7, none⟩ = some (.slice none 0 0) := (BP.out.keep0 K4.out).cell 7
  have s8 : w4.cell? ⟨bp, 8, none⟩ = some (.slice none 0 0) := (BP.out.keep0 K4.out).cell 8
  have e0 : w4.cell? ⟨b4, 0, none⟩ = some (.slice X1.va X1.vn X1.vc) := (B4.out.keep0 (gb_refl w4 none)).cell 0
  have e1 : w4.cell? ⟨b4, 1, none⟩ = some (.slice X1.fa X1.fn X1.fc) := (B4.out.keep0 (gb_refl w4 none)).cell 1
  have e2 : w4.cell? ⟨b4, 2, none⟩ = some (.slice X1.ta X1.tn X1.tc) := (B4.out.keep0 (gb_refl w4 none)).cell 2
  have e3 : w4.cell? ⟨b4, 3, none⟩ = some (.slice X1.pa X1.pn X1.pc) := (B4.out.keep0 (gb_refl w4 none)).cell 3
  have a0 : w4.cell? ⟨bp + 1, 0, none⟩ = some (.int .i64 0) := (BA.out.keep0 K4.out).cell 0
  have a1 : w4.cell? ⟨bp + 1, 1, none⟩ = some (.int .i64 0) := (BA.out.keep0 K4.out).cell 1
  go_wp2_with fail
  refine (wset w4 h m (HD.out _ (gb_trans G2.out K4.out)).1 (HD.out _ (gb_trans G2.out K4.out)).2 X1 k0 E4.out u0 0 0 7 (by decide) (by decide) k0 q1).mono ?_
  rintro e w5 ⟨X2, V2, rfl, o, g⟩
  have E5 := Lib.hid o.er
  have K5 := Lib.hid g
  clear o g V2 e0 e1 e2 e3 a0 a1
  clear s0 s1 s2 s3 s4 s5 s6 s7 s8
  have G6 := Lib.hid (gb_alloc w5 (.cells #[.slice X2.va X2.vn X2.vc, .slice X2.fa X2.fn X2.fc, .slice X2.ta X2.tn X2.tc, .slice X2.pa X2.pn X2.pc] 37) none)
  have B6 := IsB.new w5 37 #[.slice X2.va X2.vn X2.vc, .slice X2.fa X2.fn X2.fc, .slice X2.ta X2.tn X2.tc, .slice X2.pa X2.pn X2.pc]
  replace B6 := Lib.hid B6
  go_upto_region 5 with fail
  generalize w5.alloc (.cells #[.slice X2.va X2.vn X2.vc, .slice X2.fa X2.fn X2.fc, .slice X2.ta X2.tn X2.tc, .slice X2.pa X2.pn X2.pc] 37) = w6 at *
  obtain ⟨b6, hb6⟩ : ∃ b, b = w5.heap.size := ⟨_, rfl⟩
  have Lb6 := Lib.hid (show w5.heap.size ≤ b6 by rw [hb6]; exact Nat.le_refl _)
  rw [← hb6] at B6 ⊢
  clear hb6
  have K6 := Lib.hid (gb_trans K5.out G6.out)
  have D6 := Lib.hid (E4.out.keep0 K6.out)
  have E6 := Lib.hid (E5.out.keep0 G6.out)
  replace B4 := Lib.hid (B4.out.keep0 K6.out)
  replace K6 := Lib.hid (gb_trans K4.out K6.out)
  clear E4 E5 K4 K5 G6 Lb6
  have KT := Lib.hid (fun (w' : World) (q : w6.grownBy w' none) => (⟨(BP.out.keep0 (gb_trans K6.out q)).cell 0, (BP.out.keep0 (gb_trans K6.out q)).cell 1, (BP.out.keep0 (gb_trans K6.out q)).cell 2, (BP.out.keep0 (gb_trans K6.out q)).cell 3, (BP.out.keep0 (gb_trans K6.out q)).cell 4, (BP.out.keep0 (gb_trans K6.out q)).cell 5, (BP.out.keep0 (gb_trans K6.out q)).cell 6, (BP.out.keep0 (gb_trans K6.out q)).cell 7, (BP.out.keep0 (gb_trans K6.out q)).cell 8, (B4.out.keep0 q).cell 0, (B4.out.keep0 q).cell 1, (B4.out.keep0 q).cell 2, (B4.out.keep0 q).cell 3, (BA.out.keep0 (gb_trans K6.out q)).cell 0, (BA.out.keep0 (gb_trans K6.out q)).cell 1, (BB.out.keep0 (gb_trans K6.out q)).cell 0, (BB.out.keep0 (gb_trans K6.out q)).cell 1, trivial⟩ : (fun w' : World => w'.cell? ⟨bp, 0, none⟩ = some (.string ⟨#[]⟩) ∧ w'.cell? ⟨bp, 1, none⟩ = some (.slice (some h) 1 1) ∧ w'.cell? ⟨bp, 2, none⟩ = some (.slice (some m) 1 1) ∧ w'.cell? ⟨bp, 3, none⟩ = some (.slice none 0 0) ∧ w'.cell? ⟨bp, 4, none⟩ = some (.slice none 0 0) ∧ w'.cell? ⟨bp, 5, none⟩ = some (.slice none 0 0) ∧ w'.cell? ⟨bp, 6, none⟩ = some (.slice none 0 0) ∧ w'.cell? ⟨bp, 7, none⟩ = some (.slice none 0 0) ∧ w'.cell? ⟨bp, 8, none⟩ = some (.slice none 0 0) ∧ w'.cell? ⟨b4, 0, none⟩ = some (.slice X1.va X1.vn X1.vc) ∧ w'.cell? ⟨b4, 1, none⟩ = some (.slice X1.fa X1.fn X1.fc) ∧ w'.cell? ⟨b4, 2, none⟩ = some (.slice X1.ta X1.tn X1.tc) ∧ w'.cell? ⟨b4, 3, none⟩ = some (.slice X1.pa X1.pn X1.pc) ∧ w'.cell? ⟨bp + 1, 0, none⟩ = some (.int .i64 0) ∧ w'.cell? ⟨bp + 1, 1, none⟩ = some (.int .i64 0) ∧ w'.cell? ⟨bp + 1 + 1, 0, none⟩ = some (.int .i64 0) ∧ w'.cell? ⟨bp + 1 + 1, 1, none⟩ = some (.int .i64 1) ∧ True) w'))
  have ND := Lib.hid (fun (W : World) (q : w6.grownBy W none) => (⟨(HD.out _ (gb_trans G2.out (gb_trans K6.out q))).1, (HD.out _ (gb_trans G2.out (gb_trans K6.out q))).2⟩ : SH W (some h) 1 1 hX ∧ SF W (some m) 1 1 mX))
  go_cut [6] from 17 to 25 (fun s6 wx => ∃ (b8 : Nat) (X3 : EX), s6 = .pointer (some ⟨b8, 0, none⟩) ∧ IsB wx b8 37 #[.slice X3.va X3.vn X3.vc, .slice X3.fa X3.fn X3.fc, .slice X3.ta X3.tn X3.tc, .slice X3.pa X3.pn X3.pc] ∧ ER wx X3 k3 ∧ w6.grownBy wx none)
  case first =>
    have G := Lib.hid (gb_drew w6 none)
    refine wp_region_held_drew (S := (fun w' : World => w'.cell? ⟨bp, 0, none⟩ = some (.string ⟨#[]⟩) ∧ w'.cell? ⟨bp, 1, none⟩ = some (.slice (some h) 1 1) ∧ w'.cell? ⟨bp, 2, none⟩ = some (.slice (some m) 1 1) ∧ w'.cell? ⟨bp, 3, none⟩ = some (.slice none 0 0) ∧ w'.cell? ⟨bp, 4, none⟩ = some (.slice none 0 0) ∧ w'.cell? ⟨bp, 5, none⟩ = some (.slice none 0 0) ∧ w'.cell? ⟨bp, 6, none⟩ = some (.slice none 0 0) ∧ w'.cell? ⟨bp, 7, none⟩ = some (.slice none 0 0) ∧ w'.cell? ⟨bp, 8, none⟩ = some (.slice none 0 0) ∧ w'.cell? ⟨b4, 0, none⟩ = some (.slice X1.va X1.vn X1.vc) ∧ w'.cell? ⟨b4, 1, none⟩ = some (.slice X1.fa X1.fn X1.fc) ∧ w'.cell? ⟨b4, 2, none⟩ = some (.slice X1.ta X1.tn X1.tc) ∧ w'.cell? ⟨b4, 3, none⟩ = some (.slice X1.pa X1.pn X1.pc) ∧ w'.cell? ⟨bp + 1, 0, none⟩ = some (.int .i64 0) ∧ w'.cell? ⟨bp + 1, 1, none⟩ = some (.int .i64 0) ∧ w'.cell? ⟨bp + 1 + 1, 0, none⟩ = some (.int .i64 0) ∧ w'.cell? ⟨bp + 1 + 1, 1, none⟩ = some (.int .i64 1) ∧ True)) (by kernel_rfl) (KT.out _ G.out) (fun hH0 => ?_)
    replace D6 := Lib.hid (D6.out.keep0 G.out)
    generalize w6.drew = v0 at *
    refine wpAnyH_take (i := 0) (v := ?v1) rfl (by kernel_rfl) (by kernel_rfl) (by kernel_rfl) (fun _ _ _ h => h) (Or.inl ⟨by rfl, ?hy1⟩) (by assumption) ?rest1
    case hy1 => (intro wz hSw; (try dsimp only at hSw); first | (go_simp; done) | (go_simp; with_reducible rfl))
    try simp only [Act.put, List.getElem_toArray, List.getElem_cons_zero, List.setIfInBounds_toArray, List.set_cons_zero, List.set_cons_succ]
    refine wpAnyH_take (i := 1) (v := ?v2) rfl (by kernel_rfl) (by kernel_rfl) (by kernel_rfl) (fun _ _ _ h => h) (Or.inl ⟨by rfl, ?hy2⟩) (by assumption) ?rest2
    case hy2 => (intro wz hSw; (try dsimp only at hSw); first | (go_simp; done) | (go_simp; with_reducible rfl))
    try simp only [Act.put, List.getElem_toArray, List.getElem_cons_succ, List.getElem_cons_zero, List.setIfInBounds_toArray, List.set_cons_zero, List.set_cons_succ]
    refine wpAnyH_take (i := 2) (v := ?v3) rfl (by kernel_rfl) (by kernel_rfl) (by kernel_rfl) (fun _ _ _ h => h) (Or.inl ⟨by rfl, ?hy3⟩) (by assumption) ?rest3
    case hy3 => (intro wz hSw; (try dsimp only at hSw); first | (go_simp; done) | (go_simp; with_reducible rfl))
    try simp only [Act.put, List.getElem_toArray, List.getElem_cons_succ, List.getElem_cons_zero, List.setIfInBounds_toArray, List.set_cons_zero, List.set_cons_succ]
    refine wpAnyH_take (i := 3) (v := ?v4) rfl (by kernel_rfl) (by kernel_rfl) (by kernel_rfl) (fun _ _ _ h => h) (Or.inl ⟨by rfl, ?hy4⟩) (by assumption) ?rest4
    case hy4 => (intro wz hSw; (try dsimp only at hSw); first | (go_simp; done) | (go_simp; with_reducible rfl))
    try simp only [Act.put, List.getElem_toArray, List.getElem_cons_succ, List.getElem_cons_zero, List.setIfInBounds_toArray, List.set_cons_zero, List.set_cons_succ]
    refine wpAnyH_take (i := 5) (v := ?v5) rfl (by kernel_rfl) (by kernel_rfl) (by kernel_rfl) (fun _ _ _ h => h) (Or.inl ⟨by rfl, ?hy5⟩) (by assumption) ?rest5
    case hy5 => (intro wz hSw; (try dsimp only at hSw); first | (go_simp; done) | (go_simp; with_reducible rfl))
    try simp only [Act.put, List.getElem_toArray, List.getElem_cons_succ, List.getElem_cons_zero, List.setIfInBounds_toArray, List.set_cons_zero, List.set_cons_succ]
    refine wpAnyH_take (i := 7) (v := ?v6) rfl (by kernel_rfl) (by kernel_rfl) (by kernel_rfl) (fun _ _ _ h => h) (Or.inl ⟨by rfl, ?hy6⟩) (by assumption) ?rest6
    case hy6 => (intro wz hSw; (try dsimp only at hSw); first | (go_simp; done) | (go_simp; with_reducible rfl))
    try simp only [Act.put, List.getElem_toArray, List.getElem_cons_succ, List.getElem_cons_zero, List.setIfInBounds_toArray, List.set_cons_zero, List.set_cons_succ]
    refine wpAnyH_ready (rs := [4, 9]) (by kernel_rfl) (by simp) ?_
    refine AllReadyH.cons (o := _) rfl (fun K hK => ?_) ?_
    · go_simp
      refine (wadd v0 h m (ND.out _ G.out).1 (ND.out _ G.out).2 X1 k0 D6.out u0 rfl rfl k1 q2).mono ?_
      rintro e v1 ⟨XA, VA, rfl, o, g⟩
      refine hK.out _ _ (KT.out _ (gb_trans G.out g)) (fun hH1 => ?_)
      clear hK K
      replace G := Lib.hid (gb_trans G.out g)
      have EA := Lib.hid o.er
      clear o g VA D6
      try simp only [Act.put, List.getElem_toArray, List.getElem_cons_succ, List.getElem_cons_zero, List.setIfInBounds_toArray, List.set_cons_zero, List.set_cons_succ]
      refine wpAnyH_ready (rs := [6, 9]) (by kernel_rfl) (by simp) ?_
      refine AllReadyH.cons (o := _) rfl (fun K hK => ?_) ?_
      · go_simp
        refine (wset v1 h m (ND.out _ G.out).1 (ND.out _ G.out).2 XA k1 EA.out u1 0 0 7 (by decide) (by decide) k2 q3).mono ?_
        rintro e v2 ⟨XB, VB, rfl, o, g⟩
        refine hK.out _ _ (KT.out _ (gb_trans G.out g)) (fun hH2 => ?_)
        clear hK K
        replace G := Lib.hid (gb_trans G.out g)
        have EB := Lib.hid o.er
        clear o g VB EA
        try simp only [Act.put, List.getElem_toArray, List.getElem_cons_succ, List.getElem_cons_zero, List.setIfInBounds_toArray, List.set_cons_zero, List.set_cons_succ]
        refine wpAnyH_ready (rs := [8, 9]) (by kernel_rfl) (by simp) ?_
        refine AllReadyH.cons (o := _) rfl (fun K hK => ?_) ?_
        · go_simp
          refine (wset v2 h m (ND.out _ G.out).1 (ND.out _ G.out).2 XB k2 EB.out u2 0 1 21 (by decide) (by decide) k3 q4).mono ?_
          rintro e v3 ⟨XC, VC, rfl, o, g⟩
          refine hK.out _ _ (KT.out _ (gb_trans G.out g)) (fun hH3 => ?_)
          clear hK K
          replace G := Lib.hid (gb_trans G.out g)
          have EC := Lib.hid o
          clear o g EB
          try simp only [Act.put, List.getElem_toArray, List.getElem_cons_succ, List.getElem_cons_zero, List.setIfInBounds_toArray, List.set_cons_zero, List.set_cons_succ]
          refine wpAnyH_ready (rs := [9]) (by kernel_rfl) (by simp) ?_
          refine AllReadyH.cons (o := _) rfl (fun K hK => ?_) ?_
          · go_simp
            have g := gb_alloc v3 (.cells #[.slice none 0 0, .slice none 0 0, .slice none 0 0, .slice none 0 0] 37) none
            have nb := IsB.new v3 37 #[.slice none 0 0, .slice none 0 0, .slice none 0 0, .slice none 0 0]
            refine hK.out _ _ (KT.out _ (gb_trans G.out g)) (fun hH4 => ?_)
            clear hK K
            replace EC := Lib.hid (EC.out.keep0 g)
            have L8x : w6.heap.size ≤ v3.heap.size := G.out.size
            replace G := Lib.hid (gb_trans G.out g)
            have I8 := Lib.hid nb
            have L8 := Lib.hid L8x
            obtain ⟨b8, hb8⟩ : ∃ b, b = v3.heap.size := ⟨_, rfl⟩
            rw [← hb8] at I8 L8 ⊢
            clear g nb hb8 L8x
            generalize v3.alloc (.cells #[.slice none 0 0, .slice none 0 0, .slice none 0 0, .slice none 0 0] 37) = v4 at *
            try simp only [Act.put, List.getElem_toArray, List.getElem_cons_succ, List.getElem_cons_zero, List.setIfInBounds_toArray, List.set_cons_zero, List.set_cons_succ]
            have q0 := I8.out.cell 0
            have q1 := I8.out.cell 1
            have q2 := I8.out.cell 2
            have q3 := I8.out.cell 3
            dsimp at q0 q1 q2 q3
            have f0 := I8.out.free 0
            have f1 := I8.out.free 1
            have f2 := I8.out.free 2
            have f3 := I8.out.free 3
            refine wpAnyH_ready (rs := [10]) (by kernel_rfl) (by simp) ?_
            refine AllReadyH.cons (o := _) rfl (fun K hK => ?_) AllReadyH.nil
            go_simp
            refine hK.out _ _ (KT.out _ (gb_put (gb_put (gb_put (gb_put G.out L8.out) L8.out) L8.out) L8.out)) (fun hH99 => ?_)
            clear hK K hH99
            try simp only [Act.put, List.getElem_toArray, List.getElem_cons_succ, List.getElem_cons_zero, List.setIfInBounds_toArray, List.set_cons_zero, List.set_cons_succ]
            refine wpAnyH_done (by kernel_rfl) ?_ _
            go_wp2_with fail
            go_meet
            exact works_cut G.out L8.out I8.out EC.out
          exact AllReadyH.nil
        refine AllReadyH.cons (o := _) rfl (fun K hK => ?_) ?_
        · go_simp
          have g := gb_alloc v2 (.cells #[.slice none 0 0, .slice none 0 0, .slice none 0 0, .slice none 0 0] 37) none
          have nb := IsB.new v2 37 #[.slice none 0 0, .slice none 0 0, .slice none 0 0, .slice none 0 0]
          refine hK.out _ _ (KT.out _ (gb_trans G.out g)) (fun hH5 => ?_)
          clear hK K
          replace EB := Lib.hid (EB.out.keep0 g)
          have L8x : w6.heap.size ≤ v2.heap.size := G.out.size
          replace G := Lib.hid (gb_trans G.out g)
          have I8 := Lib.hid nb
          have L8 := Lib.hid L8x
          obtain ⟨b8, hb8⟩ : ∃ b, b = v2.heap.size := ⟨_, rfl⟩
          rw [← hb8] at I8 L8 ⊢
          clear g nb hb8 L8x
          generalize v2.alloc (.cells #[.slice none 0 0, .slice none 0 0, .slice none 0 0, .slice none 0 0] 37) = v5 at *
          try simp only [Act.put, List.getElem_toArray, List.getElem_cons_succ, List.getElem_cons_zero, List.setIfInBounds_toArray, List.set_cons_zero, List.set_cons_succ]
          refine wpAnyH_ready (rs := [8]) (by kernel_rfl) (by simp) ?_
          refine AllReadyH.cons (o := _) rfl (fun K hK => ?_) ?_
          · go_simp
            refine (wset v5 h m (ND.out _ G.out).1 (ND.out _ G.out).2 XB k2 EB.out u2 0 1 21 (by decide) (by decide) k3 q4).mono ?_
            rintro e v6 ⟨XC, VC, rfl, o, g⟩
            refine hK.out _ _ (KT.out _ (gb_trans G.out g)) (fun hH6 => ?_)
            clear hK K
            replace I8 := Lib.hid (I8.out.keep0 g)
            replace G := Lib.hid (gb_trans G.out g)
            have EC := Lib.hid o
            clear o g EB
            try simp only [Act.put, List.getElem_toArray, List.getElem_cons_succ, List.getElem_cons_zero, List.setIfInBounds_toArray, List.set_cons_zero, List.set_cons_succ]
            have q0 := I8.out.cell 0
            have q1 := I8.out.cell 1
            have q2 := I8.out.cell 2
            have q3 := I8.out.cell 3
            dsimp at q0 q1 q2 q3
            have f0 := I8.out.free 0
            have f1 := I8.out.free 1
            have f2 := I8.out.free 2
            have f3 := I8.out.free 3
            refine wpAnyH_ready (rs := [10]) (by kernel_rfl) (by simp) ?_
            refine AllReadyH.cons (o := _) rfl (fun K hK => ?_) AllReadyH.nil
            go_simp
            refine hK.out _ _ (KT.out _ (gb_put (gb_put (gb_put (gb_put G.out L8.out) L8.out) L8.out) L8.out)) (fun hH99 => ?_)
            clear hK K hH99
            try simp only [Act.put, List.getElem_toArray, List.getElem_cons_succ, List.getElem_cons_zero, List.setIfInBounds_toArray, List.set_cons_zero, List.set_cons_succ]
            refine wpAnyH_done (by kernel_rfl) ?_ _
            go_wp2_with fail
            go_meet
            exact works_cut G.out L8.out I8.out EC.out
          exact AllReadyH.nil
        exact AllReadyH.nil
      refine AllReadyH.cons (o := _) rfl (fun K hK => ?_) ?_
      · go_simp
        have g := gb_alloc v1 (.cells #[.slice none 0 0, .slice none 0 0, .slice none 0 0, .slice none 0 0] 37) none
        have nb := IsB.new v1 37 #[.slice none 0 0, .slice none 0 0, .slice none 0 0, .slice none 0 0]
        refine hK.out _ _ (KT.out _ (gb_trans G.out g)) (fun hH7 => ?_)
        clear hK K
        replace EA := Lib.hid (EA.out.keep0 g)
        have L8x : w6.heap.size ≤ v1.heap.size := G.out.size
        replace G := Lib.hid (gb_trans G.out g)
        have I8 := Lib.hid nb
        have L8 := Lib.hid L8x
        obtain ⟨b8, hb8⟩ : ∃ b, b = v1.heap.size := ⟨_, rfl⟩
        rw [← hb8] at I8 L8 ⊢
        clear g nb hb8 L8x
        generalize v1.alloc (.cells #[.slice none 0 0, .slice none 0 0, .slice none 0 0, .slice none 0 0] 37) = v7 at *
        try simp only [Act.put, List.getElem_toArray, List.getElem_cons_succ, List.getElem_cons_zero, List.setIfInBounds_toArray, List.set_cons_zero, List.set_cons_succ]
        refine wpAnyH_ready (rs := [6]) (by kernel_rfl) (by simp) ?_
        refine AllReadyH.cons (o := _) rfl (fun K hK => ?_) ?_
        · go_simp
          refine (wset v7 h m (ND.out _ G.out).1 (ND.out _ G.out).2 XA k1 EA.out u1 0 0 7 (by decide) (by decide) k2 q3).mono ?_
          rintro e v8 ⟨XB, VB, rfl, o, g⟩
          refine hK.out _ _ (KT.out _ (gb_trans G.out g)) (fun hH8 => ?_)
          clear hK K
          replace I8 := Lib.hid (I8.out.keep0 g)
          replace G := Lib.hid (gb_trans G.out g)
          have EB := Lib.hid o.er
          clear o g VB EA
          try simp only [Act.put, List.getElem_toArray, List.getElem_cons_succ, List.getElem_cons_zero, List.setIfInBounds_toArray, List.set_cons_zero, List.set_cons_succ]
          refine wpAnyH_ready (rs := [8]) (by kernel_rfl) (by simp) ?_
          refine AllReadyH.cons (o := _) rfl (fun K hK => ?_) ?_
          · go_simp
            refine (wset v8 h m (ND.out _ G.out).1 (ND.out _ G.out).2 XB k2 EB.out u2 0 1 21 (by decide) (by decide) k3 q4).mono ?_
            rintro e v9 ⟨XC, VC, rfl, o, g⟩
            refine hK.out _ _ (KT.out _ (gb_trans G.out g)) (fun hH9 => ?_)
            clear hK K
            replace I8 := Lib.hid (I8.out.keep0 g)
            replace G := Lib.hid (gb_trans G.out g)
            have EC := Lib.hid o
            clear o g EB
            try simp only [Act.put, List.getElem_toArray, List.getElem_cons_succ, List.getElem_cons_zero, List.setIfInBounds_toArray, List.set_cons_zero, List.set_cons_succ]
            have q0 := I8.out.cell 0
            have q1 := I8.out.cell 1
            have q2 := I8.out.cell 2
            have q3 := I8.out.cell 3
            dsimp at q0 q1 q2 q3
            have f0 := I8.out.free 0
            have f1 := I8.out.free 1
            have f2 := I8.out.free 2
            have f3 := I8.out.free 3
            refine wpAnyH_ready (rs := [10]) (by kernel_rfl) (by simp) ?_
            refine AllReadyH.cons (o := _) rfl (fun K hK => ?_) AllReadyH.nil
            go_simp
            refine hK.out _ _ (KT.out _ (gb_put (gb_put (gb_put (gb_put G.out L8.out) L8.out) L8.out) L8.out)) (fun hH99 => ?_)
            clear hK K hH99
            try simp only [Act.put, List.getElem_toArray, List.getElem_cons_succ, List.getElem_cons_zero, List.setIfInBounds_toArray, List.set_cons_zero, List.set_cons_succ]
            refine wpAnyH_done (by kernel_rfl) ?_ _
            go_wp2_with fail
            go_meet
            exact works_cut G.out L8.out I8.out EC.out
          exact AllReadyH.nil
        exact AllReadyH.nil
      exact AllReadyH.nil
    refine AllReadyH.cons (o := _) rfl (fun K hK => ?_) ?_
    · go_simp
      have g := gb_alloc v0 (.cells #[.slice none 0 0, .slice none 0 0, .slice none 0 0, .slice none 0 0] 37) none
      have nb := IsB.new v0 37 #[.slice none 0 0, .slice none 0 0, .slice none 0 0, .slice none 0 0]
      refine hK.out _ _ (KT.out _ (gb_trans G.out g)) (fun hH10 => ?_)
      clear hK K
      replace D6 := Lib.hid (D6.out.keep0 g)
      have L8x : w6.heap.size ≤ v0.heap.size := G.out.size
      replace G := Lib.hid (gb_trans G.out g)
      have I8 := Lib.hid nb
      have L8 := Lib.hid L8x
      obtain ⟨b8, hb8⟩ : ∃ b, b = v0.heap.size := ⟨_, rfl⟩
      rw [← hb8] at I8 L8 ⊢
      clear g nb hb8 L8x
      generalize v0.alloc (.cells #[.slice none 0 0, .slice none 0 0, .slice none 0 0, .slice none 0 0] 37) = v10 at *
      try simp only [Act.put, List.getElem_toArray, List.getElem_cons_succ, List.getElem_cons_zero, List.setIfInBounds_toArray, List.set_cons_zero, List.set_cons_succ]
      refine wpAnyH_ready (rs := [4]) (by kernel_rfl) (by simp) ?_
      refine AllReadyH.cons (o := _) rfl (fun K hK => ?_) ?_
      · go_simp
        refine (wadd v10 h m (ND.out _ G.out).1 (ND.out _ G.out).2 X1 k0 D6.out u0 rfl rfl k1 q2).mono ?_
        rintro e v11 ⟨XA, VA, rfl, o, g⟩
        refine hK.out _ _ (KT.out _ (gb_trans G.out g)) (fun hH11 => ?_)
        clear hK K
        replace I8 := Lib.hid (I8.out.keep0 g)
        replace G := Lib.hid (gb_trans G.out g)
        have EA := Lib.hid o.er
        clear o g VA D6
        try simp only [Act.put, List.getElem_toArray, List.getElem_cons_succ, List.getElem_cons_zero, List.setIfInBounds_toArray, List.set_cons_zero, List.set_cons_succ]
        refine wpAnyH_ready (rs := [6]) (by kernel_rfl) (by simp) ?_
        refine AllReadyH.cons (o := _) rfl (fun K hK => ?_) ?_
        · go_simp
          refine (wset v11 h m (ND.out _ G.out).1 (ND.out _ G.out).2 XA k1 EA.out u1 0 0 7 (by decide) (by decide) k2 q3).mono ?_
          rintro e v12 ⟨XB, VB, rfl, o, g⟩
          refine hK.out _ _ (KT.out _ (gb_trans G.out g)) (fun hH12 => ?_)
          clear hK K
          replace I8 := Lib.hid (I8.out.keep0 g)
          replace G := Lib.hid (gb_trans G.out g)
          have EB := Lib.hid o.er
          clear o g VB EA
          try simp only [Act.put, List.getElem_toArray, List.getElem_cons_succ, List.getElem_cons_zero, List.setIfInBounds_toArray, List.set_cons_zero, List.set_cons_succ]
          refine wpAnyH_ready (rs := [8]) (by kernel_rfl) (by simp) ?_
          refine AllReadyH.cons (o := _) rfl (fun K hK => ?_) ?_
          · go_simp
            refine (wset v12 h m (ND.out _ G.out).1 (ND.out _ G.out).2 XB k2 EB.out u2 0 1 21 (by decide) (by decide) k3 q4).mono ?_
            rintro e v13 ⟨XC, VC, rfl, o, g⟩
            refine hK.out _ _ (KT.out _ (gb_trans G.out g)) (fun hH13 => ?_)
            clear hK K
            replace I8 := Lib.hid (I8.out.keep0 g)
            replace G := Lib.hid (gb_trans G.out g)
            have EC := Lib.hid o
            clear o g EB
            try simp only [Act.put, List.getElem_toArray, List.getElem_cons_succ, List.getElem_cons_zero, List.setIfInBounds_toArray, List.set_cons_zero, List.set_cons_succ]
            have q0 := I8.out.cell 0
            have q1 := I8.out.cell 1
            have q2 := I8.out.cell 2
            have q3 := I8.out.cell 3
            dsimp at q0 q1 q2 q3
            have f0 := I8.out.free 0
            have f1 := I8.out.free 1
            have f2 := I8.out.free 2
            have f3 := I8.out.free 3
            refine wpAnyH_ready (rs := [10]) (by kernel_rfl) (by simp) ?_
            refine AllReadyH.cons (o := _) rfl (fun K hK => ?_) AllReadyH.nil
            go_simp
            refine hK.out _ _ (KT.out _ (gb_put (gb_put (gb_put (gb_put G.out L8.out) L8.out) L8.out) L8.out)) (fun hH99 => ?_)
            clear hK K hH99
            try simp only [Act.put, List.getElem_toArray, List.getElem_cons_succ, List.getElem_cons_zero, List.setIfInBounds_toArray, List.set_cons_zero, List.set_cons_succ]
            refine wpAnyH_done (by kernel_rfl) ?_ _
            go_wp2_with fail
            go_meet
            exact works_cut G.out L8.out I8.out EC.out
          exact AllReadyH.nil
        exact AllReadyH.nil
      exact AllReadyH.nil
    exact AllReadyH.nil
  case rest =>
    obtain ⟨b8, X3, rfl, i8, e8, g8⟩ := hcut
    have B8 := Lib.hid i8
    have E8 := Lib.hid e8
    have K8 := Lib.hid (gb_trans K6.out g8)
    replace B4 := Lib.hid (B4.out.keep0 g8)
    replace B6 := Lib.hid (B6.out.keep0 g8)
    have D8 := Lib.hid (D6.out.keep0 g8)
    have F8 := Lib.hid (E6.out.keep0 g8)
    replace HD := Lib.hid (fun (W : World) (q : wc.grownBy W none) => ND.out W (gb_trans g8 q))
    clear i8 e8 g8 D6 E6 KT ND K6
    have s0 : wc.cell? ⟨bp, 0, none⟩ = some (.string ⟨#[]⟩) := (BP.out.keep0 K8.out).cell 0
    have s1 : wc.cell? ⟨bp, 1, none⟩ = some (.slice (some h) 1 1) := (BP.out.keep0 K8.out).cell 1
    have s2 : wc.cell? ⟨bp, 2, none⟩ = some (.slice (some m) 1 1) := (BP.out.keep0 K8.out).cell 2
    have s3 : wc.cell? ⟨bp, 3, none⟩ = some (.slice none 0 0) := (BP.out.keep0 K8.out).cell 3
    have s4 : wc.cell? ⟨bp, 4, none⟩ = some (.slice none 0 0) := (BP.out.keep0 K8.out).cell 4
    have s5 : wc.cell? ⟨bp, 5, none⟩ = some (.slice none 0 0) := (BP.out.keep0 K8.out).cell 5
    have s6 : wc.cell? ⟨bp, 6, none⟩ = some (.slice none 0 0) := (BP.out.keep0 K8.out).cell 6
    have s7 : wc.cell? ⟨bp, 7, none⟩ = some (.slice none 0 0) := (BP.out.keep0 K8.out).cell 7
    have s8 : wc.cell? ⟨bp, 8, none⟩ = some (.slice none 0 0) := (BP.out.keep0 K8.out).cell 8
    have e0 : wc.cell? ⟨b8, 0, none⟩ = some (.slice X3.va X3.vn X3.vc) := (B8.out.keep0 (gb_refl wc none)).cell 0
    have e1 : wc.cell? ⟨b8, 1, none⟩ = some (.slice X3.fa X3.fn X3.fc) := (B8.out.keep0 (gb_refl wc none)).cell 1
    have e2 : wc.cell? ⟨b8, 2, none⟩ = some (.slice X3.ta X3.tn X3.tc) := (B8.out.keep0 (gb_refl wc none)).cell 2
    have e3 : wc.cell? ⟨b8, 3, none⟩ = some (.slice X3.pa X3.pn X3.pc) := (B8.out.keep0 (gb_refl wc none)).cell 3
    go_wp2_with fail
    refine (wrem wc h m (HD.out _ (gb_refl _ _)).1 (HD.out _ (gb_refl _ _)).2 X3 k3 E8.out u3 rfl k0 q5).mono ?_
    rintro e w9 ⟨X4, V4, rfl, o, g⟩
    have E9 := Lib.hid o.er
    have K9 := Lib.hid g
    clear o g V4 e0 e1 e2 e3
    clear s0 s1 s2 s3 s4 s5 s6 s7 s8
    have GD := Lib.hid (gb_alloc w9 (.cells #[.slice X4.va X4.vn X4.vc, .slice X4.fa X4.fn X4.fc, .slice X4.ta X4.tn X4.tc, .slice X4.pa X4.pn X4.pc] 37) none)
    have BG := IsB.new w9 37 #[.slice X4.va X4.vn X4.vc, .slice X4.fa X4.fn X4.fc, .slice X4.ta X4.tn X4.tc, .slice X4.pa X4.pn X4.pc]
    replace BG := Lib.hid BG
    go_upto_region 7 with fail
    generalize w9.alloc (.cells #[.slice X4.va X4.vn X4.vc, .slice X4.fa X4.fn X4.fc, .slice X4.ta X4.tn X4.tc, .slice X4.pa X4.pn X4.pc] 37) = wd at *
    obtain ⟨b9, hb9⟩ : ∃ b, b = w9.heap.size := ⟨_, rfl⟩
    have Lb9 := Lib.hid (show w9.heap.size ≤ b9 by rw [hb9]; exact Nat.le_refl _)
    rw [← hb9] at BG ⊢
    clear hb9
    have KD := Lib.hid (gb_trans K9.out GD.out)
    have Eg := Lib.hid (E9.out.keep0 GD.out)
    have Ef := Lib.hid (E8.out.keep0 KD.out)
    have Ee := Lib.hid (D8.out.keep0 KD.out)
    have Es := Lib.hid (F8.out.keep0 KD.out)
    replace B4 := Lib.hid (B4.out.keep0 KD.out)
    replace B6 := Lib.hid (B6.out.keep0 KD.out)
    replace B8 := Lib.hid (B8.out.keep0 KD.out)
    replace HD := Lib.hid (fun (W : World) (q : wd.grownBy W none) => HD.out W (gb_trans KD.out q))
    have BPd := Lib.hid (BP.out.keep0 (gb_trans K8.out KD.out))
    replace BA := Lib.hid (BA.out.keep0 (gb_trans K8.out KD.out))
    replace BB := Lib.hid (BB.out.keep0 (gb_trans K8.out KD.out))
    have KZ := Lib.hid (gb_trans (gb_trans G1.out G2.out) (gb_trans K8.out KD.out))
    clear BP E9 E8 D8 F8 GD K8 K9 KD G1 G2 Lb9
    have BP := BPd
    clear BPd
    have ZZ := Lib.hid (gb_refl wd none)
    have s0 : wd.cell? ⟨bp, 0, none⟩ = some (.string ⟨#[]⟩) := (BP.out.keep0 (gb_refl wd none)).cell 0
    have s1 : wd.cell? ⟨bp, 1, none⟩ = some (.slice (some h) 1 1) := (BP.out.keep0 (gb_refl wd none)).cell 1
    have s2 : wd.cell? ⟨bp, 2, none⟩ = some (.slice (some m) 1 1) := (BP.out.keep0 (gb_refl wd none)).cell 2
    have s3 : wd.cell? ⟨bp, 3, none⟩ = some (.slice none 0 0) := (BP.out.keep0 (gb_refl wd none)).cell 3
    have s4 : wd.cell? ⟨bp, 4, none⟩ = some (.slice none 0 0) := (BP.out.keep0 (gb_refl wd none)).cell 4
    have s5 : wd.cell? ⟨bp, 5, none⟩ = some (.slice none 0 0) := (BP.out.keep0 (gb_refl wd none)).cell 5
    have s6 : wd.cell? ⟨bp, 6, none⟩ = some (.slice none 0 0) := (BP.out.keep0 (gb_refl wd none)).cell 6
    have s7 : wd.cell? ⟨bp, 7, none⟩ = some (.slice none 0 0) := (BP.out.keep0 (gb_refl wd none)).cell 7
    have s8 : wd.cell? ⟨bp, 8, none⟩ = some (.slice none 0 0) := (BP.out.keep0 (gb_refl wd none)).cell 8
    have b0 : wd.cell? ⟨bp + 1 + 1, 0, none⟩ = some (.int .i64 0) := (BB.out.keep0 (gb_refl wd none)).cell 0
    have b1 : wd.cell? ⟨bp + 1 + 1, 1, none⟩ = some (.int .i64 1) := (BB.out.keep0 (gb_refl wd none)).cell 1
    go_wp2_with fail
    refine (wwid wd h m (HD.out _ (gb_refl wd none)).1 (HD.out _ (gb_refl wd none)).2).mono ?_
    rintro e y0 ⟨rfl, g⟩
    have Z0 := Lib.hid (gb_trans (gb_refl wd none) g)
    clear g s0 s1 s2 s3 s4 s5 s6 s7 s8 b0 b1
    have xs0 : y0.cell? ⟨b6, 0, none⟩ = some (.slice X2.va X2.vn X2.vc) := (B6.out.keep0 Z0.out).cell 0
    have xs1 : y0.cell? ⟨b6, 1, none⟩ = some (.slice X2.fa X2.fn X2.fc) := (B6.out.keep0 Z0.out).cell 1
    have xs2 : y0.cell? ⟨b6, 2, none⟩ = some (.slice X2.ta X2.tn X2.tc) := (B6.out.keep0 Z0.out).cell 2
    have xs3 : y0.cell? ⟨b6, 3, none⟩ = some (.slice X2.pa X2.pn X2.pc) := (B6.out.keep0 Z0.out).cell 3
    have xe0 : y0.cell? ⟨b4, 0, none⟩ = some (.slice X1.va X1.vn X1.vc) := (B4.out.keep0 Z0.out).cell 0
    have xe1 : y0.cell? ⟨b4, 1, none⟩ = some (.slice X1.fa X1.fn X1.fc) := (B4.out.keep0 Z0.out).cell 1
    have xe2 : y0.cell? ⟨b4, 2, none⟩ = some (.slice X1.ta X1.tn X1.tc) := (B4.out.keep0 Z0.out).cell 2
    have xe3 : y0.cell? ⟨b4, 3, none⟩ = some (.slice X1.pa X1.pn X1.pc) := (B4.out.keep0 Z0.out).cell 3
    go_wp2_with fail
    refine (weq y0 X2 X1 k0 k0 (Es.out.keep0 Z0.out) (Ee.out.keep0 Z0.out) u0 u0 true (by simp [sameE])).mono ?_
    rintro e y1 ⟨rfl, g⟩
    have Z1 := Lib.hid (gb_trans Z0.out g)
    clear g xs0 xs1 xs2 xs3 xe0 xe1 xe2 xe3
    have xf0 : y1.cell? ⟨b8, 0, none⟩ = some (.slice X3.va X3.vn X3.vc) := (B8.out.keep0 Z1.out).cell 0
    have xf1 : y1.cell? ⟨b8, 1, none⟩ = some (.slice X3.fa X3.fn X3.fc) := (B8.out.keep0 Z1.out).cell 1
    have xf2 : y1.cell? ⟨b8, 2, none⟩ = some (.slice X3.ta X3.tn X3.tc) := (B8.out.keep0 Z1.out).cell 2
    have xf3 : y1.cell? ⟨b8, 3, none⟩ = some (.slice X3.pa X3.pn X3.pc) := (B8.out.keep0 Z1.out).cell 3
    have a0 : y1.cell? ⟨bp + 1, 0, none⟩ = some (.int .i64 0) := (BA.out.keep0 Z1.out).cell 0
    have a1 : y1.cell? ⟨bp + 1, 1, none⟩ = some (.int .i64 0) := (BA.out.keep0 Z1.out).cell 1
    go_wp2_with fail
    refine (wget y1 X3 k3 (Ef.out.keep0 Z1.out) 0 0 7 (by decide +kernel)).mono ?_
    rintro e y2 ⟨rfl, g⟩
    have Z2 := Lib.hid (gb_trans Z1.out g)
    clear g xf0 xf1 xf2 xf3 a0 a1
    have xf0 : y2.cell? ⟨b8, 0, none⟩ = some (.slice X3.va X3.vn X3.vc) := (B8.out.keep0 Z2.out).cell 0
    have xf1 : y2.cell? ⟨b8, 1, none⟩ = some (.slice X3.fa X3.fn X3.fc) := (B8.out.keep0 Z2.out).cell 1
    have xf2 : y2.cell? ⟨b8, 2, none⟩ = some (.slice X3.ta X3.tn X3.tc) := (B8.out.keep0 Z2.out).cell 2
    have xf3 : y2.cell? ⟨b8, 3, none⟩ = some (.slice X3.pa X3.pn X3.pc) := (B8.out.keep0 Z2.out).cell 3
    have b0 : y2.cell? ⟨bp + 1 + 1, 0, none⟩ = some (.int .i64 0) := (BB.out.keep0 Z2.out).cell 0
    have b1 : y2.cell? ⟨bp + 1 + 1, 1, none⟩ = some (.int .i64 1) := (BB.out.keep0 Z2.out).cell 1
    go_wp2_with fail
    refine (wget y2 X3 k3 (Ef.out.keep0 Z2.out) 0 1 5 (by decide +kernel)).mono ?_
    rintro e y3 ⟨rfl, g⟩
    have Z3 := Lib.hid (gb_trans Z2.out g)
    clear g xf0 xf1 xf2 xf3 b0 b1
    have xg0 : y3.cell? ⟨b9, 0, none⟩ = some (.slice X4.va X4.vn X4.vc) := (BG.out.keep0 Z3.out).cell 0
    have xg1 : y3.cell? ⟨b9, 1, none⟩ = some (.slice X4.fa X4.fn X4.fc) := (BG.out.keep0 Z3.out).cell 1
    have xg2 : y3.cell? ⟨b9, 2, none⟩ = some (.slice X4.ta X4.tn X4.tc) := (BG.out.keep0 Z3.out).cell 2
    have xg3 : y3.cell? ⟨b9, 3, none⟩ = some (.slice X4.pa X4.pn X4.pc) := (BG.out.keep0 Z3.out).cell 3
    have xe0 : y3.cell? ⟨b4, 0, none⟩ = some (.slice X1.va X1.vn X1.vc) := (B4.out.keep0 Z3.out).cell 0
    have xe1 : y3.cell? ⟨b4, 1, none⟩ = some (.slice X1.fa X1.fn X1.fc) := (B4.out.keep0 Z3.out).cell 1
    have xe2 : y3.cell? ⟨b4, 2, none⟩ = some (.slice X1.ta X1.tn X1.tc) := (B4.out.keep0 Z3.out).cell 2
    have xe3 : y3.cell? ⟨b4, 3, none⟩ = some (.slice X1.pa X1.pn X1.pc) := (B4.out.keep0 Z3.out).cell 3
    go_wp2_with fail
    refine (weq y3 X4 X1 k0 k0 (Eg.out.keep0 Z3.out) (Ee.out.keep0 Z3.out) u0 u0 true (by simp [sameE])).mono ?_
    rintro e y4 ⟨rfl, g⟩
    have Z4 := Lib.hid (gb_trans Z3.out g)
    clear g xg0 xg1 xg2 xg3 xe0 xe1 xe2 xe3
    have xf0 : y4.cell? ⟨b8, 0, none⟩ = some (.slice X3.va X3.vn X3.vc) := (B8.out.keep0 Z4.out).cell 0
    have xf1 : y4.cell? ⟨b8, 1, none⟩ = some (.slice X3.fa X3.fn X3.fc) := (B8.out.keep0 Z4.out).cell 1
    have xf2 : y4.cell? ⟨b8, 2, none⟩ = some (.slice X3.ta X3.tn X3.tc) := (B8.out.keep0 Z4.out).cell 2
    have xf3 : y4.cell? ⟨b8, 3, none⟩ = some (.slice X3.pa X3.pn X3.pc) := (B8.out.keep0 Z4.out).cell 3
    have xe0 : y4.cell? ⟨b4, 0, none⟩ = some (.slice X1.va X1.vn X1.vc) := (B4.out.keep0 Z4.out).cell 0
    have xe1 : y4.cell? ⟨b4, 1, none⟩ = some (.slice X1.fa X1.fn X1.fc) := (B4.out.keep0 Z4.out).cell 1
    have xe2 : y4.cell? ⟨b4, 2, none⟩ = some (.slice X1.ta X1.tn X1.tc) := (B4.out.keep0 Z4.out).cell 2
    have xe3 : y4.cell? ⟨b4, 3, none⟩ = some (.slice X1.pa X1.pn X1.pc) := (B4.out.keep0 Z4.out).cell 3
    go_wp2_with fail
    refine (weq y4 X3 X1 k3 k0 (Ef.out.keep0 Z4.out) (Ee.out.keep0 Z4.out) u3 u0 false (by simp [sameE, k3, k0])).mono ?_
    rintro e y5 ⟨rfl, g⟩
    have Z5 := Lib.hid (gb_trans Z4.out g)
    clear g xf0 xf1 xf2 xf3 xe0 xe1 xe2 xe3
    have s0 : y5.cell? ⟨bp, 0, none⟩ = some (.string ⟨#[]⟩) := (BP.out.keep0 Z5.out).cell 0
    have s1 : y5.cell? ⟨bp, 1, none⟩ = some (.slice (some h) 1 1) := (BP.out.keep0 Z5.out).cell 1
    have s2 : y5.cell? ⟨bp, 2, none⟩ = some (.slice (some m) 1 1) := (BP.out.keep0 Z5.out).cell 2
    have s3 : y5.cell? ⟨bp, 3, none⟩ = some (.slice none 0 0) := (BP.out.keep0 Z5.out).cell 3
    have s4 : y5.cell? ⟨bp, 4, none⟩ = some (.slice none 0 0) := (BP.out.keep0 Z5.out).cell 4
    have s5 : y5.cell? ⟨bp, 5, none⟩ = some (.slice none 0 0) := (BP.out.keep0 Z5.out).cell 5
    have s6 : y5.cell? ⟨bp, 6, none⟩ = some (.slice none 0 0) := (BP.out.keep0 Z5.out).cell 6
    have s7 : y5.cell? ⟨bp, 7, none⟩ = some (.slice none 0 0) := (BP.out.keep0 Z5.out).cell 7
    have s8 : y5.cell? ⟨bp, 8, none⟩ = some (.slice none 0 0) := (BP.out.keep0 Z5.out).cell 8
    have xf0 : y5.cell? ⟨b8, 0, none⟩ = some (.slice X3.va X3.vn X3.vc) := (B8.out.keep0 Z5.out).cell 0
    have xf1 : y5.cell? ⟨b8, 1, none⟩ = some (.slice X3.fa X3.fn X3.fc) := (B8.out.keep0 Z5.out).cell 1
    have xf2 : y5.cell? ⟨b8, 2, none⟩ = some (.slice X3.ta X3.tn X3.tc) := (B8.out.keep0 Z5.out).cell 2
    have xf3 : y5.cell? ⟨b8, 3, none⟩ = some (.slice X3.pa X3.pn X3.pc) := (B8.out.keep0 Z5.out).cell 3
    go_wp2_with fail
    refine (wchk y5 h m (HD.out _ Z5.out).1 (HD.out _ Z5.out).2 X3 k3 (Ef.out.keep0 Z5.out) u3 0 c3).mono ?_
    rintro e y6 ⟨rfl, g⟩
    have Z6 := Lib.hid (gb_trans Z5.out g)
    clear g s0 s1 s2 s3 s4 s5 s6 s7 s8 xf0 xf1 xf2 xf3
    have s0 : y6.cell? ⟨bp, 0, none⟩ = some (.string ⟨#[]⟩) := (BP.out.keep0 Z6.out).cell 0
    have s1 : y6.cell? ⟨bp, 1, none⟩ = some (.slice (some h) 1 1) := (BP.out.keep0 Z6.out).cell 1
    have s2 : y6.cell? ⟨bp, 2, none⟩ = some (.slice (some m) 1 1) := (BP.out.keep0 Z6.out).cell 2
    have s3 : y6.cell? ⟨bp, 3, none⟩ = some (.slice none 0 0) := (BP.out.keep0 Z6.out).cell 3
    have s4 : y6.cell? ⟨bp, 4, none⟩ = some (.slice none 0 0) := (BP.out.keep0 Z6.out).cell 4
    have s5 : y6.cell? ⟨bp, 5, none⟩ = some (.slice none 0 0) := (BP.out.keep0 Z6.out).cell 5
    have s6 : y6.cell? ⟨bp, 6, none⟩ = some (.slice none 0 0) := (BP.out.keep0 Z6.out).cell 6
    have s7 : y6.cell? ⟨bp, 7, none⟩ = some (.slice none 0 0) := (BP.out.keep0 Z6.out).cell 7
    have s8 : y6.cell? ⟨bp, 8, none⟩ = some (.slice none 0 0) := (BP.out.keep0 Z6.out).cell 8
    go_wp2_with fail
    refine (wchk y6 h m (HD.out _ Z6.out).1 (HD.out _ Z6.out).2 ⟨none, none, none, none, 0, 0, 0, 0, 0, 0, 0, 0⟩ kz (er_nil _) uz 2 cz).mono ?_
    rintro e y7 ⟨rfl, g⟩
    have Z7 := Lib.hid (gb_trans Z6.out g)
    clear g s0 s1 s2 s3 s4 s5 s6 s7 s8
    go_wp2
    go_ret
    exact ⟨rfl, gb_trans KZ.out Z7.out⟩
end Go.Proofs.Ytolifmpnhflegaa
