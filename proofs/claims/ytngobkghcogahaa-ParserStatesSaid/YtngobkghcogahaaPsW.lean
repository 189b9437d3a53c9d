/- Parser: the reference: run; no condition but sizes. -/
import Derived.Test.YtngobkghcogahaaGxH
import Derived.Test.YtngobkghcogahaaGxQ
import Derived.Test.YtngobkghcogahaaPsU
import Derived.Test.YtngobkghcogahaaPsV
import Derived.Test.YtngobkghcogahaaGxP
import Derived.Deep.QuietTactic
import Derived.BigQuiet
import Derived.Deep.RegionWith
import Derived.StillTailTactics
namespace Go.Proofs.Ytngobkghcogahaa
open Go.RowKit
set_option linter.unusedVariables false
/-- The state of the reference's run. -/
structure RRs (W : World) (b8 b9 : Nat) (ax : Option Addr) (n9 cx : Nat) (bs : List Int) (X : EX) (L : EL) (Vs : List Value) (pos : Nat) (E : Value) (st : List Int) (w : World) : Prop where
  e : IsB w b8 42 #[.slice X.va X.vn X.vc, .slice X.fa X.fn X.fc, .slice X.ta X.tn X.tc, .slice X.pa X.pn X.pc]
  r : IsB w b9 122 #[.slice ax n9 cx, .int .i64 pos]
  pk : OE w W.heap.size X L Vs
  en : NL w W.heap.size E st
  rw : w.ownsRow W.heap.size 5 1 (.slice ax bs.length cx) bs.length (bs.map (Value.int .u8))
  g : W.grownBy w none
  l8 : W.heap.size ≤ b8
  l9 : W.heap.size ≤ b9
theorem RRs.keep0 {W : World} {b8 b9 : Nat} {ax : Option Addr} {n9 cx : Nat} {bs : List Int} {X : EX} {L : EL} {Vs : List Value} {pos : Nat} {E : Value} {st : List Int} {w : World} {w2 : World} (h : RRs W b8 b9 ax n9 cx bs X L Vs pos E st w) (k : w.grownBy w2 none) : RRs W b8 b9 ax n9 cx bs X L Vs pos E st w2 :=
  ⟨h.e.keep0 k, h.r.keep0 k, h.pk.keep0 k, own_keep0 h.en k, own_keep0 h.rw k, gb_trans h.g k, h.l8, h.l9⟩
theorem RRs.push {W : World} {b8 b9 : Nat} {ax : Option Addr} {n9 cx : Nat} {bs : List Int} {X : EX} {L : EL} {Vs : List Value} {pos : Nat} {E : Value} {st : List Int} {w : World} {w2 : World} {E2 : Value} {st2 : List Int} (h : RRs W b8 b9 ax n9 cx bs X L Vs pos E st w) (k : w.grownBy w2 E.ownBlock) (q : NL w2 W.heap.size E2 st2) : RRs W b8 b9 ax n9 cx bs X L Vs pos E2 st2 w2 :=
  ⟨isb_past h.e h.en (by decide) k, isb_past h.r h.en (by decide) k, h.pk.kI h.en k, q, own_beyond h.rw h.en (by decide) k, gb_own2 h.g h.en (Nat.le_refl _) k, h.l8, h.l9⟩
theorem RRs.setE {W : World} {b8 b9 : Nat} {ax : Option Addr} {n9 cx : Nat} {bs : List Int} {X : EX} {L : EL} {Vs : List Value} {pos : Nat} {E : Value} {st : List Int} {w : World} {w2 : World} {X2 : EX} {L2 : EL} {Vs2 : List Value} (h : RRs W b8 b9 ax n9 cx bs X L Vs pos E st w) (o : OE w W.heap.size X2 L2 Vs2) (k : w.grownBy w2 (some b8)) (q : IsB w2 b8 42 #[.slice X2.va X2.vn X2.vc, .slice X2.fa X2.fn X2.fc, .slice X2.ta X2.tn X2.tc, .slice X2.pa X2.pn X2.pc]) : RRs W b8 b9 ax n9 cx bs X2 L2 Vs2 pos E st w2 :=
  ⟨q, h.r.keepS k h.e (by decide), o.kB k h.e (by decide) (by decide) (by decide) (by decide), own_keepS h.en k h.e (by decide), own_keepS h.rw k h.e (by decide), gb_new (gb_trans (gb_any h.g) k) h.l8, h.l8, h.l9⟩
theorem RRs.setR {W : World} {b8 b9 : Nat} {ax : Option Addr} {n9 cx : Nat} {bs : List Int} {X : EX} {L : EL} {Vs : List Value} {pos : Nat} {E : Value} {st : List Int} {w : World} {w2 : World} {pos2 : Nat} (h : RRs W b8 b9 ax n9 cx bs X L Vs pos E st w) (k : w.grownBy w2 (some b9)) (q : IsB w2 b9 122 #[.slice ax n9 cx, .int .i64 pos2]) : RRs W b8 b9 ax n9 cx bs X L Vs pos2 E st w2 :=
  ⟨h.e.keepS k h.r (by decide), q, h.pk.kB k h.r (by decide) (by decide) (by decide) (by decide), own_keepS h.en k h.r (by decide), own_keepS h.rw k h.r (by decide), gb_new (gb_trans (gb_any h.g) k) h.l9, h.l8, h.l9⟩
theorem sca_rng {w : World} {a : Option Addr} {n c : Nat} {cs : List Cse} (h : SCa w a n c cs) (k : Nat) (hk : k < cs.length) : (0 ≤ (cs.getD k csz).v ∧ (cs.getD k csz).v < 4294967296) ∧ (0 ≤ (cs.getD k csz).m ∧ (cs.getD k csz).m < 4294967296) := by
  have hl := h.len
  obtain ⟨cd, hcd⟩ := h.some (by omega)
  obtain ⟨⟨_, a0, a1⟩, ⟨_, b0, b1⟩, _⟩ := h.cells cd hcd k (by omega)
  exact ⟨⟨a0, a1⟩, ⟨b0, b1⟩⟩
/-- How much is left of a run. -/
def rLeft (n : Nat) (v : Value) : Nat := if 0 ≤ intOf v then 1 + n - (intOf v).toNat else 0
theorem eo_own {w0 : World} {X0 : EX} {L0 : EL} {w : World} {X : EX} {L : EL} {base : Nat} {Vs : List Value} (h : EO w0 X0 L0 w X L) (o : OE w base X0 L0 Vs) (hb : base ≤ w0.heap.size) : ∃ Vs2, OE w base X L Vs2 := by
  rcases h with ⟨rfl, rfl⟩ | ⟨Vs2, h⟩
  · exact ⟨Vs, o⟩
  · exact ⟨Vs2, h.low hb⟩
set_option maxRecDepth 100000 in
set_option maxHeartbeats 8000000 in
theorem rrun_any (w : World) (nm : ByteArray) (rA xA tA kA dA ha ma sa : Option Addr) (rN rC xN xC tN tC kN kC dN dC hn hc mn mc sn sc : Nat) (H : List (ByteArray × List Fld)) (M : List Fld) (S : List Pst) (hH : SH w ha hn hc H) (hM : SF w ma mn mc M) (hS : SPs w sa sn sc S) (hnz : ∀ i, (S.getD i psz).nm.size ≤ 9223372036854775807) (hz9 : HZ H) (hb9 : hn ≤ 1000) (mb9 : mn ≤ 1000) (da : Option Addr) (dn dc : Nat) (bs : List Int) (hD : SY w da dn dc bs) (hdl : dn ≤ 60000) (a1 a2 e : Int) (hr : PkC H M S a1 a2 e) (b0 : Bool) (hb0 : b0 = true ↔ hdsOk H) (res : EL × List Int × Int) (hres : res = pRun H M S bs (inE e b0 dn)) : Calls Try.prog 49 #[.agg #[.string nm, .slice ha hn hc, .slice ma mn mc, .slice rA rN rC, .slice xA xN xC, .slice tA tN tC, .slice sa sn sc, .slice kA kN kC, .slice dA dN dC], .slice da dn dc] w (RetPk res.1 res.2.1 res.2.2 w) := by
  obtain ⟨e0, he0⟩ : ∃ x, x = inE e b0 dn := ⟨_, rfl⟩
  have K1 := Lib.hid (fun (W : World) (q : w.grownBy W none) => raccepted_any W (.string nm) (.slice rA rN rC) (.slice xA xN xC) (.slice tA tN tC) (.slice kA kN kC) (.slice dA dN dC) ha ma sa hn hc mn mc sn sc H M S (hH.keep0 q) (hM.keep0 q) (hS.keep0SPs q) hnz hz9 (by omega) da dn dc a1 a2 e hr b0 hb0)
  unfold RetV at K1
  rw [← he0] at K1 hres
  have FB := Lib.hid (fun j => show (H.getD j hz).2.length ≤ 1000 by
    by_cases hj : j < H.length
    · rw [List.getD_eq_getElem?_getD, List.getElem?_eq_getElem hj]; exact hz9.fl _ (List.getElem_mem hj)
    · rw [List.getD_eq_getElem?_getD, List.getElem?_eq_none (by omega)]; decide)
  have KE := Lib.hid (fun (W : World) (q : w.grownBy W none) => rnew_any W (.string nm) (.slice rA rN rC) (.slice xA xN xC) (.slice tA tN tC) (.slice sa sn sc) (.slice kA kN kC) (.slice dA dN dC) ha ma hn hc mn mc H M (hH.keep0 q) (hM.keep0 q) (by omega) (by omega) (fun j => Nat.le_trans (FB.out j) (by decide)))
  unfold RetE at KE
  have HH := Lib.hid hH
  have HS := Lib.hid hS
  have ZH := Lib.hid hz9
  have HD := Lib.hid hD
  have BL := Lib.hid (show bs.length ≤ 60000 by have := hD.len; omega)
  have HN9 := Lib.hid hb9
  have MN9 := Lib.hid mb9
  have LH := Lib.hid hH.len
  have LM := Lib.hid hM.len
  have LS9 := Lib.hid hS.len
  have HR := Lib.hid hr.ok
  have HE0 := Lib.hid he0
  have HRES := Lib.hid hres
  have G1 := Lib.hid (gb_trans (gb_alloc w (.cells #[.string nm, .slice ha hn hc, .slice ma mn mc, .slice rA rN rC, .slice xA xN xC, .slice tA tN tC, .slice sa sn sc, .slice kA kN kC, .slice dA dN dC] 31) none) (gb_alloc _ (.cells #[.slice none 0 0, .slice none 0 0, .slice none 0 0, .slice none 0 0] 42) none))
  have B1 := (IsB.new w 31 #[.string nm, .slice ha hn hc, .slice ma mn mc, .slice rA rN rC, .slice xA xN xC, .slice tA tN tC, .slice sa sn sc, .slice kA kN kC, .slice dA dN dC]).alloc (.cells #[.slice none 0 0, .slice none 0 0, .slice none 0 0, .slice none 0 0] 42)
  have B2 := IsB.new (w.alloc (.cells #[.string nm, .slice ha hn hc, .slice ma mn mc, .slice rA rN rC, .slice xA xN xC, .slice tA tN tC, .slice sa sn sc, .slice kA kN kC, .slice dA dN dC] 31)) 42 #[.slice none 0 0, .slice none 0 0, .slice none 0 0, .slice none 0 0]
  simp only [sz_al] at B2
  replace B1 := Lib.hid B1
  replace B2 := Lib.hid B2
  clear hH hM hS hnz hz9 hb9 mb9 hD hdl hr hb0 hres he0
  go_enter Try.func49, Try.ntmps49
  go_upto_region 1 with fail
  generalize (w.alloc (.cells #[.string nm, .slice ha hn hc, .slice ma mn mc, .slice rA rN rC, .slice xA xN xC, .slice tA tN tC, .slice sa sn sc, .slice kA kN kC, .slice dA dN dC] 31)).alloc (.cells #[.slice none 0 0, .slice none 0 0, .slice none 0 0, .slice none 0 0] 42) = w1 at *
  obtain ⟨bx, hbx⟩ : ∃ b, b = w.heap.size := ⟨_, rfl⟩
  have Lbx := Lib.hid (show w.heap.size ≤ bx by rw [hbx]; exact Nat.le_refl _)
  rw [← hbx] at B1 B2 ⊢
  clear hbx
  have c0 := (B1.out.keep0 (gb_refl _ _)).cell 0
  have c1 := (B1.out.keep0 (gb_refl _ _)).cell 1
  have c2 := (B1.out.keep0 (gb_refl _ _)).cell 2
  have c3 := (B1.out.keep0 (gb_refl _ _)).cell 3
  have c4 := (B1.out.keep0 (gb_refl _ _)).cell 4
  have c5 := (B1.out.keep0 (gb_refl _ _)).cell 5
  have c6 := (B1.out.keep0 (gb_refl _ _)).cell 6
  have c7 := (B1.out.keep0 (gb_refl _ _)).cell 7
  have c8 := (B1.out.keep0 (gb_refl _ _)).cell 8
  dsimp at c0 c1 c2 c3 c4 c5 c6 c7 c8
  go_wp2_with fail
  refine (K1.out _ G1.out).mono ?_
  rintro e9 w2 ⟨rfl, g⟩
  have G2 := Lib.hid (gb_trans G1.out g)
  have BP := Lib.hid (B1.out.keep0 g)
  have BQ := Lib.hid (B2.out.keep0 g)
  clear g K1 B1 B2 c0 c1 c2 c3 c4 c5 c6 c7 c8
  by_cases h0 : e0 = 0
  case neg =>
    have q0 : (e0 != 0) = true := by simp [h0]
    have Z := Lib.hid (show res = (newE H M, [], e0) by rw [HRES.out]; unfold pRun; rw [if_pos h0])
    have c0 := (BP.out.keep0 (gb_refl _ _)).cell 0
    have c1 := (BP.out.keep0 (gb_refl _ _)).cell 1
    have c2 := (BP.out.keep0 (gb_refl _ _)).cell 2
    have c3 := (BP.out.keep0 (gb_refl _ _)).cell 3
    have c4 := (BP.out.keep0 (gb_refl _ _)).cell 4
    have c5 := (BP.out.keep0 (gb_refl _ _)).cell 5
    have c6 := (BP.out.keep0 (gb_refl _ _)).cell 6
    have c7 := (BP.out.keep0 (gb_refl _ _)).cell 7
    have c8 := (BP.out.keep0 (gb_refl _ _)).cell 8
    dsimp at c0 c1 c2 c3 c4 c5 c6 c7 c8
    go_wp2_with fail
    refine (KE.out _ G2.out).mono ?_
    rintro e9 w3 ⟨X3, Vs3, rfl, oe, g⟩
    have OX3 := Lib.hid (oe.low G2.out.size)
    have G3 := Lib.hid (gb_trans G2.out g)
    replace BQ := Lib.hid (BQ.out.keep0 g)
    clear oe g c0 c1 c2 c3 c4 c5 c6 c7 c8
    have P4 := Lib.hid (put4 BQ.out (.slice X3.va X3.vn X3.vc) (.slice X3.fa X3.fn X3.fc) (.slice X3.ta X3.tn X3.tc) (.slice X3.pa X3.pn X3.pc))
    have OX4 := Lib.hid (OX3.out.kB P4.out.2 BQ.out (by decide) (by decide) (by decide) (by decide))
    have G4 := Lib.hid (gb_new (gb_trans (gb_any G3.out) P4.out.2) (Nat.le_trans Lbx.out (Nat.le_add_right _ _)))
    have y0 := (BQ.out.keep0 (gb_refl _ _)).cell 0
    have y1 := (BQ.out.keep0 (gb_refl _ _)).cell 1
    have y2 := (BQ.out.keep0 (gb_refl _ _)).cell 2
    have y3 := (BQ.out.keep0 (gb_refl _ _)).cell 3
    dsimp at y0 y1 y2 y3
    have f0 := BQ.out.free 0
    have f1 := BQ.out.free 1
    have f2 := BQ.out.free 2
    have f3 := BQ.out.free 3
    go_wp2
    have k0 := P4.out.1.cell 0
    have k1 := P4.out.1.cell 1
    have k2 := P4.out.1.cell 2
    have k3 := P4.out.1.cell 3
    dsimp at k0 k1 k2 k3
    rw [Z.out]
    have NXF := Lib.hid (show NL ((((w3.setCell ⟨bx + 1, 0, none⟩ (.slice X3.va X3.vn X3.vc)).setCell ⟨bx + 1, 1, none⟩ (.slice X3.fa X3.fn X3.fc)).setCell ⟨bx + 1, 2, none⟩ (.slice X3.ta X3.tn X3.tc)).setCell ⟨bx + 1, 3, none⟩ (.slice X3.pa X3.pn X3.pc)) w.heap.size (.slice none 0 0) [] from World.ownsRow_nil _ _ _ _)
    generalize ((((w3.setCell ⟨bx + 1, 0, none⟩ (.slice X3.va X3.vn X3.vc)).setCell ⟨bx + 1, 1, none⟩ (.slice X3.fa X3.fn X3.fc)).setCell ⟨bx + 1, 2, none⟩ (.slice X3.ta X3.tn X3.tc)).setCell ⟨bx + 1, 3, none⟩ (.slice X3.pa X3.pn X3.pc)) = w4 at *
    refine bodyPost_ret (v := .tuple #[.agg #[.slice X3.va X3.vn X3.vc, .slice X3.fa X3.fn X3.fc, .slice X3.ta X3.tn X3.tc, .slice X3.pa X3.pn X3.pc], .slice none 0 0, .int .i64 e0]) (by rw [results_cell3 rfl]; go_simp; try rfl) rfl ⟨X3, Vs3, _, rfl, OX4.out, NXF.out, G4.out⟩
  subst h0
  obtain ⟨he, hb, hn5⟩ := inE_zero HE0.out.symm
  have OKS := Lib.hid (HR.out.1 he)
  clear he hb hn5 HE0 HR
  have q0 : ((0 : Int) != 0) = false := by simp
  have c0 := (BP.out.keep0 (gb_refl _ _)).cell 0
  have c1 := (BP.out.keep0 (gb_refl _ _)).cell 1
  have c2 := (BP.out.keep0 (gb_refl _ _)).cell 2
  have c3 := (BP.out.keep0 (gb_refl _ _)).cell 3
  have c4 := (BP.out.keep0 (gb_refl _ _)).cell 4
  have c5 := (BP.out.keep0 (gb_refl _ _)).cell 5
  have c6 := (BP.out.keep0 (gb_refl _ _)).cell 6
  have c7 := (BP.out.keep0 (gb_refl _ _)).cell 7
  have c8 := (BP.out.keep0 (gb_refl _ _)).cell 8
  dsimp at c0 c1 c2 c3 c4 c5 c6 c7 c8
  go_upto_region 5 with (go_at_call 23; refine (KE.out _ G2.out).mono ?_; rintro e9 w3 ⟨X0, Vs0, rfl, oe, g⟩; have OX0 := Lib.hid oe; have G3 := Lib.hid g; clear oe g)
  clear c0 c1 c2 c3 c4 c5 c6 c7 c8
  have IE := Lib.hid (IsB.new w3 42 #[.slice X0.va X0.vn X0.vc, .slice X0.fa X0.fn X0.fc, .slice X0.ta X0.tn X0.tc, .slice X0.pa X0.pn X0.pc])
  have GE := Lib.hid (gb_trans G3.out (gb_alloc w3 (.cells #[.slice X0.va X0.vn X0.vc, .slice X0.fa X0.fn X0.fc, .slice X0.ta X0.tn X0.tc, .slice X0.pa X0.pn X0.pc] 42) none))
  have OX1 := Lib.hid (OX0.out.keep0 (gb_alloc w3 (.cells #[.slice X0.va X0.vn X0.vc, .slice X0.fa X0.fn X0.fc, .slice X0.ta X0.tn X0.tc, .slice X0.pa X0.pn X0.pc] 42) none))
  have LE := Lib.hid G3.out.size
  generalize w3.alloc (.cells #[.slice X0.va X0.vn X0.vc, .slice X0.fa X0.fn X0.fc, .slice X0.ta X0.tn X0.tc, .slice X0.pa X0.pn X0.pc] 42) = w6 at *
  generalize w3.heap.size = b8 at *
  clear OX0 G3
  go_upto_region 6 with (go_at_call 80; refine (rnew_anyh w6 da dn dc bs (HD.out.slr.keep0 (gb_trans G2.out GE.out)) BL.out).mono ?_; rintro e9 w7 ⟨ax, cx, rfl, g, o, nil⟩; have O7 := Lib.hid (own_low o GE.out.size); have G7 := Lib.hid g; have NIL := Lib.hid nil; clear o g nil)
  obtain ⟨n9, hn9⟩ : ∃ n, n = bs.length := ⟨_, rfl⟩
  rw [← hn9]
  have N9 := Lib.hid hn9
  have IR := Lib.hid (IsB.new w7 122 #[.slice ax n9 cx, .int .i64 0])
  have ga := gb_alloc w7 (.cells #[.slice ax n9 cx, .int .i64 0] 122) none
  have RS0 := Lib.hid (⟨(IE.out.keep0 G7.out).keep0 ga, IsB.new w7 122 #[.slice ax n9 cx, .int .i64 0], (OX1.out.keep0 G7.out).keep0 ga, World.ownsRow_nil _ _ _ _, own_keep0 O7.out ga, gb_trans (gb_trans GE.out G7.out) ga, LE.out, (gb_trans GE.out G7.out).size⟩ : RRs w2 b8 w7.heap.size ax n9 cx bs X0 (newE H M) Vs0 0 (.slice none 0 0) [] (w7.alloc (.cells #[.slice ax n9 cx, .int .i64 0] 122)))
  generalize w7.alloc (.cells #[.slice ax n9 cx, .int .i64 0] 122) = w8 at *
  generalize w7.heap.size = b9 at *
  clear hn9 IR ga IE OX1 O7 G7 GE LE
  obtain ⟨R9, hR9⟩ : ∃ R, R = pGo H bs S 12 0 [0] (newE H M) 0 := ⟨_, rfl⟩
  have Z := Lib.hid (show res = if R9.1 ≠ 0 then (newE H M, R9.2.1, R9.1) else (⟨R9.2.2.1.V, R9.2.2.1.F, R9.2.2.1.T, (restR bs R9.2.2.2).2⟩, R9.2.1, 0) by rw [HRES.out, hR9]; unfold pRun; rw [if_neg (by simp)])
  have H9 := Lib.hid hR9
  clear hR9 HRES
  go_wp2
  go_loopw [7, 10, 11] (fun s7 s10 s11 wr => ∃ (st : List Int) (L : EL) (pos : Nat) (X : EX) (Vs : List Value) (ea : Option Addr) (en ec : Nat) (x : Int), s7 = .int .i64 0 ∧ s10 = .slice ea en ec ∧ s11 = .int .i64 x ∧ RRs w2 b8 b9 ax n9 cx bs X L Vs pos (.slice ea en ec) st wr ∧ pos ≤ 8 * bs.length ∧ pos % 8 = 0 ∧ en = st.length ∧ st.length ≤ 12 ∧ L.V.length = hn ∧ L.F.length = hn ∧ L.T.length = mn ∧ L.P.length = 0 ∧ (∀ j, (L.F.getD j []).length ≤ 1000) ∧ ((∃ i f, x = ((i : Nat) : Int) ∧ i < sn ∧ st.length ≤ i ∧ sn ≤ i + f ∧ f ≤ 12 ∧ pGo H bs S f i (st ++ [x]) L pos = R9) ∨ (x = -2 ∧ (15, st, L, pos) = R9) ∨ (x = -1 ∧ (0, st, L, pos) = R9))) (fun s7 s10 s11 _ => rLeft sn s11)
  case atStart =>
    exact ⟨[], newE H M, 0, X0, Vs0, none, 0, 0, 0, rfl, rfl, rfl, RS0.out, Nat.zero_le _, rfl, rfl, Nat.zero_le _, by simp [newE, LH.out], by simp [newE, LH.out], by simp [newE, LM.out], rfl, fun j => by
      by_cases hj : j < H.length
      · rw [newE_row H M j hj, List.length_replicate]; exact FB.out j
      · rw [List.getD_eq_getElem?_getD, List.getElem?_eq_none (by simp [newE]; omega)]; simp, .inl ⟨0, 12, rfl, by have := OKS.out.1; rw [LS9.out] at this; exact this, Nat.le_refl _, by have := OKS.out.2.1; rw [LS9.out] at this; omega, Nat.le_refl _, H9.out.symm⟩⟩
  case round =>
    obtain ⟨st, L, pos, X, Vs, ea, en, ec, x, rfl, rfl, rfl, hrs, hp, h8, hen, hst, hlv, hlf, hlt, hlp, hrw, hor⟩ := hrel
    have RS := Lib.hid hrs
    have HP := Lib.hid hp
    have H8 := Lib.hid h8
    have EN := Lib.hid hen
    have HST := Lib.hid hst
    have LV := Lib.hid hlv
    have LF := Lib.hid hlf
    have LT := Lib.hid hlt
    have LP := Lib.hid hlp
    have RW := Lib.hid hrw
    clear hrs hp h8 hen hst hlv hlf hlt hlp hrw H9 RS0
    have BPr := Lib.hid (BP.out.keep0 RS.out.g)
    have BQr := Lib.hid (BQ.out.keep0 RS.out.g)
    have GR := Lib.hid (gb_trans G2.out RS.out.g)
    rcases hor with ⟨i, f, rfl, hi2, hsi, hfi, hf12, hgo⟩ | hend
    · have i0 : (0 : Int) ≤ (i : Int) := by omega
      have I2 := Lib.hid hi2
      have SI9 := Lib.hid hsi
      have FI := Lib.hid hfi
      have F12 := Lib.hid hf12
      obtain ⟨f, rfl⟩ : ∃ g, f = g + 1 := ⟨f - 1, by omega⟩
      have ST := Lib.hid (OKS.out.2.2 i (by rw [LS9.out]; exact hi2))
      have DE := Lib.hid (decl_ok ST.out.1)
      obtain ⟨ii0, hi, hz0, hz1, hz2⟩ := info_parts infoI64'
      have HI := Lib.hid hi
      have XN := Lib.hid (own_keep0 RS.out.en (gb_alloc wr (.cells #[.int .i64 (i : Int)] 3) none))
      have RSa := Lib.hid (RS.out.keep0 (gb_alloc wr (.cells #[.int .i64 (i : Int)] 3) none))
      have CX := Lib.hid (IsB.new wr 3 #[.int .i64 (i : Int)])
      obtain rfl := EN.out
      clear hi hi2 hsi hfi hf12
      obtain ⟨sd, hsd⟩ := HS.out.some (by have := I2.out; omega)
      subst hsd
      go_upto_region 10 with (at_builtin; refine wpList_append_own_at _ rfl _ _ 29 rfl w2.heap.size 3 ii0 (.int .i64 0) 1 8 Try.underlying29 HI.out hz0 hz1 hz2 rfl (by decide) _ st.length (st.map (Value.int .i64)) rfl XN.out ⟨wr.heap.size, 0, none⟩ 1 1 [.int .i64 (i : Int)] rfl rfl (by
        intro j u hj
        match j, hj with
        | 0, hj => simp at hj; subst hj; have := CX.out.cell 0; simp [Addr.add]) (by intro u hu; simp at hu; subst hu; rfl) (by unfold maxLen; have := HST.out; omega) (by have := HST.out; omega) (by have := RS.out.g.size; simp; omega) ?_; intro V2 w5 hown hgrow _ _; have RS5 := Lib.hid (RSa.out.push hgrow (show NL w5 w2.heap.size V2 (st ++ [(i : Int)]) by unfold NL; simpa using hown)); clear hown hgrow)
      obtain ⟨n5, hn5⟩ : ∃ n, n = (st ++ [(i : Int)]).length := ⟨_, rfl⟩
      obtain ⟨e5, c5, hV5⟩ := own_shape RS5.out.en
      rw [← hn5] at hV5
      subst hV5
      have N5 := Lib.hid hn5
      clear hn5 XN RSa CX HI hz0 hz1 hz2
      have KEEP := Lib.hid (pExs_keeps (H := H) (bs := bs) (S.getD i psz).ex (L := L) (pos := pos) HP.out H8.out)
      have ROWS := Lib.hid (pExs_rows (H := H) (bs := bs) ZH.out (S.getD i psz).ex (L := L) (pos := pos) HP.out H8.out RW.out)
      obtain ⟨R, hR⟩ : ∃ R, R = pExs H bs (S.getD i psz).ex L pos := ⟨_, rfl⟩
      obtain ⟨v9, hv9⟩ : ∃ v, v = getE R.2.1.V R.2.1.F R.2.1.T (S.getD i psz).h (S.getD i psz).f := ⟨_, rfl⟩
      obtain ⟨x2, hx2⟩ : ∃ x, x = pNext (S.getD i psz).cs (S.getD i psz).df v9 := ⟨_, rfl⟩
      have GO := Lib.hid ((pGo_step (f := f) (st := st ++ [(i : Int)]) R hR.symm x2 (by rw [hx2, hv9])).symm.trans hgo)
      have NX := Lib.hid (show nxB S.length i x2 = true by rw [hx2]; exact next_ok ST.out _)
      rw [← hR] at KEEP ROWS
      obtain ⟨k0, ⟨xa, xn, xc, k1, hX⟩, k2, k3, k4, ⟨ca, cn, cc, k5, hC⟩, k6⟩ := HS.out.cells sd rfl i I2.out
      have CO := Lib.hid (case_ok ST.out (fun k hk => sca_rng hC k hk))
      have GX := Lib.hid (gb_trans (gb_trans G2.out RS5.out.g) (gb_drew w5 none))
      have D0 := Lib.hid (GX.out.cell k0 (by simp))
      have D1 := Lib.hid (GX.out.cell k1 (by simp))
      have D2 := Lib.hid (GX.out.cell k2 (by simp))
      have D3 := Lib.hid (GX.out.cell k3 (by simp))
      have D4 := Lib.hid (GX.out.cell k4 (by simp))
      have D5 := Lib.hid (GX.out.cell k5 (by simp))
      have D6 := Lib.hid (GX.out.cell k6 (by simp))
      have F0 := Lib.hid k0
      have F1 := Lib.hid k1
      have F2 := Lib.hid k2
      have F3 := Lib.hid k3
      have F4 := Lib.hid k4
      have F5 := Lib.hid k5
      have F6 := Lib.hid k6
      have HXs := Lib.hid hX
      have HCs := Lib.hid hC
      have LCs := Lib.hid hC.len
      clear k0 k1 k2 k3 k4 k5 k6 hX hC hgo ST
      have RSd := Lib.hid (RS5.out.keep0 (gb_drew w5 none))
      have BPd := Lib.hid (BP.out.keep0 RSd.out.g)
      obtain ⟨er, L2, p2⟩ := R
      dsimp only at KEEP ROWS GO hv9
      generalize (S.getD i psz).nm = s0 at *
      generalize (S.getD i psz).ex = ex at *
      generalize (S.getD i psz).sl = sl at *
      generalize (S.getD i psz).h = h9 at *
      generalize (S.getD i psz).f = f9 at *
      generalize (S.getD i psz).cs = cs at *
      generalize (S.getD i psz).df = df at *
      have KX := Lib.hid (rext_any w5.drew (.string nm) (.slice rA rN rC) (.slice xA xN xC) (.slice tA tN tC) (.slice kA kN kC) (.slice dA dN dC) ha ma (some sd) hn hc mn mc sn sc s0 xa ca xn xc cn cc sl h9 f9 df X L ax n9 cx bs pos H (HH.out.keep0 GX.out) ZH.out ex (HXs.out.keep0 GX.out) (by have q := DE.out.1; rw [LH.out] at q; exact q) (by have := DE.out.2.1; omega) RSd.out.pk.er w2.heap.size RSd.out.rw RSd.out.g.size (fun x hx => by have := HD.out.rng x hx; omega) BL.out N9.out.symm HP.out H8.out (by have z := RSd.out.pk.vl; rw [LV.out] at z; exact z.symm) (by have z := RSd.out.pk.fl; rw [LF.out] at z; exact z.symm) (by have z := RSd.out.pk.tl; rw [LT.out] at z; have := MN9.out; omega) (by have z := RSd.out.pk.pl; rw [LP.out] at z; omega) HN9.out RW.out (er, L2, p2) hR)
      dsimp only at KX
      have HV9 := Lib.hid hv9
      have HX2 := Lib.hid hx2
      clear hR hv9 hx2
      have i1 : (i : Int) < sn := by have := I2.out; omega
      have hF0 : (fun w' : World => w'.cell? ⟨bx, 0, none⟩ = some (.string nm) ∧ w'.cell? ⟨bx, 1, none⟩ = some (.slice ha hn hc) ∧ w'.cell? ⟨bx, 2, none⟩ = some (.slice ma mn mc) ∧ w'.cell? ⟨bx, 3, none⟩ = some (.slice rA rN rC) ∧ w'.cell? ⟨bx, 4, none⟩ = some (.slice xA xN xC) ∧ w'.cell? ⟨bx, 5, none⟩ = some (.slice tA tN tC) ∧ w'.cell? ⟨bx, 6, none⟩ = some (.slice (some sd) sn sc) ∧ w'.cell? ⟨bx, 7, none⟩ = some (.slice kA kN kC) ∧ w'.cell? ⟨bx, 8, none⟩ = some (.slice dA dN dC) ∧ w'.cell? (sd.add (i * 7)) = some (.string s0) ∧ w'.cell? ⟨(sd.add (i * 7)).block, (sd.add (i * 7)).off + 1, none⟩ = some (.slice xa xn xc) ∧ w'.cell? ⟨(sd.add (i * 7)).block, (sd.add (i * 7)).off + 2, none⟩ = some (.bool sl) ∧ w'.cell? ⟨(sd.add (i * 7)).block, (sd.add (i * 7)).off + 3, none⟩ = some (.int .i64 h9) ∧ w'.cell? ⟨(sd.add (i * 7)).block, (sd.add (i * 7)).off + 4, none⟩ = some (.int .i64 f9) ∧ w'.cell? ⟨(sd.add (i * 7)).block, (sd.add (i * 7)).off + 5, none⟩ = some (.slice ca cn cc) ∧ w'.cell? ⟨(sd.add (i * 7)).block, (sd.add (i * 7)).off + 6, none⟩ = some (.int .i64 df) ∧ w'.cell? ⟨b8, 0, none⟩ = some (.slice X.va X.vn X.vc) ∧ w'.cell? ⟨b8, 1, none⟩ = some (.slice X.fa X.fn X.fc) ∧ w'.cell? ⟨b8, 2, none⟩ = some (.slice X.ta X.tn X.tc) ∧ w'.cell? ⟨b8, 3, none⟩ = some (.slice X.pa X.pn X.pc) ∧ w'.cell? ⟨b9, 0, none⟩ = some (.slice ax n9 cx) ∧ w'.cell? ⟨b9, 1, none⟩ = some (.int .i64 (pos : Int))) w5.drew := ⟨(BPd.out).cell 0, (BPd.out).cell 1, (BPd.out).cell 2, (BPd.out).cell 3, (BPd.out).cell 4, (BPd.out).cell 5, (BPd.out).cell 6, (BPd.out).cell 7, (BPd.out).cell 8, D0.out, D1.out, D2.out, D3.out, D4.out, D5.out, D6.out, RSd.out.e.cell 0, RSd.out.e.cell 1, RSd.out.e.cell 2, RSd.out.e.cell 3, RSd.out.r.cell 0, RSd.out.r.cell 1⟩
      refine wp_region_S (fun w' : World => w'.cell? ⟨bx, 0, none⟩ = some (.string nm) ∧ w'.cell? ⟨bx, 1, none⟩ = some (.slice ha hn hc) ∧ w'.cell? ⟨bx, 2, none⟩ = some (.slice ma mn mc) ∧ w'.cell? ⟨bx, 3, none⟩ = some (.slice rA rN rC) ∧ w'.cell? ⟨bx, 4, none⟩ = some (.slice xA xN xC) ∧ w'.cell? ⟨bx, 5, none⟩ = some (.slice tA tN tC) ∧ w'.cell? ⟨bx, 6, none⟩ = some (.slice (some sd) sn sc) ∧ w'.cell? ⟨bx, 7, none⟩ = some (.slice kA kN kC) ∧ w'.cell? ⟨bx, 8, none⟩ = some (.slice dA dN dC) ∧ w'.cell? (sd.add (i * 7)) = some (.string s0) ∧ w'.cell? ⟨(sd.add (i * 7)).block, (sd.add (i * 7)).off + 1, none⟩ = some (.slice xa xn xc) ∧ w'.cell? ⟨(sd.add (i * 7)).block, (sd.add (i * 7)).off + 2, none⟩ = some (.bool sl) ∧ w'.cell? ⟨(sd.add (i * 7)).block, (sd.add (i * 7)).off + 3, none⟩ = some (.int .i64 h9) ∧ w'.cell? ⟨(sd.add (i * 7)).block, (sd.add (i * 7)).off + 4, none⟩ = some (.int .i64 f9) ∧ w'.cell? ⟨(sd.add (i * 7)).block, (sd.add (i * 7)).off + 5, none⟩ = some (.slice ca cn cc) ∧ w'.cell? ⟨(sd.add (i * 7)).block, (sd.add (i * 7)).off + 6, none⟩ = some (.int .i64 df) ∧ w'.cell? ⟨b8, 0, none⟩ = some (.slice X.va X.vn X.vc) ∧ w'.cell? ⟨b8, 1, none⟩ = some (.slice X.fa X.fn X.fc) ∧ w'.cell? ⟨b8, 2, none⟩ = some (.slice X.ta X.tn X.tc) ∧ w'.cell? ⟨b8, 3, none⟩ = some (.slice X.pa X.pn X.pc) ∧ w'.cell? ⟨b9, 0, none⟩ = some (.slice ax n9 cx) ∧ w'.cell? ⟨b9, 1, none⟩ = some (.int .i64 (pos : Int))) 13 (by kernel_rfl) ?_
      refine wpAnyS_load 8 (i := 0) (v := ?v8) rfl (by kernel_rfl) (by kernel_rfl) (by kernel_rfl) (by kernel_rfl) (fun _ _ _ h => h) (Or.inl ⟨by rfl, ?hy8⟩) (by assumption) ?rest8
      case hy8 => (intro wz hSw; (try dsimp only at hSw); first | (go_simp; done) | (go_simp; with_reducible rfl))
      try simp only [Act.put, List.getElem_toArray, List.getElem_cons_zero, List.setIfInBounds_toArray, List.set_cons_zero, List.set_cons_succ]
      refine wpAnyS_pure (i := 1) (v := ?v9) rfl (by kernel_rfl) (by kernel_rfl) (by kernel_rfl) (by decide) (fun _ _ _ h => h) (Or.inl ⟨by rfl, ?hy9⟩) (Or.inr (by assumption)) ?rest9
      case hy9 => (intro wz hSw; (try dsimp only at hSw); first | (go_simp; done) | (go_simp; with_reducible rfl))
      try simp only [Act.put, List.getElem_toArray, List.getElem_cons_succ, List.getElem_cons_zero, List.setIfInBounds_toArray, List.set_cons_zero, List.set_cons_succ]
      refine wpAnyS_load 4 (i := 2) (v := ?v10) rfl (by kernel_rfl) (by kernel_rfl) (by kernel_rfl) (by kernel_rfl) (fun _ _ _ h => h) (Or.inl ⟨by rfl, ?hy10⟩) (by assumption) ?rest10
      case hy10 => (intro wz hSw; (try dsimp only at hSw); first | (go_simp; done) | (go_simp; with_reducible rfl))
      try simp only [Act.put, List.getElem_toArray, List.getElem_cons_succ, List.getElem_cons_zero, List.setIfInBounds_toArray, List.set_cons_zero, List.set_cons_succ]
      refine wpAnyS_pure (i := 3) (v := ?v11) rfl (by kernel_rfl) (by kernel_rfl) (by kernel_rfl) (by decide) (fun _ _ _ h => h) (Or.inl ⟨by rfl, ?hy11⟩) (Or.inr (by assumption)) ?rest11
      case hy11 => (intro wz hSw; (try dsimp only at hSw); first | (go_simp; done) | (go_simp; with_reducible rfl))
      try simp only [Act.put, List.getElem_toArray, List.getElem_cons_succ, List.getElem_cons_zero, List.setIfInBounds_toArray, List.set_cons_zero, List.set_cons_succ]
      refine wpAnyS_pure (i := 4) (v := ?v12) rfl (by kernel_rfl) (by kernel_rfl) (by kernel_rfl) (by decide) (fun _ _ _ h => h) (Or.inl ⟨by rfl, ?hy12⟩) (Or.inr (by assumption)) ?rest12
      case hy12 => (intro wz hSw; (try dsimp only at hSw); first | (go_simp; done) | (go_simp; with_reducible rfl))
      try simp only [Act.put, List.getElem_toArray, List.getElem_cons_succ, List.getElem_cons_zero, List.setIfInBounds_toArray, List.set_cons_zero, List.set_cons_succ]
      refine wpAnyS_load 8 (i := 5) (v := ?v13) rfl (by kernel_rfl) (by kernel_rfl) (by kernel_rfl) (by kernel_rfl) (fun _ _ _ h => h) (Or.inl ⟨by rfl, ?hy13⟩) (by assumption) ?rest13
      case hy13 => (intro wz hSw; (try dsimp only at hSw); first | (go_simp; done) | (go_simp; with_reducible rfl))
      try simp only [Act.put, List.getElem_toArray, List.getElem_cons_succ, List.getElem_cons_zero, List.setIfInBounds_toArray, List.set_cons_zero, List.set_cons_succ]
      refine wpAnyS_load 8 (i := 6) (v := ?v14) rfl (by kernel_rfl) (by kernel_rfl) (by kernel_rfl) (by kernel_rfl) (fun _ _ _ h => h) (Or.inl ⟨by rfl, ?hy14⟩) (by assumption) ?rest14
      case hy14 => (intro wz hSw; (try dsimp only at hSw); first | (go_simp; done) | (go_simp; with_reducible rfl))
      try simp only [Act.put, List.getElem_toArray, List.getElem_cons_succ, List.getElem_cons_zero, List.setIfInBounds_toArray, List.set_cons_zero, List.set_cons_succ]
      refine wpAnyS_load 8 (i := 7) (v := ?v15) rfl (by kernel_rfl) (by kernel_rfl) (by kernel_rfl) (by kernel_rfl) (fun _ _ _ h => h) (Or.inl ⟨by rfl, ?hy15⟩) (by assumption) ?rest15
      case hy15 => (intro wz hSw; (try dsimp only at hSw); first | (go_simp; done) | (go_simp; with_reducible rfl))
      try simp only [Act.put, List.getElem_toArray, List.getElem_cons_succ, List.getElem_cons_zero, List.setIfInBounds_toArray, List.set_cons_zero, List.set_cons_succ]
      refine wpAnyS_one (i := 8) (o := _) (by kernel_rfl) rfl (fun K hK => ?_)
      go_simp
      (with_reducible refine (KX.out).mono ?_)
      rintro e qw1 ⟨X2, rfl, eo, g9⟩
      have EO2 := Lib.hid eo
      clear eo
      have hF9 : (fun w' : World => w'.cell? ⟨bx, 0, none⟩ = some (.string nm) ∧ w'.cell? ⟨bx, 1, none⟩ = some (.slice ha hn hc) ∧ w'.cell? ⟨bx, 2, none⟩ = some (.slice ma mn mc) ∧ w'.cell? ⟨bx, 3, none⟩ = some (.slice rA rN rC) ∧ w'.cell? ⟨bx, 4, none⟩ = some (.slice xA xN xC) ∧ w'.cell? ⟨bx, 5, none⟩ = some (.slice tA tN tC) ∧ w'.cell? ⟨bx, 6, none⟩ = some (.slice (some sd) sn sc) ∧ w'.cell? ⟨bx, 7, none⟩ = some (.slice kA kN kC) ∧ w'.cell? ⟨bx, 8, none⟩ = some (.slice dA dN dC) ∧ w'.cell? (sd.add (i * 7)) = some (.string s0) ∧ w'.cell? ⟨(sd.add (i * 7)).block, (sd.add (i * 7)).off + 1, none⟩ = some (.slice xa xn xc) ∧ w'.cell? ⟨(sd.add (i * 7)).block, (sd.add (i * 7)).off + 2, none⟩ = some (.bool sl) ∧ w'.cell? ⟨(sd.add (i * 7)).block, (sd.add (i * 7)).off + 3, none⟩ = some (.int .i64 h9) ∧ w'.cell? ⟨(sd.add (i * 7)).block, (sd.add (i * 7)).off + 4, none⟩ = some (.int .i64 f9) ∧ w'.cell? ⟨(sd.add (i * 7)).block, (sd.add (i * 7)).off + 5, none⟩ = some (.slice ca cn cc) ∧ w'.cell? ⟨(sd.add (i * 7)).block, (sd.add (i * 7)).off + 6, none⟩ = some (.int .i64 df) ∧ w'.cell? ⟨b8, 0, none⟩ = some (.slice X.va X.vn X.vc) ∧ w'.cell? ⟨b8, 1, none⟩ = some (.slice X.fa X.fn X.fc) ∧ w'.cell? ⟨b8, 2, none⟩ = some (.slice X.ta X.tn X.tc) ∧ w'.cell? ⟨b8, 3, none⟩ = some (.slice X.pa X.pn X.pc) ∧ w'.cell? ⟨b9, 0, none⟩ = some (.slice ax n9 cx) ∧ w'.cell? ⟨b9, 1, none⟩ = some (.int .i64 (pos : Int))) qw1 := ⟨g9.cell (hF0.1) (by simp), g9.cell (hF0.2.1) (by simp), g9.cell (hF0.2.2.1) (by simp), g9.cell (hF0.2.2.2.1) (by simp), g9.cell (hF0.2.2.2.2.1) (by simp), g9.cell (hF0.2.2.2.2.2.1) (by simp), g9.cell (hF0.2.2.2.2.2.2.1) (by simp), g9.cell (hF0.2.2.2.2.2.2.2.1) (by simp), g9.cell (hF0.2.2.2.2.2.2.2.2.1) (by simp), g9.cell (hF0.2.2.2.2.2.2.2.2.2.1) (by simp), g9.cell (hF0.2.2.2.2.2.2.2.2.2.2.1) (by simp), g9.cell (hF0.2.2.2.2.2.2.2.2.2.2.2.1) (by simp), g9.cell (hF0.2.2.2.2.2.2.2.2.2.2.2.2.1) (by simp), g9.cell (hF0.2.2.2.2.2.2.2.2.2.2.2.2.2.1) (by simp), g9.cell (hF0.2.2.2.2.2.2.2.2.2.2.2.2.2.2.1) (by simp), g9.cell (hF0.2.2.2.2.2.2.2.2.2.2.2.2.2.2.2.1) (by simp), g9.cell (hF0.2.2.2.2.2.2.2.2.2.2.2.2.2.2.2.2.1) (by simp), g9.cell (hF0.2.2.2.2.2.2.2.2.2.2.2.2.2.2.2.2.2.1) (by simp), g9.cell (hF0.2.2.2.2.2.2.2.2.2.2.2.2.2.2.2.2.2.2.1) (by simp), g9.cell (hF0.2.2.2.2.2.2.2.2.2.2.2.2.2.2.2.2.2.2.2.1) (by simp), g9.cell (hF0.2.2.2.2.2.2.2.2.2.2.2.2.2.2.2.2.2.2.2.2.1) (by simp), g9.cell (hF0.2.2.2.2.2.2.2.2.2.2.2.2.2.2.2.2.2.2.2.2.2) (by simp)⟩
      clear hF0
      have hF1 : (fun w' : World => w'.cell? ⟨bx, 0, none⟩ = some (.string nm) ∧ w'.cell? ⟨bx, 1, none⟩ = some (.slice ha hn hc) ∧ w'.cell? ⟨bx, 2, none⟩ = some (.slice ma mn mc) ∧ w'.cell? ⟨bx, 3, none⟩ = some (.slice rA rN rC) ∧ w'.cell? ⟨bx, 4, none⟩ = some (.slice xA xN xC) ∧ w'.cell? ⟨bx, 5, none⟩ = some (.slice tA tN tC) ∧ w'.cell? ⟨bx, 6, none⟩ = some (.slice (some sd) sn sc) ∧ w'.cell? ⟨bx, 7, none⟩ = some (.slice kA kN kC) ∧ w'.cell? ⟨bx, 8, none⟩ = some (.slice dA dN dC) ∧ w'.cell? (sd.add (i * 7)) = some (.string s0) ∧ w'.cell? ⟨(sd.add (i * 7)).block, (sd.add (i * 7)).off + 1, none⟩ = some (.slice xa xn xc) ∧ w'.cell? ⟨(sd.add (i * 7)).block, (sd.add (i * 7)).off + 2, none⟩ = some (.bool sl) ∧ w'.cell? ⟨(sd.add (i * 7)).block, (sd.add (i * 7)).off + 3, none⟩ = some (.int .i64 h9) ∧ w'.cell? ⟨(sd.add (i * 7)).block, (sd.add (i * 7)).off + 4, none⟩ = some (.int .i64 f9) ∧ w'.cell? ⟨(sd.add (i * 7)).block, (sd.add (i * 7)).off + 5, none⟩ = some (.slice ca cn cc) ∧ w'.cell? ⟨(sd.add (i * 7)).block, (sd.add (i * 7)).off + 6, none⟩ = some (.int .i64 df) ∧ w'.cell? ⟨b8, 0, none⟩ = some (.slice X.va X.vn X.vc) ∧ w'.cell? ⟨b8, 1, none⟩ = some (.slice X.fa X.fn X.fc) ∧ w'.cell? ⟨b8, 2, none⟩ = some (.slice X.ta X.tn X.tc) ∧ w'.cell? ⟨b8, 3, none⟩ = some (.slice X.pa X.pn X.pc) ∧ w'.cell? ⟨b9, 0, none⟩ = some (.slice ax n9 cx) ∧ w'.cell? ⟨b9, 1, none⟩ = some (.int .i64 (pos : Int))) qw1 := hF9
      try dsimp only
      refine hK.out _ _ (Or.inr hF1) (fun _ => ?_)
      clear hK K
      try simp only [Act.put, List.getElem_toArray, List.getElem_cons_succ, List.getElem_cons_zero, List.setIfInBounds_toArray, List.set_cons_zero, List.set_cons_succ]
      clear hF9
      have G9 := Lib.hid g9
      clear g9
      have RS6 := Lib.hid (RSd.out.keep0 G9.out)
      obtain ⟨Vs2, ox2⟩ := eo_own (EO2.out) (RSd.out.pk.keep0 G9.out) RSd.out.g.size
      have OX2 := Lib.hid ox2
      clear ox2
      refine wpAnyS_pure (i := 9) (v := ?v16) rfl (by kernel_rfl) (by kernel_rfl) (by kernel_rfl) (by decide) (fun _ _ _ h => h) (Or.inl ⟨by rfl, ?hy16⟩) (Or.inr (by assumption)) ?rest16
      case hy16 => (intro wz hSw; (try dsimp only at hSw); first | (go_simp; done) | (go_simp; with_reducible rfl))
      try simp only [Act.put, List.getElem_toArray, List.getElem_cons_succ, List.getElem_cons_zero, List.setIfInBounds_toArray, List.set_cons_zero, List.set_cons_succ]
      refine wpAnyS_pure (i := 10) (v := ?v17) rfl (by kernel_rfl) (by kernel_rfl) (by kernel_rfl) (by decide) (fun _ _ _ h => h) (Or.inl ⟨by rfl, ?hy17⟩) (Or.inr (by assumption)) ?rest17
      case hy17 => (intro wz hSw; (try dsimp only at hSw); first | (go_simp; done) | (go_simp; with_reducible rfl))
      try simp only [Act.put, List.getElem_toArray, List.getElem_cons_succ, List.getElem_cons_zero, List.setIfInBounds_toArray, List.set_cons_zero, List.set_cons_succ]
      refine wpAnyS_pure (i := 11) (v := ?v18) rfl (by kernel_rfl) (by kernel_rfl) (by kernel_rfl) (by decide) (fun _ _ _ h => h) (Or.inl ⟨by rfl, ?hy18⟩) (Or.inr (by assumption)) ?rest18
      case hy18 => (intro wz hSw; (try dsimp only at hSw); first | (go_simp; done) | (go_simp; with_reducible rfl))
      try simp only [Act.put, List.getElem_toArray, List.getElem_cons_succ, List.getElem_cons_zero, List.setIfInBounds_toArray, List.set_cons_zero, List.set_cons_succ]
      refine wpAnyS_pure (i := 12) (v := ?v19) rfl (by kernel_rfl) (by kernel_rfl) (by kernel_rfl) (by decide) (fun _ _ _ h => h) (Or.inl ⟨by rfl, ?hy19⟩) (Or.inr (by assumption)) ?rest19
      case hy19 => (intro wz hSw; (try dsimp only at hSw); first | (go_simp; done) | (go_simp; with_reducible rfl))
      try simp only [Act.put, List.getElem_toArray, List.getElem_cons_succ, List.getElem_cons_zero, List.setIfInBounds_toArray, List.set_cons_zero, List.set_cons_succ]
      have P4 := Lib.hid (put4 RS6.out.e (.slice X2.va X2.vn X2.vc) (.slice X2.fa X2.fn X2.fc) (.slice X2.ta X2.tn X2.tc) (.slice X2.pa X2.pn X2.pc))
      have RS7 := Lib.hid (RS6.out.setE OX2.out P4.out.2 P4.out.1)
      have y0 := RS6.out.e.cell 0
      have y1 := RS6.out.e.cell 1
      have y2 := RS6.out.e.cell 2
      have y3 := RS6.out.e.cell 3
      have f0 := RS6.out.e.free 0
      have f1 := RS6.out.e.free 1
      have f2 := RS6.out.e.free 2
      have f3 := RS6.out.e.free 3
      dsimp at y0 y1 y2 y3
      refine wpAnyS_one (i := 13) (o := _) (by kernel_rfl) rfl (fun K hK => ?_)
      go_simp
      refine hK.out _ _ (Or.inl (by kernel_rfl)) (fun _ => ?_)
      clear hK K
      try simp only [Act.put, List.getElem_toArray, List.getElem_cons_succ, List.getElem_cons_zero, List.setIfInBounds_toArray, List.set_cons_zero, List.set_cons_succ]
      clear y0 y1 y2 y3 f0 f1 f2 f3 P4
      generalize ((((qw1.setCell ⟨b8, 0, none⟩ (.slice X2.va X2.vn X2.vc)).setCell ⟨b8, 1, none⟩ (.slice X2.fa X2.fn X2.fc)).setCell ⟨b8, 2, none⟩ (.slice X2.ta X2.tn X2.tc)).setCell ⟨b8, 3, none⟩ (.slice X2.pa X2.pn X2.pc)) = w7 at *
      have P2 := Lib.hid (put2 RS7.out.r (.slice ax n9 cx) (.int .i64 (p2 : Int)))
      have RS8 := Lib.hid (RS7.out.setR P2.out.2 P2.out.1)
      have y0 := RS7.out.r.cell 0
      have y1 := RS7.out.r.cell 1
      have f0 := RS7.out.r.free 0
      have f1 := RS7.out.r.free 1
      dsimp at y0 y1
      refine wpAnyS_one (i := 14) (o := _) (by kernel_rfl) rfl (fun K hK => ?_)
      go_simp
      refine hK.out _ _ (Or.inl (by kernel_rfl)) (fun _ => ?_)
      clear hK K
      try simp only [Act.put, List.getElem_toArray, List.getElem_cons_succ, List.getElem_cons_zero, List.setIfInBounds_toArray, List.set_cons_zero, List.set_cons_succ]
      clear y0 y1 f0 f1 P2
      generalize ((w7.setCell ⟨b9, 0, none⟩ (.slice ax n9 cx)).setCell ⟨b9, 1, none⟩ (.int .i64 (p2 : Int))) = w8 at *
      refine wpAnyS_pure (i := 15) (v := ?v20) rfl (by kernel_rfl) (by kernel_rfl) (by kernel_rfl) (by decide) (fun _ _ _ h => h) (Or.inl ⟨by rfl, ?hy20⟩) (Or.inl (by kernel_rfl)) ?rest20
      case hy20 => (intro wz hSw; (try dsimp only at hSw); first | (go_simp; done) | (go_simp; with_reducible rfl))
      try simp only [Act.put, List.getElem_toArray, List.getElem_cons_succ, List.getElem_cons_zero, List.setIfInBounds_toArray, List.set_cons_zero, List.set_cons_succ]
      refine wpAnyS_done (by kernel_rfl) ?_ _
      have BP8 := Lib.hid (BP.out.keep0 RS8.out.g)
      have GR8 := Lib.hid (gb_trans G2.out RS8.out.g)
      clear RS RS5 RSd RS6 RS7 KX BPd EO2 OX2 D0 D1 D2 D3 D4 D5 D6
      by_cases hr9 : er = 0
      case neg =>
        have q1 : (er != 0) = true := by simp [hr9]
        have Z2 := Lib.hid (show res = (newE H M, st ++ [(i : Int)], er) by
          have z := GO.out
          rw [if_neg hr9] at z
          rw [Z.out, ← z]
          exact if_pos hr9)
        clear hr9 Z
        have Z := Z2
        clear Z2
        replace BP := BP8
        replace BQ := Lib.hid (BQ.out.keep0 RS8.out.g)
        have c0 := (BP.out.keep0 (gb_refl _ _)).cell 0
        have c1 := (BP.out.keep0 (gb_refl _ _)).cell 1
        have c2 := (BP.out.keep0 (gb_refl _ _)).cell 2
        have c3 := (BP.out.keep0 (gb_refl _ _)).cell 3
        have c4 := (BP.out.keep0 (gb_refl _ _)).cell 4
        have c5 := (BP.out.keep0 (gb_refl _ _)).cell 5
        have c6 := (BP.out.keep0 (gb_refl _ _)).cell 6
        have c7 := (BP.out.keep0 (gb_refl _ _)).cell 7
        have c8 := (BP.out.keep0 (gb_refl _ _)).cell 8
        dsimp at c0 c1 c2 c3 c4 c5 c6 c7 c8
        go_wp2_with fail
        refine (KE.out _ GR8.out).mono ?_
        rintro e9 w3 ⟨X3, Vs3, rfl, oe, g⟩
        have OX3 := Lib.hid (oe.low GR8.out.size)
        have G3 := Lib.hid (gb_trans GR8.out g)
        replace BQ := Lib.hid (BQ.out.keep0 g)
        have NX3 := Lib.hid (own_keep0 (own_low RS8.out.en G2.out.size) g)
        clear oe g c0 c1 c2 c3 c4 c5 c6 c7 c8
        have P4 := Lib.hid (put4 BQ.out (.slice X3.va X3.vn X3.vc) (.slice X3.fa X3.fn X3.fc) (.slice X3.ta X3.tn X3.tc) (.slice X3.pa X3.pn X3.pc))
        have OX4 := Lib.hid (OX3.out.kB P4.out.2 BQ.out (by decide) (by decide) (by decide) (by decide))
        have G4 := Lib.hid (gb_new (gb_trans (gb_any G3.out) P4.out.2) (Nat.le_trans Lbx.out (Nat.le_add_right _ _)))
        have y0 := (BQ.out.keep0 (gb_refl _ _)).cell 0
        have y1 := (BQ.out.keep0 (gb_refl _ _)).cell 1
        have y2 := (BQ.out.keep0 (gb_refl _ _)).cell 2
        have y3 := (BQ.out.keep0 (gb_refl _ _)).cell 3
        dsimp at y0 y1 y2 y3
        have f0 := BQ.out.free 0
        have f1 := BQ.out.free 1
        have f2 := BQ.out.free 2
        have f3 := BQ.out.free 3
        go_wp2
        have k0 := P4.out.1.cell 0
        have k1 := P4.out.1.cell 1
        have k2 := P4.out.1.cell 2
        have k3 := P4.out.1.cell 3
        dsimp at k0 k1 k2 k3
        rw [Z.out]
        have NXF := Lib.hid (show NL ((((w3.setCell ⟨bx + 1, 0, none⟩ (.slice X3.va X3.vn X3.vc)).setCell ⟨bx + 1, 1, none⟩ (.slice X3.fa X3.fn X3.fc)).setCell ⟨bx + 1, 2, none⟩ (.slice X3.ta X3.tn X3.tc)).setCell ⟨bx + 1, 3, none⟩ (.slice X3.pa X3.pn X3.pc)) w.heap.size (.slice e5 n5 c5) (st ++ [(i : Int)]) from own_keepS NX3.out P4.out.2 BQ.out (by decide))
        generalize ((((w3.setCell ⟨bx + 1, 0, none⟩ (.slice X3.va X3.vn X3.vc)).setCell ⟨bx + 1, 1, none⟩ (.slice X3.fa X3.fn X3.fc)).setCell ⟨bx + 1, 2, none⟩ (.slice X3.ta X3.tn X3.tc)).setCell ⟨bx + 1, 3, none⟩ (.slice X3.pa X3.pn X3.pc)) = w4 at *
        refine bodyPost_ret (v := .tuple #[.agg #[.slice X3.va X3.vn X3.vc, .slice X3.fa X3.fn X3.fc, .slice X3.ta X3.tn X3.tc, .slice X3.pa X3.pn X3.pc], .slice e5 n5 c5, .int .i64 er]) (by rw [results_cell3 rfl]; go_simp; try rfl) rfl ⟨X3, Vs3, _, rfl, OX4.out, NXF.out, G4.out⟩
      subst hr9
      have q1 : ((0 : Int) != 0) = false := by simp
      have E0 := Lib.hid (GR8.out.cell F0.out (by simp))
      have E1 := Lib.hid (GR8.out.cell F1.out (by simp))
      have E2 := Lib.hid (GR8.out.cell F2.out (by simp))
      have E3 := Lib.hid (GR8.out.cell F3.out (by simp))
      have E4 := Lib.hid (GR8.out.cell F4.out (by simp))
      have E5 := Lib.hid (GR8.out.cell F5.out (by simp))
      have E6 := Lib.hid (GR8.out.cell F6.out (by simp))
      have KT := Lib.hid (fun (W : World) (q : w8.grownBy W none) => rtrans_any W s0 xa ca xn xc cn cc sl h9 f9 df X2 L2 (RS8.out.pk.er.keep0 q) cs (HCs.out.keep0SCa (gb_trans GR8.out q)) (by have := LCs.out; have := DE.out.2.2.1; omega) CO.out DE.out.2.2.2 v9 x2 HV9.out HX2.out)
      unfold RetV at KT
      go_upto_region 13 with fail
      have KV := Lib.hid (fun (w' : World) (q0 : w8.grownBy w' none) => (⟨(BP8.out.keep0 q0).cell 6, q0.cell E0.out (by simp), q0.cell E1.out (by simp), q0.cell E2.out (by simp), q0.cell E3.out (by simp), q0.cell E4.out (by simp), q0.cell E5.out (by simp), q0.cell E6.out (by simp), (RS8.out.e.keep0 q0).cell 0, (RS8.out.e.keep0 q0).cell 1, (RS8.out.e.keep0 q0).cell 2, (RS8.out.e.keep0 q0).cell 3, q0⟩ : (fun w' : World => w'.cell? ⟨bx, 6, none⟩ = some (.slice (some sd) sn sc) ∧ w'.cell? (sd.add (i * 7)) = some (.string s0) ∧ w'.cell? ⟨(sd.add (i * 7)).block, (sd.add (i * 7)).off + 1, none⟩ = some (.slice xa xn xc) ∧ w'.cell? ⟨(sd.add (i * 7)).block, (sd.add (i * 7)).off + 2, none⟩ = some (.bool sl) ∧ w'.cell? ⟨(sd.add (i * 7)).block, (sd.add (i * 7)).off + 3, none⟩ = some (.int .i64 h9) ∧ w'.cell? ⟨(sd.add (i * 7)).block, (sd.add (i * 7)).off + 4, none⟩ = some (.int .i64 f9) ∧ w'.cell? ⟨(sd.add (i * 7)).block, (sd.add (i * 7)).off + 5, none⟩ = some (.slice ca cn cc) ∧ w'.cell? ⟨(sd.add (i * 7)).block, (sd.add (i * 7)).off + 6, none⟩ = some (.int .i64 df) ∧ w'.cell? ⟨b8, 0, none⟩ = some (.slice X2.va X2.vn X2.vc) ∧ w'.cell? ⟨b8, 1, none⟩ = some (.slice X2.fa X2.fn X2.fc) ∧ w'.cell? ⟨b8, 2, none⟩ = some (.slice X2.ta X2.tn X2.tc) ∧ w'.cell? ⟨b8, 3, none⟩ = some (.slice X2.pa X2.pn X2.pc) ∧ w8.grownBy w' none) w'))
      have V0 := Lib.hid (gb_drew w8 none)
      refine wp_region_held_drew (S := (fun w' : World => w'.cell? ⟨bx, 6, none⟩ = some (.slice (some sd) sn sc) ∧ w'.cell? (sd.add (i * 7)) = some (.string s0) ∧ w'.cell? ⟨(sd.add (i * 7)).block, (sd.add (i * 7)).off + 1, none⟩ = some (.slice xa xn xc) ∧ w'.cell? ⟨(sd.add (i * 7)).block, (sd.add (i * 7)).off + 2, none⟩ = some (.bool sl) ∧ w'.cell? ⟨(sd.add (i * 7)).block, (sd.add (i * 7)).off + 3, none⟩ = some (.int .i64 h9) ∧ w'.cell? ⟨(sd.add (i * 7)).block, (sd.add (i * 7)).off + 4, none⟩ = some (.int .i64 f9) ∧ w'.cell? ⟨(sd.add (i * 7)).block, (sd.add (i * 7)).off + 5, none⟩ = some (.slice ca cn cc) ∧ w'.cell? ⟨(sd.add (i * 7)).block, (sd.add (i * 7)).off + 6, none⟩ = some (.int .i64 df) ∧ w'.cell? ⟨b8, 0, none⟩ = some (.slice X2.va X2.vn X2.vc) ∧ w'.cell? ⟨b8, 1, none⟩ = some (.slice X2.fa X2.fn X2.fc) ∧ w'.cell? ⟨b8, 2, none⟩ = some (.slice X2.ta X2.tn X2.tc) ∧ w'.cell? ⟨b8, 3, none⟩ = some (.slice X2.pa X2.pn X2.pc) ∧ w8.grownBy w' none)) (by kernel_rfl) (KV.out _ V0.out) (fun hH0 => ?_)
      refine wpAnyH_take (i := 0) (v := ?v21) rfl (by kernel_rfl) (by kernel_rfl) (by kernel_rfl) (fun _ _ _ h => h) (Or.inl ⟨by rfl, ?hy21⟩) (by assumption) ?rest21
      case hy21 => (intro wz hSw; (try dsimp only at hSw); first | (go_simp; done) | (go_simp; with_reducible rfl))
      try simp only [Act.put, List.getElem_toArray, List.getElem_cons_zero, List.setIfInBounds_toArray, List.set_cons_zero, List.set_cons_succ]
      refine wpAnyH_take (i := 1) (v := ?v22) rfl (by kernel_rfl) (by kernel_rfl) (by kernel_rfl) (fun _ _ _ h => h) (Or.inl ⟨by rfl, ?hy22⟩) (by assumption) ?rest22
      case hy22 => (intro wz hSw; (try dsimp only at hSw); first | (go_simp; done) | (go_simp; with_reducible rfl))
      try simp only [Act.put, List.getElem_toArray, List.getElem_cons_succ, List.getElem_cons_zero, List.setIfInBounds_toArray, List.set_cons_zero, List.set_cons_succ]
      refine wpAnyH_take (i := 2) (v := ?v23) rfl (by kernel_rfl) (by kernel_rfl) (by kernel_rfl) (fun _ _ _ h => h) (Or.inl ⟨by rfl, ?hy23⟩) (by assumption) ?rest23
      case hy23 => (intro wz hSw; (try dsimp only at hSw); first | (go_simp; done) | (go_simp; with_reducible rfl))
      try simp only [Act.put, List.getElem_toArray, List.getElem_cons_succ, List.getElem_cons_zero, List.setIfInBounds_toArray, List.set_cons_zero, List.set_cons_succ]
      refine wpAnyH_take (i := 3) (v := ?v24) rfl (by kernel_rfl) (by kernel_rfl) (by kernel_rfl) (fun _ _ _ h => h) (Or.inl ⟨by rfl, ?hy24⟩) (by assumption) ?rest24
      case hy24 => (intro wz hSw; (try dsimp only at hSw); first | (go_simp; done) | (go_simp; with_reducible rfl))
      try simp only [Act.put, List.getElem_toArray, List.getElem_cons_succ, List.getElem_cons_zero, List.setIfInBounds_toArray, List.set_cons_zero, List.set_cons_succ]
      refine wpAnyH_take (i := 4) (v := ?v25) rfl (by kernel_rfl) (by kernel_rfl) (by kernel_rfl) (fun _ _ _ h => h) (Or.inl ⟨by rfl, ?hy25⟩) (by assumption) ?rest25
      case hy25 => (intro wz hSw; (try dsimp only at hSw); first | (go_simp; done) | (go_simp; with_reducible rfl))
      try simp only [Act.put, List.getElem_toArray, List.getElem_cons_succ, List.getElem_cons_zero, List.setIfInBounds_toArray, List.set_cons_zero, List.set_cons_succ]
      refine wpAnyH_take (i := 5) (v := ?v26) rfl (by kernel_rfl) (by kernel_rfl) (by kernel_rfl) (fun _ _ _ h => h) (Or.inl ⟨by rfl, ?hy26⟩) (by assumption) ?rest26
      case hy26 => (intro wz hSw; (try dsimp only at hSw); first | (go_simp; done) | (go_simp; with_reducible rfl))
      try simp only [Act.put, List.getElem_toArray, List.getElem_cons_succ, List.getElem_cons_zero, List.setIfInBounds_toArray, List.set_cons_zero, List.set_cons_succ]
      refine wpAnyH_ready (rs := [6]) (by kernel_rfl) (by simp) ?_
      refine AllReadyH.cons (o := _) rfl (fun K hK => ?_) AllReadyH.nil
      go_simp
      (with_reducible refine (KT.out _ V0.out).mono ?_)
      rintro e vw1 ⟨rfl, g⟩
      have V1 := Lib.hid (gb_trans V0.out g)
      clear g
      try dsimp only
      refine hK.out _ _ (KV.out _ V1.out) (fun hH1 => ?_)
      clear hK K hH0
      try simp only [Act.put, List.getElem_toArray, List.getElem_cons_succ, List.getElem_cons_zero, List.setIfInBounds_toArray, List.set_cons_zero, List.set_cons_succ]
      refine wpAnyH_take (i := 7) (v := ?v27) rfl (by kernel_rfl) (by kernel_rfl) (by kernel_rfl) (fun _ _ _ h => h) (Or.inl ⟨by rfl, ?hy27⟩) (by assumption) ?rest27
      case hy27 => (intro wz hSw; (try dsimp only at hSw); first | (go_simp; done) | (go_simp; with_reducible rfl))
      try simp only [Act.put, List.getElem_toArray, List.getElem_cons_succ, List.getElem_cons_zero, List.setIfInBounds_toArray, List.set_cons_zero, List.set_cons_succ]
      refine wpAnyH_done (by kernel_rfl) ?_ _
      clear hH1
      have RS9 := Lib.hid (RS8.out.keep0 V1.out)
      have ST12 := Lib.hid (show (st ++ [(i : Int)]).length ≤ 12 by rw [List.length_append]; have := SI9.out; have := I2.out; have := OKS.out.2.1; rw [LS9.out] at this; simp; omega)
      have MEAS := Lib.hid (show rLeft sn (.int .i64 x2) < rLeft sn (.int .i64 (i : Int)) by
        have xr := (nxB_iff _ _ _).1 NX.out
        rw [LS9.out] at xr
        have := I2.out
        show (if 0 ≤ x2 then 1 + sn - x2.toNat else 0) < (if (0 : Int) ≤ (i : Int) then 1 + sn - ((i : Int)).toNat else 0)
        rw [if_pos (show (0 : Int) ≤ (i : Int) by omega)]
        split <;> omega)
      go_wp2
      go_roundw
      case rel =>
        refine ⟨st ++ [(i : Int)], L2, p2, X2, Vs2, e5, n5, c5, x2, rfl, rfl, rfl, RS9.out, KEEP.out.1, KEEP.out.2.1, N5.out, ST12.out, KEEP.out.2.2.1.trans LV.out, KEEP.out.2.2.2.1.trans LF.out, by rw [KEEP.out.2.2.2.2.1]; exact LT.out, by rw [KEEP.out.2.2.2.2.2]; exact LP.out, ROWS.out, ?_⟩
        have z := GO.out
        rw [if_pos rfl] at z
        by_cases h2 : x2 = -2
        · rw [if_pos h2] at z; exact .inr (.inl ⟨h2, z⟩)
        rw [if_neg h2] at z
        by_cases h1 : x2 = -1
        · rw [if_pos h1] at z; exact .inr (.inr ⟨h1, z⟩)
        rw [if_neg h1] at z
        have xr := (nxB_iff _ _ _).1 NX.out
        rw [LS9.out] at xr
        have := SI9.out
        have := FI.out
        have := F12.out
        have xb : (i : Int) < x2 ∧ x2 < sn := by omega
        exact .inl ⟨x2.toNat, f, by omega, by omega, by rw [List.length_append]; simp; omega, by omega, by omega, z⟩
      case measure => exact MEAS.out
    · rcases hend with ⟨rfl, hend⟩ | ⟨rfl, hend⟩
      · have Z2 := Lib.hid (show res = (newE H M, st, 15) by rw [Z.out, ← hend]; exact if_pos (show (15 : Int) ≠ 0 by decide))
        clear hend Z
        have Z := Z2
        clear Z2
        replace BP := BPr
        replace BQ := BQr
        have q1 : ¬ (0 : Int) ≤ -2 := by omega
        have c0 := (BP.out.keep0 (gb_refl _ _)).cell 0
        have c1 := (BP.out.keep0 (gb_refl _ _)).cell 1
        have c2 := (BP.out.keep0 (gb_refl _ _)).cell 2
        have c3 := (BP.out.keep0 (gb_refl _ _)).cell 3
        have c4 := (BP.out.keep0 (gb_refl _ _)).cell 4
        have c5 := (BP.out.keep0 (gb_refl _ _)).cell 5
        have c6 := (BP.out.keep0 (gb_refl _ _)).cell 6
        have c7 := (BP.out.keep0 (gb_refl _ _)).cell 7
        have c8 := (BP.out.keep0 (gb_refl _ _)).cell 8
        dsimp at c0 c1 c2 c3 c4 c5 c6 c7 c8
        go_wp2_with fail
        refine (KE.out _ GR.out).mono ?_
        rintro e9 w3 ⟨X3, Vs3, rfl, oe, g⟩
        have OX3 := Lib.hid (oe.low GR.out.size)
        have G3 := Lib.hid (gb_trans GR.out g)
        replace BQ := Lib.hid (BQ.out.keep0 g)
        have NX3 := Lib.hid (own_keep0 (own_low RS.out.en G2.out.size) g)
        clear oe g c0 c1 c2 c3 c4 c5 c6 c7 c8
        have P4 := Lib.hid (put4 BQ.out (.slice X3.va X3.vn X3.vc) (.slice X3.fa X3.fn X3.fc) (.slice X3.ta X3.tn X3.tc) (.slice X3.pa X3.pn X3.pc))
        have OX4 := Lib.hid (OX3.out.kB P4.out.2 BQ.out (by decide) (by decide) (by decide) (by decide))
        have G4 := Lib.hid (gb_new (gb_trans (gb_any G3.out) P4.out.2) (Nat.le_trans Lbx.out (Nat.le_add_right _ _)))
        have y0 := (BQ.out.keep0 (gb_refl _ _)).cell 0
        have y1 := (BQ.out.keep0 (gb_refl _ _)).cell 1
        have y2 := (BQ.out.keep0 (gb_refl _ _)).cell 2
        have y3 := (BQ.out.keep0 (gb_refl _ _)).cell 3
        dsimp at y0 y1 y2 y3
        have f0 := BQ.out.free 0
        have f1 := BQ.out.free 1
        have f2 := BQ.out.free 2
        have f3 := BQ.out.free 3
        go_wp2
        have k0 := P4.out.1.cell 0
        have k1 := P4.out.1.cell 1
        have k2 := P4.out.1.cell 2
        have k3 := P4.out.1.cell 3
        dsimp at k0 k1 k2 k3
        rw [Z.out]
        have NXF := Lib.hid (show NL ((((w3.setCell ⟨bx + 1, 0, none⟩ (.slice X3.va X3.vn X3.vc)).setCell ⟨bx + 1, 1, none⟩ (.slice X3.fa X3.fn X3.fc)).setCell ⟨bx + 1, 2, none⟩ (.slice X3.ta X3.tn X3.tc)).setCell ⟨bx + 1, 3, none⟩ (.slice X3.pa X3.pn X3.pc)) w.heap.size (.slice ea en ec) st from own_keepS NX3.out P4.out.2 BQ.out (by decide))
        generalize ((((w3.setCell ⟨bx + 1, 0, none⟩ (.slice X3.va X3.vn X3.vc)).setCell ⟨bx + 1, 1, none⟩ (.slice X3.fa X3.fn X3.fc)).setCell ⟨bx + 1, 2, none⟩ (.slice X3.ta X3.tn X3.tc)).setCell ⟨bx + 1, 3, none⟩ (.slice X3.pa X3.pn X3.pc)) = w4 at *
        refine bodyPost_ret (v := .tuple #[.agg #[.slice X3.va X3.vn X3.vc, .slice X3.fa X3.fn X3.fc, .slice X3.ta X3.tn X3.tc, .slice X3.pa X3.pn X3.pc], .slice ea en ec, .int .i64 15]) (by rw [results_cell3 rfl]; go_simp; try rfl) rfl ⟨X3, Vs3, _, rfl, OX4.out, NXF.out, G4.out⟩
      · have q1 : ¬ (0 : Int) ≤ -1 := by omega
        obtain ⟨rb, hrb⟩ : ∃ rb, rb = bs.drop (pos / 8) := ⟨_, rfl⟩
        have RRE := Lib.hid (show restR bs pos = (0, rb) by unfold restR; rw [if_pos H8.out, hrb])
        have PR := Lib.hid (show ∀ x ∈ rb, 0 ≤ x ∧ x < 256 by intro x hx; rw [hrb] at hx; exact HD.out.rng x (List.mem_of_mem_drop hx))
        have KR9 := rrest_any wr w2.heap.size ax cx bs pos RS.out.rw NIL.out BL.out HP.out
        rw [RRE.out, ← N9.out] at KR9
        have Z2 := Lib.hid (show res = (⟨L.V, L.F, L.T, rb⟩, st, 0) by rw [Z.out, ← hend]; dsimp only; rw [if_neg (by simp), RRE.out])
        unfold RetEh at KR9
        replace KR9 := Lib.hid KR9
        dsimp only at KR9
        clear hrb RRE hend Z
        have c0 := RS.out.r.cell 0
        have c1 := RS.out.r.cell 1
        dsimp at c0 c1
        go_wp2_with fail
        refine KR9.out.mono ?_
        rintro e9 w6 ⟨v6, rfl, g, o6⟩
        have RS6 := Lib.hid (RS.out.keep0 g)
        obtain ⟨n8, hn8⟩ : ∃ n, n = rb.length := ⟨_, rfl⟩
        have O6 := Lib.hid (show w6.ownsRow w2.heap.size 5 1 v6 n8 (rb.map (Value.int .u8)) by rw [hn8]; exact own_low o6 RS.out.g.size)
        obtain ⟨qa, qc, rfl⟩ := own_shape O6.out
        have NB8 := Lib.hid hn8
        clear g o6 hn8 KR9 c0 c1
        have d3 := RS6.out.e.cell 3
        have f3 := RS6.out.e.free 3
        dsimp at d3
        have s1 := gb_set w6 b8 3 (.slice qa n8 qc)
        have m1 : IsB (w6.setCell ⟨b8, 3, none⟩ (.slice qa n8 qc)) b8 42 #[.slice X.va X.vn X.vc, .slice X.fa X.fn X.fc, .slice X.ta X.tn X.tc, .slice qa n8 qc] := RS6.out.e.set 3 (.slice qa n8 qc)
        have O7 := Lib.hid (own_keepS O6.out s1 RS6.out.e (by decide))
        have OX7 := Lib.hid (RS6.out.pk.kB s1 RS6.out.e (by decide) (by decide) (by decide) (by decide))
        have EN7 := Lib.hid (own_keepS RS6.out.en s1 RS6.out.e (by decide))
        have G7 := Lib.hid (gb_new (gb_trans (gb_any RS6.out.g) s1) RS6.out.l8)
        have M7 := Lib.hid m1
        clear s1 m1 O6
        go_upto_region 17 with fail
        generalize w6.setCell ⟨b8, 3, none⟩ (.slice qa n8 qc) = w7 at *
        clear d3 f3 RS6 RS
        have B7 := Lib.hid (BQ.out.keep0 G7.out)
        have P4 := Lib.hid (put4 B7.out (.slice X.va X.vn X.vc) (.slice X.fa X.fn X.fc) (.slice X.ta X.tn X.tc) (.slice qa n8 qc))
        have OXF := Lib.hid ((show OE w7 w.heap.size ⟨X.va, X.fa, X.ta, qa, X.vn, X.vc, X.fn, X.fc, X.tn, X.tc, n8, qc⟩ ⟨L.V, L.F, L.T, rb⟩ Vs from by have z := OX7.out.low G2.out.size; exact ⟨z.v, z.f, z.t, by have y := own_low O7.out G2.out.size; unfold NY; rw [← NB8.out]; exact y, z.vl, z.fl, z.tl, NB8.out.symm, z.trng, PR.out, z.dis⟩).kB P4.out.2 B7.out (by decide) (by decide) (by decide) (by decide))
        have NXF := Lib.hid (own_keepS (own_low EN7.out G2.out.size) P4.out.2 B7.out (by decide))
        have GF := Lib.hid (gb_new (gb_trans (gb_any (gb_trans G2.out G7.out)) P4.out.2) (Nat.le_trans Lbx.out (Nat.le_add_right _ _)))
        have x0 := M7.out.cell 0
        have x1 := M7.out.cell 1
        have x2 := M7.out.cell 2
        have x3 := M7.out.cell 3
        dsimp at x0 x1 x2 x3
        have y0 := (B7.out.keep0 (gb_refl _ _)).cell 0
        have y1 := (B7.out.keep0 (gb_refl _ _)).cell 1
        have y2 := (B7.out.keep0 (gb_refl _ _)).cell 2
        have y3 := (B7.out.keep0 (gb_refl _ _)).cell 3
        dsimp at y0 y1 y2 y3
        have f0 := B7.out.free 0
        have f1 := B7.out.free 1
        have f2 := B7.out.free 2
        have f3 := B7.out.free 3
        go_wp2
        have k0 := P4.out.1.cell 0
        have k1 := P4.out.1.cell 1
        have k2 := P4.out.1.cell 2
        have k3 := P4.out.1.cell 3
        dsimp at k0 k1 k2 k3
        rw [Z2.out]
        generalize ((((w7.setCell ⟨bx + 1, 0, none⟩ (.slice X.va X.vn X.vc)).setCell ⟨bx + 1, 1, none⟩ (.slice X.fa X.fn X.fc)).setCell ⟨bx + 1, 2, none⟩ (.slice X.ta X.tn X.tc)).setCell ⟨bx + 1, 3, none⟩ (.slice qa n8 qc)) = w9 at *
        refine bodyPost_ret (v := .tuple #[.agg #[.slice X.va X.vn X.vc, .slice X.fa X.fn X.fc, .slice X.ta X.tn X.tc, .slice qa n8 qc], .slice ea en ec, .int .i64 0]) (by rw [results_cell3 rfl]; go_simp; try rfl) rfl ⟨⟨X.va, X.fa, X.ta, qa, X.vn, X.vc, X.fn, X.fc, X.tn, X.tc, n8, qc⟩, Vs, _, rfl, OXF.out, NXF.out, GF.out⟩
end Go.Proofs.Ytngobkghcogahaa
