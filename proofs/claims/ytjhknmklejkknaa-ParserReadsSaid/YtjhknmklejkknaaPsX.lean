/- Parser: Parse and States of both sides; no condition but sizes. -/
import Derived.Test.YtjhknmklejkknaaGxQ
import Derived.Test.YtjhknmklejkknaaPsW
import Derived.BigQuiet
namespace Go.Proofs.Ytjhknmklejkknaa
open Go.RowKit
set_option linter.unusedVariables false
set_option maxRecDepth 100000 in
set_option maxHeartbeats 8000000 in
theorem pparse_any (w : World) (nm : ByteArray) (rA xA tA kA dA ha ma sa : Option Addr) (rN rC xN xC tN tC kN kC dN dC hn hc mn mc sn sc : Nat) (H : List (ByteArray × List Fld)) (M : List Fld) (S : List Pst) (hH : SH w ha hn hc H) (hM : SF w ma mn mc M) (hS : SPs w sa sn sc S) (hnz : ∀ i, (S.getD i psz).nm.size ≤ 9223372036854775807) (hz9 : HZ H) (hb9 : hn ≤ 1000) (mb9 : mn ≤ 1000) (da : Option Addr) (dn dc : Nat) (bs : List Int) (hD : SY w da dn dc bs) (hdl : dn ≤ 60000) (a1 a2 e : Int) (hr : PkC H M S a1 a2 e) (b0 : Bool) (hb0 : b0 = true ↔ hdsOk H) (res : EL × List Int × Int) (hres : res = pRun H M S bs (inE e b0 dn)) : Calls Try.prog 16 #[.agg #[.string nm, .slice ha hn hc, .slice ma mn mc, .slice rA rN rC, .slice xA xN xC, .slice tA tN tC, .slice sa sn sc, .slice kA kN kC, .slice dA dN dC], .slice da dn dc] w (fun e w' => ∃ X Vs, e = .returned (.tuple #[.agg #[.slice X.va X.vn X.vc, .slice X.fa X.fn X.fc, .slice X.ta X.tn X.tc, .slice X.pa X.pn X.pc], .int .i64 res.2.2]) ∧ OE w' w.heap.size X res.1 Vs ∧ w.grownBy w' none) := by
  have G1 := Lib.hid (gb_trans (gb_alloc w (.cells #[.string nm, .slice ha hn hc, .slice ma mn mc, .slice rA rN rC, .slice xA xN xC, .slice tA tN tC, .slice sa sn sc, .slice kA kN kC, .slice dA dN dC] 31) none) (gb_alloc _ (.cells #[.slice none 0 0, .slice none 0 0, .slice none 0 0, .slice none 0 0] 42) none))
  have B1 := (IsB.new w 31 #[.string nm, .slice ha hn hc, .slice ma mn mc, .slice rA rN rC, .slice xA xN xC, .slice tA tN tC, .slice sa sn sc, .slice kA kN kC, .slice dA dN dC]).alloc (.cells #[.slice none 0 0, .slice none 0 0, .slice none 0 0, .slice none 0 0] 42)
  have B2 := IsB.new (w.alloc (.cells #[.string nm, .slice ha hn hc, .slice ma mn mc, .slice rA rN rC, .slice xA xN xC, .slice tA tN tC, .slice sa sn sc, .slice kA kN kC, .slice dA dN dC] 31)) 42 #[.slice none 0 0, .slice none 0 0, .slice none 0 0, .slice none 0 0]
  simp only [sz_al] at B2
  replace B1 := Lib.hid B1
  replace B2 := Lib.hid B2
  have KR := Lib.hid (fun (W : World) (q : w.grownBy W none) => prun_any W nm rA xA tA kA dA ha ma sa rN rC xN xC tN tC kN kC dN dC hn hc mn mc sn sc H M S (hH.keep0 q) (hM.keep0 q) (hS.keep0SPs q) hnz hz9 hb9 mb9 da dn dc bs (hD.keep0 q) hdl a1 a2 e hr b0 hb0 res hres)
  clear hH hM hS hnz hz9 hb9 mb9 hD hdl hr hb0 hres
  go_enter Try.func16, Try.ntmps16
  go_upto_region 1 with fail
  generalize (w.alloc (.cells #[.string nm, .slice ha hn hc, .slice ma mn mc, .slice rA rN rC, .slice xA xN xC, .slice tA tN tC, .slice sa sn sc, .slice kA kN kC, .slice dA dN dC] 31)).alloc (.cells #[.slice none 0 0, .slice none 0 0, .slice none 0 0, .slice none 0 0] 42) = w1 at *
  obtain ⟨bx, hbx⟩ : ∃ b, b = w.heap.size := ⟨_, rfl⟩
  have Lbx := Lib.hid (show w.heap.size ≤ bx by rw [hbx]; exact Nat.le_refl _)
  rw [← hbx] at B1 B2 ⊢
  clear hbx
  have c0 := (B1.out.keep0 (gb_refl _ _)).cell 0
  have c1 := (B1.out.keep0 (gb_refl _ _)).cell 1
  have c2 := (B1.out.keep0 (gb_refl _ _)).cell 2
  have c3 := (B1.out.keep0 (gb_refl _ _)).cell 3
  have c4 := (B1.out.keep0 (gb_refl _ _)).cell 4
  have c5 := (B1.out.keep0 (gb_refl _ _)).cell 5
  have c6 := (B1.out.keep0 (gb_refl _ _)).cell 6
  have c7 := (B1.out.keep0 (gb_refl _ _)).cell 7
  have c8 := (B1.out.keep0 (gb_refl _ _)).cell 8
  dsimp at c0 c1 c2 c3 c4 c5 c6 c7 c8
  go_upto_region 2 with (go_at_call 48; refine (KR.out _ G1.out).mono ?_; rintro e9 w2 ⟨X, Vs, E, rfl, oe, nl, g⟩; have OX := Lib.hid oe; have G2 := Lib.hid g; clear oe nl g)
  have B3 := Lib.hid (IsB.new w2 42 #[.slice X.va X.vn X.vc, .slice X.fa X.fn X.fc, .slice X.ta X.tn X.tc, .slice X.pa X.pn X.pc])
  have ga := gb_alloc w2 (.cells #[.slice X.va X.vn X.vc, .slice X.fa X.fn X.fc, .slice X.ta X.tn X.tc, .slice X.pa X.pn X.pc] 42) none
  have OX3 := Lib.hid ((OX.out.low G1.out.size).keep0 ga)
  have G3 := Lib.hid (gb_trans (gb_trans G1.out G2.out) ga)
  replace B2 := Lib.hid ((B2.out.keep0 G2.out).keep0 ga)
  clear ga OX G2 KR B1 c0 c1 c2 c3 c4 c5 c6 c7 c8
  generalize w2.alloc (.cells #[.slice X.va X.vn X.vc, .slice X.fa X.fn X.fc, .slice X.ta X.tn X.tc, .slice X.pa X.pn X.pc] 42) = w3 at *
  generalize w2.heap.size = b6 at *
  have P4 := Lib.hid (put4 B2.out (.slice X.va X.vn X.vc) (.slice X.fa X.fn X.fc) (.slice X.ta X.tn X.tc) (.slice X.pa X.pn X.pc))
  have OX4 := Lib.hid (OX3.out.kB P4.out.2 B2.out (by decide) (by decide) (by decide) (by decide))
  have G4 := Lib.hid (gb_new (gb_trans (gb_any G3.out) P4.out.2) (Nat.le_trans Lbx.out (Nat.le_add_right _ _)))
  have x0 := (B3.out.keep0 (gb_refl _ _)).cell 0
  have x1 := (B3.out.keep0 (gb_refl _ _)).cell 1
  have x2 := (B3.out.keep0 (gb_refl _ _)).cell 2
  have x3 := (B3.out.keep0 (gb_refl _ _)).cell 3
  dsimp at x0 x1 x2 x3
  have y0 := (B2.out.keep0 (gb_refl _ _)).cell 0
  have y1 := (B2.out.keep0 (gb_refl _ _)).cell 1
  have y2 := (B2.out.keep0 (gb_refl _ _)).cell 2
  have y3 := (B2.out.keep0 (gb_refl _ _)).cell 3
  dsimp at y0 y1 y2 y3
  have f0 := B2.out.free 0
  have f1 := B2.out.free 1
  have f2 := B2.out.free 2
  have f3 := B2.out.free 3
  go_wp2
  have k0 := P4.out.1.cell 0
  have k1 := P4.out.1.cell 1
  have k2 := P4.out.1.cell 2
  have k3 := P4.out.1.cell 3
  dsimp at k0 k1 k2 k3
  generalize ((((w3.setCell ⟨bx + 1, 0, none⟩ (.slice X.va X.vn X.vc)).setCell ⟨bx + 1, 1, none⟩ (.slice X.fa X.fn X.fc)).setCell ⟨bx + 1, 2, none⟩ (.slice X.ta X.tn X.tc)).setCell ⟨bx + 1, 3, none⟩ (.slice X.pa X.pn X.pc)) = w4 at *
  refine bodyPost_ret (v := .tuple #[.agg #[.slice X.va X.vn X.vc, .slice X.fa X.fn X.fc, .slice X.ta X.tn X.tc, .slice X.pa X.pn X.pc], .int .i64 res.2.2]) (by rw [results_cell2 rfl]; go_simp; try rfl) rfl ⟨X, Vs, rfl, OX4.out, G4.out⟩
set_option maxRecDepth 100000 in
set_option maxHeartbeats 8000000 in
theorem pstates_any (w : World) (nm : ByteArray) (rA xA tA kA dA ha ma sa : Option Addr) (rN rC xN xC tN tC kN kC dN dC hn hc mn mc sn sc : Nat) (H : List (ByteArray × List Fld)) (M : List Fld) (S : List Pst) (hH : SH w ha hn hc H) (hM : SF w ma mn mc M) (hS : SPs w sa sn sc S) (hnz : ∀ i, (S.getD i psz).nm.size ≤ 9223372036854775807) (hz9 : HZ H) (hb9 : hn ≤ 1000) (mb9 : mn ≤ 1000) (da : Option Addr) (dn dc : Nat) (bs : List Int) (hD : SY w da dn dc bs) (hdl : dn ≤ 60000) (a1 a2 e : Int) (hr : PkC H M S a1 a2 e) (b0 : Bool) (hb0 : b0 = true ↔ hdsOk H) (res : EL × List Int × Int) (hres : res = pRun H M S bs (inE e b0 dn)) : Calls Try.prog 20 #[.agg #[.string nm, .slice ha hn hc, .slice ma mn mc, .slice rA rN rC, .slice xA xN xC, .slice tA tN tC, .slice sa sn sc, .slice kA kN kC, .slice dA dN dC], .slice da dn dc] w (fun e w' => ∃ E, e = .returned E ∧ NL w' w.heap.size E res.2.1 ∧ w.grownBy w' none) := by
  have G1 := Lib.hid (gb_alloc w (.cells #[.string nm, .slice ha hn hc, .slice ma mn mc, .slice rA rN rC, .slice xA xN xC, .slice tA tN tC, .slice sa sn sc, .slice kA kN kC, .slice dA dN dC] 31) none)
  have B1 := IsB.new w 31 #[.string nm, .slice ha hn hc, .slice ma mn mc, .slice rA rN rC, .slice xA xN xC, .slice tA tN tC, .slice sa sn sc, .slice kA kN kC, .slice dA dN dC]
  replace B1 := Lib.hid B1
  have KR := Lib.hid (fun (W : World) (q : w.grownBy W none) => prun_any W nm rA xA tA kA dA ha ma sa rN rC xN xC tN tC kN kC dN dC hn hc mn mc sn sc H M S (hH.keep0 q) (hM.keep0 q) (hS.keep0SPs q) hnz hz9 hb9 mb9 da dn dc bs (hD.keep0 q) hdl a1 a2 e hr b0 hb0 res hres)
  clear hH hM hS hnz hz9 hb9 mb9 hD hdl hr hb0 hres
  go_enter Try.func20, Try.ntmps20
  go_upto_region 1 with fail
  generalize w.alloc (.cells #[.string nm, .slice ha hn hc, .slice ma mn mc, .slice rA rN rC, .slice xA xN xC, .slice tA tN tC, .slice sa sn sc, .slice kA kN kC, .slice dA dN dC] 31) = w1 at *
  obtain ⟨bx, hbx⟩ : ∃ b, b = w.heap.size := ⟨_, rfl⟩
  have Lbx := Lib.hid (show w.heap.size ≤ bx by rw [hbx]; exact Nat.le_refl _)
  rw [← hbx] at B1 ⊢
  clear hbx
  have c0 := (B1.out.keep0 (gb_refl _ _)).cell 0
  have c1 := (B1.out.keep0 (gb_refl _ _)).cell 1
  have c2 := (B1.out.keep0 (gb_refl _ _)).cell 2
  have c3 := (B1.out.keep0 (gb_refl _ _)).cell 3
  have c4 := (B1.out.keep0 (gb_refl _ _)).cell 4
  have c5 := (B1.out.keep0 (gb_refl _ _)).cell 5
  have c6 := (B1.out.keep0 (gb_refl _ _)).cell 6
  have c7 := (B1.out.keep0 (gb_refl _ _)).cell 7
  have c8 := (B1.out.keep0 (gb_refl _ _)).cell 8
  dsimp at c0 c1 c2 c3 c4 c5 c6 c7 c8
  go_upto_region 2 with (go_at_call 48; refine (KR.out _ G1.out).mono ?_; rintro e9 w2 ⟨X, Vs, E, rfl, oe, nl, g⟩; have NX := Lib.hid nl; have G2 := Lib.hid g; clear oe nl g)
  have ga := gb_alloc w2 (.cells #[.slice X.va X.vn X.vc, .slice X.fa X.fn X.fc, .slice X.ta X.tn X.tc, .slice X.pa X.pn X.pc] 42) none
  have NX3 := Lib.hid (own_keep0 (own_low NX.out G1.out.size) ga)
  have G3 := Lib.hid (gb_trans (gb_trans G1.out G2.out) ga)
  clear ga NX G2 KR c0 c1 c2 c3 c4 c5 c6 c7 c8
  generalize w2.alloc (.cells #[.slice X.va X.vn X.vc, .slice X.fa X.fn X.fc, .slice X.ta X.tn X.tc, .slice X.pa X.pn X.pc] 42) = w3 at *
  go_wp2
  go_ret
  exact ⟨E, rfl, NX3.out, G3.out⟩
end Go.Proofs.Ytjhknmklejkknaa
