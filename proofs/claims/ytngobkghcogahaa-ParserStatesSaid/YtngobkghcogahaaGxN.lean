/- Several texts in one: PtD, PtE. -/
import Derived.Test.YtngobkghcogahaaGxO
import Derived.Test.YtngobkghcogahaaPtC
import Derived.Test.YtngobkghcogahaaPsJ
import Derived.Test.YtngobkghcogahaaGxJ
import Derived.Deep.QuietTactic
import Derived.BigQuiet
import Derived.Deep.RegionWith
import Derived.Test.YtngobkghcogahaaEvP
section
namespace Go.Proofs.Ytngobkghcogahaa
open Go.RowKit
set_option linter.unusedVariables false
set_option maxRecDepth 100000 in
set_option maxHeartbeats 8000000 in
theorem checks18_on (w : World) (nm : ByteArray) (rA xA tA kA dA ha ma sa : Option Addr) (rN rC xN xC tN tC kN kC dN dC hn hc mn mc sn sc : Nat) (H : List (ByteArray × List Fld)) (M : List Fld) (S : List Pst) (hH : SH w ha hn hc H) (hM : SF w ma mn mc M) (hS : SPs w sa sn sc S) (hnm : ∀ x ∈ H, x.1.size ≤ 9223372036854775807 ∧ ∀ p ∈ x.2, p.1.size ≤ 9223372036854775807) : Calls Try.prog 3 #[.agg #[.string nm, .slice ha hn hc, .slice ma mn mc, .slice rA rN rC, .slice xA xN xC, .slice tA tN tC, .slice sa sn sc, .slice kA kN kC, .slice dA dN dC]] w (RetV (.bool true) w) := by
  have KL := Lib.hid (fun (W : World) (q : w.grownBy W none) => large18_any W (.string nm) (.slice rA rN rC) (.slice xA xN xC) (.slice tA tN tC) (.slice kA kN kC) (.slice dA dN dC) ha ma sa hn hc mn mc sn sc H S (hH.keep0 q) (hS.keep0SPs q) hnm)
  obtain ⟨a, b, e, hp⟩ := pkC_ex H M S
  have KP := Lib.hid (fun (W : World) (q : w.grownBy W none) (nz : ∀ i, (S.getD i psz).nm.size ≤ 9223372036854775807) => pcheck_any W (.string nm) (.slice rA rN rC) (.slice xA xN xC) (.slice tA tN tC) (.slice kA kN kC) (.slice dA dN dC) ha ma sa hn hc mn mc sn sc H M S (hH.keep0 q) (hM.keep0 q) (hS.keep0SPs q) nz a b e hp)
  have KR := Lib.hid (fun (W : World) (q : w.grownBy W none) (nz : ∀ i, (S.getD i psz).nm.size ≤ 9223372036854775807) => rcheck18_any W (.string nm) (.slice rA rN rC) (.slice xA xN xC) (.slice tA tN tC) (.slice kA kN kC) (.slice dA dN dC) ha ma sa hn hc mn mc sn sc H M S (hH.keep0 q) (hM.keep0 q) (hS.keep0SPs q) nz a b e hp)
  unfold RetV at KP KR
  have G1 := Lib.hid (gb_alloc w (.cells #[.string nm, .slice ha hn hc, .slice ma mn mc, .slice rA rN rC, .slice xA xN xC, .slice tA tN tC, .slice sa sn sc, .slice kA kN kC, .slice dA dN dC] 31) none)
  have B1 := IsB.new w 31 #[.string nm, .slice ha hn hc, .slice ma mn mc, .slice rA rN rC, .slice xA xN xC, .slice tA tN tC, .slice sa sn sc, .slice kA kN kC, .slice dA dN dC]
  replace B1 := Lib.hid B1
  clear hH hM hS hnm hp
  go_enter Try.func3, Try.ntmps3
  go_upto_region 1 with fail
  generalize w.alloc (.cells #[.string nm, .slice ha hn hc, .slice ma mn mc, .slice rA rN rC, .slice xA xN xC, .slice tA tN tC, .slice sa sn sc, .slice kA kN kC, .slice dA dN dC] 31) = w1 at *
  obtain ⟨bx, hbx⟩ : ∃ b, b = w.heap.size := ⟨_, rfl⟩
  have Lbx := Lib.hid (show w.heap.size ≤ bx by rw [hbx]; exact Nat.le_refl _)
  rw [← hbx] at B1 ⊢
  clear hbx
  have c0 := (B1.out.keep0 (gb_refl _ _)).cell 0
  have c1 := (B1.out.keep0 (gb_refl _ _)).cell 1
  have c2 := (B1.out.keep0 (gb_refl _ _)).cell 2
  have c3 := (B1.out.keep0 (gb_refl _ _)).cell 3
  have c4 := (B1.out.keep0 (gb_refl _ _)).cell 4
  have c5 := (B1.out.keep0 (gb_refl _ _)).cell 5
  have c6 := (B1.out.keep0 (gb_refl _ _)).cell 6
  have c7 := (B1.out.keep0 (gb_refl _ _)).cell 7
  have c8 := (B1.out.keep0 (gb_refl _ _)).cell 8
  dsimp at c0 c1 c2 c3 c4 c5 c6 c7 c8
  go_wp2_with fail
  refine (KL.out _ G1.out).mono ?_
  rintro e9 w2 ⟨bl, rfl, g, hb⟩
  have G2 := Lib.hid (gb_trans G1.out g)
  replace B1 := Lib.hid (B1.out.keep0 g)
  have HB := Lib.hid hb
  clear g hb c0 c1 c2 c3 c4 c5 c6 c7 c8
  cases bl
  case true =>
    go_wp2_with fail
    refine (works18_any w2).mono ?_
    rintro e9 w3 ⟨rfl, g⟩
    have G3 := Lib.hid (gb_trans G2.out g)
    clear g
    go_wp2
    go_ret
    exact ⟨rfl, G3.out⟩
  have TZ := Lib.hid (HB.out rfl)
  clear HB
  have c0 := (B1.out.keep0 (gb_refl _ _)).cell 0
  have c1 := (B1.out.keep0 (gb_refl _ _)).cell 1
  have c2 := (B1.out.keep0 (gb_refl _ _)).cell 2
  have c3 := (B1.out.keep0 (gb_refl _ _)).cell 3
  have c4 := (B1.out.keep0 (gb_refl _ _)).cell 4
  have c5 := (B1.out.keep0 (gb_refl _ _)).cell 5
  have c6 := (B1.out.keep0 (gb_refl _ _)).cell 6
  have c7 := (B1.out.keep0 (gb_refl _ _)).cell 7
  have c8 := (B1.out.keep0 (gb_refl _ _)).cell 8
  dsimp at c0 c1 c2 c3 c4 c5 c6 c7 c8
  go_upto_region 4 with (go_at_call 14; refine (KP.out _ G2.out (tlz_nz TZ.out)).mono ?_; rintro e9 w3 ⟨rfl, g⟩; have G3 := Lib.hid (gb_trans G2.out g); have GB := Lib.hid g; clear g)
  replace B1 := Lib.hid (B1.out.keep0 GB.out)
  clear GB c0 c1 c2 c3 c4 c5 c6 c7 c8
  have c0 := (B1.out.keep0 (gb_refl _ _)).cell 0
  have c1 := (B1.out.keep0 (gb_refl _ _)).cell 1
  have c2 := (B1.out.keep0 (gb_refl _ _)).cell 2
  have c3 := (B1.out.keep0 (gb_refl _ _)).cell 3
  have c4 := (B1.out.keep0 (gb_refl _ _)).cell 4
  have c5 := (B1.out.keep0 (gb_refl _ _)).cell 5
  have c6 := (B1.out.keep0 (gb_refl _ _)).cell 6
  have c7 := (B1.out.keep0 (gb_refl _ _)).cell 7
  have c8 := (B1.out.keep0 (gb_refl _ _)).cell 8
  dsimp at c0 c1 c2 c3 c4 c5 c6 c7 c8
  go_upto_region 5 with (go_at_call 15; refine (KR.out _ G3.out (tlz_nz TZ.out)).mono ?_; rintro e9 w4 ⟨rfl, g⟩; have G4 := Lib.hid (gb_trans G3.out g); clear g)
  clear c0 c1 c2 c3 c4 c5 c6 c7 c8
  have q0 : (a == a) = true := by simp
  have q1 : (b == b) = true := by simp
  have q2 : (e == e) = true := by simp
  go_wp2_with fail
  refine (works18_any w4).mono ?_
  rintro e9 w5 ⟨rfl, g⟩
  have G5 := Lib.hid (gb_trans G4.out g)
  clear g
  go_wp2
  go_ret
  exact ⟨rfl, G5.out⟩
end Go.Proofs.Ytngobkghcogahaa
end
section
namespace Go.Proofs.Ytngobkghcogahaa
open Go.RowKit
set_option linter.unusedVariables false
/-- An environment that a run hands back has sizes that suffice. -/
theorem run_ez {w : World} {base : Nat} {X : EX} {Vs : List Value} {H : List (ByteArray × List Fld)} {M : List Fld} {S : List Pst} {bs : List Int} {e0 : Int} (o : OE w base X (pRun H M S bs e0).1 Vs) (hz9 : HZ H) (hn : H.length ≤ 1000) (mn : M.length ≤ 1000) (bn : bs.length ≤ 60000) : EZ X (pRun H M S bs e0).1 := by
  obtain ⟨a, b, c, d, e⟩ := pRun_size (M := M) (S := S) (bs := bs) hz9 e0
  exact ⟨by rw [← o.vl, a]; omega, by rw [← o.fl, b]; omega, by rw [← o.tl, c, List.length_replicate]; omega, by rw [← o.pl]; omega, fun j => Nat.le_trans (d j) (by decide)⟩
set_option maxRecDepth 100000 in
set_option maxHeartbeats 8000000 in
theorem parses_on (w : World) (nm : ByteArray) (rA xA tA kA dA ha ma sa : Option Addr) (rN rC xN xC tN tC kN kC dN dC hn hc mn mc sn sc : Nat) (H : List (ByteArray × List Fld)) (M : List Fld) (S : List Pst) (hH : SH w ha hn hc H) (hM : SF w ma mn mc M) (hS : SPs w sa sn sc S) (hnm : ∀ x ∈ H, x.1.size ≤ 9223372036854775807 ∧ ∀ p ∈ x.2, p.1.size ≤ 9223372036854775807) (da : Option Addr) (dn dc : Nat) (bs : List Int) (hD : SY w da dn dc bs) : Calls Try.prog 4 #[.agg #[.string nm, .slice ha hn hc, .slice ma mn mc, .slice rA rN rC, .slice xA xN xC, .slice tA tN tC, .slice sa sn sc, .slice kA kN kC, .slice dA dN dC], .slice da dn dc] w (RetV (.bool true) w) := by
  classical
  have KL := Lib.hid (fun (W : World) (q : w.grownBy W none) => large18_any W (.string nm) (.slice rA rN rC) (.slice xA xN xC) (.slice tA tN tC) (.slice kA kN kC) (.slice dA dN dC) ha ma sa hn hc mn mc sn sc H S (hH.keep0 q) (hS.keep0SPs q) hnm)
  obtain ⟨a1, a2, e, hp⟩ := pkC_ex H M S
  obtain ⟨b0, hb0⟩ : ∃ b0 : Bool, b0 = true ↔ hdsOk H := ⟨decide (hdsOk H), decide_eq_true_iff⟩
  have LD := Lib.hid hD.len
  have LH := Lib.hid hH.len
  have LM := Lib.hid hM.len
  have LS := Lib.hid hS.len
  obtain ⟨e0, he0⟩ : ∃ e0, e0 = inE e b0 dn := ⟨_, rfl⟩
  obtain ⟨res, hres⟩ : ∃ res, res = pRun H M S bs (inE e b0 dn) := ⟨_, rfl⟩
  have K1 := Lib.hid (fun (W : World) (q : w.grownBy W none) (tz : TLz hn mn sn H S) (hdl : dn ≤ 600) => pparse_any W nm rA xA tA kA dA ha ma sa rN rC xN xC tN tC kN kC dN dC hn hc mn mc sn sc H M S (hH.keep0 q) (hM.keep0 q) (hS.keep0SPs q) (tlz_nz tz) (tlz_hz tz) (by have := tz.h; omega) (by have := tz.m; omega) da dn dc bs (hD.keep0 q) (by omega) a1 a2 e hp b0 hb0 res hres)
  have K2 := Lib.hid (fun (W : World) (q : w.grownBy W none) (tz : TLz hn mn sn H S) (hdl : dn ≤ 600) => rparse_any W nm rA xA tA kA dA ha ma sa rN rC xN xC tN tC kN kC dN dC hn hc mn mc sn sc H M S (hH.keep0 q) (hM.keep0 q) (hS.keep0SPs q) (tlz_nz tz) (tlz_hz tz) (by have := tz.h; omega) (by have := tz.m; omega) da dn dc bs (hD.keep0 q) (by omega) a1 a2 e hp b0 hb0 res hres)
  have K3 := Lib.hid (fun (W : World) (q : w.grownBy W none) (tz : TLz hn mn sn H S) (hdl : dn ≤ 600) => pstates_any W nm rA xA tA kA dA ha ma sa rN rC xN xC tN tC kN kC dN dC hn hc mn mc sn sc H M S (hH.keep0 q) (hM.keep0 q) (hS.keep0SPs q) (tlz_nz tz) (tlz_hz tz) (by have := tz.h; omega) (by have := tz.m; omega) da dn dc bs (hD.keep0 q) (by omega) a1 a2 e hp b0 hb0 res hres)
  have K4 := Lib.hid (fun (W : World) (q : w.grownBy W none) (tz : TLz hn mn sn H S) (hdl : dn ≤ 600) => rstates_any W nm rA xA tA kA dA ha ma sa rN rC xN xC tN tC kN kC dN dC hn hc mn mc sn sc H M S (hH.keep0 q) (hM.keep0 q) (hS.keep0SPs q) (tlz_nz tz) (tlz_hz tz) (by have := tz.h; omega) (by have := tz.m; omega) da dn dc bs (hD.keep0 q) (by omega) a1 a2 e hp b0 hb0 res hres)
  have HOK := Lib.hid (show inE e b0 dn = 0 → statesOk H M S from fun h => hp.ok.1 (inE_zero h).1)
  have HRES := Lib.hid hres
  have G1 := Lib.hid (gb_alloc w (.cells #[.string nm, .slice ha hn hc, .slice ma mn mc, .slice rA rN rC, .slice xA xN xC, .slice tA tN tC, .slice sa sn sc, .slice kA kN kC, .slice dA dN dC] 31) none)
  have B1 := IsB.new w 31 #[.string nm, .slice ha hn hc, .slice ma mn mc, .slice rA rN rC, .slice xA xN xC, .slice tA tN tC, .slice sa sn sc, .slice kA kN kC, .slice dA dN dC]
  replace B1 := Lib.hid B1
  clear hH hM hS hnm hp hD hb0 hres
  go_enter Try.func4, Try.ntmps4
  go_upto_region 1 with fail
  generalize w.alloc (.cells #[.string nm, .slice ha hn hc, .slice ma mn mc, .slice rA rN rC, .slice xA xN xC, .slice tA tN tC, .slice sa sn sc, .slice kA kN kC, .slice dA dN dC] 31) = w1 at *
  obtain ⟨bx, hbx⟩ : ∃ b, b = w.heap.size := ⟨_, rfl⟩
  have Lbx := Lib.hid (show w.heap.size ≤ bx by rw [hbx]; exact Nat.le_refl _)
  rw [← hbx] at B1 ⊢
  clear hbx
  have c0 := (B1.out.keep0 (gb_refl _ _)).cell 0
  have c1 := (B1.out.keep0 (gb_refl _ _)).cell 1
  have c2 := (B1.out.keep0 (gb_refl _ _)).cell 2
  have c3 := (B1.out.keep0 (gb_refl _ _)).cell 3
  have c4 := (B1.out.keep0 (gb_refl _ _)).cell 4
  have c5 := (B1.out.keep0 (gb_refl _ _)).cell 5
  have c6 := (B1.out.keep0 (gb_refl _ _)).cell 6
  have c7 := (B1.out.keep0 (gb_refl _ _)).cell 7
  have c8 := (B1.out.keep0 (gb_refl _ _)).cell 8
  dsimp at c0 c1 c2 c3 c4 c5 c6 c7 c8
  go_wp2_with fail
  refine (KL.out _ G1.out).mono ?_
  rintro e9 w2 ⟨bl, rfl, g, hb⟩
  have G2 := Lib.hid (gb_trans G1.out g)
  replace B1 := Lib.hid (B1.out.keep0 g)
  have HB := Lib.hid hb
  clear g hb c0 c1 c2 c3 c4 c5 c6 c7 c8
  cases bl
  case true =>
    go_wp2_with fail
    refine (works18_any w2).mono ?_
    rintro e9 w3 ⟨rfl, g⟩
    have G3 := Lib.hid (gb_trans G2.out g)
    clear g
    go_wp2
    go_ret
    exact ⟨rfl, G3.out⟩
  by_cases hd6 : 600 < dn
  · have i6 : (600 : Int) < dn := by omega
    go_wp2_with fail
    refine (works18_any w2).mono ?_
    rintro e9 w3 ⟨rfl, g⟩
    have G3 := Lib.hid (gb_trans G2.out g)
    clear g
    go_wp2
    go_ret
    exact ⟨rfl, G3.out⟩
  have i6 : ¬ (600 : Int) < dn := by omega
  have TZ := Lib.hid (HB.out rfl)
  have HDL := Lib.hid (show dn ≤ 600 by omega)
  clear HB hd6
  have c0 := (B1.out.keep0 (gb_refl _ _)).cell 0
  have c1 := (B1.out.keep0 (gb_refl _ _)).cell 1
  have c2 := (B1.out.keep0 (gb_refl _ _)).cell 2
  have c3 := (B1.out.keep0 (gb_refl _ _)).cell 3
  have c4 := (B1.out.keep0 (gb_refl _ _)).cell 4
  have c5 := (B1.out.keep0 (gb_refl _ _)).cell 5
  have c6 := (B1.out.keep0 (gb_refl _ _)).cell 6
  have c7 := (B1.out.keep0 (gb_refl _ _)).cell 7
  have c8 := (B1.out.keep0 (gb_refl _ _)).cell 8
  dsimp at c0 c1 c2 c3 c4 c5 c6 c7 c8
  go_upto_region 4 with (go_at_call 16; refine (K1.out _ G2.out TZ.out HDL.out).mono ?_; rintro e9 w3 ⟨X1, Vs1, rfl, oe, g⟩; have O1 := Lib.hid oe; have G3 := Lib.hid g; clear oe g)
  have E1 := Lib.hid (IsB.new w3 42 #[.slice X1.va X1.vn X1.vc, .slice X1.fa X1.fn X1.fc, .slice X1.ta X1.tn X1.tc, .slice X1.pa X1.pn X1.pc])
  have ga := gb_alloc w3 (.cells #[.slice X1.va X1.vn X1.vc, .slice X1.fa X1.fn X1.fc, .slice X1.ta X1.tn X1.tc, .slice X1.pa X1.pn X1.pc] 42) none
  replace O1 := Lib.hid (O1.out.keep0 ga)
  replace B1 := Lib.hid (B1.out.keep0 (gb_trans G3.out ga))
  have G4 := Lib.hid (gb_trans G2.out (gb_trans G3.out ga))
  clear ga G3 K1 c0 c1 c2 c3 c4 c5 c6 c7 c8
  generalize w3.alloc (.cells #[.slice X1.va X1.vn X1.vc, .slice X1.fa X1.fn X1.fc, .slice X1.ta X1.tn X1.tc, .slice X1.pa X1.pn X1.pc] 42) = w4 at *
  generalize w3.heap.size = b6 at *
  have c0 := (B1.out.keep0 (gb_refl _ _)).cell 0
  have c1 := (B1.out.keep0 (gb_refl _ _)).cell 1
  have c2 := (B1.out.keep0 (gb_refl _ _)).cell 2
  have c3 := (B1.out.keep0 (gb_refl _ _)).cell 3
  have c4 := (B1.out.keep0 (gb_refl _ _)).cell 4
  have c5 := (B1.out.keep0 (gb_refl _ _)).cell 5
  have c6 := (B1.out.keep0 (gb_refl _ _)).cell 6
  have c7 := (B1.out.keep0 (gb_refl _ _)).cell 7
  have c8 := (B1.out.keep0 (gb_refl _ _)).cell 8
  dsimp at c0 c1 c2 c3 c4 c5 c6 c7 c8
  go_upto_region 5 with (go_at_call 17; refine (K2.out _ G4.out TZ.out HDL.out).mono ?_; rintro e9 w6 ⟨X2, Vs2, rfl, oe, g⟩; have O2 := Lib.hid oe; have G6 := Lib.hid g; clear oe g)
  have E2 := Lib.hid (IsB.new w6 42 #[.slice X2.va X2.vn X2.vc, .slice X2.fa X2.fn X2.fc, .slice X2.ta X2.tn X2.tc, .slice X2.pa X2.pn X2.pc])
  have ga := gb_alloc w6 (.cells #[.slice X2.va X2.vn X2.vc, .slice X2.fa X2.fn X2.fc, .slice X2.ta X2.tn X2.tc, .slice X2.pa X2.pn X2.pc] 42) none
  replace O2 := Lib.hid (O2.out.keep0 ga)
  have g46 := gb_trans G6.out ga
  replace O1 := Lib.hid (O1.out.keep0 g46)
  replace E1 := Lib.hid (E1.out.keep0 g46)
  replace B1 := Lib.hid (B1.out.keep0 g46)
  have G5 := Lib.hid (gb_trans G4.out g46)
  clear ga g46 G6 K2 G4 G2 G1 c0 c1 c2 c3 c4 c5 c6 c7 c8
  generalize w6.alloc (.cells #[.slice X2.va X2.vn X2.vc, .slice X2.fa X2.fn X2.fc, .slice X2.ta X2.tn X2.tc, .slice X2.pa X2.pn X2.pc] 42) = w5 at *
  generalize w6.heap.size = b8 at *
  have KQ := Lib.hid (fun (W : World) (q : w5.grownBy W none) => requal_any W X1 X2 res.1 res.1 (O1.out.er.keep0 q) (O2.out.er.keep0 q) (by have z := O1.out; rw [HRES.out] at z ⊢; exact run_ez z (tlz_hz TZ.out) (by rw [LH.out]; have := TZ.out.h; omega) (by rw [LM.out]; have := TZ.out.m; omega) (by rw [LD.out]; have := HDL.out; omega)) (by have z := O2.out; rw [HRES.out] at z ⊢; exact run_ez z (tlz_hz TZ.out) (by rw [LH.out]; have := TZ.out.h; omega) (by rw [LM.out]; have := TZ.out.m; omega) (by rw [LD.out]; have := HDL.out; omega)) true (by simp [sameE]))
  unfold RetV at KQ
  have RNG := Lib.hid (show ∀ x ∈ res.2.1, -9223372036854775808 ≤ x ∧ x ≤ 9223372036854775807 by rw [HRES.out]; exact pRun_rng HOK.out (by rw [LS.out]; have := TZ.out.s; omega))
  have LN9 := Lib.hid (show res.2.1.length ≤ 100000 by rw [HRES.out]; exact pRun_len HOK.out (by rw [LS.out]; have := TZ.out.s; omega))
  have KS1 := Lib.hid (fun (W : World) (q : w.grownBy W none) => K3.out W q TZ.out HDL.out)
  have KS2 := Lib.hid (fun (W : World) (q : w.grownBy W none) => K4.out W q TZ.out HDL.out)
  obtain ⟨L9, S9, r9⟩ := res
  dsimp only at KQ RNG LN9 KS1 KS2
  have q0 : (r9 == r9) = true := by simp
  clear K3 K4 HRES HOK TZ HDL i6
  have KS := Lib.hid (fun (w' : World) (q0 : w5.grownBy w' none) => (⟨(E1.out.keep0 q0).cell 0, (E1.out.keep0 q0).cell 1, (E1.out.keep0 q0).cell 2, (E1.out.keep0 q0).cell 3, (E2.out.keep0 q0).cell 0, (E2.out.keep0 q0).cell 1, (E2.out.keep0 q0).cell 2, (E2.out.keep0 q0).cell 3, (B1.out.keep0 q0).cell 0, (B1.out.keep0 q0).cell 1, (B1.out.keep0 q0).cell 2, (B1.out.keep0 q0).cell 3, (B1.out.keep0 q0).cell 4, (B1.out.keep0 q0).cell 5, (B1.out.keep0 q0).cell 6, (B1.out.keep0 q0).cell 7, (B1.out.keep0 q0).cell 8, q0⟩ : (fun w' : World => w'.cell? ⟨b6, 0, none⟩ = some (.slice X1.va X1.vn X1.vc) ∧ w'.cell? ⟨b6, 1, none⟩ = some (.slice X1.fa X1.fn X1.fc) ∧ w'.cell? ⟨b6, 2, none⟩ = some (.slice X1.ta X1.tn X1.tc) ∧ w'.cell? ⟨b6, 3, none⟩ = some (.slice X1.pa X1.pn X1.pc) ∧ w'.cell? ⟨b8, 0, none⟩ = some (.slice X2.va X2.vn X2.vc) ∧ w'.cell? ⟨b8, 1, none⟩ = some (.slice X2.fa X2.fn X2.fc) ∧ w'.cell? ⟨b8, 2, none⟩ = some (.slice X2.ta X2.tn X2.tc) ∧ w'.cell? ⟨b8, 3, none⟩ = some (.slice X2.pa X2.pn X2.pc) ∧ w'.cell? ⟨bx, 0, none⟩ = some (.string nm) ∧ w'.cell? ⟨bx, 1, none⟩ = some (.slice ha hn hc) ∧ w'.cell? ⟨bx, 2, none⟩ = some (.slice ma mn mc) ∧ w'.cell? ⟨bx, 3, none⟩ = some (.slice rA rN rC) ∧ w'.cell? ⟨bx, 4, none⟩ = some (.slice xA xN xC) ∧ w'.cell? ⟨bx, 5, none⟩ = some (.slice tA tN tC) ∧ w'.cell? ⟨bx, 6, none⟩ = some (.slice sa sn sc) ∧ w'.cell? ⟨bx, 7, none⟩ = some (.slice kA kN kC) ∧ w'.cell? ⟨bx, 8, none⟩ = some (.slice dA dN dC) ∧ w5.grownBy w' none) w'))
  have R0 := Lib.hid (gb_drew w5 none)
  refine wp_region_held_drew (S := (fun w' : World => w'.cell? ⟨b6, 0, none⟩ = some (.slice X1.va X1.vn X1.vc) ∧ w'.cell? ⟨b6, 1, none⟩ = some (.slice X1.fa X1.fn X1.fc) ∧ w'.cell? ⟨b6, 2, none⟩ = some (.slice X1.ta X1.tn X1.tc) ∧ w'.cell? ⟨b6, 3, none⟩ = some (.slice X1.pa X1.pn X1.pc) ∧ w'.cell? ⟨b8, 0, none⟩ = some (.slice X2.va X2.vn X2.vc) ∧ w'.cell? ⟨b8, 1, none⟩ = some (.slice X2.fa X2.fn X2.fc) ∧ w'.cell? ⟨b8, 2, none⟩ = some (.slice X2.ta X2.tn X2.tc) ∧ w'.cell? ⟨b8, 3, none⟩ = some (.slice X2.pa X2.pn X2.pc) ∧ w'.cell? ⟨bx, 0, none⟩ = some (.string nm) ∧ w'.cell? ⟨bx, 1, none⟩ = some (.slice ha hn hc) ∧ w'.cell? ⟨bx, 2, none⟩ = some (.slice ma mn mc) ∧ w'.cell? ⟨bx, 3, none⟩ = some (.slice rA rN rC) ∧ w'.cell? ⟨bx, 4, none⟩ = some (.slice xA xN xC) ∧ w'.cell? ⟨bx, 5, none⟩ = some (.slice tA tN tC) ∧ w'.cell? ⟨bx, 6, none⟩ = some (.slice sa sn sc) ∧ w'.cell? ⟨bx, 7, none⟩ = some (.slice kA kN kC) ∧ w'.cell? ⟨bx, 8, none⟩ = some (.slice dA dN dC) ∧ w5.grownBy w' none)) (by kernel_rfl) (KS.out _ R0.out) (fun hH0 => ?_)
  refine wpAnyH_take (i := 0) (v := ?v8) rfl (by kernel_rfl) (by kernel_rfl) (by kernel_rfl) (fun _ _ _ h => h) (Or.inl ⟨by rfl, ?hy8⟩) (by assumption) ?rest8
  case hy8 => (intro wz hSw; (try dsimp only at hSw); first | (go_simp; done) | (go_simp; with_reducible rfl))
  try simp only [Act.put, List.getElem_toArray, List.getElem_cons_zero, List.setIfInBounds_toArray, List.set_cons_zero, List.set_cons_succ]
  refine wpAnyH_take (i := 1) (v := ?v9) rfl (by kernel_rfl) (by kernel_rfl) (by kernel_rfl) (fun _ _ _ h => h) (Or.inl ⟨by rfl, ?hy9⟩) (by assumption) ?rest9
  case hy9 => (intro wz hSw; (try dsimp only at hSw); first | (go_simp; done) | (go_simp; with_reducible rfl))
  try simp only [Act.put, List.getElem_toArray, List.getElem_cons_succ, List.getElem_cons_zero, List.setIfInBounds_toArray, List.set_cons_zero, List.set_cons_succ]
  refine wpAnyH_ready (rs := [2]) (by kernel_rfl) (by simp) ?_
  refine AllReadyH.cons (o := _) rfl (fun K hK => ?_) AllReadyH.nil
  go_simp
  (with_reducible refine (KQ.out _ R0.out).mono ?_)
  rintro e rw1 ⟨rfl, g⟩
  have R1 := Lib.hid (gb_trans R0.out g)
  clear g
  try dsimp only
  refine hK.out _ _ (KS.out _ R1.out) (fun hH1 => ?_)
  clear hK K hH0
  try simp only [Act.put, List.getElem_toArray, List.getElem_cons_succ, List.getElem_cons_zero, List.setIfInBounds_toArray, List.set_cons_zero, List.set_cons_succ]
  refine wpAnyH_take (i := 3) (v := ?v10) rfl (by kernel_rfl) (by kernel_rfl) (by kernel_rfl) (fun _ _ _ h => h) (Or.inl ⟨by rfl, ?hy10⟩) (by assumption) ?rest10
  case hy10 => (intro wz hSw; (try dsimp only at hSw); first | (go_simp; done) | (go_simp; with_reducible rfl))
  try simp only [Act.put, List.getElem_toArray, List.getElem_cons_succ, List.getElem_cons_zero, List.setIfInBounds_toArray, List.set_cons_zero, List.set_cons_succ]
  refine wpAnyH_take (i := 4) (v := ?v11) rfl (by kernel_rfl) (by kernel_rfl) (by kernel_rfl) (fun _ _ _ h => h) (Or.inl ⟨by rfl, ?hy11⟩) (by assumption) ?rest11
  case hy11 => (intro wz hSw; (try dsimp only at hSw); first | (go_simp; done) | (go_simp; with_reducible rfl))
  try simp only [Act.put, List.getElem_toArray, List.getElem_cons_succ, List.getElem_cons_zero, List.setIfInBounds_toArray, List.set_cons_zero, List.set_cons_succ]
  refine wpAnyH_take (i := 5) (v := ?v12) rfl (by kernel_rfl) (by kernel_rfl) (by kernel_rfl) (fun _ _ _ h => h) (Or.inl ⟨by rfl, ?hy12⟩) (by assumption) ?rest12
  case hy12 => (intro wz hSw; (try dsimp only at hSw); first | (go_simp; done) | (go_simp; with_reducible rfl))
  try simp only [Act.put, List.getElem_toArray, List.getElem_cons_succ, List.getElem_cons_zero, List.setIfInBounds_toArray, List.set_cons_zero, List.set_cons_succ]
  refine wpAnyH_take (i := 6) (v := ?v13) rfl (by kernel_rfl) (by kernel_rfl) (by kernel_rfl) (fun _ _ _ h => h) (Or.inl ⟨by rfl, ?hy13⟩) (by assumption) ?rest13
  case hy13 => (intro wz hSw; (try dsimp only at hSw); first | (go_simp; done) | (go_simp; with_reducible rfl))
  try simp only [Act.put, List.getElem_toArray, List.getElem_cons_succ, List.getElem_cons_zero, List.setIfInBounds_toArray, List.set_cons_zero, List.set_cons_succ]
  refine wpAnyH_take (i := 7) (v := ?v14) rfl (by kernel_rfl) (by kernel_rfl) (by kernel_rfl) (fun _ _ _ h => h) (Or.inl ⟨by rfl, ?hy14⟩) (by assumption) ?rest14
  case hy14 => (intro wz hSw; (try dsimp only at hSw); first | (go_simp; done) | (go_simp; with_reducible rfl))
  try simp only [Act.put, List.getElem_toArray, List.getElem_cons_succ, List.getElem_cons_zero, List.setIfInBounds_toArray, List.set_cons_zero, List.set_cons_succ]
  refine wpAnyH_take (i := 8) (v := ?v15) rfl (by kernel_rfl) (by kernel_rfl) (by kernel_rfl) (fun _ _ _ h => h) (Or.inl ⟨by rfl, ?hy15⟩) (by assumption) ?rest15
  case hy15 => (intro wz hSw; (try dsimp only at hSw); first | (go_simp; done) | (go_simp; with_reducible rfl))
  try simp only [Act.put, List.getElem_toArray, List.getElem_cons_succ, List.getElem_cons_zero, List.setIfInBounds_toArray, List.set_cons_zero, List.set_cons_succ]
  refine wpAnyH_take (i := 9) (v := ?v16) rfl (by kernel_rfl) (by kernel_rfl) (by kernel_rfl) (fun _ _ _ h => h) (Or.inl ⟨by rfl, ?hy16⟩) (by assumption) ?rest16
  case hy16 => (intro wz hSw; (try dsimp only at hSw); first | (go_simp; done) | (go_simp; with_reducible rfl))
  try simp only [Act.put, List.getElem_toArray, List.getElem_cons_succ, List.getElem_cons_zero, List.setIfInBounds_toArray, List.set_cons_zero, List.set_cons_succ]
  refine wpAnyH_take (i := 10) (v := ?v17) rfl (by kernel_rfl) (by kernel_rfl) (by kernel_rfl) (fun _ _ _ h => h) (Or.inl ⟨by rfl, ?hy17⟩) (by assumption) ?rest17
  case hy17 => (intro wz hSw; (try dsimp only at hSw); first | (go_simp; done) | (go_simp; with_reducible rfl))
  try simp only [Act.put, List.getElem_toArray, List.getElem_cons_succ, List.getElem_cons_zero, List.setIfInBounds_toArray, List.set_cons_zero, List.set_cons_succ]
  refine wpAnyH_take (i := 12) (v := ?v18) rfl (by kernel_rfl) (by kernel_rfl) (by kernel_rfl) (fun _ _ _ h => h) (Or.inl ⟨by rfl, ?hy18⟩) (by assumption) ?rest18
  case hy18 => (intro wz hSw; (try dsimp only at hSw); first | (go_simp; done) | (go_simp; with_reducible rfl))
  try simp only [Act.put, List.getElem_toArray, List.getElem_cons_succ, List.getElem_cons_zero, List.setIfInBounds_toArray, List.set_cons_zero, List.set_cons_succ]
  refine wpAnyH_take (i := 13) (v := ?v19) rfl (by kernel_rfl) (by kernel_rfl) (by kernel_rfl) (fun _ _ _ h => h) (Or.inl ⟨by rfl, ?hy19⟩) (by assumption) ?rest19
  case hy19 => (intro wz hSw; (try dsimp only at hSw); first | (go_simp; done) | (go_simp; with_reducible rfl))
  try simp only [Act.put, List.getElem_toArray, List.getElem_cons_succ, List.getElem_cons_zero, List.setIfInBounds_toArray, List.set_cons_zero, List.set_cons_succ]
  refine wpAnyH_ready (rs := [11]) (by kernel_rfl) (by simp) ?_
  refine AllReadyH.cons (o := _) rfl (fun K hK => ?_) AllReadyH.nil
  go_simp
  (with_reducible refine (KS1.out _ (gb_trans G5.out R1.out)).mono ?_)
  rintro e rw2 ⟨E3, rfl, nl, g⟩
  obtain ⟨ea, ec, rfl⟩ := own_shape nl
  have N3 := Lib.hid (nl_si nl rfl RNG.out)
  clear nl
  have R2 := Lib.hid (gb_trans R1.out g)
  clear g
  try dsimp only
  refine hK.out _ _ (KS.out _ R2.out) (fun hH2 => ?_)
  clear hK K hH1
  try simp only [Act.put, List.getElem_toArray, List.getElem_cons_succ, List.getElem_cons_zero, List.setIfInBounds_toArray, List.set_cons_zero, List.set_cons_succ]
  refine wpAnyH_ready (rs := [14]) (by kernel_rfl) (by simp) ?_
  refine AllReadyH.cons (o := _) rfl (fun K hK => ?_) AllReadyH.nil
  go_simp
  (with_reducible refine (KS2.out _ (gb_trans G5.out R2.out)).mono ?_)
  rintro e rw3 ⟨E4, rfl, nl, g⟩
  obtain ⟨eb, ed, rfl⟩ := own_shape nl
  have N4 := Lib.hid (nl_si nl rfl RNG.out)
  replace N3 := Lib.hid (N3.out.keep0 g)
  clear nl
  have R3 := Lib.hid (gb_trans R2.out g)
  clear g
  try dsimp only
  refine hK.out _ _ (KS.out _ R3.out) (fun hH3 => ?_)
  clear hK K hH2
  try simp only [Act.put, List.getElem_toArray, List.getElem_cons_succ, List.getElem_cons_zero, List.setIfInBounds_toArray, List.set_cons_zero, List.set_cons_succ]
  refine wpAnyH_ready (rs := [15]) (by kernel_rfl) (by simp) ?_
  refine AllReadyH.cons (o := _) rfl (fun K hK => ?_) AllReadyH.nil
  go_simp
  (with_reducible refine (eqints_any _ _ _ _ _ _ _ _ _ N3.out N4.out LN9.out true (by simp)).mono ?_)
  rintro e rw4 ⟨rfl, g⟩
  have R4 := Lib.hid (gb_trans R3.out g)
  clear g
  try dsimp only
  refine hK.out _ _ (KS.out _ R4.out) (fun hH4 => ?_)
  clear hK K hH3
  try simp only [Act.put, List.getElem_toArray, List.getElem_cons_succ, List.getElem_cons_zero, List.setIfInBounds_toArray, List.set_cons_zero, List.set_cons_succ]
  refine wpAnyH_take (i := 16) (v := ?v20) rfl (by kernel_rfl) (by kernel_rfl) (by kernel_rfl) (fun _ _ _ h => h) (Or.inl ⟨by rfl, ?hy20⟩) (by assumption) ?rest20
  case hy20 => (intro wz hSw; (try dsimp only at hSw); first | (go_simp; done) | (go_simp; with_reducible rfl))
  try simp only [Act.put, List.getElem_toArray, List.getElem_cons_succ, List.getElem_cons_zero, List.setIfInBounds_toArray, List.set_cons_zero, List.set_cons_succ]
  refine wpAnyH_take (i := 17) (v := ?v21) rfl (by kernel_rfl) (by kernel_rfl) (by kernel_rfl) (fun _ _ _ h => h) (Or.inl ⟨by rfl, ?hy21⟩) (by assumption) ?rest21
  case hy21 => (intro wz hSw; (try dsimp only at hSw); first | (go_simp; done) | (go_simp; with_reducible rfl))
  try simp only [Act.put, List.getElem_toArray, List.getElem_cons_succ, List.getElem_cons_zero, List.setIfInBounds_toArray, List.set_cons_zero, List.set_cons_succ]
  refine wpAnyH_ready (rs := [18]) (by kernel_rfl) (by simp) ?_
  refine AllReadyH.cons (o := _) rfl (fun K hK => ?_) AllReadyH.nil
  go_simp
  (with_reducible refine (works18_any _).mono ?_)
  rintro e rw5 ⟨rfl, g⟩
  have R5 := Lib.hid (gb_trans R4.out g)
  clear g
  try dsimp only
  refine hK.out _ _ (KS.out _ R5.out) (fun hH5 => ?_)
  clear hK K hH4
  try simp only [Act.put, List.getElem_toArray, List.getElem_cons_succ, List.getElem_cons_zero, List.setIfInBounds_toArray, List.set_cons_zero, List.set_cons_succ]
  refine wpAnyH_take (i := 19) (v := ?v22) rfl (by kernel_rfl) (by kernel_rfl) (by kernel_rfl) (fun _ _ _ h => h) (Or.inl ⟨by rfl, ?hy22⟩) (by assumption) ?rest22
  case hy22 => (intro wz hSw; (try dsimp only at hSw); first | (go_simp; done) | (go_simp; with_reducible rfl))
  try simp only [Act.put, List.getElem_toArray, List.getElem_cons_succ, List.getElem_cons_zero, List.setIfInBounds_toArray, List.set_cons_zero, List.set_cons_succ]
  refine wpAnyH_take (i := 20) (v := ?v23) rfl (by kernel_rfl) (by kernel_rfl) (by kernel_rfl) (fun _ _ _ h => h) (Or.inl ⟨by rfl, ?hy23⟩) (by assumption) ?rest23
  case hy23 => (intro wz hSw; (try dsimp only at hSw); first | (go_simp; done) | (go_simp; with_reducible rfl))
  try simp only [Act.put, List.getElem_toArray, List.getElem_cons_succ, List.getElem_cons_zero, List.setIfInBounds_toArray, List.set_cons_zero, List.set_cons_succ]
  refine wpAnyH_done (by kernel_rfl) ?_ _
  clear hH5
  have GF := Lib.hid (gb_trans G5.out R5.out)
  go_wp2
  go_ret
  exact ⟨rfl, GF.out⟩
end Go.Proofs.Ytngobkghcogahaa
end
