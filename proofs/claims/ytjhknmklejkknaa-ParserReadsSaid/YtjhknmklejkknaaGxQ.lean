/- Several texts in one: PsS, PsT. -/
import Derived.Test.YtjhknmklejkknaaGxH
import Derived.Deep.QuietTactic
import Derived.BigQuiet
import Derived.Deep.RegionWith
import Derived.StillTailTactics
import Derived.Test.YtjhknmklejkknaaGxG
section
namespace Go.Proofs.Ytjhknmklejkknaa
open Go.RowKit
set_option linter.unusedVariables false
set_option maxRecDepth 100000 in
set_option maxHeartbeats 8000000 in
theorem prun_any (w : World) (nm : ByteArray) (rA xA tA kA dA ha ma sa : Option Addr) (rN rC xN xC tN tC kN kC dN dC hn hc mn mc sn sc : Nat) (H : List (ByteArray × List Fld)) (M : List Fld) (S : List Pst) (hH : SH w ha hn hc H) (hM : SF w ma mn mc M) (hS : SPs w sa sn sc S) (hnz : ∀ i, (S.getD i psz).nm.size ≤ 9223372036854775807) (hz9 : HZ H) (hb9 : hn ≤ 1000) (mb9 : mn ≤ 1000) (da : Option Addr) (dn dc : Nat) (bs : List Int) (hD : SY w da dn dc bs) (hdl : dn ≤ 60000) (a1 a2 e : Int) (hr : PkC H M S a1 a2 e) (b0 : Bool) (hb0 : b0 = true ↔ hdsOk H) (res : EL × List Int × Int) (hres : res = pRun H M S bs (inE e b0 dn)) : Calls Try.prog 48 #[.agg #[.string nm, .slice ha hn hc, .slice ma mn mc, .slice rA rN rC, .slice xA xN xC, .slice tA tN tC, .slice sa sn sc, .slice kA kN kC, .slice dA dN dC], .slice da dn dc] w (RetPk res.1 res.2.1 res.2.2 w) := by
  obtain ⟨e0, he0⟩ : ∃ x, x = inE e b0 dn := ⟨_, rfl⟩
  have K1 := Lib.hid (fun (W : World) (q : w.grownBy W none) => pinput_any W (.string nm) (.slice rA rN rC) (.slice xA xN xC) (.slice tA tN tC) (.slice kA kN kC) (.slice dA dN dC) ha ma sa hn hc mn mc sn sc H M S (hH.keep0 q) (hM.keep0 q) (hS.keep0SPs q) hnz hz9 (by omega) da dn dc a1 a2 e hr b0 hb0)
  unfold RetV at K1
  rw [← he0] at K1 hres
  have KE := Lib.hid (fun (W : World) (q : w.grownBy W none) => enew_any W (.string nm) (.slice rA rN rC) (.slice xA xN xC) (.slice tA tN tC) (.slice sa sn sc) (.slice kA kN kC) (.slice dA dN dC) ha ma hn hc mn mc H M (hH.keep0 q) (hM.keep0 q) (by omega) (by omega) (fun j => by
    by_cases hj : j < H.length
    · rw [List.getD_eq_getElem?_getD, List.getElem?_eq_getElem hj]; have := hz9.fl _ (List.getElem_mem hj); simp only [Option.getD_some]; omega
    · rw [List.getD_eq_getElem?_getD, List.getElem?_eq_none (by omega)]; decide))
  unfold RetE at KE
  have HH := Lib.hid hH
  have HS := Lib.hid hS
  have ZH := Lib.hid hz9
  have HD := Lib.hid hD
  have BL := Lib.hid (show bs.length ≤ 60000 by have := hD.len; omega)
  have LH := Lib.hid hH.len
  have LS9 := Lib.hid hS.len
  have HR := Lib.hid hr.ok
  have HE0 := Lib.hid he0
  have HRES := Lib.hid hres
  have G1 := Lib.hid (gb_trans (gb_alloc w (.cells #[.string nm, .slice ha hn hc, .slice ma mn mc, .slice rA rN rC, .slice xA xN xC, .slice tA tN tC, .slice sa sn sc, .slice kA kN kC, .slice dA dN dC] 31) none) (gb_alloc _ (.cells #[.slice none 0 0, .slice none 0 0, .slice none 0 0, .slice none 0 0] 42) none))
  have B1 := (IsB.new w 31 #[.string nm, .slice ha hn hc, .slice ma mn mc, .slice rA rN rC, .slice xA xN xC, .slice tA tN tC, .slice sa sn sc, .slice kA kN kC, .slice dA dN dC]).alloc (.cells #[.slice none 0 0, .slice none 0 0, .slice none 0 0, .slice none 0 0] 42)
  have B2 := IsB.new (w.alloc (.cells #[.string nm, .slice ha hn hc, .slice ma mn mc, .slice rA rN rC, .slice xA xN xC, .slice tA tN tC, .slice sa sn sc, .slice kA kN kC, .slice dA dN dC] 31)) 42 #[.slice none 0 0, .slice none 0 0, .slice none 0 0, .slice none 0 0]
  simp only [sz_al] at B2
  replace B1 := Lib.hid B1
  replace B2 := Lib.hid B2
  clear hH hM hS hnz hz9 hb9 mb9 hD hdl hr hb0 hres he0
  go_enter Try.func48, Try.ntmps48
  go_upto_region 1 with fail
  generalize (w.alloc (.cells #[.string nm, .slice ha hn hc, .slice ma mn mc, .slice rA rN rC, .slice xA xN xC, .slice tA tN tC, .slice sa sn sc, .slice kA kN kC, .slice dA dN dC] 31)).alloc (.cells #[.slice none 0 0, .slice none 0 0, .slice none 0 0, .slice none 0 0] 42) = w1 at *
  obtain ⟨bx, hbx⟩ : ∃ b, b = w.heap.size := ⟨_, rfl⟩
  have Lbx := Lib.hid (show w.heap.size ≤ bx by rw [hbx]; exact Nat.le_refl _)
  rw [← hbx] at B1 B2 ⊢
  clear hbx
  have c0 := (B1.out.keep0 (gb_refl _ _)).cell 0
  have c1 := (B1.out.keep0 (gb_refl _ _)).cell 1
  have c2 := (B1.out.keep0 (gb_refl _ _)).cell 2
  have c3 := (B1.out.keep0 (gb_refl _ _)).cell 3
  have c4 := (B1.out.keep0 (gb_refl _ _)).cell 4
  have c5 := (B1.out.keep0 (gb_refl _ _)).cell 5
  have c6 := (B1.out.keep0 (gb_refl _ _)).cell 6
  have c7 := (B1.out.keep0 (gb_refl _ _)).cell 7
  have c8 := (B1.out.keep0 (gb_refl _ _)).cell 8
  dsimp at c0 c1 c2 c3 c4 c5 c6 c7 c8
  go_wp2_with fail
  refine (K1.out _ G1.out).mono ?_
  rintro e9 w2 ⟨rfl, g⟩
  have G2 := Lib.hid (gb_trans G1.out g)
  replace B1 := Lib.hid (B1.out.keep0 g)
  replace B2 := Lib.hid (B2.out.keep0 g)
  clear g K1 c0 c1 c2 c3 c4 c5 c6 c7 c8
  by_cases h0 : e0 = 0
  case neg =>
    have q0 : (e0 != 0) = true := by simp [h0]
    have Z := Lib.hid (show res = (newE H M, [], e0) by rw [HRES.out]; unfold pRun; rw [if_pos h0])
    have c0 := (B1.out.keep0 (gb_refl _ _)).cell 0
    have c1 := (B1.out.keep0 (gb_refl _ _)).cell 1
    have c2 := (B1.out.keep0 (gb_refl _ _)).cell 2
    have c3 := (B1.out.keep0 (gb_refl _ _)).cell 3
    have c4 := (B1.out.keep0 (gb_refl _ _)).cell 4
    have c5 := (B1.out.keep0 (gb_refl _ _)).cell 5
    have c6 := (B1.out.keep0 (gb_refl _ _)).cell 6
    have c7 := (B1.out.keep0 (gb_refl _ _)).cell 7
    have c8 := (B1.out.keep0 (gb_refl _ _)).cell 8
    dsimp at c0 c1 c2 c3 c4 c5 c6 c7 c8
    go_wp2_with fail
    refine (KE.out _ G2.out).mono ?_
    rintro e9 w3 ⟨X, Vs, rfl, oe, g⟩
    have OX := Lib.hid (oe.low G2.out.size)
    have G3 := Lib.hid (gb_trans G2.out g)
    replace B2 := Lib.hid (B2.out.keep0 g)
    clear oe g KE c0 c1 c2 c3 c4 c5 c6 c7 c8
    have P4 := Lib.hid (put4 B2.out (.slice X.va X.vn X.vc) (.slice X.fa X.fn X.fc) (.slice X.ta X.tn X.tc) (.slice X.pa X.pn X.pc))
    have OX4 := Lib.hid (OX.out.kB P4.out.2 B2.out (by decide) (by decide) (by decide) (by decide))
    have G4 := Lib.hid (gb_new (gb_trans (gb_any G3.out) P4.out.2) (Nat.le_trans Lbx.out (Nat.le_add_right _ _)))
    have y0 := (B2.out.keep0 (gb_refl _ _)).cell 0
    have y1 := (B2.out.keep0 (gb_refl _ _)).cell 1
    have y2 := (B2.out.keep0 (gb_refl _ _)).cell 2
    have y3 := (B2.out.keep0 (gb_refl _ _)).cell 3
    dsimp at y0 y1 y2 y3
    have f0 := B2.out.free 0
    have f1 := B2.out.free 1
    have f2 := B2.out.free 2
    have f3 := B2.out.free 3
    go_wp2
    have k0 := P4.out.1.cell 0
    have k1 := P4.out.1.cell 1
    have k2 := P4.out.1.cell 2
    have k3 := P4.out.1.cell 3
    dsimp at k0 k1 k2 k3
    rw [Z.out]
    generalize ((((w3.setCell ⟨bx + 1, 0, none⟩ (.slice X.va X.vn X.vc)).setCell ⟨bx + 1, 1, none⟩ (.slice X.fa X.fn X.fc)).setCell ⟨bx + 1, 2, none⟩ (.slice X.ta X.tn X.tc)).setCell ⟨bx + 1, 3, none⟩ (.slice X.pa X.pn X.pc)) = w4 at *
    refine bodyPost_ret (v := .tuple #[.agg #[.slice X.va X.vn X.vc, .slice X.fa X.fn X.fc, .slice X.ta X.tn X.tc, .slice X.pa X.pn X.pc], .slice none 0 0, .int .i64 e0]) (by rw [results_cell3 rfl]; go_simp; try rfl) rfl ⟨X, Vs, _, rfl, OX4.out, World.ownsRow_nil _ _ _ _, G4.out⟩
  subst h0
  obtain ⟨he, hb, hn5⟩ := inE_zero HE0.out.symm
  have OKS := Lib.hid (HR.out.1 he)
  clear he hb hn5
  have q0 : ((0 : Int) != 0) = false := by simp
  go_upto_region 4 with fail
  go_cut [8] from 17 to 23 (fun s8 wx => ∃ (bm r s : Nat) (V : Value) (X : EX) (Vs : List Value) (eg : Nat), s8 = .pointer (some ⟨bm, 0, none⟩) ∧ MSt w2 bm r s #[.string nm, .slice ha hn hc, .slice ma mn mc, .slice rA rN rC, .slice xA xN xC, .slice tA tN tC, .slice sa sn sc, .slice kA kN kC, .slice dA dN dC, .pointer (some ⟨r, 0, none⟩), .slice X.va X.vn X.vc, .slice X.fa X.fn X.fc, .slice X.ta X.tn X.tc, .slice X.pa X.pn X.pc, .slice (some ⟨eg, 0, none⟩) 1 1, .bool false, .int .i64 0] V bs 0 X (newE H M) Vs (.slice (some ⟨eg, 0, none⟩) 1 1) [0] wx ∧ (bs = [] → V = .slice none 0 0))
  case first =>
    have KR := Lib.hid (fun (w' : World) (q0 : w2.grownBy w' none) => (⟨(B1.out.keep0 q0).cell 0, (B1.out.keep0 q0).cell 1, (B1.out.keep0 q0).cell 2, (B1.out.keep0 q0).cell 3, (B1.out.keep0 q0).cell 4, (B1.out.keep0 q0).cell 5, (B1.out.keep0 q0).cell 6, (B1.out.keep0 q0).cell 7, (B1.out.keep0 q0).cell 8, q0⟩ : (fun w' : World => w'.cell? ⟨bx, 0, none⟩ = some (.string nm) ∧ w'.cell? ⟨bx, 1, none⟩ = some (.slice ha hn hc) ∧ w'.cell? ⟨bx, 2, none⟩ = some (.slice ma mn mc) ∧ w'.cell? ⟨bx, 3, none⟩ = some (.slice rA rN rC) ∧ w'.cell? ⟨bx, 4, none⟩ = some (.slice xA xN xC) ∧ w'.cell? ⟨bx, 5, none⟩ = some (.slice tA tN tC) ∧ w'.cell? ⟨bx, 6, none⟩ = some (.slice sa sn sc) ∧ w'.cell? ⟨bx, 7, none⟩ = some (.slice kA kN kC) ∧ w'.cell? ⟨bx, 8, none⟩ = some (.slice dA dN dC) ∧ w2.grownBy w' none) w'))
    have R0 := Lib.hid (gb_drew w2 none)
    refine wp_region_held_drew (S := (fun w' : World => w'.cell? ⟨bx, 0, none⟩ = some (.string nm) ∧ w'.cell? ⟨bx, 1, none⟩ = some (.slice ha hn hc) ∧ w'.cell? ⟨bx, 2, none⟩ = some (.slice ma mn mc) ∧ w'.cell? ⟨bx, 3, none⟩ = some (.slice rA rN rC) ∧ w'.cell? ⟨bx, 4, none⟩ = some (.slice xA xN xC) ∧ w'.cell? ⟨bx, 5, none⟩ = some (.slice tA tN tC) ∧ w'.cell? ⟨bx, 6, none⟩ = some (.slice sa sn sc) ∧ w'.cell? ⟨bx, 7, none⟩ = some (.slice kA kN kC) ∧ w'.cell? ⟨bx, 8, none⟩ = some (.slice dA dN dC) ∧ w2.grownBy w' none)) (by kernel_rfl) (KR.out _ R0.out) (fun hH0 => ?_)
    refine wpAnyH_take (i := 0) (v := ?v8) rfl (by kernel_rfl) (by kernel_rfl) (by kernel_rfl) (fun _ _ _ h => h) (Or.inl ⟨by rfl, ?hy8⟩) (by assumption) ?rest8
    case hy8 => (intro wz hSw; (try dsimp only at hSw); first | (go_simp; done) | (go_simp; with_reducible rfl))
    try simp only [Act.put, List.getElem_toArray, List.getElem_cons_zero, List.setIfInBounds_toArray, List.set_cons_zero, List.set_cons_succ]
    refine wpAnyH_take (i := 1) (v := ?v9) rfl (by kernel_rfl) (by kernel_rfl) (by kernel_rfl) (fun _ _ _ h => h) (Or.inl ⟨by rfl, ?hy9⟩) (by assumption) ?rest9
    case hy9 => (intro wz hSw; (try dsimp only at hSw); first | (go_simp; done) | (go_simp; with_reducible rfl))
    try simp only [Act.put, List.getElem_toArray, List.getElem_cons_succ, List.getElem_cons_zero, List.setIfInBounds_toArray, List.set_cons_zero, List.set_cons_succ]
    refine wpAnyH_take (i := 3) (v := ?v10) rfl (by kernel_rfl) (by kernel_rfl) (by kernel_rfl) (fun _ _ _ h => h) (Or.inl ⟨by rfl, ?hy10⟩) (by assumption) ?rest10
    case hy10 => (intro wz hSw; (try dsimp only at hSw); first | (go_simp; done) | (go_simp; with_reducible rfl))
    try simp only [Act.put, List.getElem_toArray, List.getElem_cons_succ, List.getElem_cons_zero, List.setIfInBounds_toArray, List.set_cons_zero, List.set_cons_succ]
    refine wp_run4 w2 bs (newE H M) (.string nm) (.slice ha hn hc) (.slice ma mn mc) (.slice rA rN rC) (.slice xA xN xC) (.slice tA tN tC) (.slice sa sn sc) (.slice kA kN kC) (.slice dA dN dC) _ _ ?step ?fin R0.out rfl
    case step =>
      clear hH0
      rintro l A W9 ⟨f2, f4, f5, f6, f7, f8, r, s, V, X, Vs, eg, bm, v2, v4, v5, v6, v7, rfl, rfl, gw, h2, h4, h5, h7, h6, h8⟩ i hi
      obtain ⟨un, o, ho, hall⟩ := mem_ready.1 hi
      clear hi
      have GW := Lib.hid gw
      have H2 := Lib.hid h2
      have H4 := Lib.hid h4
      have H5 := Lib.hid h5
      have H6 := Lib.hid h6
      have H7 := Lib.hid h7
      have H8 := Lib.hid h8
      clear gw h2 h4 h5 h6 h7 h8
      have hlt : i < 9 := by
        obtain ⟨q, _⟩ := Array.getElem?_eq_some_iff.1 ho
        exact q
      rcases (show i = 0 ∨ i = 1 ∨ i = 2 ∨ i = 3 ∨ i = 4 ∨ i = 5 ∨ i = 6 ∨ i = 7 ∨ i = 8 by omega) with rfl | rfl | rfl | rfl | rfl | rfl | rfl | rfl | rfl
      · exact absurd un (by simp)
      · exact absurd un (by simp)
      · have un : f2 = false := by simpa using un
        subst un
        obtain rfl : f6 = false := by
          cases f6
          · rfl
          · have q := (H6.out rfl).1; cases q
        obtain rfl : f8 = false := by
          cases f8
          · rfl
          · have q := (H8.out rfl).1; cases q
        refine wpOp_step (o := _) rfl (fun K2 hK2 => ?_)
        have HK2 := Lib.hid hK2
        clear hK2 ho hall
        simp only [Act.put, List.getElem_toArray, List.setIfInBounds_toArray, List.set_cons_zero, List.set_cons_succ]
        go_simp
        (with_reducible refine (newReader_any W9 da dn dc bs (HD.out.slr.keep0 (gb_trans G2.out GW.out)) BL.out).mono ?_)
        rintro e9 W8 ⟨r7, s7, V7, rfl, g, rd, nil, lr, ls⟩
        have RD := Lib.hid (⟨rd.rb, rd.sb, own_low rd.own GW.out.size⟩ : Rdr W8 w2.heap.size r7 s7 V7 bs 0)
        have NIL := Lib.hid nil
        have LS := Lib.hid (Nat.le_trans GW.out.size ls)
        have GG := Lib.hid g
        have GN := Lib.hid (gb_trans GW.out g)
        clear rd nil lr ls g
        try dsimp only
        refine HK2.out _ _ ⟨KR.out _ GN.out, true, f4, f5, false, f7, false, r7, s7, V7, X, Vs, eg, bm, .pointer (some ⟨r7, 0, none⟩), v4, v5, v6, v7, by simp, by first | rfl | (simp [Act.put]; done), GN.out, (fun _ => ⟨rfl, RD.out, NIL.out, LS.out⟩), H4.out.keep0 GG.out, H5.out.keep0 GG.out, H7.out.keep0 GG.out, (fun e => by cases e), (fun e => by cases e)⟩
      · exact absurd un (by simp)
      · have un : f4 = false := by simpa using un
        subst un
        obtain rfl : f6 = false := by
          cases f6
          · rfl
          · have q := (H6.out rfl).2.1; cases q
        obtain rfl : f8 = false := by
          cases f8
          · rfl
          · have q := (H8.out rfl).1; cases q
        refine wpOp_step (o := _) rfl (fun K2 hK2 => ?_)
        have HK2 := Lib.hid hK2
        clear hK2 ho hall
        simp only [Act.put, List.getElem_toArray, List.setIfInBounds_toArray, List.set_cons_zero, List.set_cons_succ]
        go_simp
        (with_reducible refine (KE.out W9 (gb_trans G2.out GW.out)).mono ?_)
        rintro e9 W8 ⟨X7, Vs7, rfl, oe, g⟩
        have OX := Lib.hid (oe.low GW.out.size)
        have GG := Lib.hid g
        have GN := Lib.hid (gb_trans GW.out g)
        clear oe g
        try dsimp only
        refine HK2.out _ _ ⟨KR.out _ GN.out, f2, true, f5, false, f7, false, r, s, V, X7, Vs7, eg, bm, v2, .agg #[.slice X7.va X7.vn X7.vc, .slice X7.fa X7.fn X7.fc, .slice X7.ta X7.tn X7.tc, .slice X7.pa X7.pn X7.pc], v5, v6, v7, by simp, by first | rfl | (simp [Act.put]; done), GN.out, H2.out.keep0 GG.out, (fun _ => ⟨rfl, OX.out⟩), H5.out.keep0 GG.out, H7.out.keep0 GG.out, (fun e => by cases e), (fun e => by cases e)⟩
      · have un : f5 = false := by simpa using un
        subst un
        obtain rfl : f6 = false := by
          cases f6
          · rfl
          · have q := (H6.out rfl).2.2.1; cases q
        obtain rfl : f8 = false := by
          cases f8
          · rfl
          · have q := (H8.out rfl).1; cases q
        refine wpOp_step (o := _) rfl (fun K2 hK2 => ?_)
        have HK2 := Lib.hid hK2
        clear hK2 ho hall
        simp only [Act.put, List.getElem_toArray, List.setIfInBounds_toArray, List.set_cons_zero, List.set_cons_succ]
        go_simp
        have GG := Lib.hid (gb_alloc W9 (.cells #[.int .i64 0] 3) none)
        have GN := Lib.hid (gb_trans GW.out GG.out)
        try dsimp only
        refine HK2.out _ _ ⟨KR.out _ GN.out, f2, f4, true, false, f7, false, r, s, V, X, Vs, W9.heap.size, bm, v2, v4, .slice (some ⟨W9.heap.size, 0, none⟩) 1 1, v6, v7, by simp, by first | rfl | (simp [Act.put]; done), GN.out, H2.out.keep0 GG.out, H4.out.keep0 GG.out, (fun _ => ⟨rfl, nl_one 0 GW.out.size⟩), H7.out.keep0 GG.out, (fun e => by cases e), (fun e => by cases e)⟩
      · have un : f6 = false := by simpa using un
        subst un
        obtain rfl : f8 = false := by
          cases f8
          · rfl
          · have q := (H8.out rfl).1; cases q
        have o2 : o = _ := (Option.some.inj ho).symm
        subst o2
        have d2 := hall ⟨2, .data⟩ (by simp) rfl
        have d4 := hall ⟨4, .data⟩ (by simp) rfl
        have d5 := hall ⟨5, .data⟩ (by simp) rfl
        obtain rfl : f2 = true := by simpa using d2
        obtain rfl : f4 = true := by simpa using d4
        obtain rfl : f5 = true := by simpa using d5
        clear d2 d4 d5
        obtain ⟨rfl, h2⟩ := H2.out rfl
        obtain ⟨rfl, h4⟩ := H4.out rfl
        obtain ⟨rfl, h5⟩ := H5.out rfl
        have J2 := Lib.hid h2
        have J4 := Lib.hid h4
        have J5 := Lib.hid h5
        have GN := Lib.hid GW.out
        clear h2 h4 h5 H2 H4 H5
        refine wpOp_step (o := _) rfl (fun K2 hK2 => ?_)
        have HK2 := Lib.hid hK2
        clear hK2 ho hall
        simp only [Act.put, List.getElem_toArray, List.setIfInBounds_toArray, List.set_cons_zero, List.set_cons_succ]
        go_simp
        try dsimp only
        refine HK2.out _ _ ⟨KR.out _ GN.out, true, true, true, true, f7, false, r, s, V, X, Vs, eg, bm, .pointer (some ⟨r, 0, none⟩), .agg #[.slice X.va X.vn X.vc, .slice X.fa X.fn X.fc, .slice X.ta X.tn X.tc, .slice X.pa X.pn X.pc], .slice (some ⟨eg, 0, none⟩) 1 1, .agg #[.string nm, .slice ha hn hc, .slice ma mn mc, .slice rA rN rC, .slice xA xN xC, .slice tA tN tC, .slice sa sn sc, .slice kA kN kC, .slice dA dN dC, .pointer (some ⟨r, 0, none⟩), .slice X.va X.vn X.vc, .slice X.fa X.fn X.fc, .slice X.ta X.tn X.tc, .slice X.pa X.pn X.pc, .slice (some ⟨eg, 0, none⟩) 1 1, .bool false, .int .i64 0], v7, by simp, by first | rfl | (simp [Act.put]; done), GN.out, (fun _ => ⟨rfl, J2.out⟩), (fun _ => ⟨rfl, J4.out⟩), (fun _ => ⟨rfl, J5.out⟩), H7.out, (fun _ => ⟨rfl, rfl, rfl, rfl⟩), (fun e => by cases e)⟩
      · have un : f7 = false := by simpa using un
        subst un
        obtain rfl : f8 = false := by
          cases f8
          · rfl
          · have q := (H8.out rfl).2.1; cases q
        refine wpOp_step (o := _) rfl (fun K2 hK2 => ?_)
        have HK2 := Lib.hid hK2
        clear hK2 ho hall
        simp only [Act.put, List.getElem_toArray, List.setIfInBounds_toArray, List.set_cons_zero, List.set_cons_succ]
        go_simp
        have GG := Lib.hid (gb_alloc W9 (.cells #[.string { data := #[] }, .slice none 0 0, .slice none 0 0, .slice none 0 0, .slice none 0 0, .slice none 0 0, .slice none 0 0, .slice none 0 0, .slice none 0 0, .pointer none, .slice none 0 0, .slice none 0 0, .slice none 0 0, .slice none 0 0, .slice none 0 0, .bool false, .int .i64 0] 120) none)
        have GN := Lib.hid (gb_trans GW.out GG.out)
        try dsimp only
        refine HK2.out _ _ ⟨KR.out _ GN.out, f2, f4, f5, f6, true, false, r, s, V, X, Vs, eg, W9.heap.size, v2, v4, v5, v6, .pointer (some ⟨W9.heap.size, 0, none⟩), by simp, by first | rfl | (simp [Act.put]; done), GN.out, H2.out.keep0 GG.out, H4.out.keep0 GG.out, H5.out.keep0 GG.out, (fun _ _ => ⟨rfl, GW.out.size, IsB.new _ _ _⟩), H6.out, (fun e => by cases e)⟩
      · have un : f8 = false := by simpa using un
        subst un
        have o2 : o = _ := (Option.some.inj ho).symm
        subst o2
        have d6 := hall ⟨6, .data⟩ (by simp) rfl
        have d7 := hall ⟨7, .data⟩ (by simp) rfl
        obtain rfl : f6 = true := by simpa using d6
        obtain rfl : f7 = true := by simpa using d7
        clear d6 d7
        obtain ⟨rfl, rfl, rfl, rfl⟩ := H6.out rfl
        obtain ⟨rfl, h2, hnl, hs⟩ := H2.out rfl
        obtain ⟨rfl, h4⟩ := H4.out rfl
        obtain ⟨rfl, h5⟩ := H5.out rfl
        obtain ⟨rfl, lm, mb⟩ := H7.out rfl rfl
        have MB := Lib.hid mb
        have NIL := Lib.hid hnl
        have LSS := Lib.hid hs
        have MS0 := Lib.hid (⟨mb, h2, h4, h5, GW.out, lm, hs⟩ : MSt w2 bm r s #[.string { data := #[] }, .slice none 0 0, .slice none 0 0, .slice none 0 0, .slice none 0 0, .slice none 0 0, .slice none 0 0, .slice none 0 0, .slice none 0 0, .pointer none, .slice none 0 0, .slice none 0 0, .slice none 0 0, .slice none 0 0, .slice none 0 0, .bool false, .int .i64 0] V bs 0 X (newE H M) Vs (.slice (some ⟨eg, 0, none⟩) 1 1) [0] W9)
        have P17 := Lib.hid (put17 MB.out (.string nm) (.slice ha hn hc) (.slice ma mn mc) (.slice rA rN rC) (.slice xA xN xC) (.slice tA tN tC) (.slice sa sn sc) (.slice kA kN kC) (.slice dA dN dC) (.pointer (some ⟨r, 0, none⟩)) (.slice X.va X.vn X.vc) (.slice X.fa X.fn X.fc) (.slice X.ta X.tn X.tc) (.slice X.pa X.pn X.pc) (.slice (some ⟨eg, 0, none⟩) 1 1) (.bool false) (.int .i64 0))
        have MS1 := Lib.hid (MS0.out.put P17.out.2 P17.out.1)
        have GN := Lib.hid MS1.out.g
        clear h2 h4 h5 lm mb hnl hs H2 H4 H5 H6 H7 H8
        have zc0 := MB.out.cell 0
        have zf0 := MB.out.free 0
        have zc1 := MB.out.cell 1
        have zf1 := MB.out.free 1
        have zc2 := MB.out.cell 2
        have zf2 := MB.out.free 2
        have zc3 := MB.out.cell 3
        have zf3 := MB.out.free 3
        have zc4 := MB.out.cell 4
        have zf4 := MB.out.free 4
        have zc5 := MB.out.cell 5
        have zf5 := MB.out.free 5
        have zc6 := MB.out.cell 6
        have zf6 := MB.out.free 6
        have zc7 := MB.out.cell 7
        have zf7 := MB.out.free 7
        have zc8 := MB.out.cell 8
        have zf8 := MB.out.free 8
        have zc9 := MB.out.cell 9
        have zf9 := MB.out.free 9
        have zc10 := MB.out.cell 10
        have zf10 := MB.out.free 10
        have zc11 := MB.out.cell 11
        have zf11 := MB.out.free 11
        have zc12 := MB.out.cell 12
        have zf12 := MB.out.free 12
        have zc13 := MB.out.cell 13
        have zf13 := MB.out.free 13
        have zc14 := MB.out.cell 14
        have zf14 := MB.out.free 14
        have zc15 := MB.out.cell 15
        have zf15 := MB.out.free 15
        have zc16 := MB.out.cell 16
        have zf16 := MB.out.free 16
        dsimp at zc0 zc1 zc2 zc3 zc4 zc5 zc6 zc7 zc8 zc9 zc10 zc11 zc12 zc13 zc14 zc15 zc16
        refine wpOp_step (o := _) rfl (fun K2 hK2 => ?_)
        have HK2 := Lib.hid hK2
        clear hK2 ho hall
        simp only [Act.put, List.getElem_toArray, List.setIfInBounds_toArray, List.set_cons_zero, List.set_cons_succ]
        go_simp
        try dsimp only
        refine HK2.out _ _ ⟨KR.out _ GN.out, true, true, true, true, true, true, r, s, V, X, Vs, eg, bm, .pointer (some ⟨r, 0, none⟩), .agg #[.slice X.va X.vn X.vc, .slice X.fa X.fn X.fc, .slice X.ta X.tn X.tc, .slice X.pa X.pn X.pc], .slice (some ⟨eg, 0, none⟩) 1 1, .agg #[.string nm, .slice ha hn hc, .slice ma mn mc, .slice rA rN rC, .slice xA xN xC, .slice tA tN tC, .slice sa sn sc, .slice kA kN kC, .slice dA dN dC, .pointer (some ⟨r, 0, none⟩), .slice X.va X.vn X.vc, .slice X.fa X.fn X.fc, .slice X.ta X.tn X.tc, .slice X.pa X.pn X.pc, .slice (some ⟨eg, 0, none⟩) 1 1, .bool false, .int .i64 0], .pointer (some ⟨bm, 0, none⟩), by simp, by first | rfl | (simp [Act.put]; done), GN.out, (fun _ => ⟨rfl, MS1.out.rd, NIL.out, LSS.out⟩), (fun _ => ⟨rfl, MS1.out.pk⟩), (fun _ => ⟨rfl, MS1.out.en⟩), (fun _ e => by cases e), (fun _ => ⟨rfl, rfl, rfl, rfl⟩), (fun _ => ⟨rfl, rfl, rfl, MS1.out⟩)⟩
    case fin =>
      clear hH0
      rintro l A W9 ⟨f2, f4, f5, f6, f7, f8, r, s, V, X, Vs, eg, bm, v2, v4, v5, v6, v7, rfl, rfl, gw, h2, h4, h5, h7, h6, h8⟩ hr
      obtain ⟨rfl, rfl, rfl, rfl, rfl, rfl⟩ : f2 = true ∧ f4 = true ∧ f5 = true ∧ f6 = true ∧ f7 = true ∧ f8 = true := by
        clear gw h2 h4 h5 h7 h6 h8
        revert hr
        cases f2 <;> cases f4 <;> cases f5 <;> cases f6 <;> cases f7 <;> cases f8 <;> first | exact fun _ => ⟨rfl, rfl, rfl, rfl, rfl, rfl⟩ | exact fun hr => absurd hr (by decide +kernel)
      obtain ⟨_, _, rfl, ms⟩ := h8 rfl
      have NIL := Lib.hid (h2 rfl).2.2.1
      have MS1 := Lib.hid ms
      clear h2 h4 h5 h7 h6 h8 gw ms hr
      simp only [Act.put, List.getElem_toArray, List.setIfInBounds_toArray, List.set_cons_zero, List.set_cons_succ]
      go_wp2_with fail
      go_meet
      exact ⟨bm, r, s, V, X, Vs, eg, rfl, MS1.out, NIL.out⟩
  case rest =>
    obtain ⟨bm, r, s, V, ⟨va, fa, ta, pa, vn, vc, fn, fc, tn, tc, pn, pc⟩, Vs, eg, rfl, hm, hnil⟩ := hcut
    dsimp only at hm
    have HM := Lib.hid hm
    have NIL := Lib.hid hnil
    have HV := Lib.hid (show vn = hn by have z := hm.pk.vl; dsimp only [newE] at z; rw [List.length_replicate, LH.out] at z; exact z.symm)
    have HF := Lib.hid (show fn = hn by have z := hm.pk.fl; dsimp only [newE] at z; rw [List.length_map, LH.out] at z; exact z.symm)
    have HB := Lib.hid (show ∀ x ∈ bs, 0 ≤ x ∧ x ≤ 255 from fun x hx => by have := HD.out.rng x hx; omega)
    obtain ⟨R9, hR9⟩ : ∃ R, R = pGo H bs S 12 0 [0] (newE H M) 0 := ⟨_, rfl⟩
    have Z := Lib.hid (show res = if R9.1 ≠ 0 then (newE H M, R9.2.1, R9.1) else (⟨R9.2.2.1.V, R9.2.2.1.F, R9.2.2.1.T, (restR bs R9.2.2.2).2⟩, R9.2.1, 0) by rw [HRES.out, hR9]; unfold pRun; rw [if_neg (by simp)])
    have H9 := Lib.hid hR9
    clear hm hnil hR9 HRES
    go_wp2
    go_loopw [] (fun wr => ∃ (st : List Int) (L : EL) (pos : Nat) (Vs : List Value) (ea : Option Addr) (en ec : Nat) (o : Bool) (c : Int), MSt w2 bm r s #[.string nm, .slice ha hn hc, .slice ma mn mc, .slice rA rN rC, .slice xA xN xC, .slice tA tN tC, .slice sa sn sc, .slice kA kN kC, .slice dA dN dC, .pointer (some ⟨r, 0, none⟩), .slice va vn vc, .slice fa fn fc, .slice ta tn tc, .slice pa pn pc, .slice ea en ec, .bool o, .int .i64 c] V bs pos ⟨va, fa, ta, pa, vn, vc, fn, fc, tn, tc, pn, pc⟩ L Vs (.slice ea en ec) st wr ∧ pos ≤ 8 * bs.length ∧ pos % 8 = 0 ∧ en = st.length ∧ ((o = false ∧ c = 0 ∧ ∃ i f m, st.length = m + 1 ∧ st.getD m 0 = ((i : Nat) : Int) ∧ i < sn ∧ m ≤ i ∧ sn ≤ i + f ∧ f ≤ 12 ∧ pGo H bs S f i st L pos = R9) ∨ (o = true ∧ (c, st, L, pos) = R9))) (fun wr => mLeft bm wr)
    case atStart =>
      exact ⟨[0], newE H M, 0, Vs, _, _, _, false, 0, HM.out, Nat.zero_le _, rfl, rfl, .inl ⟨rfl, rfl, 0, 12, 0, rfl, rfl, by have := OKS.out.1; rw [LS9.out] at this; exact this, Nat.le_refl _, by have := OKS.out.2.1; rw [LS9.out] at this; omega, Nat.le_refl _, H9.out.symm⟩⟩
    case round =>
      obtain ⟨st, L, pos, Vs9, ea, en, ec, o, c, hm, hp, h8, hen, hor⟩ := hrel
      have HM2 := Lib.hid hm
      have HP := Lib.hid hp
      have H8 := Lib.hid h8
      have EN := Lib.hid hen
      clear HM hm hp h8 hen H9
      have c15 := HM2.out.m.cell 15
      dsimp at c15
      rcases hor with ⟨rfl, rfl, i, f, m, hl, hi, hi2, hmi, hfi, hf12, hgo⟩ | ⟨rfl, hend⟩
      · have ST := Lib.hid (OKS.out.2.2 i (by rw [LS9.out]; exact hi2))
        have DE := Lib.hid (decl_ok ST.out.1)
        have HL := Lib.hid hl
        have HI2 := Lib.hid hi2
        have HMI := Lib.hid hmi
        have HFI := Lib.hid hfi
        obtain ⟨f, rfl⟩ : ∃ g, f = g + 1 := ⟨f - 1, by omega⟩
        have KS := Lib.hid (mcstep_any w2 wr (.string nm) (.slice rA rN rC) (.slice xA xN xC) (.slice tA tN tC) (.slice kA kN kC) (.slice dA dN dC) _ _ _ _ _ _ _ _ _ _ _ _ _ _ _ _ _ _ _ _ _ _ _ _ bm r s V bs pos L Vs9 st false 0 HM2.out H S (HH.out.keep0 G2.out) (HS.out.keep0SPs G2.out) ZH.out HB.out BL.out HP.out H8.out m (EN.out.trans hl) EN.out.symm (by have := OKS.out.2.1; rw [LS9.out] at this; omega) i hi2 hi (by have q := DE.out.1; rw [LH.out] at q; exact q) HV.out HF.out (by have := DE.out.2.1; omega) (by have := DE.out.2.2.1; omega))
        obtain ⟨R, hR⟩ : ∃ R, R = pExs H bs (S.getD i psz).ex L pos := ⟨_, rfl⟩
        obtain ⟨x, hx⟩ : ∃ x, x = pNext (S.getD i psz).cs (S.getD i psz).df (getE R.2.1.V R.2.1.F R.2.1.T (S.getD i psz).h (S.getD i psz).f) := ⟨_, rfl⟩
        have GO := Lib.hid ((pGo_step (f := f) (st := st) R hR.symm x hx.symm).symm.trans hgo)
        have KP9 := Lib.hid (pExs_keeps (H := H) (bs := bs) (S.getD i psz).ex (L := L) (pos := pos) HP.out H8.out)
        have NX := Lib.hid (show nxB S.length i x = true by rw [hx]; exact next_ok ST.out _)
        rw [← hR] at KS KP9
        rw [← hx] at KS
        have ML := Lib.hid (show mLeft bm wr = 1000 - en from mLeft_is (by have z := HM2.out.m.cell 15; dsimp at z; exact z) (by have z := HM2.out.m.cell 14; dsimp at z; exact z))
        clear hR hx hgo hl hi hi2 hmi hfi
        go_wp2_with fail
        refine KS.out.mono ?_
        rintro e9 w6 ⟨rfl, sr⟩
        have NEXT := Lib.hid (show (∃ (st : List Int) (L : EL) (pos : Nat) (Vs : List Value) (ea : Option Addr) (en ec : Nat) (o : Bool) (c : Int), MSt w2 bm r s #[.string nm, .slice ha hn hc, .slice ma mn mc, .slice rA rN rC, .slice xA xN xC, .slice tA tN tC, .slice sa sn sc, .slice kA kN kC, .slice dA dN dC, .pointer (some ⟨r, 0, none⟩), .slice va vn vc, .slice fa fn fc, .slice ta tn tc, .slice pa pn pc, .slice ea en ec, .bool o, .int .i64 c] V bs pos ⟨va, fa, ta, pa, vn, vc, fn, fc, tn, tc, pn, pc⟩ L Vs (.slice ea en ec) st w6 ∧ pos ≤ 8 * bs.length ∧ pos % 8 = 0 ∧ en = st.length ∧ ((o = false ∧ c = 0 ∧ ∃ i f m, st.length = m + 1 ∧ st.getD m 0 = ((i : Nat) : Int) ∧ i < sn ∧ m ≤ i ∧ sn ≤ i + f ∧ f ≤ 12 ∧ pGo H bs S f i st L pos = R9) ∨ (o = true ∧ (c, st, L, pos) = R9))) ∧ mLeft bm w6 < mLeft bm wr by
          have en12 : en ≤ 12 := by have := OKS.out.2.1; rw [LS9.out] at this; have := HL.out; have := EN.out; have := HMI.out; have := HI2.out; omega
          rcases sr with ⟨h1, Vs2, hm⟩ | ⟨h1, h2, Vs2, hm⟩ | ⟨h1, h2, Vs2, hm⟩ | ⟨h1, h2, h3, Vs2, e2, n2, c2, hm⟩
          · refine ⟨⟨_, _, _, Vs2, _, _, _, true, _, hm, KP9.out.1, KP9.out.2.1, EN.out, .inr ⟨rfl, ?_⟩⟩, ?_⟩
            · have z := GO.out; rw [if_neg h1] at z; exact z
            · rw [ML.out, mLeft_over (by have z := hm.m.cell 15; dsimp at z; exact z)]; omega
          · refine ⟨⟨_, _, _, Vs2, _, _, _, true, _, hm, KP9.out.1, KP9.out.2.1, EN.out, .inr ⟨rfl, ?_⟩⟩, ?_⟩
            · have z := GO.out; rw [if_pos h1, if_pos h2] at z; exact z
            · rw [ML.out, mLeft_over (by have z := hm.m.cell 15; dsimp at z; exact z)]; omega
          · refine ⟨⟨_, _, _, Vs2, _, _, _, true, _, hm, KP9.out.1, KP9.out.2.1, EN.out, .inr ⟨rfl, ?_⟩⟩, ?_⟩
            · have z := GO.out; rw [if_pos h1, if_neg (by omega), if_pos h2] at z; exact z
            · rw [ML.out, mLeft_over (by have z := hm.m.cell 15; dsimp at z; exact z)]; omega
          · have n2e : n2 = (st ++ [x]).length := by
              obtain ⟨a8, c8, h8⟩ := own_shape hm.en
              injection h8
            have xr := (nxB_iff _ _ _).1 NX.out
            rw [LS9.out] at xr
            have xb : (i : Int) < x ∧ x < sn := by omega
            have q1 := HL.out
            have q2 := HMI.out
            have q3 := HFI.out
            refine ⟨⟨_, _, _, Vs2, _, _, _, false, 0, hm, KP9.out.1, KP9.out.2.1, n2e, .inl ⟨rfl, rfl, x.toNat, f, m + 1, by rw [List.length_append, q1]; rfl, ?_, by omega, by omega, by omega, by omega, ?_⟩⟩, ?_⟩
            · rw [List.getD_eq_getElem?_getD, List.getElem?_append_right (by omega), q1]; simp; omega
            · have z := GO.out; rw [if_pos h1, if_neg h2, if_neg h3] at z; exact z
            · rw [ML.out, mLeft_is (by have z := hm.m.cell 15; dsimp at z; exact z) (by have z := hm.m.cell 14; dsimp at z; exact z)]
              rw [List.length_append, ← EN.out] at n2e
              simp at n2e
              omega)
        clear sr KS GO KP9 NX
        go_wp2
        go_roundw
        case rel => exact NEXT.out.1
        case measure => exact NEXT.out.2
      · have END := Lib.hid hend
        rw [← END.out] at Z
        dsimp only at Z
        have c16 := HM2.out.m.cell 16
        dsimp at c16
        have BW := Lib.hid (B1.out.keep0 HM2.out.g)
        have B2W := Lib.hid (B2.out.keep0 HM2.out.g)
        have GW := Lib.hid (gb_trans G2.out HM2.out.g)
        clear hend
        by_cases hc0 : c = 0
        case neg =>
          have q1 : (c != 0) = true := by simp [hc0]
          rw [if_pos hc0] at Z
          go_upto_region 8 with fail
          have KQ := Lib.hid (fun (w' : World) (q0 : wr.grownBy w' none) => (⟨(BW.out.keep0 q0).cell 0, (BW.out.keep0 q0).cell 1, (BW.out.keep0 q0).cell 2, (BW.out.keep0 q0).cell 3, (BW.out.keep0 q0).cell 4, (BW.out.keep0 q0).cell 5, (BW.out.keep0 q0).cell 6, (BW.out.keep0 q0).cell 7, (BW.out.keep0 q0).cell 8, (HM2.out.m.keep0 q0).cell 14, (HM2.out.m.keep0 q0).cell 16⟩ : (fun w' : World => w'.cell? ⟨bx, 0, none⟩ = some (.string nm) ∧ w'.cell? ⟨bx, 1, none⟩ = some (.slice ha hn hc) ∧ w'.cell? ⟨bx, 2, none⟩ = some (.slice ma mn mc) ∧ w'.cell? ⟨bx, 3, none⟩ = some (.slice rA rN rC) ∧ w'.cell? ⟨bx, 4, none⟩ = some (.slice xA xN xC) ∧ w'.cell? ⟨bx, 5, none⟩ = some (.slice tA tN tC) ∧ w'.cell? ⟨bx, 6, none⟩ = some (.slice sa sn sc) ∧ w'.cell? ⟨bx, 7, none⟩ = some (.slice kA kN kC) ∧ w'.cell? ⟨bx, 8, none⟩ = some (.slice dA dN dC) ∧ w'.cell? ⟨bm, 14, none⟩ = some (.slice ea en ec) ∧ w'.cell? ⟨bm, 16, none⟩ = some (.int .i64 c)) w'))
          have Q0 := Lib.hid (gb_drew wr none)
          refine wp_region_held_drew (S := (fun w' : World => w'.cell? ⟨bx, 0, none⟩ = some (.string nm) ∧ w'.cell? ⟨bx, 1, none⟩ = some (.slice ha hn hc) ∧ w'.cell? ⟨bx, 2, none⟩ = some (.slice ma mn mc) ∧ w'.cell? ⟨bx, 3, none⟩ = some (.slice rA rN rC) ∧ w'.cell? ⟨bx, 4, none⟩ = some (.slice xA xN xC) ∧ w'.cell? ⟨bx, 5, none⟩ = some (.slice tA tN tC) ∧ w'.cell? ⟨bx, 6, none⟩ = some (.slice sa sn sc) ∧ w'.cell? ⟨bx, 7, none⟩ = some (.slice kA kN kC) ∧ w'.cell? ⟨bx, 8, none⟩ = some (.slice dA dN dC) ∧ w'.cell? ⟨bm, 14, none⟩ = some (.slice ea en ec) ∧ w'.cell? ⟨bm, 16, none⟩ = some (.int .i64 c))) (by kernel_rfl) (KQ.out _ Q0.out) (fun hH0 => ?_)
          refine wpAnyH_take (i := 0) (v := ?v11) rfl (by kernel_rfl) (by kernel_rfl) (by kernel_rfl) (fun _ _ _ h => h) (Or.inl ⟨by rfl, ?hy11⟩) (by assumption) ?rest11
          case hy11 => (intro wz hSw; (try dsimp only at hSw); first | (go_simp; done) | (go_simp; with_reducible rfl))
          try simp only [Act.put, List.getElem_toArray, List.getElem_cons_zero, List.setIfInBounds_toArray, List.set_cons_zero, List.set_cons_succ]
          refine wpAnyH_take (i := 2) (v := ?v12) rfl (by kernel_rfl) (by kernel_rfl) (by kernel_rfl) (fun _ _ _ h => h) (Or.inl ⟨by rfl, ?hy12⟩) (by assumption) ?rest12
          case hy12 => (intro wz hSw; (try dsimp only at hSw); first | (go_simp; done) | (go_simp; with_reducible rfl))
          try simp only [Act.put, List.getElem_toArray, List.getElem_cons_succ, List.getElem_cons_zero, List.setIfInBounds_toArray, List.set_cons_zero, List.set_cons_succ]
          refine wpAnyH_take (i := 3) (v := ?v13) rfl (by kernel_rfl) (by kernel_rfl) (by kernel_rfl) (fun _ _ _ h => h) (Or.inl ⟨by rfl, ?hy13⟩) (by assumption) ?rest13
          case hy13 => (intro wz hSw; (try dsimp only at hSw); first | (go_simp; done) | (go_simp; with_reducible rfl))
          try simp only [Act.put, List.getElem_toArray, List.getElem_cons_succ, List.getElem_cons_zero, List.setIfInBounds_toArray, List.set_cons_zero, List.set_cons_succ]
          refine wpAnyH_take (i := 4) (v := ?v14) rfl (by kernel_rfl) (by kernel_rfl) (by kernel_rfl) (fun _ _ _ h => h) (Or.inl ⟨by rfl, ?hy14⟩) (by assumption) ?rest14
          case hy14 => (intro wz hSw; (try dsimp only at hSw); first | (go_simp; done) | (go_simp; with_reducible rfl))
          try simp only [Act.put, List.getElem_toArray, List.getElem_cons_succ, List.getElem_cons_zero, List.setIfInBounds_toArray, List.set_cons_zero, List.set_cons_succ]
          refine wpAnyH_take (i := 5) (v := ?v15) rfl (by kernel_rfl) (by kernel_rfl) (by kernel_rfl) (fun _ _ _ h => h) (Or.inl ⟨by rfl, ?hy15⟩) (by assumption) ?rest15
          case hy15 => (intro wz hSw; (try dsimp only at hSw); first | (go_simp; done) | (go_simp; with_reducible rfl))
          try simp only [Act.put, List.getElem_toArray, List.getElem_cons_succ, List.getElem_cons_zero, List.setIfInBounds_toArray, List.set_cons_zero, List.set_cons_succ]
          refine wpAnyH_ready (rs := [1]) (by kernel_rfl) (by simp) ?_
          refine AllReadyH.cons (o := _) rfl (fun K hK => ?_) AllReadyH.nil
          go_simp
          (with_reducible refine (KE.out _ (gb_trans GW.out Q0.out)).mono ?_)
          rintro e qw1 ⟨X, Vs2, rfl, oe, g⟩
          have OE2 := Lib.hid oe
          clear oe
          have Q1 := Lib.hid (gb_trans Q0.out g)
          clear g
          try dsimp only
          refine hK.out _ _ (KQ.out _ Q1.out) (fun hH1 => ?_)
          clear hK K hH0
          try simp only [Act.put, List.getElem_toArray, List.getElem_cons_succ, List.getElem_cons_zero, List.setIfInBounds_toArray, List.set_cons_zero, List.set_cons_succ]
          have B2q := Lib.hid (B2W.out.keep0 Q1.out)
          have BWq := Lib.hid (BW.out.keep0 Q1.out)
          have MQ := Lib.hid (HM2.out.m.keep0 Q1.out)
          have LQ := Lib.hid (show w.heap.size ≤ wr.drew.heap.size from Nat.le_trans GW.out.size (gb_drew wr none).size)
          have P4 := Lib.hid (put4 B2q.out (.slice X.va X.vn X.vc) (.slice X.fa X.fn X.fc) (.slice X.ta X.tn X.tc) (.slice X.pa X.pn X.pc))
          have bw := BWq.out.keepS P4.out.2 B2q.out (by decide)
          have mw := MQ.out.keepS P4.out.2 B2q.out (by decide)
          have y0 := B2q.out.cell 0
          have f0 := B2q.out.free 0
          have y1 := B2q.out.cell 1
          have f1 := B2q.out.free 1
          have y2 := B2q.out.cell 2
          have f2 := B2q.out.free 2
          have y3 := B2q.out.cell 3
          have f3 := B2q.out.free 3
          dsimp at y0 y1 y2 y3
          refine wpAnyH_ready (rs := [6]) (by kernel_rfl) (by simp) ?_
          refine AllReadyH.cons (o := _) rfl (fun K hK => ?_) AllReadyH.nil
          go_simp
          try dsimp only
          refine hK.out _ _ ⟨bw.cell 0, bw.cell 1, bw.cell 2, bw.cell 3, bw.cell 4, bw.cell 5, bw.cell 6, bw.cell 7, bw.cell 8, mw.cell 14, mw.cell 16⟩ (fun hHy => ?_)
          clear hK K
          try simp only [Act.put, List.getElem_toArray, List.getElem_cons_succ, List.getElem_cons_zero, List.setIfInBounds_toArray, List.set_cons_zero, List.set_cons_succ]
          refine wpAnyH_take (i := 7) (v := ?v16) rfl (by kernel_rfl) (by kernel_rfl) (by kernel_rfl) (fun _ _ _ h => h) (Or.inl ⟨by rfl, ?hy16⟩) (by assumption) ?rest16
          case hy16 => (intro wz hSw; (try dsimp only at hSw); first | (go_simp; done) | (go_simp; with_reducible rfl))
          try simp only [Act.put, List.getElem_toArray, List.getElem_cons_succ, List.getElem_cons_zero, List.setIfInBounds_toArray, List.set_cons_zero, List.set_cons_succ]
          refine wpAnyH_take (i := 8) (v := ?v17) rfl (by kernel_rfl) (by kernel_rfl) (by kernel_rfl) (fun _ _ _ h => h) (Or.inl ⟨by rfl, ?hy17⟩) (by assumption) ?rest17
          case hy17 => (intro wz hSw; (try dsimp only at hSw); first | (go_simp; done) | (go_simp; with_reducible rfl))
          try simp only [Act.put, List.getElem_toArray, List.getElem_cons_succ, List.getElem_cons_zero, List.setIfInBounds_toArray, List.set_cons_zero, List.set_cons_succ]
          refine wpAnyH_done (by kernel_rfl) ?_ _
          clear hHy
          go_wp2
          have k0 := P4.out.1.cell 0
          have k1 := P4.out.1.cell 1
          have k2 := P4.out.1.cell 2
          have k3 := P4.out.1.cell 3
          dsimp at k0 k1 k2 k3
          rw [Z.out]
          have OXF := Lib.hid ((OE2.out.low LQ.out).kB P4.out.2 B2q.out (by decide) (by decide) (by decide) (by decide))
          have NXF := Lib.hid (own_keepS (own_keep0 (own_low HM2.out.en G2.out.size) Q1.out) P4.out.2 B2q.out (by decide))
          have GF := Lib.hid (gb_new (gb_trans (gb_any (gb_trans GW.out Q1.out)) P4.out.2) (Nat.le_trans Lbx.out (Nat.le_add_right _ _)))
          generalize ((((qw1.setCell ⟨bx + 1, 0, none⟩ (.slice X.va X.vn X.vc)).setCell ⟨bx + 1, 1, none⟩ (.slice X.fa X.fn X.fc)).setCell ⟨bx + 1, 2, none⟩ (.slice X.ta X.tn X.tc)).setCell ⟨bx + 1, 3, none⟩ (.slice X.pa X.pn X.pc)) = w9 at *
          refine bodyPost_ret (v := .tuple #[.agg #[.slice X.va X.vn X.vc, .slice X.fa X.fn X.fc, .slice X.ta X.tn X.tc, .slice X.pa X.pn X.pc], .slice ea en ec, .int .i64 c]) (by rw [results_cell3 rfl]; go_simp; try rfl) rfl ⟨X, Vs2, _, rfl, OXF.out, NXF.out, GF.out⟩
        subst hc0
        rw [if_neg (by simp)] at Z
        obtain ⟨rb, hrb⟩ : ∃ rb, rb = bs.drop (pos / 8) := ⟨_, rfl⟩
        have RR := Lib.hid (show restR bs pos = (0, rb) by unfold restR; rw [if_pos H8.out, hrb])
        have PR := Lib.hid (show ∀ x ∈ rb, 0 ≤ x ∧ x < 256 by intro x hx; rw [hrb] at hx; exact HD.out.rng x (List.mem_of_mem_drop hx))
        have KR9 := rest_any wr w2.heap.size r s V bs pos HM2.out.rd NIL.out BL.out HP.out
        rw [RR.out] at KR9 Z
        unfold RetEh at KR9
        replace KR9 := Lib.hid KR9
        dsimp only at KR9 Z
        clear hrb RR
        have c9 := HM2.out.m.cell 9
        dsimp at c9
        go_wp2_with fail
        refine KR9.out.mono ?_
        rintro e9 w6 ⟨v6, rfl, g, o6⟩
        have HM6 := Lib.hid (HM2.out.keep0 g)
        obtain ⟨n8, hn8⟩ : ∃ n, n = rb.length := ⟨_, rfl⟩
        have O6 := Lib.hid (show w6.ownsRow w2.heap.size 5 1 v6 n8 (rb.map (Value.int .u8)) by rw [hn8]; exact own_low o6 HM2.out.g.size)
        obtain ⟨qa, qc, rfl⟩ := own_shape O6.out
        have NB8 := Lib.hid hn8
        have g6 := Lib.hid g
        clear g o6 hn8 KR9 c9 c15 c16
        have d13 := HM6.out.m.cell 13
        have d16 := HM6.out.m.cell 16
        have f13 := HM6.out.m.free 13
        have f16 := HM6.out.m.free 16
        dsimp at d13 d16
        have s1 := gb_set w6 bm 13 (.slice qa n8 qc)
        have m1 : IsB (w6.setCell ⟨bm, 13, none⟩ (.slice qa n8 qc)) bm 120 #[.string nm, .slice ha hn hc, .slice ma mn mc, .slice rA rN rC, .slice xA xN xC, .slice tA tN tC, .slice sa sn sc, .slice kA kN kC, .slice dA dN dC, .pointer (some ⟨r, 0, none⟩), .slice va vn vc, .slice fa fn fc, .slice ta tn tc, .slice qa n8 qc, .slice ea en ec, .bool true, .int .i64 0] := HM6.out.m.set 13 (.slice qa n8 qc)
        have s2 := gb_set (w6.setCell ⟨bm, 13, none⟩ (.slice qa n8 qc)) bm 16 (.int .i64 0)
        have m2 : IsB ((w6.setCell ⟨bm, 13, none⟩ (.slice qa n8 qc)).setCell ⟨bm, 16, none⟩ (.int .i64 0)) bm 120 #[.string nm, .slice ha hn hc, .slice ma mn mc, .slice rA rN rC, .slice xA xN xC, .slice tA tN tC, .slice sa sn sc, .slice kA kN kC, .slice dA dN dC, .pointer (some ⟨r, 0, none⟩), .slice va vn vc, .slice fa fn fc, .slice ta tn tc, .slice qa n8 qc, .slice ea en ec, .bool true, .int .i64 0] := m1.set 16 (.int .i64 0)
        have HM7 := Lib.hid ((HM6.out.put s1 m1).put s2 m2)
        have O7 := Lib.hid (own_keepS (own_keepS O6.out s1 HM6.out.m (by decide)) s2 m1 (by decide))
        clear s1 s2 m1 m2 O6
        go_upto_region 10 with fail
        generalize (w6.setCell ⟨bm, 13, none⟩ (.slice qa n8 qc)).setCell ⟨bm, 16, none⟩ (.int .i64 0) = w7 at *
        clear d13 d16 f13 f16 HM6 g6
        have B2w := Lib.hid (B2.out.keep0 HM7.out.g)
        have KQ := Lib.hid (fun (w' : World) (q0 : w7.grownBy w' none) => (⟨(HM7.out.m.keep0 q0).cell 10, (HM7.out.m.keep0 q0).cell 11, (HM7.out.m.keep0 q0).cell 12, (HM7.out.m.keep0 q0).cell 13, (HM7.out.m.keep0 q0).cell 14, (HM7.out.m.keep0 q0).cell 16⟩ : (fun w' : World => w'.cell? ⟨bm, 10, none⟩ = some (.slice va vn vc) ∧ w'.cell? ⟨bm, 11, none⟩ = some (.slice fa fn fc) ∧ w'.cell? ⟨bm, 12, none⟩ = some (.slice ta tn tc) ∧ w'.cell? ⟨bm, 13, none⟩ = some (.slice qa n8 qc) ∧ w'.cell? ⟨bm, 14, none⟩ = some (.slice ea en ec) ∧ w'.cell? ⟨bm, 16, none⟩ = some (.int .i64 0)) w'))
        have Q0 := Lib.hid (gb_drew w7 none)
        refine wp_region_held_drew (S := (fun w' : World => w'.cell? ⟨bm, 10, none⟩ = some (.slice va vn vc) ∧ w'.cell? ⟨bm, 11, none⟩ = some (.slice fa fn fc) ∧ w'.cell? ⟨bm, 12, none⟩ = some (.slice ta tn tc) ∧ w'.cell? ⟨bm, 13, none⟩ = some (.slice qa n8 qc) ∧ w'.cell? ⟨bm, 14, none⟩ = some (.slice ea en ec) ∧ w'.cell? ⟨bm, 16, none⟩ = some (.int .i64 0))) (by kernel_rfl) (KQ.out _ Q0.out) (fun hH0 => ?_)
        refine wpAnyH_take (i := 0) (v := ?v18) rfl (by kernel_rfl) (by kernel_rfl) (by kernel_rfl) (fun _ _ _ h => h) (Or.inl ⟨by rfl, ?hy18⟩) (by assumption) ?rest18
        case hy18 => (intro wz hSw; (try dsimp only at hSw); first | (go_simp; done) | (go_simp; with_reducible rfl))
        try simp only [Act.put, List.getElem_toArray, List.getElem_cons_zero, List.setIfInBounds_toArray, List.set_cons_zero, List.set_cons_succ]
        refine wpAnyH_take (i := 1) (v := ?v19) rfl (by kernel_rfl) (by kernel_rfl) (by kernel_rfl) (fun _ _ _ h => h) (Or.inl ⟨by rfl, ?hy19⟩) (by assumption) ?rest19
        case hy19 => (intro wz hSw; (try dsimp only at hSw); first | (go_simp; done) | (go_simp; with_reducible rfl))
        try simp only [Act.put, List.getElem_toArray, List.getElem_cons_succ, List.getElem_cons_zero, List.setIfInBounds_toArray, List.set_cons_zero, List.set_cons_succ]
        refine wpAnyH_take (i := 2) (v := ?v20) rfl (by kernel_rfl) (by kernel_rfl) (by kernel_rfl) (fun _ _ _ h => h) (Or.inl ⟨by rfl, ?hy20⟩) (by assumption) ?rest20
        case hy20 => (intro wz hSw; (try dsimp only at hSw); first | (go_simp; done) | (go_simp; with_reducible rfl))
        try simp only [Act.put, List.getElem_toArray, List.getElem_cons_succ, List.getElem_cons_zero, List.setIfInBounds_toArray, List.set_cons_zero, List.set_cons_succ]
        refine wpAnyH_take (i := 3) (v := ?v21) rfl (by kernel_rfl) (by kernel_rfl) (by kernel_rfl) (fun _ _ _ h => h) (Or.inl ⟨by rfl, ?hy21⟩) (by assumption) ?rest21
        case hy21 => (intro wz hSw; (try dsimp only at hSw); first | (go_simp; done) | (go_simp; with_reducible rfl))
        try simp only [Act.put, List.getElem_toArray, List.getElem_cons_succ, List.getElem_cons_zero, List.setIfInBounds_toArray, List.set_cons_zero, List.set_cons_succ]
        refine wpAnyH_take (i := 4) (v := ?v22) rfl (by kernel_rfl) (by kernel_rfl) (by kernel_rfl) (fun _ _ _ h => h) (Or.inl ⟨by rfl, ?hy22⟩) (by assumption) ?rest22
        case hy22 => (intro wz hSw; (try dsimp only at hSw); first | (go_simp; done) | (go_simp; with_reducible rfl))
        try simp only [Act.put, List.getElem_toArray, List.getElem_cons_succ, List.getElem_cons_zero, List.setIfInBounds_toArray, List.set_cons_zero, List.set_cons_succ]
        refine wpAnyH_take (i := 5) (v := ?v23) rfl (by kernel_rfl) (by kernel_rfl) (by kernel_rfl) (fun _ _ _ h => h) (Or.inl ⟨by rfl, ?hy23⟩) (by assumption) ?rest23
        case hy23 => (intro wz hSw; (try dsimp only at hSw); first | (go_simp; done) | (go_simp; with_reducible rfl))
        try simp only [Act.put, List.getElem_toArray, List.getElem_cons_succ, List.getElem_cons_zero, List.setIfInBounds_toArray, List.set_cons_zero, List.set_cons_succ]
        generalize hw8 : w7.drew = w8 at *
        have Q8 := Lib.hid (show w7.grownBy w8 none by rw [← hw8]; exact gb_drew _ _)
        clear hw8
        have B2q := Lib.hid (B2w.out.keep0 Q8.out)
        have HM8 := Lib.hid (HM7.out.keep0 Q8.out)
        have P4 := Lib.hid (put4 B2q.out (.slice va vn vc) (.slice fa fn fc) (.slice ta tn tc) (.slice qa n8 qc))
        have mw := HM8.out.m.keepS P4.out.2 B2q.out (by decide)
        have y0 := B2q.out.cell 0
        have f0 := B2q.out.free 0
        have y1 := B2q.out.cell 1
        have f1 := B2q.out.free 1
        have y2 := B2q.out.cell 2
        have f2 := B2q.out.free 2
        have y3 := B2q.out.cell 3
        have f3 := B2q.out.free 3
        dsimp at y0 y1 y2 y3
        refine wpAnyH_ready (rs := [6]) (by kernel_rfl) (by simp) ?_
        refine AllReadyH.cons (o := _) rfl (fun K hK => ?_) AllReadyH.nil
        go_simp
        try dsimp only
        refine hK.out _ _ ⟨mw.cell 10, mw.cell 11, mw.cell 12, mw.cell 13, mw.cell 14, mw.cell 16⟩ (fun hHy => ?_)
        clear hK K
        try simp only [Act.put, List.getElem_toArray, List.getElem_cons_succ, List.getElem_cons_zero, List.setIfInBounds_toArray, List.set_cons_zero, List.set_cons_succ]
        refine wpAnyH_take (i := 7) (v := ?v24) rfl (by kernel_rfl) (by kernel_rfl) (by kernel_rfl) (fun _ _ _ h => h) (Or.inl ⟨by rfl, ?hy24⟩) (by assumption) ?rest24
        case hy24 => (intro wz hSw; (try dsimp only at hSw); first | (go_simp; done) | (go_simp; with_reducible rfl))
        try simp only [Act.put, List.getElem_toArray, List.getElem_cons_succ, List.getElem_cons_zero, List.setIfInBounds_toArray, List.set_cons_zero, List.set_cons_succ]
        refine wpAnyH_take (i := 8) (v := ?v25) rfl (by kernel_rfl) (by kernel_rfl) (by kernel_rfl) (fun _ _ _ h => h) (Or.inl ⟨by rfl, ?hy25⟩) (by assumption) ?rest25
        case hy25 => (intro wz hSw; (try dsimp only at hSw); first | (go_simp; done) | (go_simp; with_reducible rfl))
        try simp only [Act.put, List.getElem_toArray, List.getElem_cons_succ, List.getElem_cons_zero, List.setIfInBounds_toArray, List.set_cons_zero, List.set_cons_succ]
        refine wpAnyH_done (by kernel_rfl) ?_ _
        clear hHy
        go_wp2
        have k0 := P4.out.1.cell 0
        have k1 := P4.out.1.cell 1
        have k2 := P4.out.1.cell 2
        have k3 := P4.out.1.cell 3
        dsimp at k0 k1 k2 k3
        rw [Z.out]
        have OXF := Lib.hid (((show OE w8 w.heap.size ⟨va, fa, ta, qa, vn, vc, fn, fc, tn, tc, n8, qc⟩ ⟨L.V, L.F, L.T, rb⟩ Vs9 from by have z := HM8.out.pk.low G2.out.size; exact ⟨z.v, z.f, z.t, by have y := own_low (own_keep0 O7.out Q8.out) G2.out.size; unfold NY; rw [← NB8.out]; exact y, z.vl, z.fl, z.tl, NB8.out.symm, z.trng, PR.out, z.dis⟩).kB P4.out.2 B2q.out (by decide) (by decide) (by decide) (by decide)))
        have NXF := Lib.hid (own_keepS (own_low HM8.out.en G2.out.size) P4.out.2 B2q.out (by decide))
        have GF := Lib.hid (gb_new (gb_trans (gb_any (gb_trans G2.out HM8.out.g)) P4.out.2) (Nat.le_trans Lbx.out (Nat.le_add_right _ _)))
        generalize ((((w8.setCell ⟨bx + 1, 0, none⟩ (.slice va vn vc)).setCell ⟨bx + 1, 1, none⟩ (.slice fa fn fc)).setCell ⟨bx + 1, 2, none⟩ (.slice ta tn tc)).setCell ⟨bx + 1, 3, none⟩ (.slice qa n8 qc)) = w9 at *
        refine bodyPost_ret (v := .tuple #[.agg #[.slice va vn vc, .slice fa fn fc, .slice ta tn tc, .slice qa n8 qc], .slice ea en ec, .int .i64 0]) (by rw [results_cell3 rfl]; go_simp; try rfl) rfl ⟨⟨va, fa, ta, qa, vn, vc, fn, fc, tn, tc, n8, qc⟩, Vs9, _, rfl, OXF.out, NXF.out, GF.out⟩
end Go.Proofs.Ytjhknmklejkknaa
end
section
namespace Go.Proofs.Ytjhknmklejkknaa
open Go.RowKit
set_option linter.unusedVariables false
/-- The state of the reference's extract: its boxes, the packet, the reader's place. -/
structure RXs (w0 : World) (X0 : EX) (L0 : EL) (bx : Nat) (PC SC : Array Value) (ax : Option Addr) (cx n : Nat) (X : EX) (L : EL) (pos : Nat) (w : World) : Prop where
  p : IsB w bx 31 PC
  s : IsB w (bx + 1) 55 SC
  e : IsB w (bx + 2) 42 #[.slice X.va X.vn X.vc, .slice X.fa X.fn X.fc, .slice X.ta X.tn X.tc, .slice X.pa X.pn X.pc]
  r : IsB w (bx + 3) 122 #[.slice ax n cx, .int .i64 pos]
  q : IsB w (bx + 4) 42 #[.slice none 0 0, .slice none 0 0, .slice none 0 0, .slice none 0 0]
  z : IsB w (bx + 5) 122 #[.slice none 0 0, .int .i64 0]
  er : EO w0 X0 L0 w X L
  g : w0.grownBy w none
theorem RXs.keep0 {w0 : World} {X0 : EX} {L0 : EL} {bx : Nat} {PC SC : Array Value} {ax : Option Addr} {cx n : Nat} {X : EX} {L : EL} {pos : Nat} {w : World} {w2 : World} (h : RXs w0 X0 L0 bx PC SC ax cx n X L pos w) (k : w.grownBy w2 none) : RXs w0 X0 L0 bx PC SC ax cx n X L pos w2 :=
  ⟨h.p.keep0 k, h.s.keep0 k, h.e.keep0 k, h.r.keep0 k, h.q.keep0 k, h.z.keep0 k, h.er.keep0 k, gb_trans h.g k⟩
theorem RXs.take {w0 : World} {X0 : EX} {L0 : EL} {bx : Nat} {PC SC : Array Value} {ax : Option Addr} {cx n : Nat} {X : EX} {L : EL} {pos : Nat} {w : World} {Vs : List Value} {base gv gf : Nat} (h : RXs w0 X0 L0 bx PC SC ax cx n X L pos w) (hb : w0.heap.size ≤ bx) (o : OE w base X L Vs) (hbb : w0.heap.size ≤ base) (ev : X.va = some ⟨gv, 0, none⟩) (ef : X.fa = some ⟨gf, 0, none⟩) (k : Nat) (hf : k < X.fn) (V' : Value) (us : List Int) (u : NU w w0.heap.size V' us) (hq : ∀ q, V'.ownBlock = some q → q < base) (hr : ∀ y ∈ us, 0 ≤ y ∧ y < 4294967296) :
    RXs w0 X0 L0 bx PC SC ax cx n X ⟨L.V.set k true, L.F.set k us, L.T, L.P⟩ pos ((w.setCell ⟨gv, k, none⟩ (.bool true)).setCell ⟨gf, k, none⟩ V') := by
  have v2 : w.ownsRow base 4 1 (.slice (some ⟨gv, 0, none⟩) L.V.length X.vc) L.V.length (L.V.map Value.bool) := by have q := o.v; unfold NB at q; rw [ev, ← o.vl] at q; exact q
  obtain ⟨cv, bv⟩ := own_blk v2
  have f2 : World.ownsRow w base 40 1 (.slice (some ⟨gf, 0, none⟩) L.F.length X.fc) L.F.length Vs := by have q := o.f.out; rw [ef, ← o.fl] at q; exact q
  have s1 := gb_set w gv k (.bool true)
  have f3 := own_keepS f2 s1 bv (by decide)
  obtain ⟨cf, bf⟩ := own_blk f3
  have s2 := gb_set (w.setCell ⟨gv, k, none⟩ (.bool true)) gf k V'
  have lv := (World.ownsRow.lt v2 gv rfl).1
  have lf := (World.ownsRow.lt f2 gf rfl).1
  have kB : ∀ {g : Nat} {t : TypeId} {cs : Array Value}, IsB w g t cs → t ≠ 4 → t ≠ 40 → IsB ((w.setCell ⟨gv, k, none⟩ (.bool true)).setCell ⟨gf, k, none⟩ V') g t cs := fun x n1 n2 => (x.keepS s1 bv n1).keepS s2 bf n2
  exact ⟨kB h.p (by decide) (by decide), kB h.s (by decide) (by decide), kB h.e (by decide) (by decide), kB h.r (by decide) (by decide), kB h.q (by decide) (by decide), kB h.z (by decide) (by decide), .inr ⟨_, OE.take3 o hbb ev ef k hf V' us u hq hr⟩,
    gb_new (gb_trans (gb_any (gb_new (gb_trans (gb_any h.g) s1) (Nat.le_trans hbb lv))) s2) (Nat.le_trans hbb lf)⟩
theorem pEx_rows {H : List (ByteArray × List Fld)} {bs : List Int} {L : EL} {pos h : Nat} (hz9 : HZ H) (hp : pos ≤ 8 * bs.length) (h8 : pos % 8 = 0) (hr : ∀ j, (L.F.getD j []).length ≤ 1000) : ∀ j, ((pEx H bs L pos h).2.1.F.getD j []).length ≤ 1000 := by
  intro j
  have q := (rdH_good (hs := (H.getD h hz).1) (l := (H.getD h hz).2) hp h8).2.2.1
  unfold pEx
  split
  · rename_i e
    show ((L.F.set h _).getD j []).length ≤ 1000
    by_cases e1 : j = h
    · subst e1
      by_cases e2 : j < L.F.length
      · rw [getD_set_at _ _ _ _ e2, q e]
        by_cases e3 : j < H.length
        · rw [List.getD_eq_getElem?_getD, List.getElem?_eq_getElem e3]; exact hz9.fl _ (List.getElem_mem e3)
        · rw [List.getD_eq_getElem?_getD, List.getElem?_eq_none (by omega)]; decide
      · rw [List.getD_eq_getElem?_getD, List.getElem?_eq_none (by rw [List.length_set]; omega)]; simp
    · rw [getD_set_off _ _ _ _ _ e1]; exact hr j
  · exact hr j
theorem pExs_rows {H : List (ByteArray × List Fld)} {bs : List Int} (hz9 : HZ H) : ∀ (ex : List Int) {L : EL} {pos : Nat}, pos ≤ 8 * bs.length → pos % 8 = 0 → (∀ j, (L.F.getD j []).length ≤ 1000) → ∀ j, ((pExs H bs ex L pos).2.1.F.getD j []).length ≤ 1000 := by
  intro ex
  induction ex with
  | nil => intro L pos _ _ hr; exact hr
  | cons h t ih =>
    intro L pos hp h8 hr
    obtain ⟨a, b, _⟩ := pEx_keeps (H := H) (bs := bs) (L := L) (h := h.toNat) hp h8
    have r1 := pEx_rows (h := h.toNat) hz9 hp h8 hr
    unfold pExs
    split
    · exact ih a b r1
    · exact r1
end Go.Proofs.Ytjhknmklejkknaa
end
