/- Table: Check and valid, on both sides; no condition but sizes. -/
import Derived.Test.YtgdefahnmgonlaaTbF
namespace Go.Proofs.Ytgdefahnmgonlaa
open Go.RowKit
set_option linter.unusedVariables false
theorem SP.tab {w : World} {X : PX} {P : Pg} (h : SP w X P) {k : Nat} (hk : k < X.tn) {tad : Addr} (ht : X.ta = some tad) : ∃ Y : TX, ST w Y (P.T.getD k tbz) ∧ w.cell? (tad.add (k * 6)) = some (.string (P.T.getD k tbz).nm) ∧ w.cell? ⟨(tad.add (k * 6)).block, (tad.add (k * 6)).off + 1, none⟩ = some (.slice Y.ka Y.kn Y.kc) ∧ w.cell? ⟨(tad.add (k * 6)).block, (tad.add (k * 6)).off + 2, none⟩ = some (.slice Y.ca Y.cn Y.cc) ∧ w.cell? ⟨(tad.add (k * 6)).block, (tad.add (k * 6)).off + 3, none⟩ = some (.int .i64 (P.T.getD k tbz).da) ∧ w.cell? ⟨(tad.add (k * 6)).block, (tad.add (k * 6)).off + 4, none⟩ = some (.slice Y.ra Y.rn Y.rc) ∧ w.cell? ⟨(tad.add (k * 6)).block, (tad.add (k * 6)).off + 5, none⟩ = some (.int .i64 (P.T.getD k tbz).sz) := by
  obtain ⟨h0, ⟨ka, kn, kc, h1, s1⟩, ⟨ca, cn, cq, h2, s2⟩, h3, ⟨ra, rn, rc, h4, s4⟩, h5⟩ := h.t.cells tad ht k hk
  exact ⟨⟨ka, ca, ra, kn, kc, cn, cq, rn, rc⟩, ⟨s1, s2, s4, h3.2⟩, h0, h1, h2, h3.1, h4, h5⟩
/-- The lists of the tables are not long. -/
def szT (P : Pg) : Prop := ∀ k, k < P.T.length → (P.T.getD k tbz).nm.size ≤ 1000 ∧ (P.T.getD k tbz).ks.length ≤ 1000 ∧ (P.T.getD k tbz).acs.length ≤ 1000 ∧ (P.T.getD k tbz).ar.length ≤ 1000
/-- What Check answers of a table. -/
def tabR (P : Pg) (tb : Tbl) : Int × Int := if declE tb = 0 then (if (keysR P.H P.M tb.ks).2 = 0 then (if actionsE P.A tb = 0 then (0, 0) else (-3, actionsE P.A tb)) else keysR P.H P.M tb.ks) else (-1, declE tb)
def chkT (P : Pg) (t : Int) : Int × Int := if isX t P.T.length = true then tabR P (P.T.getD t.toNat tbz) else (-1, 8)
theorem szT.at_ {w : World} {X : PX} {P : Pg} {Y : TX} {k : Nat} (z : szT P) (hk : k < P.T.length) (s : ST w Y (P.T.getD k tbz)) : Y.kn ≤ 1000 ∧ Y.cn ≤ 1000 ∧ Y.rn ≤ 1000 ∧ (P.T.getD k tbz).nm.size ≤ 1000 := by
  obtain ⟨z1, z2, z3, z4⟩ := z k hk
  have := s.k.len; have := s.c.len; have := s.r.len
  exact ⟨by omega, by omega, by omega, z1⟩
set_option maxRecDepth 100000 in
set_option maxHeartbeats 4000000 in
theorem pchk_any (w : World) (X : PX) (P : Pg) (hp : SP w X P) (hz : szT P) (t : Int) : Calls Try.prog 25 #[.agg #[.string X.nm, .slice X.ha X.hn X.hc, .slice X.ma X.mn X.mc, .slice X.ra X.rn X.rc, .slice X.aa X.an X.ac, .slice X.ta X.tn X.tc, .slice X.sa X.sn X.sc, .slice X.ca X.cn X.cc, .slice X.da X.dn X.dc], .int .i64 t] w (RetV (.tuple #[.int .i64 (chkT P t).1, .int .i64 (chkT P t).2]) w) := by
  have HP := Lib.hid hp
  have HZ := Lib.hid hz
  have TL := Lib.hid (show P.T.length = X.tn from hp.t.len)
  obtain ⟨CR, hcr⟩ : ∃ d, d = chkT P t := ⟨_, rfl⟩
  have HC := Lib.hid hcr
  unfold chkT at HC
  rw [TL.out] at HC
  rw [← hcr]
  have G2 := Lib.hid (gb_alloc w (.cells #[.string X.nm, .slice X.ha X.hn X.hc, .slice X.ma X.mn X.mc, .slice X.ra X.rn X.rc, .slice X.aa X.an X.ac, .slice X.ta X.tn X.tc, .slice X.sa X.sn X.sc, .slice X.ca X.cn X.cc, .slice X.da X.dn X.dc] 31) none)
  have B1 := IsB.new w 31 #[.string X.nm, .slice X.ha X.hn X.hc, .slice X.ma X.mn X.mc, .slice X.ra X.rn X.rc, .slice X.aa X.an X.ac, .slice X.ta X.tn X.tc, .slice X.sa X.sn X.sc, .slice X.ca X.cn X.cc, .slice X.da X.dn X.dc]
  replace B1 := Lib.hid B1
  clear hp hz hcr
  go_enter Try.func25, Try.ntmps25
  go_upto_region 1 with fail
  generalize w.alloc (.cells #[.string X.nm, .slice X.ha X.hn X.hc, .slice X.ma X.mn X.mc, .slice X.ra X.rn X.rc, .slice X.aa X.an X.ac, .slice X.ta X.tn X.tc, .slice X.sa X.sn X.sc, .slice X.ca X.cn X.cc, .slice X.da X.dn X.dc] 31) = w2 at *
  obtain ⟨bx, hbx⟩ : ∃ b, b = w.heap.size := ⟨_, rfl⟩
  have Lbx := Lib.hid (show w.heap.size ≤ bx by rw [hbx]; exact Nat.le_refl _)
  rw [← hbx] at B1 ⊢
  clear hbx
  replace HP := Lib.hid (HP.out.keep0 G2.out)
  have c0 := (B1.out.keep0 (gb_refl _ _)).cell 0
  have c1 := (B1.out.keep0 (gb_refl _ _)).cell 1
  have c2 := (B1.out.keep0 (gb_refl _ _)).cell 2
  have c3 := (B1.out.keep0 (gb_refl _ _)).cell 3
  have c4 := (B1.out.keep0 (gb_refl _ _)).cell 4
  have c5 := (B1.out.keep0 (gb_refl _ _)).cell 5
  have c6 := (B1.out.keep0 (gb_refl _ _)).cell 6
  have c7 := (B1.out.keep0 (gb_refl _ _)).cell 7
  have c8 := (B1.out.keep0 (gb_refl _ _)).cell 8
  dsimp at c0 c1 c2 c3 c4 c5 c6 c7 c8
  by_cases hx : 0 ≤ t ∧ t < (X.tn : Int)
  · obtain ⟨k, rfl⟩ : ∃ k : Nat, t = (k : Int) := ⟨t.toNat, by omega⟩
    have hk : k < X.tn := by omega
    have k0 : (0 : Int) ≤ (k : Int) := by omega
    have k1 : (k : Int) < X.tn := by omega
    have k2 : ¬ X.tn ≤ k := by omega
    have k3 : ¬ (k : Int) < 0 := by omega
    have HX := Lib.hid (show isX (k : Int) X.tn = true from (isX_iff _ _).2 hx)
    rw [if_pos HX.out, Int.toNat_natCast] at HC
    obtain ⟨tad, hta⟩ := HP.out.t.some (by omega)
    obtain ⟨Y, st, e0, e1, e2, e3, e4, e5⟩ := HP.out.tab hk hta
    have SZ := Lib.hid (HZ.out.at_ (X := X) (by rw [TL.out]; exact hk) st)
    generalize P.T.getD k tbz = tb at *
    have HS := Lib.hid st
    have HTA := Lib.hid hta
    clear st hta hx
    go_upto_region 3 with (go_at_call 43; refine (tisx_any w2 _ X.tn).mono ?_; rw [HX.out]; rintro e w3 ⟨rfl, he⟩; obtain rfl := he.symm)
    rw [HTA.out] at c5 ⊢
    have G4 := Lib.hid (gb_alloc w2 (.cells #[.string tb.nm, .slice Y.ka Y.kn Y.kc, .slice Y.ca Y.cn Y.cc, .int .i64 tb.da, .slice Y.ra Y.rn Y.rc, .int .i64 tb.sz] 60) none)
    have BT := IsB.new w2 60 #[.string tb.nm, .slice Y.ka Y.kn Y.kc, .slice Y.ca Y.cn Y.cc, .int .i64 tb.da, .slice Y.ra Y.rn Y.rc, .int .i64 tb.sz]
    replace BT := Lib.hid BT
    go_upto_region 4 with fail
    generalize w2.alloc (.cells #[.string tb.nm, .slice Y.ka Y.kn Y.kc, .slice Y.ca Y.cn Y.cc, .int .i64 tb.da, .slice Y.ra Y.rn Y.rc, .int .i64 tb.sz] 60) = w4 at *
    obtain ⟨b6, hb6⟩ : ∃ b, b = w2.heap.size := ⟨_, rfl⟩
    have Lb6 := Lib.hid (show w2.heap.size ≤ b6 by rw [hb6]; exact Nat.le_refl _)
    rw [← hb6] at BT ⊢
    clear hb6
    have GW := Lib.hid (gb_trans G2.out G4.out)
    have HP4 := Lib.hid (HP.out.keep0 G4.out)
    replace HS := Lib.hid (HS.out.keep0 G4.out)
    have DC := Lib.hid (fun (W : World) (q : w4.grownBy W none) => decl17_any W Y tb (HS.out.keep0 q) (by have := SZ.out.2.2.2; omega))
    have CKS := Lib.hid (fun (W : World) (q : w4.grownBy W none) => checkKeys_any W X P (HP4.out.keep0 q) Y tb (HS.out.keep0 q) SZ.out.1)
    have CAS := Lib.hid (fun (W : World) (q : w4.grownBy W none) => checkActions_any W X P (HP4.out.keep0 q) Y tb (HS.out.keep0 q) SZ.out.2.1 SZ.out.2.2.1)
    have CKY := Lib.hid (fun (W : World) (q : w4.grownBy W none) => key17_any W X P (HP4.out.keep0 q))
    unfold RetV at DC CKS CAS CKY
    have HL := Lib.hid (show tb.ks.length = Y.kn from HS.out.k.len)
    have KB := Lib.hid (fun (j : Nat) (hj : j < Y.kn) => keysR_bad (H := P.H) (M := P.M) (ks := tb.ks) (j := j) (by rw [HL.out]; exact hj))
    have KO := Lib.hid (keysR_ok (H := P.H) (M := P.M) (ks := tb.ks))
    unfold tabR at HC
    generalize declE tb = de at *
    generalize actionsE P.A tb = ae at *
    generalize keysE P.H P.M tb.ks = ke at *
    generalize keysR P.H P.M tb.ks = kr at *
    clear c0 c1 c2 c3 c4 c5 c6 c7 c8 e0 e1 e2 e3 e4 e5 hk
    have d0 := (BT.out.keep0 (gb_refl _ _)).cell 0
    have d1 := (BT.out.keep0 (gb_refl _ _)).cell 1
    have d2 := (BT.out.keep0 (gb_refl _ _)).cell 2
    have d3 := (BT.out.keep0 (gb_refl _ _)).cell 3
    have d4 := (BT.out.keep0 (gb_refl _ _)).cell 4
    have d5 := (BT.out.keep0 (gb_refl _ _)).cell 5
    dsimp at d0 d1 d2 d3 d4 d5
    by_cases hd : de = 0
    · rw [if_pos hd] at HC
      subst hd
      go_upto_region 7 with (go_at_call 44; refine (DC.out w4 (gb_refl _ _)).mono ?_; rintro e w5 ⟨rfl, g⟩; have G5 := Lib.hid g; clear g)
      clear d0 d1 d2 d3 d4 d5
      have d0 := (BT.out.keep0 G5.out).cell 0
      have d1 := (BT.out.keep0 G5.out).cell 1
      have d2 := (BT.out.keep0 G5.out).cell 2
      have d3 := (BT.out.keep0 G5.out).cell 3
      have d4 := (BT.out.keep0 G5.out).cell 4
      have d5 := (BT.out.keep0 G5.out).cell 5
      dsimp at d0 d1 d2 d3 d4 d5
      go_wp2
      clear d0 d1 d2 d3 d4 d5
      go_loopw [28] (fun i wr => ∃ j : Nat, j ≤ Y.kn ∧ i = .int .i64 j ∧ (∀ x, x < j → keyE P.H P.M (tb.ks.getD x tkz) = 0) ∧ w4.grownBy wr none) (fun i _ => Y.kn - (intOf i).toNat)
      case atStart => exact ⟨0, Nat.zero_le _, rfl, (fun x hx => absurd hx (Nat.not_lt_zero _)), G5.out⟩
      case round =>
        obtain ⟨j, hj, rfl, hb, hg⟩ := hrel
        have HB := Lib.hid hb
        have G := Lib.hid hg
        clear hb hg G5
        by_cases hlt : j < Y.kn
        · obtain ⟨ad, had⟩ := HS.out.k.some (by omega)
          obtain ⟨e0, e1, e2⟩ := (HS.out.k.keep0SKy G.out).cells ad had j hlt
          have KJ := Lib.hid (KB.out j hlt HB.out)
          have NX := Lib.hid (fun (q : keyE P.H P.M (tb.ks.getD j tkz) = 0) => next_all HB.out q)
          have CX := Lib.hid (fun (W : World) (q : w4.grownBy W none) => CKY.out W q (tb.ks.getD j tkz))
          generalize keyE P.H P.M (tb.ks.getD j tkz) = kv at *
          generalize (tb.ks.getD j tkz).h = xh at *
          generalize (tb.ks.getD j tkz).f = xf at *
          generalize (tb.ks.getD j tkz).k = xk at *
          have i1 : (j : Int) < Y.kn := by omega
          have i0 : (0 : Int) ≤ (j : Int) := by omega
          have hw : IntKind.i64.wrap ((j : Int) + 1) = ((j + 1 : Nat) : Int) := by have := SZ.out.1; rw [IntKind.wrap_i64]; omega
          rw [had]
          clear had hlt
          have GK := Lib.hid (gb_alloc wr (.cells #[.int .i64 xh, .int .i64 xf, .int .i64 xk] 64) none)
          have BK := IsB.new wr 64 #[.int .i64 xh, .int .i64 xf, .int .i64 xk]
          replace BK := Lib.hid BK
          go_upto_region 10 with fail
          generalize wr.alloc (.cells #[.int .i64 xh, .int .i64 xf, .int .i64 xk] 64) = w7 at *
          obtain ⟨b8, hb8⟩ : ∃ b, b = wr.heap.size := ⟨_, rfl⟩
          have Lb8 := Lib.hid (show wr.heap.size ≤ b8 by rw [hb8]; exact Nat.le_refl _)
          rw [← hb8] at BK ⊢
          clear hb8
          have G7 := Lib.hid (gb_trans G.out GK.out)
          clear e0 e1 e2
          have c0 := (B1.out.keep0 (gb_trans G4.out G7.out)).cell 0
          have c1 := (B1.out.keep0 (gb_trans G4.out G7.out)).cell 1
          have c2 := (B1.out.keep0 (gb_trans G4.out G7.out)).cell 2
          have c3 := (B1.out.keep0 (gb_trans G4.out G7.out)).cell 3
          have c4 := (B1.out.keep0 (gb_trans G4.out G7.out)).cell 4
          have c5 := (B1.out.keep0 (gb_trans G4.out G7.out)).cell 5
          have c6 := (B1.out.keep0 (gb_trans G4.out G7.out)).cell 6
          have c7 := (B1.out.keep0 (gb_trans G4.out G7.out)).cell 7
          have c8 := (B1.out.keep0 (gb_trans G4.out G7.out)).cell 8
          dsimp at c0 c1 c2 c3 c4 c5 c6 c7 c8
          have d0 := (BK.out.keep0 (gb_refl _ _)).cell 0
          have d1 := (BK.out.keep0 (gb_refl _ _)).cell 1
          have d2 := (BK.out.keep0 (gb_refl _ _)).cell 2
          dsimp at d0 d1 d2
          go_wp2_with fail
          refine (CX.out w7 G7.out).mono ?_
          rintro e w8 ⟨rfl, g⟩
          have G8 := Lib.hid (gb_trans G7.out g)
          clear g c0 c1 c2 c3 c4 c5 c6 c7 c8 d0 d1 d2
          by_cases hv : kv = 0
          · have N2 := Lib.hid (NX.out hv)
            subst hv
            go_wp2
            go_roundw
            case rel => exact ⟨j + 1, by omega, by first | rfl | (congr 1), N2.out, G8.out⟩
            case measure => simp [intOf]; omega
          · have hv2 : (kv != 0) = true := by simp [hv]
            have K := Lib.hid (show CR = ((j : Int), kv) by rw [HC.out, KJ.out hv, if_neg hv])
            clear hv
            go_wp2
            go_ret2
            exact ⟨by rw [K.out] <;> rfl, gb_trans G2.out (gb_trans G4.out G8.out)⟩
        · have i1 : ¬ (j : Int) < Y.kn := by omega
          rw [KO.out (fun i hi => HB.out i (by rw [HL.out] at hi; omega))] at HC
          have G7 := Lib.hid G.out
          clear KB KO
          go_upto_region 14 with fail
          have c0 := (B1.out.keep0 (gb_trans G4.out G7.out)).cell 0
          have c1 := (B1.out.keep0 (gb_trans G4.out G7.out)).cell 1
          have c2 := (B1.out.keep0 (gb_trans G4.out G7.out)).cell 2
          have c3 := (B1.out.keep0 (gb_trans G4.out G7.out)).cell 3
          have c4 := (B1.out.keep0 (gb_trans G4.out G7.out)).cell 4
          have c5 := (B1.out.keep0 (gb_trans G4.out G7.out)).cell 5
          have c6 := (B1.out.keep0 (gb_trans G4.out G7.out)).cell 6
          have c7 := (B1.out.keep0 (gb_trans G4.out G7.out)).cell 7
          have c8 := (B1.out.keep0 (gb_trans G4.out G7.out)).cell 8
          dsimp at c0 c1 c2 c3 c4 c5 c6 c7 c8
          have d0 := (BT.out.keep0 G7.out).cell 0
          have d1 := (BT.out.keep0 G7.out).cell 1
          have d2 := (BT.out.keep0 G7.out).cell 2
          have d3 := (BT.out.keep0 G7.out).cell 3
          have d4 := (BT.out.keep0 G7.out).cell 4
          have d5 := (BT.out.keep0 G7.out).cell 5
          dsimp at d0 d1 d2 d3 d4 d5
          go_wp2_with fail
          refine (CKS.out _ G7.out).mono ?_
          rintro e w8 ⟨rfl, g⟩
          have G8 := Lib.hid (gb_trans G7.out g)
          clear g c0 c1 c2 c3 c4 c5 c6 c7 c8 d0 d1 d2 d3 d4 d5
          by_cases hk : ke = 0
          · rw [if_pos hk, if_pos rfl] at HC
            subst hk
            go_upto_region 17 with fail
            have c0 := (B1.out.keep0 (gb_trans G4.out G8.out)).cell 0
            have c1 := (B1.out.keep0 (gb_trans G4.out G8.out)).cell 1
            have c2 := (B1.out.keep0 (gb_trans G4.out G8.out)).cell 2
            have c3 := (B1.out.keep0 (gb_trans G4.out G8.out)).cell 3
            have c4 := (B1.out.keep0 (gb_trans G4.out G8.out)).cell 4
            have c5 := (B1.out.keep0 (gb_trans G4.out G8.out)).cell 5
            have c6 := (B1.out.keep0 (gb_trans G4.out G8.out)).cell 6
            have c7 := (B1.out.keep0 (gb_trans G4.out G8.out)).cell 7
            have c8 := (B1.out.keep0 (gb_trans G4.out G8.out)).cell 8
            dsimp at c0 c1 c2 c3 c4 c5 c6 c7 c8
            have d0 := (BT.out.keep0 G8.out).cell 0
            have d1 := (BT.out.keep0 G8.out).cell 1
            have d2 := (BT.out.keep0 G8.out).cell 2
            have d3 := (BT.out.keep0 G8.out).cell 3
            have d4 := (BT.out.keep0 G8.out).cell 4
            have d5 := (BT.out.keep0 G8.out).cell 5
            dsimp at d0 d1 d2 d3 d4 d5
            go_wp2_with fail
            refine (CAS.out _ G8.out).mono ?_
            rintro e w9 ⟨rfl, g⟩
            have G9 := Lib.hid (gb_trans G8.out g)
            clear g c0 c1 c2 c3 c4 c5 c6 c7 c8 d0 d1 d2 d3 d4 d5
            by_cases ha : ae = 0
            · rw [if_pos ha] at HC
              subst ha
              go_wp2
              go_ret2
              exact ⟨by rw [HC.out] <;> rfl, gb_trans G2.out (gb_trans G4.out G9.out)⟩
            · rw [if_neg ha] at HC
              have ha2 : (ae != 0) = true := by simp [ha]
              go_wp2
              go_ret2
              exact ⟨by rw [HC.out] <;> rfl, gb_trans G2.out (gb_trans G4.out G9.out)⟩
          · rw [if_neg hk, if_neg hk] at HC
            have hk2 : (ke != 0) = true := by simp [hk]
            go_wp2
            go_ret2
            exact ⟨by rw [HC.out] <;> rfl, gb_trans G2.out (gb_trans G4.out G8.out)⟩
    · rw [if_neg hd] at HC
      have hd2 : (de != 0) = true := by simp [hd]
      go_wp2_with (go_at_call 44; refine (DC.out w4 (gb_refl _ _)).mono ?_; rintro e w5 ⟨rfl, g⟩; have G5 := Lib.hid g; clear g)
      go_ret2
      exact ⟨by rw [HC.out] <;> rfl, gb_trans G2.out (gb_trans G4.out G5.out)⟩
  · have HX := Lib.hid (isX_no (n := X.tn) hx)
    have E := Lib.hid (show CR = (-1, 8) by rw [HC.out, HX.out]; rfl)
    go_wp2_with (go_at_call 43; refine (tisx_any w2 t X.tn).mono ?_; rw [HX.out]; rintro e w3 ⟨rfl, rfl⟩)
    go_ret2
    exact ⟨by rw [E.out] <;> rfl, G2.out⟩
set_option maxRecDepth 100000 in
set_option maxHeartbeats 4000000 in
theorem rchk17_any (w : World) (X : PX) (P : Pg) (hp : SP w X P) (hz : szT P) (t : Int) : Calls Try.prog 31 #[.agg #[.string X.nm, .slice X.ha X.hn X.hc, .slice X.ma X.mn X.mc, .slice X.ra X.rn X.rc, .slice X.aa X.an X.ac, .slice X.ta X.tn X.tc, .slice X.sa X.sn X.sc, .slice X.ca X.cn X.cc, .slice X.da X.dn X.dc], .int .i64 t] w (RetV (.tuple #[.int .i64 (chkT P t).1, .int .i64 (chkT P t).2]) w) := by
  have HP := Lib.hid hp
  have HZ := Lib.hid hz
  have TL := Lib.hid (show P.T.length = X.tn from hp.t.len)
  obtain ⟨CR, hcr⟩ : ∃ d, d = chkT P t := ⟨_, rfl⟩
  have HC := Lib.hid hcr
  unfold chkT at HC
  rw [TL.out] at HC
  rw [← hcr]
  have G2 := Lib.hid (gb_alloc w (.cells #[.string X.nm, .slice X.ha X.hn X.hc, .slice X.ma X.mn X.mc, .slice X.ra X.rn X.rc, .slice X.aa X.an X.ac, .slice X.ta X.tn X.tc, .slice X.sa X.sn X.sc, .slice X.ca X.cn X.cc, .slice X.da X.dn X.dc] 31) none)
  have B1 := IsB.new w 31 #[.string X.nm, .slice X.ha X.hn X.hc, .slice X.ma X.mn X.mc, .slice X.ra X.rn X.rc, .slice X.aa X.an X.ac, .slice X.ta X.tn X.tc, .slice X.sa X.sn X.sc, .slice X.ca X.cn X.cc, .slice X.da X.dn X.dc]
  replace B1 := Lib.hid B1
  clear hp hz hcr
  go_enter Try.func31, Try.ntmps31
  go_upto_region 1 with fail
  generalize w.alloc (.cells #[.string X.nm, .slice X.ha X.hn X.hc, .slice X.ma X.mn X.mc, .slice X.ra X.rn X.rc, .slice X.aa X.an X.ac, .slice X.ta X.tn X.tc, .slice X.sa X.sn X.sc, .slice X.ca X.cn X.cc, .slice X.da X.dn X.dc] 31) = w2 at *
  obtain ⟨bx, hbx⟩ : ∃ b, b = w.heap.size := ⟨_, rfl⟩
  have Lbx := Lib.hid (show w.heap.size ≤ bx by rw [hbx]; exact Nat.le_refl _)
  rw [← hbx] at B1 ⊢
  clear hbx
  replace HP := Lib.hid (HP.out.keep0 G2.out)
  have c0 := (B1.out.keep0 (gb_refl _ _)).cell 0
  have c1 := (B1.out.keep0 (gb_refl _ _)).cell 1
  have c2 := (B1.out.keep0 (gb_refl _ _)).cell 2
  have c3 := (B1.out.keep0 (gb_refl _ _)).cell 3
  have c4 := (B1.out.keep0 (gb_refl _ _)).cell 4
  have c5 := (B1.out.keep0 (gb_refl _ _)).cell 5
  have c6 := (B1.out.keep0 (gb_refl _ _)).cell 6
  have c7 := (B1.out.keep0 (gb_refl _ _)).cell 7
  have c8 := (B1.out.keep0 (gb_refl _ _)).cell 8
  dsimp at c0 c1 c2 c3 c4 c5 c6 c7 c8
  by_cases hx : 0 ≤ t ∧ t < (X.tn : Int)
  · obtain ⟨k, rfl⟩ : ∃ k : Nat, t = (k : Int) := ⟨t.toNat, by omega⟩
    have hk : k < X.tn := by omega
    have k0 : (0 : Int) ≤ (k : Int) := by omega
    have k1 : (k : Int) < X.tn := by omega
    have k2 : ¬ X.tn ≤ k := by omega
    have k3 : ¬ (k : Int) < 0 := by omega
    have HX := Lib.hid (show isX (k : Int) X.tn = true from (isX_iff _ _).2 hx)
    rw [if_pos HX.out, Int.toNat_natCast] at HC
    obtain ⟨tad, hta⟩ := HP.out.t.some (by omega)
    obtain ⟨Y, st, e0, e1, e2, e3, e4, e5⟩ := HP.out.tab hk hta
    have SZ := Lib.hid (HZ.out.at_ (X := X) (by rw [TL.out]; exact hk) st)
    generalize P.T.getD k tbz = tb at *
    have HS := Lib.hid st
    have HTA := Lib.hid hta
    clear st hta hx
    rw [HTA.out] at c5 ⊢
    go_upto_region 3 with fail
    have G4 := Lib.hid (gb_alloc w2 (.cells #[.string tb.nm, .slice Y.ka Y.kn Y.kc, .slice Y.ca Y.cn Y.cc, .int .i64 tb.da, .slice Y.ra Y.rn Y.rc, .int .i64 tb.sz] 60) none)
    have BT := IsB.new w2 60 #[.string tb.nm, .slice Y.ka Y.kn Y.kc, .slice Y.ca Y.cn Y.cc, .int .i64 tb.da, .slice Y.ra Y.rn Y.rc, .int .i64 tb.sz]
    replace BT := Lib.hid BT
    go_upto_region 4 with fail
    generalize w2.alloc (.cells #[.string tb.nm, .slice Y.ka Y.kn Y.kc, .slice Y.ca Y.cn Y.cc, .int .i64 tb.da, .slice Y.ra Y.rn Y.rc, .int .i64 tb.sz] 60) = w4 at *
    obtain ⟨b6, hb6⟩ : ∃ b, b = w2.heap.size := ⟨_, rfl⟩
    have Lb6 := Lib.hid (show w2.heap.size ≤ b6 by rw [hb6]; exact Nat.le_refl _)
    rw [← hb6] at BT ⊢
    clear hb6
    have HP4 := Lib.hid (HP.out.keep0 G4.out)
    replace HS := Lib.hid (HS.out.keep0 G4.out)
    have ID := Lib.hid (fun (W : World) => Lx.risIdent_any W (Lx.bytesI tb.nm) (Lx.bytesI_range tb.nm) (by rw [Lx.bytesI_len]; have := SZ.out.2.2.2; omega))
    rw [Lx.bytesI_str] at ID
    unfold RetS at ID
    have CKS := Lib.hid (fun (W : World) (q : w4.grownBy W none) => rkeys_any W X P (HP4.out.keep0 q) Y tb (HS.out.keep0 q) SZ.out.1)
    have CAS := Lib.hid (fun (W : World) (q : w4.grownBy W none) => ractions_any W X P (HP4.out.keep0 q) Y tb (HS.out.keep0 q) SZ.out.2.1 SZ.out.2.2.1)
    unfold RetV at CKS CAS
    have LK := Lib.hid (show tb.ks.length = Y.kn from HS.out.k.len)
    have LC := Lib.hid (show tb.acs.length = Y.cn from HS.out.c.len)
    have DD := Lib.hid (show declE tb = if Lx.isId (Lx.bytesI tb.nm) = true then (if 6 < Y.kn ∨ 16 < Y.cn then 12 else if tb.sz < 1 ∨ 256 < tb.sz then 9 else 0) else 6 by rw [← LK.out, ← LC.out]; rfl)
    unfold tabR at HC
    generalize declE tb = de at *
    generalize actionsE P.A tb = ae at *
    generalize keysR P.H P.M tb.ks = kr at *
    clear c0 c1 c2 c3 c4 c5 c6 c7 c8 e0 e1 e2 e3 e4 e5 hk
    have d0 := (BT.out.keep0 (gb_refl _ _)).cell 0
    have d1 := (BT.out.keep0 (gb_refl _ _)).cell 1
    have d2 := (BT.out.keep0 (gb_refl _ _)).cell 2
    have d3 := (BT.out.keep0 (gb_refl _ _)).cell 3
    have d4 := (BT.out.keep0 (gb_refl _ _)).cell 4
    have d5 := (BT.out.keep0 (gb_refl _ _)).cell 5
    dsimp at d0 d1 d2 d3 d4 d5
    cases hid : Lx.isId (Lx.bytesI tb.nm)
    · rw [hid] at DD ID
      clear hid
      have E := Lib.hid (show CR = (-1, 6) by
        have e : de = 6 := by rw [DD.out]; simp
        rw [HC.out, if_neg (by rw [e]; decide), e])
      go_wp2_with (go_at_call 55; refine (ID.out w4).mono ?_; rintro e w5 ⟨rfl, he⟩; obtain rfl := he.symm)
      go_ret2
      exact ⟨by rw [E.out] <;> rfl, gb_trans G2.out G4.out⟩
    · rw [hid] at DD ID
      rw [if_pos rfl] at DD
      clear hid
      by_cases k1 : (6 : Int) < Y.kn
      · have E := Lib.hid (show CR = (-1, 12) by
          have e : de = 12 := by rw [DD.out, if_pos (.inl (by omega))]
          rw [HC.out, if_neg (by rw [e]; decide), e])
        go_wp2_with (go_at_call 55; refine (ID.out w4).mono ?_; rintro e w5 ⟨rfl, he⟩; obtain rfl := he.symm)
        go_ret2
        exact ⟨by rw [E.out] <;> rfl, gb_trans G2.out G4.out⟩
      · by_cases k2 : (16 : Int) < Y.cn
        · have E := Lib.hid (show CR = (-1, 12) by
            have e : de = 12 := by rw [DD.out, if_pos (.inr (by omega))]
            rw [HC.out, if_neg (by rw [e]; decide), e])
          go_wp2_with (go_at_call 55; refine (ID.out w4).mono ?_; rintro e w5 ⟨rfl, he⟩; obtain rfl := he.symm)
          go_ret2
          exact ⟨by rw [E.out] <;> rfl, gb_trans G2.out G4.out⟩
        · rw [if_neg (by omega)] at DD
          by_cases k3 : tb.sz < 1
          · have E := Lib.hid (show CR = (-1, 9) by
              have e : de = 9 := by rw [DD.out, if_pos (.inl k3)]
              rw [HC.out, if_neg (by rw [e]; decide), e])
            go_wp2_with (go_at_call 55; refine (ID.out w4).mono ?_; rintro e w5 ⟨rfl, he⟩; obtain rfl := he.symm)
            go_ret2
            exact ⟨by rw [E.out] <;> rfl, gb_trans G2.out G4.out⟩
          · by_cases k4 : (256 : Int) < tb.sz
            · have E := Lib.hid (show CR = (-1, 9) by
                have e : de = 9 := by rw [DD.out, if_pos (.inr k4)]
                rw [HC.out, if_neg (by rw [e]; decide), e])
              go_wp2_with (go_at_call 55; refine (ID.out w4).mono ?_; rintro e w5 ⟨rfl, he⟩; obtain rfl := he.symm)
              go_ret2
              exact ⟨by rw [E.out] <;> rfl, gb_trans G2.out G4.out⟩
            · have D0 := Lib.hid (show de = 0 by rw [DD.out, if_neg (by omega)])
              rw [if_pos D0.out] at HC
              clear DD
              go_upto_region 10 with (go_at_call 55; refine (ID.out w4).mono ?_; rintro e w5 ⟨rfl, he⟩; obtain rfl := he.symm)
              clear d0 d1 d2 d3 d4 d5
              have c0 := (B1.out.keep0 G4.out).cell 0
              have c1 := (B1.out.keep0 G4.out).cell 1
              have c2 := (B1.out.keep0 G4.out).cell 2
              have c3 := (B1.out.keep0 G4.out).cell 3
              have c4 := (B1.out.keep0 G4.out).cell 4
              have c5 := (B1.out.keep0 G4.out).cell 5
              have c6 := (B1.out.keep0 G4.out).cell 6
              have c7 := (B1.out.keep0 G4.out).cell 7
              have c8 := (B1.out.keep0 G4.out).cell 8
              dsimp at c0 c1 c2 c3 c4 c5 c6 c7 c8
              have d0 := (BT.out.keep0 (gb_refl _ _)).cell 0
              have d1 := (BT.out.keep0 (gb_refl _ _)).cell 1
              have d2 := (BT.out.keep0 (gb_refl _ _)).cell 2
              have d3 := (BT.out.keep0 (gb_refl _ _)).cell 3
              have d4 := (BT.out.keep0 (gb_refl _ _)).cell 4
              have d5 := (BT.out.keep0 (gb_refl _ _)).cell 5
              dsimp at d0 d1 d2 d3 d4 d5
              go_wp2_with fail
              refine (CKS.out w4 (gb_refl _ _)).mono ?_
              rintro e w8 ⟨rfl, g⟩
              have G8 := Lib.hid g
              clear g c0 c1 c2 c3 c4 c5 c6 c7 c8 d0 d1 d2 d3 d4 d5
              obtain ⟨ka, kb⟩ := kr
              by_cases hk : kb = 0
              · rw [if_pos hk] at HC
                subst hk
                go_upto_region 13 with fail
                have c0 := (B1.out.keep0 (gb_trans G4.out G8.out)).cell 0
                have c1 := (B1.out.keep0 (gb_trans G4.out G8.out)).cell 1
                have c2 := (B1.out.keep0 (gb_trans G4.out G8.out)).cell 2
                have c3 := (B1.out.keep0 (gb_trans G4.out G8.out)).cell 3
                have c4 := (B1.out.keep0 (gb_trans G4.out G8.out)).cell 4
                have c5 := (B1.out.keep0 (gb_trans G4.out G8.out)).cell 5
                have c6 := (B1.out.keep0 (gb_trans G4.out G8.out)).cell 6
                have c7 := (B1.out.keep0 (gb_trans G4.out G8.out)).cell 7
                have c8 := (B1.out.keep0 (gb_trans G4.out G8.out)).cell 8
                dsimp at c0 c1 c2 c3 c4 c5 c6 c7 c8
                have d0 := (BT.out.keep0 G8.out).cell 0
                have d1 := (BT.out.keep0 G8.out).cell 1
                have d2 := (BT.out.keep0 G8.out).cell 2
                have d3 := (BT.out.keep0 G8.out).cell 3
                have d4 := (BT.out.keep0 G8.out).cell 4
                have d5 := (BT.out.keep0 G8.out).cell 5
                dsimp at d0 d1 d2 d3 d4 d5
                go_wp2_with fail
                refine (CAS.out _ G8.out).mono ?_
                rintro e w9 ⟨rfl, g⟩
                have G9 := Lib.hid (gb_trans G8.out g)
                clear g c0 c1 c2 c3 c4 c5 c6 c7 c8 d0 d1 d2 d3 d4 d5
                by_cases ha : ae = 0
                · rw [if_pos ha] at HC
                  subst ha
                  go_wp2
                  go_ret2
                  exact ⟨by rw [HC.out] <;> rfl, gb_trans G2.out (gb_trans G4.out G9.out)⟩
                · rw [if_neg ha] at HC
                  have ha2 : (ae != 0) = true := by simp [ha]
                  go_wp2
                  go_ret2
                  exact ⟨by rw [HC.out] <;> rfl, gb_trans G2.out (gb_trans G4.out G9.out)⟩
              · rw [if_neg hk] at HC
                have hk2 : (kb != 0) = true := by simp [hk]
                go_wp2
                go_ret2
                exact ⟨by rw [HC.out] <;> rfl, gb_trans G2.out (gb_trans G4.out G8.out)⟩
  · have HX := Lib.hid (isX_no (n := X.tn) hx)
    have E := Lib.hid (show CR = (-1, 8) by rw [HC.out, HX.out]; rfl)
    by_cases h0 : t < 0
    · go_wp2
      go_ret2
      exact ⟨by rw [E.out] <;> rfl, G2.out⟩
    · have h1 : (X.tn : Int) ≤ t := by omega
      have h2 : ¬ t < (X.tn : Int) := by omega
      go_wp2
      go_ret2
      exact ⟨by rw [E.out] <;> rfl, G2.out⟩
def okT (P : Pg) (t : Int) : Bool := decide ((chkT P t).2 = 0)
def yz : TX := ⟨none, none, none, 0, 0, 0, 0, 0, 0⟩
theorem st_nil (w : World) : ST w yz tbz := ⟨sl_nil w, si_nil w, su_nil w, by decide, by decide⟩
theorem ok_in {P : Pg} {t : Int} (h : okT P t = true) : ∃ k : Nat, t = (k : Int) ∧ k < P.T.length := by
  have h : (chkT P t).2 = 0 := by simpa [okT] using h
  unfold chkT at h
  split at h
  · rename_i q
    have := (isX_iff _ _).1 q
    exact ⟨t.toNat, by omega, by omega⟩
  · cases h
/-- The table that valid answers: table t, or an empty one. -/
def tabV (P : Pg) (t : Int) : Tbl := if okT P t = true then P.T.getD t.toNat tbz else tbz
set_option maxRecDepth 100000 in
set_option maxHeartbeats 4000000 in
theorem rvalid17_any (w : World) (X : PX) (P : Pg) (hp : SP w X P) (hz : szT P) (t : Int) : Calls Try.prog 58 #[.agg #[.string X.nm, .slice X.ha X.hn X.hc, .slice X.ma X.mn X.mc, .slice X.ra X.rn X.rc, .slice X.aa X.an X.ac, .slice X.ta X.tn X.tc, .slice X.sa X.sn X.sc, .slice X.ca X.cn X.cc, .slice X.da X.dn X.dc], .int .i64 t] w (RetV (.bool (okT P t)) w) := by
  have CK := Lib.hid (fun (W : World) (q : w.grownBy W none) => rchk17_any W X P (hp.keep0 q) hz t)
  have OD := Lib.hid (show okT P t = decide ((chkT P t).2 = 0) from rfl)
  generalize okT P t = ok at *
  generalize chkT P t = cr at *
  obtain ⟨ca, cb⟩ := cr
  unfold RetV at CK
  have G2 := Lib.hid (gb_alloc w (.cells #[.string X.nm, .slice X.ha X.hn X.hc, .slice X.ma X.mn X.mc, .slice X.ra X.rn X.rc, .slice X.aa X.an X.ac, .slice X.ta X.tn X.tc, .slice X.sa X.sn X.sc, .slice X.ca X.cn X.cc, .slice X.da X.dn X.dc] 31) none)
  have B1 := IsB.new w 31 #[.string X.nm, .slice X.ha X.hn X.hc, .slice X.ma X.mn X.mc, .slice X.ra X.rn X.rc, .slice X.aa X.an X.ac, .slice X.ta X.tn X.tc, .slice X.sa X.sn X.sc, .slice X.ca X.cn X.cc, .slice X.da X.dn X.dc]
  replace B1 := Lib.hid B1
  clear hp hz
  go_enter Try.func58, Try.ntmps58
  go_upto_region 1 with fail
  generalize w.alloc (.cells #[.string X.nm, .slice X.ha X.hn X.hc, .slice X.ma X.mn X.mc, .slice X.ra X.rn X.rc, .slice X.aa X.an X.ac, .slice X.ta X.tn X.tc, .slice X.sa X.sn X.sc, .slice X.ca X.cn X.cc, .slice X.da X.dn X.dc] 31) = w2 at *
  obtain ⟨bx, hbx⟩ : ∃ b, b = w.heap.size := ⟨_, rfl⟩
  have Lbx := Lib.hid (show w.heap.size ≤ bx by rw [hbx]; exact Nat.le_refl _)
  rw [← hbx] at B1 ⊢
  clear hbx
  have c0 := (B1.out.keep0 (gb_refl _ _)).cell 0
  have c1 := (B1.out.keep0 (gb_refl _ _)).cell 1
  have c2 := (B1.out.keep0 (gb_refl _ _)).cell 2
  have c3 := (B1.out.keep0 (gb_refl _ _)).cell 3
  have c4 := (B1.out.keep0 (gb_refl _ _)).cell 4
  have c5 := (B1.out.keep0 (gb_refl _ _)).cell 5
  have c6 := (B1.out.keep0 (gb_refl _ _)).cell 6
  have c7 := (B1.out.keep0 (gb_refl _ _)).cell 7
  have c8 := (B1.out.keep0 (gb_refl _ _)).cell 8
  dsimp at c0 c1 c2 c3 c4 c5 c6 c7 c8
  go_wp2_with fail
  refine (CK.out w2 G2.out).mono ?_
  rintro e w3 ⟨rfl, g⟩
  have G3 := Lib.hid g
  clear g c0 c1 c2 c3 c4 c5 c6 c7 c8
  by_cases h0 : cb = 0
  · have E := Lib.hid (show ok = true by rw [OD.out]; simp [h0])
    subst h0
    go_wp2
    go_ret
    exact ⟨by rw [E.out] <;> rfl, gb_trans G2.out G3.out⟩
  · have E := Lib.hid (show ok = false by rw [OD.out]; simp [h0])
    have h1 : (cb == 0) = false := by simp [h0]
    go_wp2
    go_ret
    exact ⟨by rw [E.out] <;> rfl, gb_trans G2.out G3.out⟩
/-- valid returns the table and whether it is one. -/
def RetT (P : Pg) (t : Int) (w : World) (e : Ending) (w' : World) : Prop := ∃ Y : TX, e = .returned (.tuple #[.agg #[.string (tabV P t).nm, .slice Y.ka Y.kn Y.kc, .slice Y.ca Y.cn Y.cc, .int .i64 (tabV P t).da, .slice Y.ra Y.rn Y.rc, .int .i64 (tabV P t).sz], .bool (okT P t)]) ∧ ST w' Y (tabV P t) ∧ w.grownBy w' none
theorem st_put {w : World} {b k : Nat} {v : Value} {cs : Array Value} {Y : TX} {tb : Tbl} {w0 : World} (h : ST w0 Y tb) (g : w0.grownBy w none) (hb : w0.heap.size ≤ b) : ST (w.setCell ⟨b, k, none⟩ v) Y tb := h.keep0 (gb_put g hb)
set_option maxRecDepth 100000 in
set_option maxHeartbeats 4000000 in
theorem pvalid_any (w : World) (X : PX) (P : Pg) (hp : SP w X P) (hz : szT P) (t : Int) : Calls Try.prog 50 #[.agg #[.string X.nm, .slice X.ha X.hn X.hc, .slice X.ma X.mn X.mc, .slice X.ra X.rn X.rc, .slice X.aa X.an X.ac, .slice X.ta X.tn X.tc, .slice X.sa X.sn X.sc, .slice X.ca X.cn X.cc, .slice X.da X.dn X.dc], .int .i64 t] w (RetT P t w) := by
  have CK := Lib.hid (fun (W : World) (q : w.grownBy W none) => pchk_any W X P (hp.keep0 q) hz t)
  have HP := Lib.hid hp
  have TL := Lib.hid (show P.T.length = X.tn from hp.t.len)
  have OD := Lib.hid (show okT P t = decide ((chkT P t).2 = 0) from rfl)
  have TVd := Lib.hid (show tabV P t = if okT P t = true then P.T.getD t.toNat tbz else tbz from rfl)
  have OI := Lib.hid (fun q => ok_in (P := P) (t := t) q)
  unfold RetT
  generalize tabV P t = tv at *
  generalize okT P t = ok at *
  generalize chkT P t = cr at *
  obtain ⟨ca, cb⟩ := cr
  unfold RetV at CK
  have G2 := Lib.hid (gb_trans (gb_alloc w (.cells #[.string X.nm, .slice X.ha X.hn X.hc, .slice X.ma X.mn X.mc, .slice X.ra X.rn X.rc, .slice X.aa X.an X.ac, .slice X.ta X.tn X.tc, .slice X.sa X.sn X.sc, .slice X.ca X.cn X.cc, .slice X.da X.dn X.dc] 31) none) (gb_alloc _ (.cells #[.string ⟨#[]⟩, .slice none 0 0, .slice none 0 0, .int .i64 0, .slice none 0 0, .int .i64 0] 60) none))
  have B1 := (IsB.new w 31 #[.string X.nm, .slice X.ha X.hn X.hc, .slice X.ma X.mn X.mc, .slice X.ra X.rn X.rc, .slice X.aa X.an X.ac, .slice X.ta X.tn X.tc, .slice X.sa X.sn X.sc, .slice X.ca X.cn X.cc, .slice X.da X.dn X.dc]).alloc (.cells #[.string ⟨#[]⟩, .slice none 0 0, .slice none 0 0, .int .i64 0, .slice none 0 0, .int .i64 0] 60)
  have B0 := IsB.new (w.alloc (.cells #[.string X.nm, .slice X.ha X.hn X.hc, .slice X.ma X.mn X.mc, .slice X.ra X.rn X.rc, .slice X.aa X.an X.ac, .slice X.ta X.tn X.tc, .slice X.sa X.sn X.sc, .slice X.ca X.cn X.cc, .slice X.da X.dn X.dc] 31)) 60 #[.string ⟨#[]⟩, .slice none 0 0, .slice none 0 0, .int .i64 0, .slice none 0 0, .int .i64 0]
  simp only [sz_al] at B0
  replace B1 := Lib.hid B1
  replace B0 := Lib.hid B0
  clear hp hz
  go_enter Try.func50, Try.ntmps50
  go_upto_region 1 with fail
  generalize (w.alloc (.cells #[.string X.nm, .slice X.ha X.hn X.hc, .slice X.ma X.mn X.mc, .slice X.ra X.rn X.rc, .slice X.aa X.an X.ac, .slice X.ta X.tn X.tc, .slice X.sa X.sn X.sc, .slice X.ca X.cn X.cc, .slice X.da X.dn X.dc] 31)).alloc (.cells #[.string ⟨#[]⟩, .slice none 0 0, .slice none 0 0, .int .i64 0, .slice none 0 0, .int .i64 0] 60) = w2 at *
  obtain ⟨bx, hbx⟩ : ∃ b, b = w.heap.size := ⟨_, rfl⟩
  have Lbx := Lib.hid (show w.heap.size ≤ bx by rw [hbx]; exact Nat.le_refl _)
  rw [← hbx] at B1 B0 ⊢
  clear hbx
  have c0 := (B1.out.keep0 (gb_refl _ _)).cell 0
  have c1 := (B1.out.keep0 (gb_refl _ _)).cell 1
  have c2 := (B1.out.keep0 (gb_refl _ _)).cell 2
  have c3 := (B1.out.keep0 (gb_refl _ _)).cell 3
  have c4 := (B1.out.keep0 (gb_refl _ _)).cell 4
  have c5 := (B1.out.keep0 (gb_refl _ _)).cell 5
  have c6 := (B1.out.keep0 (gb_refl _ _)).cell 6
  have c7 := (B1.out.keep0 (gb_refl _ _)).cell 7
  have c8 := (B1.out.keep0 (gb_refl _ _)).cell 8
  dsimp at c0 c1 c2 c3 c4 c5 c6 c7 c8
  go_upto_region 2 with (go_at_call 25; refine (CK.out w2 G2.out).mono ?_; rintro e w3 ⟨rfl, g⟩; have G3 := Lib.hid g; clear g)
  clear c0 c1 c2 c3 c4 c5 c6 c7 c8
  have GW := Lib.hid (gb_trans G2.out G3.out)
  have B3 := Lib.hid (B0.out.keep0 G3.out)
  have LW := Lib.hid (show w.heap.size ≤ bx + 1 from Nat.le_trans Lbx.out (Nat.le_add_right _ _))
  have z0 := B3.out.cell 0
  have z1 := B3.out.cell 1
  have z2 := B3.out.cell 2
  have z3 := B3.out.cell 3
  have z4 := B3.out.cell 4
  have z5 := B3.out.cell 5
  dsimp at z0 z1 z2 z3 z4 z5
  have f0 := B3.out.free 0
  have f1 := B3.out.free 1
  have f2 := B3.out.free 2
  have f3 := B3.out.free 3
  have f4 := B3.out.free 4
  have f5 := B3.out.free 5
  by_cases h0 : cb = 0
  · have E := Lib.hid (show ok = true by rw [OD.out]; simp [h0])
    subst h0
    obtain ⟨k, rfl, hk⟩ := OI.out E.out
    rw [TL.out] at hk
    have k0 : (0 : Int) ≤ (k : Int) := by omega
    have k1 : (k : Int) < X.tn := by omega
    rw [E.out, if_pos rfl, Int.toNat_natCast] at TVd
    obtain ⟨tad, hta⟩ := HP.out.t.some (by omega)
    obtain ⟨Y, st, q0, q1, q2, q3, q4, q5⟩ := HP.out.tab hk hta
    rw [← TVd.out] at st q0 q3 q5
    have HS := Lib.hid st
    have e0 := GW.out.cell q0 (by simp)
    have e1 := GW.out.cell q1 (by simp)
    have e2 := GW.out.cell q2 (by simp)
    have e3 := GW.out.cell q3 (by simp)
    have e4 := GW.out.cell q4 (by simp)
    have e5 := GW.out.cell q5 (by simp)
    have c5 := (B1.out.keep0 G3.out).cell 5
    dsimp at c5
    rw [hta] at c5 ⊢
    clear st hta hk OI q0 q1 q2 q3 q4 q5
    go_wp2
    obtain ⟨w9, h9⟩ : ∃ w9, w9 = ((((((w3.setCell ⟨bx + 1, 0, none⟩ (.string tv.nm)).setCell ⟨bx + 1, 1, none⟩ (.slice Y.ka Y.kn Y.kc)).setCell ⟨bx + 1, 2, none⟩ (.slice Y.ca Y.cn Y.cc)).setCell ⟨bx + 1, 3, none⟩ (.int .i64 tv.da)).setCell ⟨bx + 1, 4, none⟩ (.slice Y.ra Y.rn Y.rc)).setCell ⟨bx + 1, 5, none⟩ (.int .i64 tv.sz)) := ⟨_, rfl⟩
    have B9 := Lib.hid (show IsB w9 (bx + 1) 60 #[.string tv.nm, .slice Y.ka Y.kn Y.kc, .slice Y.ca Y.cn Y.cc, .int .i64 tv.da, .slice Y.ra Y.rn Y.rc, .int .i64 tv.sz] from by rw [h9]; exact (((((B3.out.set 0 _).set 1 _).set 2 _).set 3 _).set 4 _).set 5 _)
    have GP := Lib.hid (show w.grownBy w9 none by rw [h9]; exact gb_put (gb_put (gb_put (gb_put (gb_put (gb_put GW.out LW.out) LW.out) LW.out) LW.out) LW.out) LW.out)
    try rw [← h9]
    clear h9 z0 z1 z2 z3 z4 z5 f0 f1 f2 f3 f4 f5 e0 e1 e2 e3 e4 e5 c5
    have y0 := B9.out.cell 0
    have y1 := B9.out.cell 1
    have y2 := B9.out.cell 2
    have y3 := B9.out.cell 3
    have y4 := B9.out.cell 4
    have y5 := B9.out.cell 5
    dsimp at y0 y1 y2 y3 y4 y5
    refine bodyPost_ret (v := .tuple #[.agg #[.string tv.nm, .slice Y.ka Y.kn Y.kc, .slice Y.ca Y.cn Y.cc, .int .i64 tv.da, .slice Y.ra Y.rn Y.rc, .int .i64 tv.sz], .bool true]) (by rw [results_cell_tmp rfl]; go_simp; try rfl) rfl ⟨Y, by rw [E.out], HS.out.keep0 GP.out, GP.out⟩
  · have E := Lib.hid (show ok = false by rw [OD.out]; simp [h0])
    have h1 : (cb != 0) = true := by simp [h0]
    rw [E.out, if_neg (by decide)] at TVd
    clear h0 OI
    go_wp2
    obtain ⟨w9, h9⟩ : ∃ w9, w9 = ((((((w3.setCell ⟨bx + 1, 0, none⟩ (.string ⟨#[]⟩)).setCell ⟨bx + 1, 1, none⟩ (.slice none 0 0)).setCell ⟨bx + 1, 2, none⟩ (.slice none 0 0)).setCell ⟨bx + 1, 3, none⟩ (.int .i64 0)).setCell ⟨bx + 1, 4, none⟩ (.slice none 0 0)).setCell ⟨bx + 1, 5, none⟩ (.int .i64 0)) := ⟨_, rfl⟩
    have B9 := Lib.hid (show IsB w9 (bx + 1) 60 #[.string ⟨#[]⟩, .slice none 0 0, .slice none 0 0, .int .i64 0, .slice none 0 0, .int .i64 0] from by rw [h9]; exact (((((B3.out.set 0 _).set 1 _).set 2 _).set 3 _).set 4 _).set 5 _)
    have GP := Lib.hid (show w.grownBy w9 none by rw [h9]; exact gb_put (gb_put (gb_put (gb_put (gb_put (gb_put GW.out LW.out) LW.out) LW.out) LW.out) LW.out) LW.out)
    try rw [← h9]
    clear h9 z0 z1 z2 z3 z4 z5 f0 f1 f2 f3 f4 f5
    have y0 := B9.out.cell 0
    have y1 := B9.out.cell 1
    have y2 := B9.out.cell 2
    have y3 := B9.out.cell 3
    have y4 := B9.out.cell 4
    have y5 := B9.out.cell 5
    dsimp at y0 y1 y2 y3 y4 y5
    refine bodyPost_ret (v := .tuple #[.agg #[.string ⟨#[]⟩, .slice none 0 0, .slice none 0 0, .int .i64 0, .slice none 0 0, .int .i64 0], .bool false]) (by rw [results_cell_tmp rfl]; go_simp; try rfl) rfl ⟨yz, by rw [E.out, TVd.out]; rfl, by rw [TVd.out]; exact st_nil _, GP.out⟩
end Go.Proofs.Ytgdefahnmgonlaa
