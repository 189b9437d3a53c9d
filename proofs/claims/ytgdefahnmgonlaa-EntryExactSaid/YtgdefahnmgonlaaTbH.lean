/- Table: Kind, Widths, Bits, Allows of the program; no condition but sizes. -/
import Derived.Test.YtgdefahnmgonlaaTbG
namespace Go.Proofs.Ytgdefahnmgonlaa
open Go.RowKit
set_option linter.unusedVariables false
def kindT (P : Pg) (t : Int) : Int := if okT P t = true then (if 0 < cntK 3 (tabV P t).ks then 3 else if 0 < cntK 2 (tabV P t).ks then 2 else 1) else 0
theorem tabV_sz {P : Pg} (z : szT P) (t : Int) : (tabV P t).nm.size ≤ 1000 ∧ (tabV P t).ks.length ≤ 1000 ∧ (tabV P t).acs.length ≤ 1000 ∧ (tabV P t).ar.length ≤ 1000 := by
  unfold tabV
  split
  · rename_i h
    obtain ⟨k, rfl, hk⟩ := ok_in h
    rw [Int.toNat_natCast]
    exact z k hk
  · exact ⟨by decide, by decide, by decide, by decide⟩
theorem tabV_kn {w : World} {P : Pg} {t : Int} {Y : TX} (z : szT P) (s : ST w Y (tabV P t)) : Y.kn ≤ 1000 ∧ Y.cn ≤ 1000 ∧ Y.rn ≤ 1000 := by
  have h := tabV_sz z t
  have := s.k.len; have := s.c.len; have := s.r.len
  exact ⟨by omega, by omega, by omega⟩
theorem tab_zero {P : Pg} {tb : Tbl} (h : (tabR P tb).2 = 0) : declE tb = 0 ∧ (keysR P.H P.M tb.ks).2 = 0 ∧ actionsE P.A tb = 0 := by
  unfold tabR at h
  split at h
  · rename_i a
    split at h
    · rename_i b
      split at h
      · rename_i c; exact ⟨a, b, c⟩
      · rename_i c; exact absurd h c
    · rename_i b; exact absurd h b
  · rename_i a; exact absurd h a
theorem ok_tab {P : Pg} {t : Int} (h : okT P t = true) : declE (tabV P t) = 0 ∧ (keysR P.H P.M (tabV P t).ks).2 = 0 ∧ actionsE P.A (tabV P t) = 0 := by
  have e : tabV P t = P.T.getD t.toNat tbz := by unfold tabV; rw [if_pos h]
  rw [e]
  have q : (chkT P t).2 = 0 := by simpa [okT] using h
  unfold chkT at q
  split at q
  · exact tab_zero q
  · cases q
theorem acts_zero {P : Pg} (t : Int) : actsE P.A.length (tabV P t).acs = 0 := by
  by_cases h : okT P t = true
  · have a := (ok_tab h).2.2
    unfold actionsE at a
    split at a
    · assumption
    · exact a
  · unfold tabV
    rw [if_neg h]
    rfl
set_option maxRecDepth 100000 in
set_option maxHeartbeats 4000000 in
theorem pkind_any (w : World) (X : PX) (P : Pg) (hp : SP w X P) (hz : szT P) (t : Int) : Calls Try.prog 28 #[.agg #[.string X.nm, .slice X.ha X.hn X.hc, .slice X.ma X.mn X.mc, .slice X.ra X.rn X.rc, .slice X.aa X.an X.ac, .slice X.ta X.tn X.tc, .slice X.sa X.sn X.sc, .slice X.ca X.cn X.cc, .slice X.da X.dn X.dc], .int .i64 t] w (RetV (.int .i64 (kindT P t)) w) := by
  have VD := Lib.hid (fun (W : World) (q : w.grownBy W none) => pvalid_any W X P (hp.keep0 q) hz t)
  have YK := Lib.hid (fun (W : World) (Y : TX) (q : ST W Y (tabV P t)) => tabV_kn hz q)
  have HP := Lib.hid hp
  unfold RetT at VD
  obtain ⟨KD, hkd⟩ : ∃ d, d = kindT P t := ⟨_, rfl⟩
  have HK := Lib.hid hkd
  unfold kindT at HK
  rw [← hkd]
  clear hkd
  generalize tabV P t = tv at *
  generalize okT P t = ok at *
  have G2 := Lib.hid (gb_alloc w (.cells #[.string X.nm, .slice X.ha X.hn X.hc, .slice X.ma X.mn X.mc, .slice X.ra X.rn X.rc, .slice X.aa X.an X.ac, .slice X.ta X.tn X.tc, .slice X.sa X.sn X.sc, .slice X.ca X.cn X.cc, .slice X.da X.dn X.dc] 31) none)
  have B1 := IsB.new w 31 #[.string X.nm, .slice X.ha X.hn X.hc, .slice X.ma X.mn X.mc, .slice X.ra X.rn X.rc, .slice X.aa X.an X.ac, .slice X.ta X.tn X.tc, .slice X.sa X.sn X.sc, .slice X.ca X.cn X.cc, .slice X.da X.dn X.dc]
  replace B1 := Lib.hid B1
  clear hp hz
  go_enter Try.func28, Try.ntmps28
  go_upto_region 1 with fail
  generalize w.alloc (.cells #[.string X.nm, .slice X.ha X.hn X.hc, .slice X.ma X.mn X.mc, .slice X.ra X.rn X.rc, .slice X.aa X.an X.ac, .slice X.ta X.tn X.tc, .slice X.sa X.sn X.sc, .slice X.ca X.cn X.cc, .slice X.da X.dn X.dc] 31) = w2 at *
  obtain ⟨bx, hbx⟩ : ∃ b, b = w.heap.size := ⟨_, rfl⟩
  have Lbx := Lib.hid (show w.heap.size ≤ bx by rw [hbx]; exact Nat.le_refl _)
  rw [← hbx] at B1 ⊢
  clear hbx
  have c0 := (B1.out.keep0 (gb_refl _ _)).cell 0
  have c1 := (B1.out.keep0 (gb_refl _ _)).cell 1
  have c2 := (B1.out.keep0 (gb_refl _ _)).cell 2
  have c3 := (B1.out.keep0 (gb_refl _ _)).cell 3
  have c4 := (B1.out.keep0 (gb_refl _ _)).cell 4
  have c5 := (B1.out.keep0 (gb_refl _ _)).cell 5
  have c6 := (B1.out.keep0 (gb_refl _ _)).cell 6
  have c7 := (B1.out.keep0 (gb_refl _ _)).cell 7
  have c8 := (B1.out.keep0 (gb_refl _ _)).cell 8
  dsimp at c0 c1 c2 c3 c4 c5 c6 c7 c8
  go_wp2_with fail
  refine (VD.out w2 G2.out).mono ?_
  rintro e w3 ⟨Y, rfl, st, g⟩
  have G3 := Lib.hid g
  have S3 := Lib.hid st
  clear g st c0 c1 c2 c3 c4 c5 c6 c7 c8
  have G4 := Lib.hid (gb_alloc w3 (.cells #[.string tv.nm, .slice Y.ka Y.kn Y.kc, .slice Y.ca Y.cn Y.cc, .int .i64 tv.da, .slice Y.ra Y.rn Y.rc, .int .i64 tv.sz] 60) none)
  have BT := IsB.new w3 60 #[.string tv.nm, .slice Y.ka Y.kn Y.kc, .slice Y.ca Y.cn Y.cc, .int .i64 tv.da, .slice Y.ra Y.rn Y.rc, .int .i64 tv.sz]
  replace BT := Lib.hid BT
  go_upto_region 2 with fail
  generalize w3.alloc (.cells #[.string tv.nm, .slice Y.ka Y.kn Y.kc, .slice Y.ca Y.cn Y.cc, .int .i64 tv.da, .slice Y.ra Y.rn Y.rc, .int .i64 tv.sz] 60) = w4 at *
  obtain ⟨b6, hb6⟩ : ∃ b, b = w3.heap.size := ⟨_, rfl⟩
  have Lb6 := Lib.hid (show w3.heap.size ≤ b6 by rw [hb6]; exact Nat.le_refl _)
  rw [← hb6] at BT ⊢
  clear hb6
  have S4 := Lib.hid (S3.out.keep0 G4.out)
  have GW := Lib.hid (gb_trans G2.out (gb_trans G3.out G4.out))
  have K := Lib.hid (YK.out _ Y S4.out)
  cases ok
  · go_wp2
    go_ret
    exact ⟨by rw [HK.out] <;> rfl, GW.out⟩
  · rw [if_pos rfl] at HK
    go_upto_region 4 with fail
    have d0 := (BT.out.keep0 (gb_refl _ _)).cell 0
    have d1 := (BT.out.keep0 (gb_refl _ _)).cell 1
    have d2 := (BT.out.keep0 (gb_refl _ _)).cell 2
    have d3 := (BT.out.keep0 (gb_refl _ _)).cell 3
    have d4 := (BT.out.keep0 (gb_refl _ _)).cell 4
    have d5 := (BT.out.keep0 (gb_refl _ _)).cell 5
    dsimp at d0 d1 d2 d3 d4 d5
    go_wp2_with fail
    refine (cnt_any w4 Y tv (S4.out.keep0 (gb_refl _ _)) K.out.1 3).mono ?_
    rintro e w5 ⟨rfl, g⟩
    have G5 := Lib.hid g
    clear g d0 d1 d2 d3 d4 d5
    generalize cntK 3 tv.ks = c3 at *
    by_cases h3 : 0 < c3
    · rw [if_pos h3] at HK
      have h3' : (0 : Int) < c3 := by omega
      go_wp2
      go_ret
      exact ⟨by rw [HK.out] <;> rfl, gb_trans GW.out G5.out⟩
    · rw [if_neg h3] at HK
      have h3' : ¬ (0 : Int) < c3 := by omega
      go_upto_region 6 with fail
      have d0 := (BT.out.keep0 G5.out).cell 0
      have d1 := (BT.out.keep0 G5.out).cell 1
      have d2 := (BT.out.keep0 G5.out).cell 2
      have d3 := (BT.out.keep0 G5.out).cell 3
      have d4 := (BT.out.keep0 G5.out).cell 4
      have d5 := (BT.out.keep0 G5.out).cell 5
      dsimp at d0 d1 d2 d3 d4 d5
      go_wp2_with fail
      refine (cnt_any w5 Y tv (S4.out.keep0 G5.out) K.out.1 2).mono ?_
      rintro e w6 ⟨rfl, g⟩
      have G6 := Lib.hid (gb_trans G5.out g)
      clear g d0 d1 d2 d3 d4 d5
      generalize cntK 2 tv.ks = c2 at *
      by_cases h2 : 0 < c2
      · rw [if_pos h2] at HK
        have h2' : (0 : Int) < c2 := by omega
        go_wp2
        go_ret
        exact ⟨by rw [HK.out] <;> rfl, gb_trans GW.out G6.out⟩
      · rw [if_neg h2] at HK
        have h2' : ¬ (0 : Int) < c2 := by omega
        go_wp2
        go_ret
        exact ⟨by rw [HK.out] <;> rfl, gb_trans GW.out G6.out⟩
set_option maxRecDepth 100000 in
set_option maxHeartbeats 4000000 in
theorem pwidths_any (w : World) (X : PX) (P : Pg) (hp : SP w X P) (hz : szT P) (t : Int) : Calls Try.prog 48 #[.agg #[.string X.nm, .slice X.ha X.hn X.hc, .slice X.ma X.mn X.mc, .slice X.ra X.rn X.rc, .slice X.aa X.an X.ac, .slice X.ta X.tn X.tc, .slice X.sa X.sn X.sc, .slice X.ca X.cn X.cc, .slice X.da X.dn X.dc], .int .i64 t] w (RetI (wsT P.H P.M (tabV P t).ks) w) := by
  have VD := Lib.hid (fun (W : World) (q : w.grownBy W none) => pvalid_any W X P (hp.keep0 q) hz t)
  have YK := Lib.hid (fun (W : World) (Y : TX) (q : ST W Y (tabV P t)) => tabV_kn hz q)
  have HP := Lib.hid hp
  unfold RetT at VD
  generalize tabV P t = tv at *
  generalize okT P t = ok at *
  have G2 := Lib.hid (gb_alloc w (.cells #[.string X.nm, .slice X.ha X.hn X.hc, .slice X.ma X.mn X.mc, .slice X.ra X.rn X.rc, .slice X.aa X.an X.ac, .slice X.ta X.tn X.tc, .slice X.sa X.sn X.sc, .slice X.ca X.cn X.cc, .slice X.da X.dn X.dc] 31) none)
  have B1 := IsB.new w 31 #[.string X.nm, .slice X.ha X.hn X.hc, .slice X.ma X.mn X.mc, .slice X.ra X.rn X.rc, .slice X.aa X.an X.ac, .slice X.ta X.tn X.tc, .slice X.sa X.sn X.sc, .slice X.ca X.cn X.cc, .slice X.da X.dn X.dc]
  replace B1 := Lib.hid B1
  clear hp hz
  go_enter Try.func48, Try.ntmps48
  go_upto_region 1 with fail
  generalize w.alloc (.cells #[.string X.nm, .slice X.ha X.hn X.hc, .slice X.ma X.mn X.mc, .slice X.ra X.rn X.rc, .slice X.aa X.an X.ac, .slice X.ta X.tn X.tc, .slice X.sa X.sn X.sc, .slice X.ca X.cn X.cc, .slice X.da X.dn X.dc] 31) = w2 at *
  obtain ⟨bx, hbx⟩ : ∃ b, b = w.heap.size := ⟨_, rfl⟩
  have Lbx := Lib.hid (show w.heap.size ≤ bx by rw [hbx]; exact Nat.le_refl _)
  rw [← hbx] at B1 ⊢
  clear hbx
  have c0 := (B1.out.keep0 (gb_refl _ _)).cell 0
  have c1 := (B1.out.keep0 (gb_refl _ _)).cell 1
  have c2 := (B1.out.keep0 (gb_refl _ _)).cell 2
  have c3 := (B1.out.keep0 (gb_refl _ _)).cell 3
  have c4 := (B1.out.keep0 (gb_refl _ _)).cell 4
  have c5 := (B1.out.keep0 (gb_refl _ _)).cell 5
  have c6 := (B1.out.keep0 (gb_refl _ _)).cell 6
  have c7 := (B1.out.keep0 (gb_refl _ _)).cell 7
  have c8 := (B1.out.keep0 (gb_refl _ _)).cell 8
  dsimp at c0 c1 c2 c3 c4 c5 c6 c7 c8
  go_wp2_with fail
  refine (VD.out w2 G2.out).mono ?_
  rintro e w3 ⟨Y, rfl, st, g⟩
  have G3 := Lib.hid g
  have S3 := Lib.hid st
  clear g st c0 c1 c2 c3 c4 c5 c6 c7 c8
  have G4 := Lib.hid (gb_alloc w3 (.cells #[.string tv.nm, .slice Y.ka Y.kn Y.kc, .slice Y.ca Y.cn Y.cc, .int .i64 tv.da, .slice Y.ra Y.rn Y.rc, .int .i64 tv.sz] 60) none)
  have BT := IsB.new w3 60 #[.string tv.nm, .slice Y.ka Y.kn Y.kc, .slice Y.ca Y.cn Y.cc, .int .i64 tv.da, .slice Y.ra Y.rn Y.rc, .int .i64 tv.sz]
  replace BT := Lib.hid BT
  go_upto_region 2 with fail
  generalize w3.alloc (.cells #[.string tv.nm, .slice Y.ka Y.kn Y.kc, .slice Y.ca Y.cn Y.cc, .int .i64 tv.da, .slice Y.ra Y.rn Y.rc, .int .i64 tv.sz] 60) = w4 at *
  obtain ⟨b6, hb6⟩ : ∃ b, b = w3.heap.size := ⟨_, rfl⟩
  have Lb6 := Lib.hid (show w3.heap.size ≤ b6 by rw [hb6]; exact Nat.le_refl _)
  rw [← hb6] at BT ⊢
  clear hb6
  have S4 := Lib.hid (S3.out.keep0 G4.out)
  have GW := Lib.hid (gb_trans G2.out (gb_trans G3.out G4.out))
  have K := Lib.hid (YK.out _ Y S4.out)
  have c0 := (B1.out.keep0 (gb_trans G3.out G4.out)).cell 0
  have c1 := (B1.out.keep0 (gb_trans G3.out G4.out)).cell 1
  have c2 := (B1.out.keep0 (gb_trans G3.out G4.out)).cell 2
  have c3 := (B1.out.keep0 (gb_trans G3.out G4.out)).cell 3
  have c4 := (B1.out.keep0 (gb_trans G3.out G4.out)).cell 4
  have c5 := (B1.out.keep0 (gb_trans G3.out G4.out)).cell 5
  have c6 := (B1.out.keep0 (gb_trans G3.out G4.out)).cell 6
  have c7 := (B1.out.keep0 (gb_trans G3.out G4.out)).cell 7
  have c8 := (B1.out.keep0 (gb_trans G3.out G4.out)).cell 8
  dsimp at c0 c1 c2 c3 c4 c5 c6 c7 c8
  have d0 := (BT.out.keep0 (gb_refl _ _)).cell 0
  have d1 := (BT.out.keep0 (gb_refl _ _)).cell 1
  have d2 := (BT.out.keep0 (gb_refl _ _)).cell 2
  have d3 := (BT.out.keep0 (gb_refl _ _)).cell 3
  have d4 := (BT.out.keep0 (gb_refl _ _)).cell 4
  have d5 := (BT.out.keep0 (gb_refl _ _)).cell 5
  dsimp at d0 d1 d2 d3 d4 d5
  have LB := Lib.hid (GW.out.size)
  go_wp2_with fail
  refine (widths_any w4 X P (HP.out.keep0 GW.out) Y tv S4.out K.out.1).mono ?_
  rintro e w5 ⟨a, c, rfl, o, g⟩
  have O := Lib.hid (own_low o LB.out)
  have G5 := Lib.hid g
  clear o g c0 c1 c2 c3 c4 c5 c6 c7 c8 d0 d1 d2 d3 d4 d5
  go_wp2
  go_ret
  exact ⟨a, c, rfl, O.out, gb_trans GW.out G5.out⟩
set_option maxRecDepth 100000 in
set_option maxHeartbeats 4000000 in
theorem pallows_any (w : World) (X : PX) (P : Pg) (hp : SP w X P) (hz : szT P) (t : Int) (a : Int) (hr : Rng a) : Calls Try.prog 29 #[.agg #[.string X.nm, .slice X.ha X.hn X.hc, .slice X.ma X.mn X.mc, .slice X.ra X.rn X.rc, .slice X.aa X.an X.ac, .slice X.ta X.tn X.tc, .slice X.sa X.sn X.sc, .slice X.ca X.cn X.cc, .slice X.da X.dn X.dc], .int .i64 t, .int .i64 a] w (RetV (.bool (decide (a ∈ (tabV P t).acs))) w) := by
  have VD := Lib.hid (fun (W : World) (q : w.grownBy W none) => pvalid_any W X P (hp.keep0 q) hz t)
  have YK := Lib.hid (fun (W : World) (Y : TX) (q : ST W Y (tabV P t)) => tabV_kn hz q)
  have HP := Lib.hid hp
  unfold RetT at VD
  have AZ := Lib.hid (acts_zero (P := P) t)
  have HR := Lib.hid hr
  clear hr
  generalize tabV P t = tv at *
  generalize okT P t = ok at *
  have G2 := Lib.hid (gb_alloc w (.cells #[.string X.nm, .slice X.ha X.hn X.hc, .slice X.ma X.mn X.mc, .slice X.ra X.rn X.rc, .slice X.aa X.an X.ac, .slice X.ta X.tn X.tc, .slice X.sa X.sn X.sc, .slice X.ca X.cn X.cc, .slice X.da X.dn X.dc] 31) none)
  have B1 := IsB.new w 31 #[.string X.nm, .slice X.ha X.hn X.hc, .slice X.ma X.mn X.mc, .slice X.ra X.rn X.rc, .slice X.aa X.an X.ac, .slice X.ta X.tn X.tc, .slice X.sa X.sn X.sc, .slice X.ca X.cn X.cc, .slice X.da X.dn X.dc]
  replace B1 := Lib.hid B1
  clear hp hz
  go_enter Try.func29, Try.ntmps29
  go_upto_region 1 with fail
  generalize w.alloc (.cells #[.string X.nm, .slice X.ha X.hn X.hc, .slice X.ma X.mn X.mc, .slice X.ra X.rn X.rc, .slice X.aa X.an X.ac, .slice X.ta X.tn X.tc, .slice X.sa X.sn X.sc, .slice X.ca X.cn X.cc, .slice X.da X.dn X.dc] 31) = w2 at *
  obtain ⟨bx, hbx⟩ : ∃ b, b = w.heap.size := ⟨_, rfl⟩
  have Lbx := Lib.hid (show w.heap.size ≤ bx by rw [hbx]; exact Nat.le_refl _)
  rw [← hbx] at B1 ⊢
  clear hbx
  have c0 := (B1.out.keep0 (gb_refl _ _)).cell 0
  have c1 := (B1.out.keep0 (gb_refl _ _)).cell 1
  have c2 := (B1.out.keep0 (gb_refl _ _)).cell 2
  have c3 := (B1.out.keep0 (gb_refl _ _)).cell 3
  have c4 := (B1.out.keep0 (gb_refl _ _)).cell 4
  have c5 := (B1.out.keep0 (gb_refl _ _)).cell 5
  have c6 := (B1.out.keep0 (gb_refl _ _)).cell 6
  have c7 := (B1.out.keep0 (gb_refl _ _)).cell 7
  have c8 := (B1.out.keep0 (gb_refl _ _)).cell 8
  dsimp at c0 c1 c2 c3 c4 c5 c6 c7 c8
  go_wp2_with fail
  refine (VD.out w2 G2.out).mono ?_
  rintro e w3 ⟨Y, rfl, st, g⟩
  have G3 := Lib.hid g
  have S3 := Lib.hid st
  clear g st c0 c1 c2 c3 c4 c5 c6 c7 c8
  have G4 := Lib.hid (gb_alloc w3 (.cells #[.string tv.nm, .slice Y.ka Y.kn Y.kc, .slice Y.ca Y.cn Y.cc, .int .i64 tv.da, .slice Y.ra Y.rn Y.rc, .int .i64 tv.sz] 60) none)
  have BT := IsB.new w3 60 #[.string tv.nm, .slice Y.ka Y.kn Y.kc, .slice Y.ca Y.cn Y.cc, .int .i64 tv.da, .slice Y.ra Y.rn Y.rc, .int .i64 tv.sz]
  replace BT := Lib.hid BT
  go_upto_region 2 with fail
  generalize w3.alloc (.cells #[.string tv.nm, .slice Y.ka Y.kn Y.kc, .slice Y.ca Y.cn Y.cc, .int .i64 tv.da, .slice Y.ra Y.rn Y.rc, .int .i64 tv.sz] 60) = w4 at *
  obtain ⟨b6, hb6⟩ : ∃ b, b = w3.heap.size := ⟨_, rfl⟩
  have Lb6 := Lib.hid (show w3.heap.size ≤ b6 by rw [hb6]; exact Nat.le_refl _)
  rw [← hb6] at BT ⊢
  clear hb6
  have S4 := Lib.hid (S3.out.keep0 G4.out)
  have GW := Lib.hid (gb_trans G2.out (gb_trans G3.out G4.out))
  have K := Lib.hid (YK.out _ Y S4.out)
  have c0 := (B1.out.keep0 (gb_trans G3.out G4.out)).cell 0
  have c1 := (B1.out.keep0 (gb_trans G3.out G4.out)).cell 1
  have c2 := (B1.out.keep0 (gb_trans G3.out G4.out)).cell 2
  have c3 := (B1.out.keep0 (gb_trans G3.out G4.out)).cell 3
  have c4 := (B1.out.keep0 (gb_trans G3.out G4.out)).cell 4
  have c5 := (B1.out.keep0 (gb_trans G3.out G4.out)).cell 5
  have c6 := (B1.out.keep0 (gb_trans G3.out G4.out)).cell 6
  have c7 := (B1.out.keep0 (gb_trans G3.out G4.out)).cell 7
  have c8 := (B1.out.keep0 (gb_trans G3.out G4.out)).cell 8
  dsimp at c0 c1 c2 c3 c4 c5 c6 c7 c8
  have d0 := (BT.out.keep0 (gb_refl _ _)).cell 0
  have d1 := (BT.out.keep0 (gb_refl _ _)).cell 1
  have d2 := (BT.out.keep0 (gb_refl _ _)).cell 2
  have d3 := (BT.out.keep0 (gb_refl _ _)).cell 3
  have d4 := (BT.out.keep0 (gb_refl _ _)).cell 4
  have d5 := (BT.out.keep0 (gb_refl _ _)).cell 5
  dsimp at d0 d1 d2 d3 d4 d5
  go_wp2_with fail
  refine (allow_any w4 X P (HP.out.keep0 GW.out) Y tv S4.out K.out.2.1).mono ?_
  rw [AZ.out]
  rintro e w5 ⟨g, hc⟩
  have G5 := Lib.hid g
  clear g c0 c1 c2 c3 c4 c5 c6 c7 c8 d0 d1 d2 d3 d4 d5
  rcases hc with ⟨_, b, rfl, m⟩ | ⟨q, _⟩
  · have ML := MI.look m a HR.out
    clear m
    go_wp2
    go_ret
    exact ⟨rfl, gb_trans GW.out G5.out⟩
  · exact absurd rfl q
end Go.Proofs.Ytgdefahnmgonlaa
