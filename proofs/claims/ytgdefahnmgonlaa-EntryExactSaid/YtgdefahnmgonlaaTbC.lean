/- Table: what both sides check of keys, and of the default call; the reference's width and index; no condition but sizes. -/
import Derived.Test.YtgdefahnmgonlaaTbB
import Derived.Test.YtgdefahnmgonlaaBvR
namespace Go.Proofs.Ytgdefahnmgonlaa
open Go.RowKit
set_option linter.unusedVariables false
theorem isX_no {i : Int} {n : Nat} (h : ¬ (0 ≤ i ∧ i < (n : Int))) : isX i n = false := by
  cases q : isX i n with
  | false => rfl
  | true => exact absurd ((isX_iff i n).1 q) h
set_option maxRecDepth 100000 in
set_option maxHeartbeats 4000000 in
theorem rwid17_any (w : World) (X : PX) (P : Pg) (hp : SP w X P) (h f : Int) : Calls Try.prog 59 #[.agg #[.string X.nm, .slice X.ha X.hn X.hc, .slice X.ma X.mn X.mc, .slice X.ra X.rn X.rc, .slice X.aa X.an X.ac, .slice X.ta X.tn X.tc, .slice X.sa X.sn X.sc, .slice X.ca X.cn X.cc, .slice X.da X.dn X.dc], .agg #[.int .i64 h, .int .i64 f]] w (RetV (.int .i64 (widE P.H P.M h f)) w) := by
  obtain ⟨WE, hwe⟩ : ∃ d, d = widE P.H P.M h f := ⟨_, rfl⟩
  have HW := Lib.hid hwe
  unfold widE at HW
  rw [← hwe]
  have HP := Lib.hid hp
  have G2 := Lib.hid (gb_trans (gb_alloc w (.cells #[.string X.nm, .slice X.ha X.hn X.hc, .slice X.ma X.mn X.mc, .slice X.ra X.rn X.rc, .slice X.aa X.an X.ac, .slice X.ta X.tn X.tc, .slice X.sa X.sn X.sc, .slice X.ca X.cn X.cc, .slice X.da X.dn X.dc] 31) none) (gb_alloc _ (.cells #[.int .i64 h, .int .i64 f] 62) none))
  have B1 := (IsB.new w 31 #[.string X.nm, .slice X.ha X.hn X.hc, .slice X.ma X.mn X.mc, .slice X.ra X.rn X.rc, .slice X.aa X.an X.ac, .slice X.ta X.tn X.tc, .slice X.sa X.sn X.sc, .slice X.ca X.cn X.cc, .slice X.da X.dn X.dc]).alloc (.cells #[.int .i64 h, .int .i64 f] 62)
  have B2 := IsB.new (w.alloc (.cells #[.string X.nm, .slice X.ha X.hn X.hc, .slice X.ma X.mn X.mc, .slice X.ra X.rn X.rc, .slice X.aa X.an X.ac, .slice X.ta X.tn X.tc, .slice X.sa X.sn X.sc, .slice X.ca X.cn X.cc, .slice X.da X.dn X.dc] 31)) 62 #[.int .i64 h, .int .i64 f]
  simp only [sz_al] at B2
  replace B1 := Lib.hid B1
  replace B2 := Lib.hid B2
  clear hp hwe
  go_enter Try.func59, Try.ntmps59
  go_upto_region 1 with fail
  generalize (w.alloc (.cells #[.string X.nm, .slice X.ha X.hn X.hc, .slice X.ma X.mn X.mc, .slice X.ra X.rn X.rc, .slice X.aa X.an X.ac, .slice X.ta X.tn X.tc, .slice X.sa X.sn X.sc, .slice X.ca X.cn X.cc, .slice X.da X.dn X.dc] 31)).alloc (.cells #[.int .i64 h, .int .i64 f] 62) = w2 at *
  obtain ⟨bx, hbx⟩ : ∃ b, b = w.heap.size := ⟨_, rfl⟩
  have Lbx := Lib.hid (show w.heap.size ≤ bx by rw [hbx]; exact Nat.le_refl _)
  rw [← hbx] at B1 B2 ⊢
  clear hbx
  replace HP := Lib.hid (HP.out.keep0 G2.out)
  have c0 := (B1.out.keep0 (gb_refl _ _)).cell 0
  have c1 := (B1.out.keep0 (gb_refl _ _)).cell 1
  have c2 := (B1.out.keep0 (gb_refl _ _)).cell 2
  have c3 := (B1.out.keep0 (gb_refl _ _)).cell 3
  have c4 := (B1.out.keep0 (gb_refl _ _)).cell 4
  have c5 := (B1.out.keep0 (gb_refl _ _)).cell 5
  have c6 := (B1.out.keep0 (gb_refl _ _)).cell 6
  have c7 := (B1.out.keep0 (gb_refl _ _)).cell 7
  have c8 := (B1.out.keep0 (gb_refl _ _)).cell 8
  dsimp at c0 c1 c2 c3 c4 c5 c6 c7 c8
  have r0 := B2.out.cell 0
  have r1 := B2.out.cell 1
  dsimp at r0 r1
  by_cases h0 : 0 ≤ h
  · by_cases h1 : (X.hn : Int) ≤ h
    · have E := Lib.hid (show WE = 0 by rw [HW.out]; unfold dfs; rw [if_neg (show ¬ h = -1 by omega), isX_no (show ¬ (0 ≤ h ∧ h < (P.H.length : Int)) by rw [HP.out.h.len]; omega)]; simp [isX_no (show ¬ (0 ≤ f ∧ f < ((0 : Nat) : Int)) by omega)])
      go_wp2
      go_ret
      exact ⟨by rw [E.out] <;> rfl, G2.out⟩
    · obtain ⟨j, rfl⟩ : ∃ j : Nat, h = (j : Int) := ⟨h.toNat, by omega⟩
      have hj : j < X.hn := by omega
      have h2 : (j : Int) < X.hn := by omega
      have h3 : ¬ (j : Int) < -1 := by omega
      obtain ⟨hd, hhd⟩ := HP.out.h.some (by omega)
      obtain ⟨g0, da, dn, dc, g1, sd⟩ := HP.out.h.cells hd hhd j hj
      obtain ⟨DL, hdl⟩ : ∃ d, d = (P.H.getD j hz).2 := ⟨_, rfl⟩
      rw [← hdl] at sd
      have SD := Lib.hid sd
      replace HW := Lib.hid (show WE = if isX f DL.length = true then (if okW (DL.getD f.toNat fz).2 = true then (DL.getD f.toNat fz).2 else 0) else 0 by
        rw [HW.out]
        have e : dfs P.H P.M (j : Int) = DL := by unfold dfs; rw [if_neg (by omega), if_pos ((isX_iff _ _).2 (by rw [HP.out.h.len]; omega)), Int.toNat_natCast, hdl]
        rw [e])
      rw [hhd] at c1 ⊢
      clear sd hdl
      by_cases f0 : f < 0
      · have E := Lib.hid (show WE = 0 by rw [HW.out, isX_no (by omega)]; rfl)
        go_wp2
        go_ret
        exact ⟨by rw [E.out] <;> rfl, G2.out⟩
      · have f0' : ¬ f < 0 := f0
        by_cases f1 : (dn : Int) ≤ f
        · have E := Lib.hid (show WE = 0 by rw [HW.out, isX_no (by rw [SD.out.len]; omega)]; rfl)
          have f2 : ¬ f < (dn : Int) := by omega
          go_wp2
          go_ret
          exact ⟨by rw [E.out] <;> rfl, G2.out⟩
        · have f2 : f < (dn : Int) := by omega
          have f3 : (0 : Int) ≤ f := by omega
          obtain ⟨k, rfl⟩ : ∃ k : Nat, f = (k : Int) := ⟨f.toNat, by omega⟩
          have hk : k < dn := by omega
          obtain ⟨ad, had⟩ := SD.out.some (by omega)
          obtain ⟨e0, e1⟩ := SD.out.cells ad had k hk
          have HW2 := Lib.hid (show WE = if okW (DL.getD k fz).2 = true then (DL.getD k fz).2 else 0 by rw [HW.out, if_pos ((isX_iff _ _).2 (by rw [SD.out.len]; omega)), Int.toNat_natCast])
          clear HW
          generalize (DL.getD k fz).1 = xn at *
          generalize (DL.getD k fz).2 = xw at *
          subst had
          by_cases x0 : xw < 1
          · have E := Lib.hid (show WE = 0 by rw [HW2.out, if_neg (by unfold okW; simp; omega)])
            go_wp2
            go_ret
            exact ⟨by rw [E.out] <;> rfl, G2.out⟩
          · by_cases x1 : (32 : Int) < xw
            · have E := Lib.hid (show WE = 0 by rw [HW2.out, if_neg (by unfold okW; simp; omega)])
              go_wp2
              go_ret
              exact ⟨by rw [E.out] <;> rfl, G2.out⟩
            · have E := Lib.hid (show WE = xw by rw [HW2.out, if_pos (by unfold okW; simp; omega)])
              go_wp2
              go_ret
              exact ⟨by rw [E.out] <;> rfl, G2.out⟩
  · by_cases h1 : h < -1
    · have E := Lib.hid (show WE = 0 by rw [HW.out]; unfold dfs; rw [if_neg (show ¬ h = -1 by omega), isX_no (show ¬ (0 ≤ h ∧ h < (P.H.length : Int)) by omega)]; simp [isX_no (show ¬ (0 ≤ f ∧ f < ((0 : Nat) : Int)) by omega)])
      go_wp2
      go_ret
      exact ⟨by rw [E.out] <;> rfl, G2.out⟩
    · obtain rfl : h = -1 := by omega
      obtain ⟨DL, hdl⟩ : ∃ d, d = P.M := ⟨_, rfl⟩
      have SD := Lib.hid (show SF w2 X.ma X.mn X.mc DL by rw [hdl]; exact HP.out.m)
      replace HW := Lib.hid (show WE = if isX f DL.length = true then (if okW (DL.getD f.toNat fz).2 = true then (DL.getD f.toNat fz).2 else 0) else 0 by
        rw [HW.out]
        have e : dfs P.H P.M (-1) = DL := by unfold dfs; rw [if_pos rfl, hdl]
        rw [e])
      obtain ⟨dn, hdn⟩ : ∃ d, d = X.mn := ⟨_, rfl⟩
      obtain ⟨da, hda⟩ : ∃ d, d = X.ma := ⟨_, rfl⟩
      rw [← hda] at c2 SD ⊢
      clear hda
      rw [← hdn] at c2 SD ⊢
      clear hdl hdn
      by_cases f0 : f < 0
      · have E := Lib.hid (show WE = 0 by rw [HW.out, isX_no (by omega)]; rfl)
        go_wp2
        go_ret
        exact ⟨by rw [E.out] <;> rfl, G2.out⟩
      · have f0' : ¬ f < 0 := f0
        by_cases f1 : (dn : Int) ≤ f
        · have E := Lib.hid (show WE = 0 by rw [HW.out, isX_no (by rw [SD.out.len]; omega)]; rfl)
          have f2 : ¬ f < (dn : Int) := by omega
          go_wp2
          go_ret
          exact ⟨by rw [E.out] <;> rfl, G2.out⟩
        · have f2 : f < (dn : Int) := by omega
          have f3 : (0 : Int) ≤ f := by omega
          obtain ⟨k, rfl⟩ : ∃ k : Nat, f = (k : Int) := ⟨f.toNat, by omega⟩
          have hk : k < dn := by omega
          obtain ⟨ad, had⟩ := SD.out.some (by omega)
          obtain ⟨e0, e1⟩ := SD.out.cells ad had k hk
          have HW2 := Lib.hid (show WE = if okW (DL.getD k fz).2 = true then (DL.getD k fz).2 else 0 by rw [HW.out, if_pos ((isX_iff _ _).2 (by rw [SD.out.len]; omega)), Int.toNat_natCast])
          clear HW
          generalize (DL.getD k fz).1 = xn at *
          generalize (DL.getD k fz).2 = xw at *
          subst had
          by_cases x0 : xw < 1
          · have E := Lib.hid (show WE = 0 by rw [HW2.out, if_neg (by unfold okW; simp; omega)])
            go_wp2
            go_ret
            exact ⟨by rw [E.out] <;> rfl, G2.out⟩
          · by_cases x1 : (32 : Int) < xw
            · have E := Lib.hid (show WE = 0 by rw [HW2.out, if_neg (by unfold okW; simp; omega)])
              go_wp2
              go_ret
              exact ⟨by rw [E.out] <;> rfl, G2.out⟩
            · have E := Lib.hid (show WE = xw by rw [HW2.out, if_pos (by unfold okW; simp; omega)])
              go_wp2
              go_ret
              exact ⟨by rw [E.out] <;> rfl, G2.out⟩
def keysE (H : List (ByteArray × List Fld)) (M : List Fld) (ks : List TKy) : Int := if 1 < cntK 2 ks then 7 else if 64 < sumI (wsT H M ks) then 10 else 0
set_option maxRecDepth 100000 in
set_option maxHeartbeats 4000000 in
theorem checkKeys_any (w : World) (X : PX) (P : Pg) (hp : SP w X P) (Y : TX) (tb : Tbl) (h : ST w Y tb) (hn : Y.kn ≤ 1000) : Calls Try.prog 46 #[.agg #[.string X.nm, .slice X.ha X.hn X.hc, .slice X.ma X.mn X.mc, .slice X.ra X.rn X.rc, .slice X.aa X.an X.ac, .slice X.ta X.tn X.tc, .slice X.sa X.sn X.sc, .slice X.ca X.cn X.cc, .slice X.da X.dn X.dc], .agg #[.string tb.nm, .slice Y.ka Y.kn Y.kc, .slice Y.ca Y.cn Y.cc, .int .i64 tb.da, .slice Y.ra Y.rn Y.rc, .int .i64 tb.sz]] w (RetV (.int .i64 (keysE P.H P.M tb.ks)) w) := by
  have BT := Lib.hid (fun (W : World) (q : w.grownBy W none) => bits_any W X P (hp.keep0 q) Y tb (h.keep0 q) hn)
  have CN := Lib.hid (fun (W : World) (q : w.grownBy W none) => cnt_any W Y tb (h.keep0 q) hn 2)
  obtain ⟨DE, hde⟩ : ∃ d, d = keysE P.H P.M tb.ks := ⟨_, rfl⟩
  have HD := Lib.hid hde
  unfold keysE at HD
  rw [← hde]
  generalize cntK 2 tb.ks = cn at *
  generalize sumI (wsT P.H P.M tb.ks) = sm at *
  unfold RetV at BT CN
  have G2 := Lib.hid (gb_trans (gb_alloc w (.cells #[.string X.nm, .slice X.ha X.hn X.hc, .slice X.ma X.mn X.mc, .slice X.ra X.rn X.rc, .slice X.aa X.an X.ac, .slice X.ta X.tn X.tc, .slice X.sa X.sn X.sc, .slice X.ca X.cn X.cc, .slice X.da X.dn X.dc] 31) none) (gb_alloc _ (.cells #[.string tb.nm, .slice Y.ka Y.kn Y.kc, .slice Y.ca Y.cn Y.cc, .int .i64 tb.da, .slice Y.ra Y.rn Y.rc, .int .i64 tb.sz] 60) none))
  have B1 := (IsB.new w 31 #[.string X.nm, .slice X.ha X.hn X.hc, .slice X.ma X.mn X.mc, .slice X.ra X.rn X.rc, .slice X.aa X.an X.ac, .slice X.ta X.tn X.tc, .slice X.sa X.sn X.sc, .slice X.ca X.cn X.cc, .slice X.da X.dn X.dc]).alloc (.cells #[.string tb.nm, .slice Y.ka Y.kn Y.kc, .slice Y.ca Y.cn Y.cc, .int .i64 tb.da, .slice Y.ra Y.rn Y.rc, .int .i64 tb.sz] 60)
  have B2 := IsB.new (w.alloc (.cells #[.string X.nm, .slice X.ha X.hn X.hc, .slice X.ma X.mn X.mc, .slice X.ra X.rn X.rc, .slice X.aa X.an X.ac, .slice X.ta X.tn X.tc, .slice X.sa X.sn X.sc, .slice X.ca X.cn X.cc, .slice X.da X.dn X.dc] 31)) 60 #[.string tb.nm, .slice Y.ka Y.kn Y.kc, .slice Y.ca Y.cn Y.cc, .int .i64 tb.da, .slice Y.ra Y.rn Y.rc, .int .i64 tb.sz]
  simp only [sz_al] at B2
  replace B1 := Lib.hid B1
  replace B2 := Lib.hid B2
  clear hp h hn hde
  go_enter Try.func46, Try.ntmps46
  go_upto_region 1 with fail
  generalize (w.alloc (.cells #[.string X.nm, .slice X.ha X.hn X.hc, .slice X.ma X.mn X.mc, .slice X.ra X.rn X.rc, .slice X.aa X.an X.ac, .slice X.ta X.tn X.tc, .slice X.sa X.sn X.sc, .slice X.ca X.cn X.cc, .slice X.da X.dn X.dc] 31)).alloc (.cells #[.string tb.nm, .slice Y.ka Y.kn Y.kc, .slice Y.ca Y.cn Y.cc, .int .i64 tb.da, .slice Y.ra Y.rn Y.rc, .int .i64 tb.sz] 60) = w2 at *
  obtain ⟨bx, hbx⟩ : ∃ b, b = w.heap.size := ⟨_, rfl⟩
  have Lbx := Lib.hid (show w.heap.size ≤ bx by rw [hbx]; exact Nat.le_refl _)
  rw [← hbx] at B1 B2 ⊢
  clear hbx
  have d0 := (B2.out.keep0 (gb_refl _ _)).cell 0
  have d1 := (B2.out.keep0 (gb_refl _ _)).cell 1
  have d2 := (B2.out.keep0 (gb_refl _ _)).cell 2
  have d3 := (B2.out.keep0 (gb_refl _ _)).cell 3
  have d4 := (B2.out.keep0 (gb_refl _ _)).cell 4
  have d5 := (B2.out.keep0 (gb_refl _ _)).cell 5
  dsimp at d0 d1 d2 d3 d4 d5
  by_cases h1 : 1 < cn
  · have h2 : (1 : Int) < cn := by omega
    have E := Lib.hid (show DE = 7 by rw [HD.out, if_pos h1])
    go_wp2_with (go_at_call 51; refine (CN.out w2 G2.out).mono ?_; rintro e w3 ⟨rfl, g3⟩; have G3 := Lib.hid (gb_trans G2.out g3); clear g3)
    go_ret
    exact ⟨by rw [E.out] <;> rfl, G3.out⟩
  · have h2 : ¬ (1 : Int) < cn := by omega
    rw [if_neg h1] at HD
    by_cases h3 : 64 < sm
    · have E := Lib.hid (show DE = 10 by rw [HD.out, if_pos h3])
      go_wp2_with (first
        | (go_at_call 51; refine (CN.out w2 G2.out).mono ?_; rintro e w3 ⟨rfl, g3⟩; have G3 := Lib.hid (gb_trans G2.out g3); have b0 := (B1.out.keep0 g3).cell 0; have b1 := (B1.out.keep0 g3).cell 1; have b2 := (B1.out.keep0 g3).cell 2; have b3 := (B1.out.keep0 g3).cell 3; have b4 := (B1.out.keep0 g3).cell 4; have b5 := (B1.out.keep0 g3).cell 5; have b6 := (B1.out.keep0 g3).cell 6; have b7 := (B1.out.keep0 g3).cell 7; have b8 := (B1.out.keep0 g3).cell 8; have e0 := (B2.out.keep0 g3).cell 0; have e1 := (B2.out.keep0 g3).cell 1; have e2 := (B2.out.keep0 g3).cell 2; have e3 := (B2.out.keep0 g3).cell 3; have e4 := (B2.out.keep0 g3).cell 4; have e5 := (B2.out.keep0 g3).cell 5; dsimp at b0 b1 b2 b3 b4 b5 b6 b7 b8 e0 e1 e2 e3 e4 e5; clear g3)
        | (go_at_call 70; refine (BT.out w3 G3.out).mono ?_; rintro e w4 ⟨rfl, g4⟩; have G4 := Lib.hid (gb_trans G3.out g4); clear g4))
      go_ret
      exact ⟨by rw [E.out] <;> rfl, G4.out⟩
    · have E := Lib.hid (show DE = 0 by rw [HD.out, if_neg h3])
      go_wp2_with (first
        | (go_at_call 51; refine (CN.out w2 G2.out).mono ?_; rintro e w3 ⟨rfl, g3⟩; have G3 := Lib.hid (gb_trans G2.out g3); have b0 := (B1.out.keep0 g3).cell 0; have b1 := (B1.out.keep0 g3).cell 1; have b2 := (B1.out.keep0 g3).cell 2; have b3 := (B1.out.keep0 g3).cell 3; have b4 := (B1.out.keep0 g3).cell 4; have b5 := (B1.out.keep0 g3).cell 5; have b6 := (B1.out.keep0 g3).cell 6; have b7 := (B1.out.keep0 g3).cell 7; have b8 := (B1.out.keep0 g3).cell 8; have e0 := (B2.out.keep0 g3).cell 0; have e1 := (B2.out.keep0 g3).cell 1; have e2 := (B2.out.keep0 g3).cell 2; have e3 := (B2.out.keep0 g3).cell 3; have e4 := (B2.out.keep0 g3).cell 4; have e5 := (B2.out.keep0 g3).cell 5; dsimp at b0 b1 b2 b3 b4 b5 b6 b7 b8 e0 e1 e2 e3 e4 e5; clear g3)
        | (go_at_call 70; refine (BT.out w3 G3.out).mono ?_; rintro e w4 ⟨rfl, g4⟩; have G4 := Lib.hid (gb_trans G3.out g4); clear g4))
      go_ret
      exact ⟨by rw [E.out] <;> rfl, G4.out⟩
/-- The place of the first element that equals n, or -1. -/
def idxI (l : List Int) (n : Int) : Int := match l.findIdx? (fun x => x == n) with
  | some i => i
  | none => -1
theorem idx_yes {l : List Int} {n : Int} {j : Nat} (h : j < l.length) (e : l.getD j 0 = n) (b : ∀ i, i < j → l.getD i 0 ≠ n) : idxI l n = j := by
  unfold idxI
  have : l.findIdx? (fun x => x == n) = some j := by
    rw [List.findIdx?_eq_some_iff_getElem]
    refine ⟨h, by simpa [h] using e, fun i hi => ?_⟩
    have := b i hi
    simp [show i < l.length by omega] at this
    simpa using this
  rw [this]
theorem idx_no {l : List Int} {n : Int} (b : ∀ i, i < l.length → l.getD i 0 ≠ n) : idxI l n = -1 := by
  unfold idxI
  have : l.findIdx? (fun x => x == n) = none := by
    rw [List.findIdx?_eq_none_iff]
    intro x hx
    obtain ⟨i, hi, rfl⟩ := List.mem_iff_getElem.1 hx
    have := b i hi
    simp [hi] at this
    simpa using this
  rw [this]
set_option maxRecDepth 100000 in
set_option maxHeartbeats 4000000 in
theorem rindex_any (w : World) (a : Option Addr) (n c : Nat) (l : List Int) (h : SI w a n c l) (hn : n ≤ 1000000) (x : Int) : Calls Try.prog 63 #[.slice a n c, .int .i64 x] w (RetS (.int .i64 (idxI l x)) w) := by
  have HS := Lib.hid h
  have HN := Lib.hid hn
  have HL := Lib.hid h.len
  clear h hn
  go_enter Try.func63, Try.ntmps63
  go_wp2
  go_loopw [5] (fun i wr => ∃ j : Nat, j ≤ n ∧ i = .int .i64 j ∧ (∀ k, k < j → l.getD k 0 ≠ x) ∧ wr = w) (fun i _ => n - (intOf i).toNat)
  case atStart => exact ⟨0, Nat.zero_le _, rfl, (fun k hk => absurd hk (Nat.not_lt_zero _)), rfl⟩
  case round =>
    obtain ⟨j, hj, rfl, hb, rfl⟩ := hrel
    have HB := Lib.hid hb
    clear hb
    by_cases hlt : j < n
    · obtain ⟨ad, had⟩ := HS.out.some (by omega)
      have e0 := HS.out.cells ad had j hlt
      have IY := Lib.hid (fun q => idx_yes (l := l) (n := x) (j := j) (by rw [HL.out]; exact hlt) q HB.out)
      have NX := Lib.hid (fun (q : l.getD j 0 ≠ x) => (fun k hk => by rcases (show k < j ∨ k = j by omega) with r | rfl; exact HB.out k r; exact q : ∀ k, k < j + 1 → l.getD k 0 ≠ x))
      generalize l.getD j 0 = y at *
      have i1 : (j : Int) < n := by omega
      have i0 : (0 : Int) ≤ (j : Int) := by omega
      have hw : IntKind.i64.wrap ((j : Int) + 1) = ((j + 1 : Nat) : Int) := by have := HN.out; rw [IntKind.wrap_i64]; omega
      rw [had]
      by_cases q : y = x
      · have E := Lib.hid (IY.out q)
        subst q
        go_wp2
        go_ret
        exact ⟨by rw [E.out] <;> rfl, rfl⟩
      · have q2 : (y == x) = false := by simp [q]
        have N2 := Lib.hid (NX.out q)
        go_wp2
        go_roundw
        case rel => exact ⟨j + 1, by omega, by first | rfl | (congr 1), N2.out, by simp⟩
        case measure => simp [intOf]; omega
    · have i1 : ¬ (j : Int) < n := by omega
      have E := Lib.hid (show idxI l x = -1 from idx_no (fun i hi => HB.out i (by rw [HL.out] at hi; omega)))
      go_wp2
      go_ret
      exact ⟨by rw [E.out] <;> rfl, rfl⟩
end Go.Proofs.Ytgdefahnmgonlaa
