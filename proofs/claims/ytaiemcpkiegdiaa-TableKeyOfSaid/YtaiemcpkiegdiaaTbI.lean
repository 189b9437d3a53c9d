/- Table: Key of the program; no condition but sizes. -/
import Derived.Test.YtaiemcpkiegdiaaOwnU
import Derived.Test.YtaiemcpkiegdiaaOrS
import Derived.Test.YtaiemcpkiegdiaaTbR
namespace Go.Proofs.Ytaiemcpkiegdiaa
open Go.RowKit
set_option linter.unusedVariables false
def keyV (H : List (ByteArray × List Fld)) (M : List Fld) (V : List Bool) (F : List (List Int)) (T : List Int) (ks : List TKy) : List Int := ks.map fun k => bits .and .u32 (getE V F T k.h k.f) (mkB (widE H M k.h k.f))
theorem keyV_len (H : List (ByteArray × List Fld)) (M : List Fld) (V : List Bool) (F : List (List Int)) (T : List Int) (ks : List TKy) : (keyV H M V F T ks).length = ks.length := by simp [keyV]
theorem keyV_at (H : List (ByteArray × List Fld)) (M : List Fld) (V : List Bool) (F : List (List Int)) (T : List Int) (ks : List TKy) (j : Nat) (h : j < ks.length) : (keyV H M V F T ks).getD j 0 = bits .and .u32 (getE V F T (ks.getD j tkz).h (ks.getD j tkz).f) (mkB (widE H M (ks.getD j tkz).h (ks.getD j tkz).f)) := by simp [keyV, h]
set_option maxRecDepth 100000 in
set_option maxHeartbeats 4000000 in
theorem pkey_any (w : World) (X : PX) (P : Pg) (hp : SP w X P) (hz : szT P) (t : Int) (va fa ta : Option Addr) (vn vc fn fc tn tc : Nat) (pl : Value) (V : List Bool) (F : List (List Int)) (T : List Int) (hV : SB w va vn vc V) (hF : SR w fa fn fc F) (hT : SU w ta tn tc T) : Calls Try.prog 23 #[.agg #[.string X.nm, .slice X.ha X.hn X.hc, .slice X.ma X.mn X.mc, .slice X.ra X.rn X.rc, .slice X.aa X.an X.ac, .slice X.ta X.tn X.tc, .slice X.sa X.sn X.sc, .slice X.ca X.cn X.cc, .slice X.da X.dn X.dc], .int .i64 t, .agg #[.slice va vn vc, .slice fa fn fc, .slice ta tn tc, pl]] w (RetU (keyV P.H P.M V F T (tabV P t).ks) w) := by
  have VD := Lib.hid (fun (W : World) (q : w.grownBy W none) => pvalid_any W X P (hp.keep0 q) hz t)
  have YK := Lib.hid (fun (W : World) (Y : TX) (q : ST W Y (tabV P t)) => tabV_kn hz q)
  have WD := Lib.hid (fun (W : World) (q : w.grownBy W none) => ewid_any W (.string X.nm) (.slice X.ra X.rn X.rc) (.slice X.aa X.an X.ac) (.slice X.ta X.tn X.tc) (.slice X.sa X.sn X.sc) (.slice X.ca X.cn X.cc) (.slice X.da X.dn X.dc) X.ha X.ma X.hn X.hc X.mn X.mc P.H P.M (hp.h.keep0 q) (hp.m.keep0 q))
  have GE := Lib.hid (fun (W : World) (q : w.grownBy W none) => eget_any W pl va fa ta vn vc fn fc tn tc V F T (hV.keep0 q) (hF.keep0 q) (hT.keep0 q))
  unfold RetT at VD
  unfold RetV at WD GE
  generalize tabV P t = tv at *
  generalize okT P t = ok at *
  obtain ⟨KS, hks⟩ : ∃ s, s = keyV P.H P.M V F T tv.ks := ⟨_, rfl⟩
  have KL := Lib.hid (show KS.length = tv.ks.length by rw [hks, keyV_len])
  have KA := Lib.hid (show ∀ j, j < tv.ks.length → KS.getD j 0 = bits .and .u32 (getE V F T (tv.ks.getD j tkz).h (tv.ks.getD j tkz).f) (mkB (widE P.H P.M (tv.ks.getD j tkz).h (tv.ks.getD j tkz).f)) from fun j hj => by rw [hks]; exact keyV_at _ _ _ _ _ _ j hj)
  rw [← hks]
  obtain ⟨iU, ib, iU0, iU1, iU2⟩ := info_parts infoU32
  have IB := Lib.hid ib
  have G2 := Lib.hid (gb_trans (gb_alloc w (.cells #[.string X.nm, .slice X.ha X.hn X.hc, .slice X.ma X.mn X.mc, .slice X.ra X.rn X.rc, .slice X.aa X.an X.ac, .slice X.ta X.tn X.tc, .slice X.sa X.sn X.sc, .slice X.ca X.cn X.cc, .slice X.da X.dn X.dc] 31) none) (gb_alloc _ (.cells #[.slice va vn vc, .slice fa fn fc, .slice ta tn tc, pl] 47) none))
  have B1 := (IsB.new w 31 #[.string X.nm, .slice X.ha X.hn X.hc, .slice X.ma X.mn X.mc, .slice X.ra X.rn X.rc, .slice X.aa X.an X.ac, .slice X.ta X.tn X.tc, .slice X.sa X.sn X.sc, .slice X.ca X.cn X.cc, .slice X.da X.dn X.dc]).alloc (.cells #[.slice va vn vc, .slice fa fn fc, .slice ta tn tc, pl] 47)
  have BE := IsB.new (w.alloc (.cells #[.string X.nm, .slice X.ha X.hn X.hc, .slice X.ma X.mn X.mc, .slice X.ra X.rn X.rc, .slice X.aa X.an X.ac, .slice X.ta X.tn X.tc, .slice X.sa X.sn X.sc, .slice X.ca X.cn X.cc, .slice X.da X.dn X.dc] 31)) 47 #[.slice va vn vc, .slice fa fn fc, .slice ta tn tc, pl]
  simp only [sz_al] at BE
  replace B1 := Lib.hid B1
  replace BE := Lib.hid BE
  clear hp hz hV hF hT hks ib
  go_enter Try.func23, Try.ntmps23
  go_upto_region 1 with fail
  generalize (w.alloc (.cells #[.string X.nm, .slice X.ha X.hn X.hc, .slice X.ma X.mn X.mc, .slice X.ra X.rn X.rc, .slice X.aa X.an X.ac, .slice X.ta X.tn X.tc, .slice X.sa X.sn X.sc, .slice X.ca X.cn X.cc, .slice X.da X.dn X.dc] 31)).alloc (.cells #[.slice va vn vc, .slice fa fn fc, .slice ta tn tc, pl] 47) = w2 at *
  obtain ⟨bx, hbx⟩ : ∃ b, b = w.heap.size := ⟨_, rfl⟩
  have Lbx := Lib.hid (show w.heap.size ≤ bx by rw [hbx]; exact Nat.le_refl _)
  rw [← hbx] at B1 BE ⊢
  clear hbx
  have c0 := (B1.out.keep0 (gb_refl _ _)).cell 0
  have c1 := (B1.out.keep0 (gb_refl _ _)).cell 1
  have c2 := (B1.out.keep0 (gb_refl _ _)).cell 2
  have c3 := (B1.out.keep0 (gb_refl _ _)).cell 3
  have c4 := (B1.out.keep0 (gb_refl _ _)).cell 4
  have c5 := (B1.out.keep0 (gb_refl _ _)).cell 5
  have c6 := (B1.out.keep0 (gb_refl _ _)).cell 6
  have c7 := (B1.out.keep0 (gb_refl _ _)).cell 7
  have c8 := (B1.out.keep0 (gb_refl _ _)).cell 8
  dsimp at c0 c1 c2 c3 c4 c5 c6 c7 c8
  go_wp2_with fail
  refine (VD.out w2 G2.out).mono ?_
  rintro e w3 ⟨Y, rfl, st, g⟩
  have G3 := Lib.hid g
  have S3 := Lib.hid st
  clear g st c0 c1 c2 c3 c4 c5 c6 c7 c8
  have G4 := Lib.hid (gb_alloc w3 (.cells #[.string tv.nm, .slice Y.ka Y.kn Y.kc, .slice Y.ca Y.cn Y.cc, .int .i64 tv.da, .slice Y.ra Y.rn Y.rc, .int .i64 tv.sz] 56) none)
  have BT := IsB.new w3 56 #[.string tv.nm, .slice Y.ka Y.kn Y.kc, .slice Y.ca Y.cn Y.cc, .int .i64 tv.da, .slice Y.ra Y.rn Y.rc, .int .i64 tv.sz]
  replace BT := Lib.hid BT
  go_upto_region 2 with fail
  generalize w3.alloc (.cells #[.string tv.nm, .slice Y.ka Y.kn Y.kc, .slice Y.ca Y.cn Y.cc, .int .i64 tv.da, .slice Y.ra Y.rn Y.rc, .int .i64 tv.sz] 56) = w4 at *
  obtain ⟨b6, hb6⟩ : ∃ b, b = w3.heap.size := ⟨_, rfl⟩
  have Lb6 := Lib.hid (show w3.heap.size ≤ b6 by rw [hb6]; exact Nat.le_refl _)
  rw [← hb6] at BT ⊢
  clear hb6
  have HS := Lib.hid (S3.out.keep0 G4.out)
  have GW := Lib.hid (gb_trans G2.out (gb_trans G3.out G4.out))
  have G24 := Lib.hid (gb_trans G3.out G4.out)
  have K := Lib.hid (YK.out _ Y HS.out)
  have HL := Lib.hid (show tv.ks.length = Y.kn from HS.out.k.len)
  rw [HL.out] at KL KA
  have d0 := (BT.out.keep0 (gb_refl _ _)).cell 0
  have d1 := (BT.out.keep0 (gb_refl _ _)).cell 1
  have d2 := (BT.out.keep0 (gb_refl _ _)).cell 2
  have d3 := (BT.out.keep0 (gb_refl _ _)).cell 3
  have d4 := (BT.out.keep0 (gb_refl _ _)).cell 4
  have d5 := (BT.out.keep0 (gb_refl _ _)).cell 5
  dsimp at d0 d1 d2 d3 d4 d5
  go_wp2_with (at_make; refine mlist_any rfl _ _ 44 57 iU (.int .u32 0) 4 rfl Try.underlying44 IB.out iU0 iU1 iU2 (by decide) rfl Y.kn rfl rfl (by have := K.out.1; omega) ?_; intro w5 o5 g5; have d1 := (BT.out.keep0 g5).cell 1; dsimp at d1; have G5 := Lib.hid g5; have O5 := Lib.hid (show NU w5 w.heap.size (.slice (some ⟨w4.heap.size, 0, none⟩) Y.kn Y.kn) (mixW KS 0) by rw [mixW_zero, KL.out]; unfold NU; rw [List.length_replicate, List.map_replicate]; exact own_low o5 GW.out.size); clear o5 g5)
  obtain ⟨g, hg⟩ : ∃ b, b = w4.heap.size := ⟨_, rfl⟩
  have LG := Lib.hid (show w4.heap.size ≤ g by rw [hg]; exact Nat.le_refl _)
  rw [← hg] at O5 ⊢
  clear hg d0 d1 d2 d3 d4 d5
  go_loopw [25] (fun i wr => ∃ j : Nat, j ≤ Y.kn ∧ i = .int .i64 j ∧ NU wr w.heap.size (.slice (some ⟨g, 0, none⟩) Y.kn Y.kn) (mixW KS j) ∧ w4.grownBy wr none) (fun i _ => Y.kn - (intOf i).toNat)
  case atStart => exact ⟨0, Nat.zero_le _, rfl, O5.out, G5.out⟩
  case round =>
    obtain ⟨j, hj, rfl, ho, hg⟩ := hrel
    have O := Lib.hid ho
    have G := Lib.hid hg
    clear hg ho O5 G5
    by_cases hlt : j < Y.kn
    · obtain ⟨ad, had⟩ := HS.out.k.some (by omega)
      obtain ⟨e0, e1, e2⟩ := (HS.out.k.keep0SKy G.out).cells ad had j hlt
      have WJ := Lib.hid (KA.out j hlt)
      have PS := Lib.hid (mixW_set KS j)
      have ML := Lib.hid (show (mixW KS j).length = Y.kn by rw [mixW_len, KL.out])
      have WDx := Lib.hid (fun (W : World) (q : w.grownBy W none) => WD.out W q (tv.ks.getD j tkz).h (tv.ks.getD j tkz).f)
      have GEx := Lib.hid (fun (W : World) (q : w.grownBy W none) => GE.out W q (tv.ks.getD j tkz).h (tv.ks.getD j tkz).f)
      generalize getE V F T (tv.ks.getD j tkz).h (tv.ks.getD j tkz).f = gv at *
      generalize widE P.H P.M (tv.ks.getD j tkz).h (tv.ks.getD j tkz).f = wd at *
      generalize (tv.ks.getD j tkz).h = xh at *
      generalize (tv.ks.getD j tkz).f = xf at *
      generalize (tv.ks.getD j tkz).k = xk at *
      have i1 : (j : Int) < Y.kn := by omega
      have i0 : (0 : Int) ≤ (j : Int) := by omega
      have hw : IntKind.i64.wrap ((j : Int) + 1) = ((j + 1 : Nat) : Int) := by have := K.out.1; rw [IntKind.wrap_i64]; omega
      rw [had]
      have GK := Lib.hid (gb_alloc wr (.cells #[.int .i64 xh, .int .i64 xf, .int .i64 xk] 62) none)
      have BK := IsB.new wr 62 #[.int .i64 xh, .int .i64 xf, .int .i64 xk]
      replace BK := Lib.hid BK
      go_upto_region 6 with fail
      generalize wr.alloc (.cells #[.int .i64 xh, .int .i64 xf, .int .i64 xk] 62) = w7 at *
      obtain ⟨b8, hb8⟩ : ∃ b, b = wr.heap.size := ⟨_, rfl⟩
      have Lb8 := Lib.hid (show wr.heap.size ≤ b8 by rw [hb8]; exact Nat.le_refl _)
      rw [← hb8] at BK ⊢
      clear hb8
      have G7 := Lib.hid (gb_trans G.out GK.out)
      replace O := Lib.hid (O.out.keep0 GK.out)
      clear e0 e1 e2 GK Lb8 G
      have KT := Lib.hid (fun (w' : World) (q : w7.grownBy w' none) => (⟨(B1.out.keep0 (gb_trans G24.out (gb_trans G7.out q))).cell 0, (B1.out.keep0 (gb_trans G24.out (gb_trans G7.out q))).cell 1, (B1.out.keep0 (gb_trans G24.out (gb_trans G7.out q))).cell 2, (B1.out.keep0 (gb_trans G24.out (gb_trans G7.out q))).cell 3, (B1.out.keep0 (gb_trans G24.out (gb_trans G7.out q))).cell 4, (B1.out.keep0 (gb_trans G24.out (gb_trans G7.out q))).cell 5, (B1.out.keep0 (gb_trans G24.out (gb_trans G7.out q))).cell 6, (B1.out.keep0 (gb_trans G24.out (gb_trans G7.out q))).cell 7, (B1.out.keep0 (gb_trans G24.out (gb_trans G7.out q))).cell 8, (BE.out.keep0 (gb_trans G24.out (gb_trans G7.out q))).cell 0, (BE.out.keep0 (gb_trans G24.out (gb_trans G7.out q))).cell 1, (BE.out.keep0 (gb_trans G24.out (gb_trans G7.out q))).cell 2, (BE.out.keep0 (gb_trans G24.out (gb_trans G7.out q))).cell 3, (BK.out.keep0 q).cell 0, (BK.out.keep0 q).cell 1, trivial⟩ : (fun w' : World => w'.cell? ⟨bx, 0, none⟩ = some (.string X.nm) ∧ w'.cell? ⟨bx, 1, none⟩ = some (.slice X.ha X.hn X.hc) ∧ w'.cell? ⟨bx, 2, none⟩ = some (.slice X.ma X.mn X.mc) ∧ w'.cell? ⟨bx, 3, none⟩ = some (.slice X.ra X.rn X.rc) ∧ w'.cell? ⟨bx, 4, none⟩ = some (.slice X.aa X.an X.ac) ∧ w'.cell? ⟨bx, 5, none⟩ = some (.slice X.ta X.tn X.tc) ∧ w'.cell? ⟨bx, 6, none⟩ = some (.slice X.sa X.sn X.sc) ∧ w'.cell? ⟨bx, 7, none⟩ = some (.slice X.ca X.cn X.cc) ∧ w'.cell? ⟨bx, 8, none⟩ = some (.slice X.da X.dn X.dc) ∧ w'.cell? ⟨bx + 1, 0, none⟩ = some (.slice va vn vc) ∧ w'.cell? ⟨bx + 1, 1, none⟩ = some (.slice fa fn fc) ∧ w'.cell? ⟨bx + 1, 2, none⟩ = some (.slice ta tn tc) ∧ w'.cell? ⟨bx + 1, 3, none⟩ = some (pl) ∧ w'.cell? ⟨b8, 0, none⟩ = some (.int .i64 xh) ∧ w'.cell? ⟨b8, 1, none⟩ = some (.int .i64 xf) ∧ True) w'))
      have GT := Lib.hid (gb_trans GW.out G7.out)
      have G0 := Lib.hid (gb_drew w7 none)
      have hF0 := KT.out _ G0.out
      refine wp_region_S (fun w' : World => w'.cell? ⟨bx, 0, none⟩ = some (.string X.nm) ∧ w'.cell? ⟨bx, 1, none⟩ = some (.slice X.ha X.hn X.hc) ∧ w'.cell? ⟨bx, 2, none⟩ = some (.slice X.ma X.mn X.mc) ∧ w'.cell? ⟨bx, 3, none⟩ = some (.slice X.ra X.rn X.rc) ∧ w'.cell? ⟨bx, 4, none⟩ = some (.slice X.aa X.an X.ac) ∧ w'.cell? ⟨bx, 5, none⟩ = some (.slice X.ta X.tn X.tc) ∧ w'.cell? ⟨bx, 6, none⟩ = some (.slice X.sa X.sn X.sc) ∧ w'.cell? ⟨bx, 7, none⟩ = some (.slice X.ca X.cn X.cc) ∧ w'.cell? ⟨bx, 8, none⟩ = some (.slice X.da X.dn X.dc) ∧ w'.cell? ⟨bx + 1, 0, none⟩ = some (.slice va vn vc) ∧ w'.cell? ⟨bx + 1, 1, none⟩ = some (.slice fa fn fc) ∧ w'.cell? ⟨bx + 1, 2, none⟩ = some (.slice ta tn tc) ∧ w'.cell? ⟨bx + 1, 3, none⟩ = some (pl) ∧ w'.cell? ⟨b8, 0, none⟩ = some (.int .i64 xh) ∧ w'.cell? ⟨b8, 1, none⟩ = some (.int .i64 xf) ∧ True) 13 (by kernel_rfl) ?_
      refine wpAnyS_pure (i := 0) (v := ?v5029) rfl (by kernel_rfl) (by kernel_rfl) (by kernel_rfl) (by decide) (fun _ _ _ h => h) (Or.inl ⟨by rfl, ?hy5029⟩) (Or.inr (by assumption)) ?rest5029
      case hy5029 => (intro wz hSw; (try dsimp only at hSw); first | (go_simp; done) | (go_simp; with_reducible rfl))
      try simp only [Act.put, List.getElem_toArray, List.getElem_cons_zero, List.setIfInBounds_toArray, List.set_cons_zero, List.set_cons_succ]
      refine wpAnyS_pure (i := 1) (v := ?v5030) rfl (by kernel_rfl) (by kernel_rfl) (by kernel_rfl) (by decide) (fun _ _ _ h => h) (Or.inl ⟨by rfl, ?hy5030⟩) (Or.inr (by assumption)) ?rest5030
      case hy5030 => (intro wz hSw; (try dsimp only at hSw); first | (go_simp; done) | (go_simp; with_reducible rfl))
      try simp only [Act.put, List.getElem_toArray, List.getElem_cons_succ, List.getElem_cons_zero, List.setIfInBounds_toArray, List.set_cons_zero, List.set_cons_succ]
      refine wpAnyS_pure (i := 3) (v := ?v5031) rfl (by kernel_rfl) (by kernel_rfl) (by kernel_rfl) (by decide) (fun _ _ _ h => h) (Or.inl ⟨by rfl, ?hy5031⟩) (Or.inr (by assumption)) ?rest5031
      case hy5031 => (intro wz hSw; (try dsimp only at hSw); first | (go_simp; done) | (go_simp; with_reducible rfl))
      try simp only [Act.put, List.getElem_toArray, List.getElem_cons_succ, List.getElem_cons_zero, List.setIfInBounds_toArray, List.set_cons_zero, List.set_cons_succ]
      refine wpAnyS_pure (i := 7) (v := ?v5032) rfl (by kernel_rfl) (by kernel_rfl) (by kernel_rfl) (by decide) (fun _ _ _ h => h) (Or.inl ⟨by rfl, ?hy5032⟩) (Or.inr (by assumption)) ?rest5032
      case hy5032 => (intro wz hSw; (try dsimp only at hSw); first | (go_simp; done) | (go_simp; with_reducible rfl))
      try simp only [Act.put, List.getElem_toArray, List.getElem_cons_succ, List.getElem_cons_zero, List.setIfInBounds_toArray, List.set_cons_zero, List.set_cons_succ]
      refine wpAnyS_load 5 (i := 2) (v := ?v5033) rfl (by kernel_rfl) (by kernel_rfl) (by kernel_rfl) (by kernel_rfl) (fun _ _ _ h => h) (Or.inl ⟨by rfl, ?hy5033⟩) (by assumption) ?rest5033
      case hy5033 => (intro wz hSw; (try dsimp only at hSw); first | (go_simp; done) | (go_simp; with_reducible rfl))
      try simp only [Act.put, List.getElem_toArray, List.getElem_cons_succ, List.getElem_cons_zero, List.setIfInBounds_toArray, List.set_cons_zero, List.set_cons_succ]
      refine wpAnyS_load 5 (i := 4) (v := ?v5034) rfl (by kernel_rfl) (by kernel_rfl) (by kernel_rfl) (by kernel_rfl) (fun _ _ _ h => h) (Or.inl ⟨by rfl, ?hy5034⟩) (by assumption) ?rest5034
      case hy5034 => (intro wz hSw; (try dsimp only at hSw); first | (go_simp; done) | (go_simp; with_reducible rfl))
      try simp only [Act.put, List.getElem_toArray, List.getElem_cons_succ, List.getElem_cons_zero, List.setIfInBounds_toArray, List.set_cons_zero, List.set_cons_succ]
      refine wpAnyS_load 9 (i := 6) (v := ?v5035) rfl (by kernel_rfl) (by kernel_rfl) (by kernel_rfl) (by kernel_rfl) (fun _ _ _ h => h) (Or.inl ⟨by rfl, ?hy5035⟩) (by assumption) ?rest5035
      case hy5035 => (intro wz hSw; (try dsimp only at hSw); first | (go_simp; done) | (go_simp; with_reducible rfl))
      try simp only [Act.put, List.getElem_toArray, List.getElem_cons_succ, List.getElem_cons_zero, List.setIfInBounds_toArray, List.set_cons_zero, List.set_cons_succ]
      refine wpAnyS_load 9 (i := 8) (v := ?v5036) rfl (by kernel_rfl) (by kernel_rfl) (by kernel_rfl) (by kernel_rfl) (fun _ _ _ h => h) (Or.inl ⟨by rfl, ?hy5036⟩) (by assumption) ?rest5036
      case hy5036 => (intro wz hSw; (try dsimp only at hSw); first | (go_simp; done) | (go_simp; with_reducible rfl))
      try simp only [Act.put, List.getElem_toArray, List.getElem_cons_succ, List.getElem_cons_zero, List.setIfInBounds_toArray, List.set_cons_zero, List.set_cons_succ]
      refine wpAnyS_one (i := 5) (o := _) (by kernel_rfl) rfl (fun K hK => ?_)
      go_simp
      refine (GEx.out _ (gb_trans GT.out G0.out)).mono ?_
      rintro e wh1 ⟨rfl, g⟩
      have G1 := Lib.hid (gb_trans G0.out g)
      clear g hF0
      have hF1 := KT.out _ G1.out
      try dsimp only
      refine hK.out _ _ (Or.inr hF1) (fun _ => ?_)
      clear hK K
      try simp only [Act.put, List.getElem_toArray, List.getElem_cons_succ, List.getElem_cons_zero, List.setIfInBounds_toArray, List.set_cons_zero, List.set_cons_succ]
      refine wpAnyS_one (i := 9) (o := _) (by kernel_rfl) rfl (fun K hK => ?_)
      go_simp
      refine (WDx.out _ (gb_trans GT.out G1.out)).mono ?_
      rintro e wh2 ⟨rfl, g⟩
      have G2 := Lib.hid (gb_trans G1.out g)
      clear g hF1
      have hF2 := KT.out _ G2.out
      try dsimp only
      refine hK.out _ _ (Or.inr hF2) (fun _ => ?_)
      clear hK K
      try simp only [Act.put, List.getElem_toArray, List.getElem_cons_succ, List.getElem_cons_zero, List.setIfInBounds_toArray, List.set_cons_zero, List.set_cons_succ]
      refine wpAnyS_one (i := 10) (o := _) (by kernel_rfl) rfl (fun K hK => ?_)
      go_simp
      refine (mask_any wd _).mono ?_
      rintro e wh3 ⟨rfl, g⟩
      have g := gb_gr g none
      have G3 := Lib.hid (gb_trans G2.out g)
      clear g hF2
      have hF3 := KT.out _ G3.out
      try dsimp only
      refine hK.out _ _ (Or.inr hF3) (fun _ => ?_)
      clear hK K
      try simp only [Act.put, List.getElem_toArray, List.getElem_cons_succ, List.getElem_cons_zero, List.setIfInBounds_toArray, List.set_cons_zero, List.set_cons_succ]
      refine wpAnyS_pure (i := 11) (v := ?v5037) rfl (by kernel_rfl) (by kernel_rfl) (by kernel_rfl) (by decide) (fun _ _ _ h => h) (Or.inl ⟨by rfl, ?hy5037⟩) (Or.inr (by assumption)) ?rest5037
      case hy5037 => (intro wz hSw; (try dsimp only at hSw); first | (go_simp; done) | (go_simp; with_reducible rfl))
      try simp only [Act.put, List.getElem_toArray, List.getElem_cons_succ, List.getElem_cons_zero, List.setIfInBounds_toArray, List.set_cons_zero, List.set_cons_succ]
      refine wpAnyS_pure (i := 12) (v := ?v5038) rfl (by kernel_rfl) (by kernel_rfl) (by kernel_rfl) (by decide) (fun _ _ _ h => h) (Or.inl ⟨by rfl, ?hy5038⟩) (Or.inr (by assumption)) ?rest5038
      case hy5038 => (intro wz hSw; (try dsimp only at hSw); first | (go_simp; done) | (go_simp; with_reducible rfl))
      try simp only [Act.put, List.getElem_toArray, List.getElem_cons_succ, List.getElem_cons_zero, List.setIfInBounds_toArray, List.set_cons_zero, List.set_cons_succ]
      have O6 := Lib.hid (O.out.keep0 G3.out)
      have hb : j < Y.kn := hlt
      obtain ⟨a0, f0⟩ := nu_cell O6.out ML.out j hlt
      have OP := Lib.hid (O6.out.put ML.out.symm j (KS.getD j 0))
      rw [PS.out] at OP
      have GP := Lib.hid (gb_put (i := j) (u := .int .u32 (KS.getD j 0)) (gb_trans G7.out G3.out) LG.out)
      rw [WJ.out] at OP GP
      clear hF3
      refine wpAnyS_one (i := 13) (o := _) (by kernel_rfl) rfl (fun K hK => ?_)
      go_simp
      refine hK.out _ _ (Or.inl (by kernel_rfl)) (fun _ => ?_)
      clear hK K
      try simp only [Act.put, List.getElem_toArray, List.getElem_cons_succ, List.getElem_cons_zero, List.setIfInBounds_toArray, List.set_cons_zero, List.set_cons_succ]
      refine wpAnyS_done (by kernel_rfl) ?_ _
      go_wp2
      go_roundw
      case rel => exact ⟨j + 1, by omega, by first | rfl | (congr 1), OP.out, GP.out⟩
      case measure => simp [intOf]; omega
    · have i1 : ¬ (j : Int) < Y.kn := by omega
      have CE := Lib.hid (show mixW KS j = KS by rw [show j = KS.length by rw [KL.out]; omega, mixW_all])
      go_wp2
      go_ret
      exact ⟨some ⟨g, 0, none⟩, Y.kn, by rw [KL.out] <;> rfl, by have q := O.out; rw [CE.out] at q; rw [KL.out]; exact q, gb_trans GW.out G.out⟩
end Go.Proofs.Ytaiemcpkiegdiaa
