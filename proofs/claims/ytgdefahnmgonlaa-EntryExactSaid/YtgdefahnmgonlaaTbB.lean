/- Table: widths and bits of the program, the reference's width; no condition but sizes. -/
import Derived.Test.YtgdefahnmgonlaaOwn
namespace Go.Proofs.Ytgdefahnmgonlaa
open Go.RowKit
set_option linter.unusedVariables false
/-- The row of widths under way. -/
def mixW (l : List Int) (j : Nat) : List Int := (List.range l.length).map fun i => if i < j then l.getD i 0 else 0
theorem mixW_len (l : List Int) (j : Nat) : (mixW l j).length = l.length := by simp [mixW]
theorem mixW_zero (l : List Int) : mixW l 0 = List.replicate l.length 0 := by
  apply List.ext_getElem (by simp [mixW])
  intro i h1 h2
  simp [mixW]
theorem mixW_all (l : List Int) : mixW l l.length = l := by
  apply List.ext_getElem (by simp [mixW])
  intro i h1 h2
  simp [mixW, h2]
theorem mixW_set (l : List Int) (j : Nat) : (mixW l j).set j (l.getD j 0) = mixW l (j + 1) := by
  apply List.ext_getElem (by simp [mixW])
  intro i h1 h2
  simp only [mixW, List.getElem_set, List.getElem_map, List.getElem_range]
  by_cases e : j = i
  · subst e
    rw [if_pos rfl, if_pos (by omega)]
  · rw [if_neg e]
    by_cases q : i < j
    · rw [if_pos q, if_pos (by omega)]
    · rw [if_neg q, if_neg (by omega)]
theorem ws_len (H : List (ByteArray × List Fld)) (M : List Fld) (ks : List TKy) : (wsT H M ks).length = ks.length := by simp [wsT]
theorem ws_at (H : List (ByteArray × List Fld)) (M : List Fld) (ks : List TKy) (j : Nat) (h : j < ks.length) : (wsT H M ks).getD j 0 = widE H M (ks.getD j tkz).h (ks.getD j tkz).f := by simp [wsT, h]
theorem wid_le (H : List (ByteArray × List Fld)) (M : List Fld) (h f : Int) : 0 ≤ widE H M h f ∧ widE H M h f ≤ 32 := by
  unfold widE
  split
  · split
    · rename_i q; unfold okW at q; have q := of_decide_eq_true q; omega
    · omega
  · omega
theorem ws_rng (H : List (ByteArray × List Fld)) (M : List Fld) (ks : List TKy) : ∀ x ∈ wsT H M ks, 0 ≤ x ∧ x ≤ 32 := by
  intro x hx
  obtain ⟨k, _, rfl⟩ := List.mem_map.1 hx
  exact wid_le _ _ _ _
theorem sum_rng (l : List Int) (h : ∀ x ∈ l, 0 ≤ x ∧ x ≤ 32) : 0 ≤ sumI l ∧ sumI l ≤ 32 * l.length := by
  induction l with
  | nil => exact ⟨Int.le_refl _, Int.le_refl _⟩
  | cons a l ih =>
    have h1 := h a (by simp)
    have h2 := ih (fun x hx => h x (by simp [hx]))
    show 0 ≤ a + sumI l ∧ a + sumI l ≤ 32 * ((l.length + 1 : Nat) : Int)
    omega
theorem sum_take (l : List Int) (j : Nat) (h : j < l.length) : sumI (l.take (j + 1)) = sumI (l.take j) + l.getD j 0 := by
  rw [take_one 0 l j h, sumI_app]
  simp [sumI]
set_option maxRecDepth 100000 in
set_option maxHeartbeats 4000000 in
theorem widths_any (w : World) (X : PX) (P : Pg) (hp : SP w X P) (Y : TX) (tb : Tbl) (h : ST w Y tb) (hn : Y.kn ≤ 1000) : Calls Try.prog 71 #[.agg #[.string X.nm, .slice X.ha X.hn X.hc, .slice X.ma X.mn X.mc, .slice X.ra X.rn X.rc, .slice X.aa X.an X.ac, .slice X.ta X.tn X.tc, .slice X.sa X.sn X.sc, .slice X.ca X.cn X.cc, .slice X.da X.dn X.dc], .agg #[.string tb.nm, .slice Y.ka Y.kn Y.kc, .slice Y.ca Y.cn Y.cc, .int .i64 tb.da, .slice Y.ra Y.rn Y.rc, .int .i64 tb.sz]] w (RetI (wsT P.H P.M tb.ks) w) := by
  have WD := Lib.hid (fun (W : World) (q : w.grownBy W none) => ewid_any W (.string X.nm) (.slice X.ra X.rn X.rc) (.slice X.aa X.an X.ac) (.slice X.ta X.tn X.tc) (.slice X.sa X.sn X.sc) (.slice X.ca X.cn X.cc) (.slice X.da X.dn X.dc) X.ha X.ma X.hn X.hc X.mn X.mc P.H P.M (hp.h.keep0 q) (hp.m.keep0 q))
  have HS := Lib.hid h
  have HN := Lib.hid hn
  have HL := Lib.hid (show tb.ks.length = Y.kn from h.k.len)
  obtain ⟨WS, hws⟩ : ∃ s, s = wsT P.H P.M tb.ks := ⟨_, rfl⟩
  have WL := Lib.hid (show WS.length = Y.kn by rw [hws, ws_len]; exact HL.out)
  have WA := Lib.hid (show ∀ j, j < Y.kn → WS.getD j 0 = widE P.H P.M (tb.ks.getD j tkz).h (tb.ks.getD j tkz).f from fun j hj => by rw [hws]; exact ws_at _ _ _ j (by rw [HL.out]; exact hj))
  rw [← hws]
  obtain ⟨iI, ib, iI0, iI1, iI2⟩ := info_parts infoI64
  have IB := Lib.hid ib
  clear ib hws
  have G2 := Lib.hid (gb_trans (gb_alloc w (.cells #[.string X.nm, .slice X.ha X.hn X.hc, .slice X.ma X.mn X.mc, .slice X.ra X.rn X.rc, .slice X.aa X.an X.ac, .slice X.ta X.tn X.tc, .slice X.sa X.sn X.sc, .slice X.ca X.cn X.cc, .slice X.da X.dn X.dc] 31) none) (gb_alloc _ (.cells #[.string tb.nm, .slice Y.ka Y.kn Y.kc, .slice Y.ca Y.cn Y.cc, .int .i64 tb.da, .slice Y.ra Y.rn Y.rc, .int .i64 tb.sz] 60) none))
  have B1 := (IsB.new w 31 #[.string X.nm, .slice X.ha X.hn X.hc, .slice X.ma X.mn X.mc, .slice X.ra X.rn X.rc, .slice X.aa X.an X.ac, .slice X.ta X.tn X.tc, .slice X.sa X.sn X.sc, .slice X.ca X.cn X.cc, .slice X.da X.dn X.dc]).alloc (.cells #[.string tb.nm, .slice Y.ka Y.kn Y.kc, .slice Y.ca Y.cn Y.cc, .int .i64 tb.da, .slice Y.ra Y.rn Y.rc, .int .i64 tb.sz] 60)
  have B2 := IsB.new (w.alloc (.cells #[.string X.nm, .slice X.ha X.hn X.hc, .slice X.ma X.mn X.mc, .slice X.ra X.rn X.rc, .slice X.aa X.an X.ac, .slice X.ta X.tn X.tc, .slice X.sa X.sn X.sc, .slice X.ca X.cn X.cc, .slice X.da X.dn X.dc] 31)) 60 #[.string tb.nm, .slice Y.ka Y.kn Y.kc, .slice Y.ca Y.cn Y.cc, .int .i64 tb.da, .slice Y.ra Y.rn Y.rc, .int .i64 tb.sz]
  simp only [sz_al] at B2
  replace B1 := Lib.hid B1
  replace B2 := Lib.hid B2
  clear h hp hn
  go_enter Try.func71, Try.ntmps71
  go_upto_region 1 with fail
  generalize (w.alloc (.cells #[.string X.nm, .slice X.ha X.hn X.hc, .slice X.ma X.mn X.mc, .slice X.ra X.rn X.rc, .slice X.aa X.an X.ac, .slice X.ta X.tn X.tc, .slice X.sa X.sn X.sc, .slice X.ca X.cn X.cc, .slice X.da X.dn X.dc] 31)).alloc (.cells #[.string tb.nm, .slice Y.ka Y.kn Y.kc, .slice Y.ca Y.cn Y.cc, .int .i64 tb.da, .slice Y.ra Y.rn Y.rc, .int .i64 tb.sz] 60) = w2 at *
  obtain ⟨bx, hbx⟩ : ∃ b, b = w.heap.size := ⟨_, rfl⟩
  have Lbx := Lib.hid (show w.heap.size ≤ bx by rw [hbx]; exact Nat.le_refl _)
  rw [← hbx] at B1 B2 ⊢
  clear hbx
  replace WD := Lib.hid (fun (W : World) (q : w2.grownBy W none) => WD.out W (gb_trans G2.out q))
  unfold RetV at WD
  replace HS := Lib.hid (HS.out.keep0 G2.out)
  have LB := Lib.hid (show w.heap.size ≤ w2.heap.size from G2.out.size)
  have d0 := (B2.out.keep0 (gb_refl _ _)).cell 0
  have d1 := (B2.out.keep0 (gb_refl _ _)).cell 1
  have d2 := (B2.out.keep0 (gb_refl _ _)).cell 2
  have d3 := (B2.out.keep0 (gb_refl _ _)).cell 3
  have d4 := (B2.out.keep0 (gb_refl _ _)).cell 4
  have d5 := (B2.out.keep0 (gb_refl _ _)).cell 5
  dsimp at d0 d1 d2 d3 d4 d5
  go_wp2_with (at_make; refine mlist_any rfl _ _ 29 3 iI (.int .i64 0) 8 rfl Try.underlying29 IB.out iI0 iI1 iI2 (by decide) rfl Y.kn rfl rfl (by have := HN.out; omega) ?_; intro w3 o3 g3; have d1 := (B2.out.keep0 g3).cell 1; dsimp at d1; have G3 := Lib.hid g3; have O3 := Lib.hid (show NL w3 w.heap.size (.slice (some ⟨w2.heap.size, 0, none⟩) Y.kn Y.kn) (mixW WS 0) by rw [mixW_zero, WL.out]; unfold NL; rw [List.length_replicate, List.map_replicate]; exact own_low o3 LB.out); clear o3 g3)
  obtain ⟨g, hg⟩ : ∃ b, b = w2.heap.size := ⟨_, rfl⟩
  have LG := Lib.hid (show w2.heap.size ≤ g by rw [hg]; exact Nat.le_refl _)
  rw [← hg] at O3 ⊢
  clear hg d0 d1 d2 d3 d4 d5
  go_loopw [15] (fun i wr => ∃ j : Nat, j ≤ Y.kn ∧ i = .int .i64 j ∧ NL wr w.heap.size (.slice (some ⟨g, 0, none⟩) Y.kn Y.kn) (mixW WS j) ∧ w2.grownBy wr none) (fun i _ => Y.kn - (intOf i).toNat)
  case atStart => exact ⟨0, Nat.zero_le _, rfl, O3.out, G3.out⟩
  case round =>
    obtain ⟨j, hj, rfl, ho, hg⟩ := hrel
    have O := Lib.hid ho
    have G := Lib.hid hg
    clear hg ho O3 G3
    by_cases hlt : j < Y.kn
    · obtain ⟨ad, had⟩ := HS.out.k.some (by omega)
      obtain ⟨e0, e1, e2⟩ := (HS.out.k.keep0SKy G.out).cells ad had j hlt
      have WJ := Lib.hid (WA.out j hlt)
      generalize (tb.ks.getD j tkz).h = xh at *
      generalize (tb.ks.getD j tkz).f = xf at *
      generalize (tb.ks.getD j tkz).k = xk at *
      have WDx := Lib.hid (fun (W : World) (q : w2.grownBy W none) => WD.out W q xh xf)
      rw [← WJ.out] at WDx
      have PS := Lib.hid (mixW_set WS j)
      have ML := Lib.hid (show Y.kn = (mixW WS j).length by rw [mixW_len, WL.out])
      generalize WS.getD j 0 = wj at *
      have i1 : (j : Int) < Y.kn := by omega
      have i0 : (0 : Int) ≤ (j : Int) := by omega
      have hw : IntKind.i64.wrap ((j : Int) + 1) = ((j + 1 : Nat) : Int) := by have := HN.out; rw [IntKind.wrap_i64]; omega
      rw [had]
      clear WJ
      have GK := Lib.hid (gb_alloc wr (.cells #[.int .i64 xh, .int .i64 xf, .int .i64 xk] 64) none)
      have BK := IsB.new wr 64 #[.int .i64 xh, .int .i64 xf, .int .i64 xk]
      replace BK := Lib.hid BK
      go_upto_region 5 with fail
      generalize wr.alloc (.cells #[.int .i64 xh, .int .i64 xf, .int .i64 xk] 64) = w5 at *
      obtain ⟨bk, hbk⟩ : ∃ b, b = wr.heap.size := ⟨_, rfl⟩
      have Lbk := Lib.hid (show wr.heap.size ≤ bk by rw [hbk]; exact Nat.le_refl _)
      rw [← hbk] at BK ⊢
      clear hbk
      have G5 := Lib.hid (gb_trans G.out GK.out)
      replace O := Lib.hid (O.out.keep0 GK.out)
      clear e0 e1 e2 GK Lbk G
      have c0 := (B1.out.keep0 G5.out).cell 0
      have c1 := (B1.out.keep0 G5.out).cell 1
      have c2 := (B1.out.keep0 G5.out).cell 2
      have c3 := (B1.out.keep0 G5.out).cell 3
      have c4 := (B1.out.keep0 G5.out).cell 4
      have c5 := (B1.out.keep0 G5.out).cell 5
      have c6 := (B1.out.keep0 G5.out).cell 6
      have c7 := (B1.out.keep0 G5.out).cell 7
      have c8 := (B1.out.keep0 G5.out).cell 8
      dsimp at c0 c1 c2 c3 c4 c5 c6 c7 c8
      have k0 := BK.out.cell 0
      have k1 := BK.out.cell 1
      dsimp at k0 k1
      go_wp2_with (go_at_call 69; refine (WDx.out w5 G5.out).mono ?_; clear WDx; rintro e w6 ⟨rfl, g6⟩; have O6 := Lib.hid (O.out.keep0 g6); have G6 := Lib.hid (gb_trans G5.out g6); have a0 := O6.out.at_ ML.out j (by rw [← ML.out]; exact hlt); have f0 := O6.out.free ML.out j; have OP := Lib.hid (O6.out.put ML.out j wj); clear g6)
      have OQ := OP.out
      rw [PS.out] at OQ
      have GP := Lib.hid (gb_put (i := j) (u := .int .i64 wj) G6.out LG.out)
      go_roundw
      case rel => exact ⟨j + 1, by omega, by first | rfl | (congr 1), OQ, GP.out⟩
      case measure => simp [intOf]; omega
    · have i1 : ¬ (j : Int) < Y.kn := by omega
      have CE := Lib.hid (show mixW WS j = WS by rw [show j = WS.length by rw [WL.out]; omega, mixW_all])
      go_wp2
      go_ret
      exact ⟨some ⟨g, 0, none⟩, Y.kn, by rw [WL.out] <;> rfl, by have q := O.out; rw [CE.out] at q; rw [WL.out]; exact q, gb_trans G2.out G.out⟩
set_option maxRecDepth 100000 in
set_option maxHeartbeats 4000000 in
theorem bits_any (w : World) (X : PX) (P : Pg) (hp : SP w X P) (Y : TX) (tb : Tbl) (h : ST w Y tb) (hn : Y.kn ≤ 1000) : Calls Try.prog 70 #[.agg #[.string X.nm, .slice X.ha X.hn X.hc, .slice X.ma X.mn X.mc, .slice X.ra X.rn X.rc, .slice X.aa X.an X.ac, .slice X.ta X.tn X.tc, .slice X.sa X.sn X.sc, .slice X.ca X.cn X.cc, .slice X.da X.dn X.dc], .agg #[.string tb.nm, .slice Y.ka Y.kn Y.kc, .slice Y.ca Y.cn Y.cc, .int .i64 tb.da, .slice Y.ra Y.rn Y.rc, .int .i64 tb.sz]] w (RetV (.int .i64 (sumI (wsT P.H P.M tb.ks))) w) := by
  have WD := Lib.hid (fun (W : World) (q : w.grownBy W none) => widths_any W X P (hp.keep0 q) Y tb (h.keep0 q) hn)
  have HN := Lib.hid hn
  have HL := Lib.hid (show tb.ks.length = Y.kn from h.k.len)
  obtain ⟨WS, hws⟩ : ∃ s, s = wsT P.H P.M tb.ks := ⟨_, rfl⟩
  have WL := Lib.hid (show WS.length = Y.kn by rw [hws, ws_len]; exact HL.out)
  have WR := Lib.hid (show ∀ x ∈ WS, 0 ≤ x ∧ x ≤ 32 by rw [hws]; exact ws_rng _ _ _)
  rw [← hws] at WD ⊢
  clear hws
  have G2 := Lib.hid (gb_trans (gb_alloc w (.cells #[.string X.nm, .slice X.ha X.hn X.hc, .slice X.ma X.mn X.mc, .slice X.ra X.rn X.rc, .slice X.aa X.an X.ac, .slice X.ta X.tn X.tc, .slice X.sa X.sn X.sc, .slice X.ca X.cn X.cc, .slice X.da X.dn X.dc] 31) none) (gb_alloc _ (.cells #[.string tb.nm, .slice Y.ka Y.kn Y.kc, .slice Y.ca Y.cn Y.cc, .int .i64 tb.da, .slice Y.ra Y.rn Y.rc, .int .i64 tb.sz] 60) none))
  have B1 := (IsB.new w 31 #[.string X.nm, .slice X.ha X.hn X.hc, .slice X.ma X.mn X.mc, .slice X.ra X.rn X.rc, .slice X.aa X.an X.ac, .slice X.ta X.tn X.tc, .slice X.sa X.sn X.sc, .slice X.ca X.cn X.cc, .slice X.da X.dn X.dc]).alloc (.cells #[.string tb.nm, .slice Y.ka Y.kn Y.kc, .slice Y.ca Y.cn Y.cc, .int .i64 tb.da, .slice Y.ra Y.rn Y.rc, .int .i64 tb.sz] 60)
  have B2 := IsB.new (w.alloc (.cells #[.string X.nm, .slice X.ha X.hn X.hc, .slice X.ma X.mn X.mc, .slice X.ra X.rn X.rc, .slice X.aa X.an X.ac, .slice X.ta X.tn X.tc, .slice X.sa X.sn X.sc, .slice X.ca X.cn X.cc, .slice X.da X.dn X.dc] 31)) 60 #[.string tb.nm, .slice Y.ka Y.kn Y.kc, .slice Y.ca Y.cn Y.cc, .int .i64 tb.da, .slice Y.ra Y.rn Y.rc, .int .i64 tb.sz]
  simp only [sz_al] at B2
  replace B1 := Lib.hid B1
  replace B2 := Lib.hid B2
  clear h hp hn
  go_enter Try.func70, Try.ntmps70
  go_upto_region 1 with fail
  generalize (w.alloc (.cells #[.string X.nm, .slice X.ha X.hn X.hc, .slice X.ma X.mn X.mc, .slice X.ra X.rn X.rc, .slice X.aa X.an X.ac, .slice X.ta X.tn X.tc, .slice X.sa X.sn X.sc, .slice X.ca X.cn X.cc, .slice X.da X.dn X.dc] 31)).alloc (.cells #[.string tb.nm, .slice Y.ka Y.kn Y.kc, .slice Y.ca Y.cn Y.cc, .int .i64 tb.da, .slice Y.ra Y.rn Y.rc, .int .i64 tb.sz] 60) = w2 at *
  obtain ⟨bx, hbx⟩ : ∃ b, b = w.heap.size := ⟨_, rfl⟩
  have Lbx := Lib.hid (show w.heap.size ≤ bx by rw [hbx]; exact Nat.le_refl _)
  rw [← hbx] at B1 B2 ⊢
  clear hbx
  have c0 := (B1.out.keep0 (gb_refl _ _)).cell 0
  have c1 := (B1.out.keep0 (gb_refl _ _)).cell 1
  have c2 := (B1.out.keep0 (gb_refl _ _)).cell 2
  have c3 := (B1.out.keep0 (gb_refl _ _)).cell 3
  have c4 := (B1.out.keep0 (gb_refl _ _)).cell 4
  have c5 := (B1.out.keep0 (gb_refl _ _)).cell 5
  have c6 := (B1.out.keep0 (gb_refl _ _)).cell 6
  have c7 := (B1.out.keep0 (gb_refl _ _)).cell 7
  have c8 := (B1.out.keep0 (gb_refl _ _)).cell 8
  dsimp at c0 c1 c2 c3 c4 c5 c6 c7 c8
  have d0 := (B2.out.keep0 (gb_refl _ _)).cell 0
  have d1 := (B2.out.keep0 (gb_refl _ _)).cell 1
  have d2 := (B2.out.keep0 (gb_refl _ _)).cell 2
  have d3 := (B2.out.keep0 (gb_refl _ _)).cell 3
  have d4 := (B2.out.keep0 (gb_refl _ _)).cell 4
  have d5 := (B2.out.keep0 (gb_refl _ _)).cell 5
  dsimp at d0 d1 d2 d3 d4 d5
  go_upto_region 2 with fail
  go_wp2_with (go_at_call 71; refine (WD.out w2 G2.out).mono ?_; rintro e w3 ⟨a, c, rfl, o3, g3⟩; have S3 := Lib.hid (o3.si rfl (fun x hx => by have := WR.out x hx; omega)); have G3 := Lib.hid g3; clear o3 g3)
  rw [WL.out] at S3 ⊢
  clear c0 c1 c2 c3 c4 c5 c6 c7 c8 d0 d1 d2 d3 d4 d5
  go_loopw [5, 12] (fun n i wr => ∃ j : Nat, j ≤ Y.kn ∧ i = .int .i64 j ∧ n = .int .i64 (sumI (WS.take j)) ∧ w3.grownBy wr none) (fun _ i _ => Y.kn - (intOf i).toNat)
  case atStart => exact ⟨0, Nat.zero_le _, rfl, rfl, gb_refl _ _⟩
  case round =>
    obtain ⟨j, hj, rfl, rfl, hg⟩ := hrel
    have G := Lib.hid hg
    clear hg
    by_cases hlt : j < Y.kn
    · obtain ⟨ad, had⟩ := S3.out.some (by omega)
      have e0 := (S3.out.keep0 G.out).cells ad had j hlt
      have SJ := Lib.hid (sum_take WS j (by rw [WL.out]; exact hlt))
      have R1 := Lib.hid (sum_rng (WS.take (j + 1)) (fun x hx => WR.out x (List.mem_of_mem_take hx)))
      have L1 := Lib.hid (show (WS.take (j + 1)).length ≤ 1000 by rw [List.length_take]; have := HN.out; have := WL.out; omega)
      rw [SJ.out] at R1
      generalize WS.getD j 0 = wj at *
      obtain ⟨s, hs⟩ : ∃ s, s = sumI (WS.take j) := ⟨_, rfl⟩
      rw [← hs] at R1 SJ ⊢
      have i1 : (j : Int) < Y.kn := by omega
      have i0 : (0 : Int) ≤ (j : Int) := by omega
      have hw : IntKind.i64.wrap ((j : Int) + 1) = ((j + 1 : Nat) : Int) := by have := HN.out; rw [IntKind.wrap_i64]; omega
      have hw2 : IntKind.i64.wrap (s + wj) = s + wj := by have := R1.out; have := L1.out; rw [IntKind.wrap_i64]; omega
      rw [had]
      clear hs
      go_wp2
      go_roundw
      case rel => exact ⟨j + 1, by omega, by first | rfl | (congr 1), by rw [SJ.out], G.out⟩
      case measure => simp [intOf]; omega
    · have i1 : ¬ (j : Int) < Y.kn := by omega
      have CE := Lib.hid (show WS.take j = WS by rw [List.take_of_length_le]; rw [WL.out]; omega)
      go_wp2
      go_ret
      exact ⟨by rw [CE.out] <;> rfl, gb_trans G2.out (gb_trans G3.out G.out)⟩
end Go.Proofs.Ytgdefahnmgonlaa
