/- Table: the words for keys and actions, and the small functions of the program; no condition but sizes. -/
import Derived.Test.YtgdefahnmgonlaaTpB
import Derived.Test.YtgdefahnmgonlaaExC
import Derived.Test.YtgdefahnmgonlaaHdI
import Derived.Test.YtgdefahnmgonlaaBvB
namespace Go.Proofs.Ytgdefahnmgonlaa
open Go.RowKit
set_option linter.unusedVariables false
/-- Where a table's lists lie. -/
structure TX where
  (ka ca ra : Option Addr)
  (kn kc cn cc rn rc : Nat)
structure ST (w : World) (Y : TX) (tb : Tbl) : Prop where
  k : SKy w Y.ka Y.kn Y.kc tb.ks
  c : SI w Y.ca Y.cn Y.cc tb.acs
  r : SU w Y.ra Y.rn Y.rc tb.ar
  d : -9223372036854775808 ≤ tb.da ∧ tb.da ≤ 9223372036854775807
theorem ST.keep0 {w w2 : World} {Y : TX} {tb : Tbl} (h : ST w Y tb) (k : w.grownBy w2 none) : ST w2 Y tb := ⟨h.k.keep0SKy k, h.c.keep0 k, h.r.keep0 k, h.d⟩
/-- How many keys are of a kind. -/
def cntK (k : Int) (ks : List TKy) : Nat := ks.countP fun x => x.k == k
def wsT (H : List (ByteArray × List Fld)) (M : List Fld) (ks : List TKy) : List Int := ks.map fun x => widE H M x.h x.f
def sumI (l : List Int) : Int := l.foldr (· + ·) 0
theorem sumI_nil : sumI [] = 0 := rfl
theorem sumI_app (l m : List Int) : sumI (l ++ m) = sumI l + sumI m := by
  induction l with
  | nil => simp [sumI]
  | cons a l ih => show a + sumI (l ++ m) = a + sumI l + sumI m; rw [ih]; omega
theorem take_one {α : Type} (z : α) (l : List α) (j : Nat) (h : j < l.length) : l.take (j + 1) = l.take j ++ [l.getD j z] := by
  rw [List.take_add_one, List.getElem?_eq_getElem h]
  simp [List.getD_eq_getElem?_getD, h]
theorem cnt_take (k : Int) (ks : List TKy) (j : Nat) (h : j < ks.length) : cntK k (ks.take (j + 1)) = cntK k (ks.take j) + (if (ks.getD j tkz).k = k then 1 else 0) := by
  rw [take_one tkz ks j h]
  unfold cntK
  rw [List.countP_append]
  simp [List.countP_cons]
theorem cnt_le (k : Int) (ks : List TKy) (j : Nat) : cntK k (ks.take j) ≤ ks.length := Nat.le_trans (List.countP_le_length) (by rw [List.length_take]; omega)
def declE (tb : Tbl) : Int := if Lx.isId (Lx.bytesI tb.nm) = true then (if 6 < tb.ks.length ∨ 16 < tb.acs.length then 12 else if tb.sz < 1 ∨ 256 < tb.sz then 9 else 0) else 6
def keyE (H : List (ByteArray × List Fld)) (M : List Fld) (x : TKy) : Int := if widE H M x.h x.f = 0 then 8 else if x.k = 1 ∨ x.k = 2 ∨ x.k = 3 then 0 else 11
set_option maxRecDepth 100000 in
set_option maxHeartbeats 4000000 in
theorem tisx_any (w : World) (i : Int) (n : Nat) : Calls Try.prog 43 #[.int .i64 i, .int .i64 (n : Int)] w (RetS (.bool (isX i n)) w) := by
  have HX := Lib.hid (isX_iff i n)
  by_cases h0 : 0 ≤ i
  · by_cases h1 : i < (n : Int)
    · have e := Lib.hid (HX.out.2 ⟨h0, h1⟩)
      go_enter Try.func43, Try.ntmps43
      go_wp2
      go_ret
      exact ⟨by rw [e.out] <;> rfl, rfl⟩
    · have e := Lib.hid (show isX i n = false by cases q : isX i n with | false => rfl | true => exact absurd (HX.out.1 q).2 h1)
      go_enter Try.func43, Try.ntmps43
      go_wp2
      go_ret
      exact ⟨by rw [e.out] <;> rfl, rfl⟩
  · have e := Lib.hid (show isX i n = false by cases q : isX i n with | false => rfl | true => exact absurd (HX.out.1 q).1 h0)
    go_enter Try.func43, Try.ntmps43
    go_wp2
    go_ret
    exact ⟨by rw [e.out] <;> rfl, rfl⟩
set_option maxRecDepth 100000 in
set_option maxHeartbeats 4000000 in
theorem aisx_any (w : World) (i : Int) (n : Nat) : Calls Try.prog 74 #[.int .i64 i, .int .i64 (n : Int)] w (RetS (.bool (isX i n)) w) := by
  have HX := Lib.hid (isX_iff i n)
  by_cases h0 : 0 ≤ i
  · by_cases h1 : i < (n : Int)
    · have e := Lib.hid (HX.out.2 ⟨h0, h1⟩)
      go_enter Try.func74, Try.ntmps74
      go_wp2
      go_ret
      exact ⟨by rw [e.out] <;> rfl, rfl⟩
    · have e := Lib.hid (show isX i n = false by cases q : isX i n with | false => rfl | true => exact absurd (HX.out.1 q).2 h1)
      go_enter Try.func74, Try.ntmps74
      go_wp2
      go_ret
      exact ⟨by rw [e.out] <;> rfl, rfl⟩
  · have e := Lib.hid (show isX i n = false by cases q : isX i n with | false => rfl | true => exact absurd (HX.out.1 q).1 h0)
    go_enter Try.func74, Try.ntmps74
    go_wp2
    go_ret
    exact ⟨by rw [e.out] <;> rfl, rfl⟩
set_option maxRecDepth 100000 in
set_option maxHeartbeats 4000000 in
theorem hasact_any (w : World) (X : PX) (i : Int) : Calls Try.prog 53 #[.agg #[.string X.nm, .slice X.ha X.hn X.hc, .slice X.ma X.mn X.mc, .slice X.ra X.rn X.rc, .slice X.aa X.an X.ac, .slice X.ta X.tn X.tc, .slice X.sa X.sn X.sc, .slice X.ca X.cn X.cc, .slice X.da X.dn X.dc], .int .i64 i] w (RetV (.bool (isX i X.an)) w) := by
  have G2 := Lib.hid (gb_alloc w (.cells #[.string X.nm, .slice X.ha X.hn X.hc, .slice X.ma X.mn X.mc, .slice X.ra X.rn X.rc, .slice X.aa X.an X.ac, .slice X.ta X.tn X.tc, .slice X.sa X.sn X.sc, .slice X.ca X.cn X.cc, .slice X.da X.dn X.dc] 31) none)
  have B1 := IsB.new w 31 #[.string X.nm, .slice X.ha X.hn X.hc, .slice X.ma X.mn X.mc, .slice X.ra X.rn X.rc, .slice X.aa X.an X.ac, .slice X.ta X.tn X.tc, .slice X.sa X.sn X.sc, .slice X.ca X.cn X.cc, .slice X.da X.dn X.dc]
  replace B1 := Lib.hid B1
  go_enter Try.func53, Try.ntmps53
  go_upto_region 1 with fail
  generalize w.alloc (.cells #[.string X.nm, .slice X.ha X.hn X.hc, .slice X.ma X.mn X.mc, .slice X.ra X.rn X.rc, .slice X.aa X.an X.ac, .slice X.ta X.tn X.tc, .slice X.sa X.sn X.sc, .slice X.ca X.cn X.cc, .slice X.da X.dn X.dc] 31) = w2 at *
  obtain ⟨bx, hbx⟩ : ∃ b, b = w.heap.size := ⟨_, rfl⟩
  have Lbx := Lib.hid (show w.heap.size ≤ bx by rw [hbx]; exact Nat.le_refl _)
  rw [← hbx] at B1 ⊢
  clear hbx
  have c0 := B1.out.cell 0
  have c1 := B1.out.cell 1
  have c2 := B1.out.cell 2
  have c3 := B1.out.cell 3
  have c4 := B1.out.cell 4
  have c5 := B1.out.cell 5
  have c6 := B1.out.cell 6
  have c7 := B1.out.cell 7
  have c8 := B1.out.cell 8
  dsimp at c0 c1 c2 c3 c4 c5 c6 c7 c8
  go_wp2_with fail
  refine (aisx_any w2 i X.an).mono ?_
  rintro e w3 ⟨rfl, rfl⟩
  go_wp2
  go_ret
  exact ⟨rfl, G2.out⟩
set_option maxRecDepth 100000 in
set_option maxHeartbeats 4000000 in
theorem cnt_any (w : World) (Y : TX) (tb : Tbl) (h : ST w Y tb) (hn : Y.kn ≤ 1000) (k : Int) : Calls Try.prog 51 #[.agg #[.string tb.nm, .slice Y.ka Y.kn Y.kc, .slice Y.ca Y.cn Y.cc, .int .i64 tb.da, .slice Y.ra Y.rn Y.rc, .int .i64 tb.sz], .int .i64 k] w (RetV (.int .i64 (cntK k tb.ks : Nat)) w) := by
  have HS := Lib.hid h
  have HN := Lib.hid hn
  have G2 := Lib.hid (gb_alloc w (.cells #[.string tb.nm, .slice Y.ka Y.kn Y.kc, .slice Y.ca Y.cn Y.cc, .int .i64 tb.da, .slice Y.ra Y.rn Y.rc, .int .i64 tb.sz] 60) none)
  have B1 := IsB.new w 60 #[.string tb.nm, .slice Y.ka Y.kn Y.kc, .slice Y.ca Y.cn Y.cc, .int .i64 tb.da, .slice Y.ra Y.rn Y.rc, .int .i64 tb.sz]
  replace B1 := Lib.hid B1
  clear h hn
  go_enter Try.func51, Try.ntmps51
  go_upto_region 1 with fail
  generalize w.alloc (.cells #[.string tb.nm, .slice Y.ka Y.kn Y.kc, .slice Y.ca Y.cn Y.cc, .int .i64 tb.da, .slice Y.ra Y.rn Y.rc, .int .i64 tb.sz] 60) = w2 at *
  obtain ⟨bx, hbx⟩ : ∃ b, b = w.heap.size := ⟨_, rfl⟩
  have Lbx := Lib.hid (show w.heap.size ≤ bx by rw [hbx]; exact Nat.le_refl _)
  rw [← hbx] at B1 ⊢
  clear hbx
  replace HS := Lib.hid (HS.out.keep0 G2.out)
  have c0 := B1.out.cell 0
  have c1 := B1.out.cell 1
  have c2 := B1.out.cell 2
  have c3 := B1.out.cell 3
  have c4 := B1.out.cell 4
  have c5 := B1.out.cell 5
  dsimp at c0 c1 c2 c3 c4 c5
  go_wp2
  go_loopw [5, 11] (fun n i wr => ∃ j : Nat, j ≤ Y.kn ∧ i = .int .i64 j ∧ n = .int .i64 (cntK k (tb.ks.take j) : Nat) ∧ w2.grownBy wr none) (fun _ i _ => Y.kn - (intOf i).toNat)
  case atStart => exact ⟨0, Nat.zero_le _, rfl, rfl, gb_refl _ _⟩
  case round =>
    obtain ⟨j, hj, rfl, rfl, hg⟩ := hrel
    have G := Lib.hid hg
    clear hg c0 c1 c2 c3 c4 c5
    have HL := Lib.hid (show tb.ks.length = Y.kn from HS.out.k.len)
    by_cases hlt : j < Y.kn
    · obtain ⟨ad, had⟩ := HS.out.k.some (by omega)
      obtain ⟨e0, e1, e2⟩ := (HS.out.k.keep0SKy G.out).cells ad had j hlt
      have CT := Lib.hid (cnt_take k tb.ks j (by rw [HL.out]; exact hlt))
      have CL := Lib.hid (cnt_le k tb.ks j)
      generalize (tb.ks.getD j tkz).h = xh at *
      generalize (tb.ks.getD j tkz).f = xf at *
      generalize (tb.ks.getD j tkz).k = xk at *
      obtain ⟨cn, hcn⟩ : ∃ c, c = cntK k (tb.ks.take j) := ⟨_, rfl⟩
      rw [← hcn] at CT CL ⊢
      have i1 : (j : Int) < Y.kn := by omega
      have i0 : (0 : Int) ≤ (j : Int) := by omega
      have hw : IntKind.i64.wrap ((j : Int) + 1) = ((j + 1 : Nat) : Int) := by have := HN.out; rw [IntKind.wrap_i64]; omega
      have hw2 : IntKind.i64.wrap ((cn : Int) + 1) = ((cn + 1 : Nat) : Int) := by have := HN.out; have := CL.out; have := HL.out; rw [IntKind.wrap_i64]; omega
      rw [had]
      clear hcn hlt
      have GK := Lib.hid (gb_alloc wr (.cells #[.int .i64 xh, .int .i64 xf, .int .i64 xk] 64) none)
      have BK := IsB.new wr 64 #[.int .i64 xh, .int .i64 xf, .int .i64 xk]
      replace BK := Lib.hid BK
      go_upto_region 5 with fail
      generalize wr.alloc (.cells #[.int .i64 xh, .int .i64 xf, .int .i64 xk] 64) = w5 at *
      obtain ⟨bk, hbk⟩ : ∃ b, b = wr.heap.size := ⟨_, rfl⟩
      have Lbk := Lib.hid (show wr.heap.size ≤ bk by rw [hbk]; exact Nat.le_refl _)
      rw [← hbk] at BK ⊢
      clear hbk
      have k2 := BK.out.cell 2
      dsimp at k2
      clear e0 e1 e2
      by_cases hk : xk = k
      · have CE := Lib.hid (show cntK k (tb.ks.take (j + 1)) = cn + 1 by rw [CT.out, if_pos hk])
        subst hk
        go_wp2
        go_roundw
        case rel => exact ⟨j + 1, by omega, by first | rfl | (congr 1), by rw [CE.out]; simp, gb_trans G.out GK.out⟩
        case measure => simp [intOf]; omega
      · have CE := Lib.hid (show cntK k (tb.ks.take (j + 1)) = cn by rw [CT.out, if_neg hk]; rfl)
        have hk2 : (xk == k) = false := by simp [hk]
        go_wp2
        go_roundw
        case rel => exact ⟨j + 1, by omega, by first | rfl | (congr 1), by rw [CE.out], gb_trans G.out GK.out⟩
        case measure => simp [intOf]; omega
    · have i1 : ¬ (j : Int) < Y.kn := by omega
      have CE := Lib.hid (show tb.ks.take j = tb.ks by rw [List.take_of_length_le]; rw [HL.out]; omega)
      go_wp2
      go_ret
      exact ⟨by rw [CE.out] <;> rfl, gb_trans G2.out G.out⟩
set_option maxRecDepth 100000 in
set_option maxHeartbeats 4000000 in
theorem decl17_any (w : World) (Y : TX) (tb : Tbl) (h : ST w Y tb) (hs : tb.nm.size ≤ 100000) : Calls Try.prog 44 #[.agg #[.string tb.nm, .slice Y.ka Y.kn Y.kc, .slice Y.ca Y.cn Y.cc, .int .i64 tb.da, .slice Y.ra Y.rn Y.rc, .int .i64 tb.sz]] w (RetV (.int .i64 (declE tb)) w) := by
  have HS := Lib.hid h
  have LK := Lib.hid (show tb.ks.length = Y.kn from h.k.len)
  have LC := Lib.hid (show tb.acs.length = Y.cn from h.c.len)
  have ID := Lib.hid (fun (W : World) => Lx.isIdent_any W (Lx.bytesI tb.nm) (Lx.bytesI_range tb.nm) (by rw [Lx.bytesI_len]; omega))
  rw [Lx.bytesI_str] at ID
  obtain ⟨DE, hde⟩ : ∃ d, d = declE tb := ⟨_, rfl⟩
  have HD := Lib.hid hde
  unfold declE at HD
  rw [LK.out, LC.out] at HD
  rw [← hde]
  have G2 := Lib.hid (gb_alloc w (.cells #[.string tb.nm, .slice Y.ka Y.kn Y.kc, .slice Y.ca Y.cn Y.cc, .int .i64 tb.da, .slice Y.ra Y.rn Y.rc, .int .i64 tb.sz] 60) none)
  have B1 := IsB.new w 60 #[.string tb.nm, .slice Y.ka Y.kn Y.kc, .slice Y.ca Y.cn Y.cc, .int .i64 tb.da, .slice Y.ra Y.rn Y.rc, .int .i64 tb.sz]
  replace B1 := Lib.hid B1
  clear h hs hde
  go_enter Try.func44, Try.ntmps44
  go_upto_region 1 with fail
  generalize w.alloc (.cells #[.string tb.nm, .slice Y.ka Y.kn Y.kc, .slice Y.ca Y.cn Y.cc, .int .i64 tb.da, .slice Y.ra Y.rn Y.rc, .int .i64 tb.sz] 60) = w2 at *
  obtain ⟨bx, hbx⟩ : ∃ b, b = w.heap.size := ⟨_, rfl⟩
  have Lbx := Lib.hid (show w.heap.size ≤ bx by rw [hbx]; exact Nat.le_refl _)
  rw [← hbx] at B1 ⊢
  clear hbx
  have c0 := B1.out.cell 0
  have c1 := B1.out.cell 1
  have c2 := B1.out.cell 2
  have c3 := B1.out.cell 3
  have c4 := B1.out.cell 4
  have c5 := B1.out.cell 5
  dsimp at c0 c1 c2 c3 c4 c5
  cases hid : Lx.isId (Lx.bytesI tb.nm)
  · rw [hid] at HD ID
    have E := Lib.hid (show DE = 6 by rw [HD.out]; simp)
    clear hid
    go_wp2_with fail
    refine (ID.out w2).mono ?_
    rintro e w3 ⟨rfl, rfl⟩
    go_wp2
    go_ret
    exact ⟨by rw [E.out] <;> rfl, G2.out⟩
  · rw [hid] at HD ID
    rw [if_pos rfl] at HD
    clear hid
    by_cases k1 : (6 : Int) < Y.kn
    · have E := Lib.hid (show DE = 12 by rw [HD.out, if_pos (.inl (by omega))])
      go_wp2_with fail
      refine (ID.out w2).mono ?_
      rintro e w3 ⟨rfl, rfl⟩
      go_wp2
      go_ret
      exact ⟨by rw [E.out] <;> rfl, G2.out⟩
    · by_cases k2 : (16 : Int) < Y.cn
      · have E := Lib.hid (show DE = 12 by rw [HD.out, if_pos (.inr (by omega))])
        go_wp2_with fail
        refine (ID.out w2).mono ?_
        rintro e w3 ⟨rfl, rfl⟩
        go_wp2
        go_ret
        exact ⟨by rw [E.out] <;> rfl, G2.out⟩
      · rw [if_neg (by omega)] at HD
        by_cases k3 : tb.sz < 1
        · have E := Lib.hid (show DE = 9 by rw [HD.out, if_pos (.inl k3)])
          go_wp2_with fail
          refine (ID.out w2).mono ?_
          rintro e w3 ⟨rfl, rfl⟩
          go_wp2
          go_ret
          exact ⟨by rw [E.out] <;> rfl, G2.out⟩
        · by_cases k4 : (256 : Int) < tb.sz
          · have E := Lib.hid (show DE = 9 by rw [HD.out, if_pos (.inr k4)])
            go_wp2_with fail
            refine (ID.out w2).mono ?_
            rintro e w3 ⟨rfl, rfl⟩
            go_wp2
            go_ret
            exact ⟨by rw [E.out] <;> rfl, G2.out⟩
          · have E := Lib.hid (show DE = 0 by rw [HD.out, if_neg (by omega)])
            go_wp2_with fail
            refine (ID.out w2).mono ?_
            rintro e w3 ⟨rfl, rfl⟩
            go_wp2
            go_ret
            exact ⟨by rw [E.out] <;> rfl, G2.out⟩
set_option maxRecDepth 100000 in
set_option maxHeartbeats 4000000 in
theorem key17_any (w : World) (X : PX) (P : Pg) (hp : SP w X P) (x : TKy) : Calls Try.prog 45 #[.agg #[.string X.nm, .slice X.ha X.hn X.hc, .slice X.ma X.mn X.mc, .slice X.ra X.rn X.rc, .slice X.aa X.an X.ac, .slice X.ta X.tn X.tc, .slice X.sa X.sn X.sc, .slice X.ca X.cn X.cc, .slice X.da X.dn X.dc], .agg #[.int .i64 x.h, .int .i64 x.f, .int .i64 x.k]] w (RetV (.int .i64 (keyE P.H P.M x)) w) := by
  have WD := Lib.hid (fun (W : World) (q : w.grownBy W none) => ewid_any W (.string X.nm) (.slice X.ra X.rn X.rc) (.slice X.aa X.an X.ac) (.slice X.ta X.tn X.tc) (.slice X.sa X.sn X.sc) (.slice X.ca X.cn X.cc) (.slice X.da X.dn X.dc) X.ha X.ma X.hn X.hc X.mn X.mc P.H P.M (hp.h.keep0 q) (hp.m.keep0 q) x.h x.f)
  obtain ⟨DE, hde⟩ : ∃ d, d = keyE P.H P.M x := ⟨_, rfl⟩
  have HD := Lib.hid hde
  unfold keyE at HD
  rw [← hde]
  generalize widE P.H P.M x.h x.f = wd at *
  have G2 := Lib.hid (gb_trans (gb_alloc w (.cells #[.string X.nm, .slice X.ha X.hn X.hc, .slice X.ma X.mn X.mc, .slice X.ra X.rn X.rc, .slice X.aa X.an X.ac, .slice X.ta X.tn X.tc, .slice X.sa X.sn X.sc, .slice X.ca X.cn X.cc, .slice X.da X.dn X.dc] 31) none) (gb_alloc _ (.cells #[.int .i64 x.h, .int .i64 x.f, .int .i64 x.k] 64) none))
  have B1 := (IsB.new w 31 #[.string X.nm, .slice X.ha X.hn X.hc, .slice X.ma X.mn X.mc, .slice X.ra X.rn X.rc, .slice X.aa X.an X.ac, .slice X.ta X.tn X.tc, .slice X.sa X.sn X.sc, .slice X.ca X.cn X.cc, .slice X.da X.dn X.dc]).alloc (.cells #[.int .i64 x.h, .int .i64 x.f, .int .i64 x.k] 64)
  have B2 := IsB.new (w.alloc (.cells #[.string X.nm, .slice X.ha X.hn X.hc, .slice X.ma X.mn X.mc, .slice X.ra X.rn X.rc, .slice X.aa X.an X.ac, .slice X.ta X.tn X.tc, .slice X.sa X.sn X.sc, .slice X.ca X.cn X.cc, .slice X.da X.dn X.dc] 31)) 64 #[.int .i64 x.h, .int .i64 x.f, .int .i64 x.k]
  simp only [sz_al] at B2
  replace B1 := Lib.hid B1
  replace B2 := Lib.hid B2
  clear hp hde
  go_enter Try.func45, Try.ntmps45
  go_upto_region 1 with fail
  generalize (w.alloc (.cells #[.string X.nm, .slice X.ha X.hn X.hc, .slice X.ma X.mn X.mc, .slice X.ra X.rn X.rc, .slice X.aa X.an X.ac, .slice X.ta X.tn X.tc, .slice X.sa X.sn X.sc, .slice X.ca X.cn X.cc, .slice X.da X.dn X.dc] 31)).alloc (.cells #[.int .i64 x.h, .int .i64 x.f, .int .i64 x.k] 64) = w2 at *
  obtain ⟨bx, hbx⟩ : ∃ b, b = w.heap.size := ⟨_, rfl⟩
  have Lbx := Lib.hid (show w.heap.size ≤ bx by rw [hbx]; exact Nat.le_refl _)
  rw [← hbx] at B1 B2 ⊢
  clear hbx
  replace WD := Lib.hid (fun (W : World) (q : w2.grownBy W none) => WD.out W (gb_trans G2.out q))
  unfold RetV at WD
  have c0 := B1.out.cell 0
  have c1 := B1.out.cell 1
  have c2 := B1.out.cell 2
  have c3 := B1.out.cell 3
  have c4 := B1.out.cell 4
  have c5 := B1.out.cell 5
  have c6 := B1.out.cell 6
  have c7 := B1.out.cell 7
  have c8 := B1.out.cell 8
  dsimp at c0 c1 c2 c3 c4 c5 c6 c7 c8
  have k0 := B2.out.cell 0
  have k1 := B2.out.cell 1
  dsimp at k0 k1
  by_cases h0 : wd = 0
  · subst h0
    have E := Lib.hid (show DE = 8 by rw [HD.out]; simp)
    go_wp2_with fail
    refine (WD.out w2 (gb_refl _ _)).mono ?_
    rintro e w3 ⟨rfl, g⟩
    have k2 := (B2.out.keep0 g).cell 2
    dsimp at k2
    have G3 := Lib.hid (gb_trans G2.out g)
    clear g
    go_wp2
    go_ret
    exact ⟨by rw [E.out] <;> rfl, G3.out⟩
  · rw [if_neg h0] at HD
    have h1 : (wd == 0) = false := by simp [h0]
    by_cases n1 : x.k = 1
    · have E := Lib.hid (show DE = 0 by rw [HD.out, if_pos (.inl n1)])
      rw [n1] at B2
      go_wp2_with fail
      refine (WD.out w2 (gb_refl _ _)).mono ?_
      rintro e w3 ⟨rfl, g⟩
      have k2 := (B2.out.keep0 g).cell 2
      dsimp at k2
      have G3 := Lib.hid (gb_trans G2.out g)
      clear g
      go_wp2
      go_ret
      exact ⟨by rw [E.out] <;> rfl, G3.out⟩
    · have m1 : (x.k == 1) = false := by simp [n1]
      by_cases n2 : x.k = 2
      · have E := Lib.hid (show DE = 0 by rw [HD.out, if_pos (.inr (.inl n2))])
        rw [n2] at B2
        go_wp2_with fail
        refine (WD.out w2 (gb_refl _ _)).mono ?_
        rintro e w3 ⟨rfl, g⟩
        have k2 := (B2.out.keep0 g).cell 2
        dsimp at k2
        have G3 := Lib.hid (gb_trans G2.out g)
        clear g
        go_wp2
        go_ret
        exact ⟨by rw [E.out] <;> rfl, G3.out⟩
      · have m2 : (x.k == 2) = false := by simp [n2]
        by_cases n3 : x.k = 3
        · have E := Lib.hid (show DE = 0 by rw [HD.out, if_pos (.inr (.inr n3))])
          rw [n3] at B2
          go_wp2_with fail
          refine (WD.out w2 (gb_refl _ _)).mono ?_
          rintro e w3 ⟨rfl, g⟩
          have k2 := (B2.out.keep0 g).cell 2
          dsimp at k2
          have G3 := Lib.hid (gb_trans G2.out g)
          clear g
          go_wp2
          go_ret
          exact ⟨by rw [E.out] <;> rfl, G3.out⟩
        · have m3 : (x.k == 3) = false := by simp [n3]
          have E := Lib.hid (show DE = 11 by rw [HD.out, if_neg (by rintro (q | q | q); exact n1 q; exact n2 q; exact n3 q)])
          go_wp2_with fail
          refine (WD.out w2 (gb_refl _ _)).mono ?_
          rintro e w3 ⟨rfl, g⟩
          have k2 := (B2.out.keep0 g).cell 2
          dsimp at k2
          have G3 := Lib.hid (gb_trans G2.out g)
          clear g
          go_wp2
          go_ret
          exact ⟨by rw [E.out] <;> rfl, G3.out⟩
end Go.Proofs.Ytgdefahnmgonlaa
