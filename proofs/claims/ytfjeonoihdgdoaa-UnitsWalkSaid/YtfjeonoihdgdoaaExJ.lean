/- Expr: Check, Eval and End; no condition but, for End, that the nodes are few. -/
import Derived.Test.YtfjeonoihdgdoaaExI
import Derived.Test.YtfjeonoihdgdoaaExQ
namespace Go.Proofs.Ytfjeonoihdgdoaa
open Go.RowKit
set_option linter.unusedVariables false
theorem sn_drop {w : World} {ad : Addr} {n c : Nat} {L : List Nd} (h : SN w (some ad) n c L) (j : Nat) (hj : j ≤ n) : SN w (some (ad.add (j * 3))) (n - j) (c - j) (L.drop j) := by
  refine ⟨by rw [List.length_drop, h.len], (fun e => by cases e), by have := h.cap; omega, fun ad2 e t ht => ?_, fun x hx => h.rng x (List.mem_of_mem_drop hx)⟩
  injection e with e
  subst e
  have k := h.cells ad rfl (j + t) (by omega)
  have e3 : (ad.add (j * 3)).add (t * 3) = ad.add ((j + t) * 3) := by rw [Addr.add_add]; congr 1; omega
  have e4 : (L.drop j).getD t nz = L.getD (j + t) nz := by rw [List.getD_eq_getElem?_getD, List.getD_eq_getElem?_getD, List.getElem?_drop]
  rw [e3, e4]
  exact k
def RetK (r : Except Int Tm) (w : World) (g : Nat) (e : Ending) (w' : World) : Prop := w.grownBy w' (some g) ∧ e = .returned (.tuple #[.agg #[.int .i64 (rW r), .int .u32 (rV r)], .int .i64 (rE r)])
set_option maxRecDepth 100000 in
set_option maxHeartbeats 8000000 in
theorem kwhole_any (w : World) (g : Nat) (X : KX) (C : Cx) (N : List Nd) (W0 : World) (hB : IsB w g 85 (kc X 0)) (hC : CR W0 X C N) (hG : W0.grownBy w none) (hg : W0.heap.size ≤ g) :
    Calls Try.prog 34 #[.pointer (some ⟨g, 0, none⟩)] w (RetK (wholeT C N) w g) := by
  have BK := Lib.hid hB
  have CC := Lib.hid hC
  have NL := Lib.hid hC.nd.len
  have ncap := hC.nd.cap
  have GK := Lib.hid hG
  have HGs := Lib.hid hg
  have glt := BK.out.lt
  obtain ⟨P, hP⟩ : ∃ P, P = w.heap.size := ⟨_, rfl⟩
  obtain ⟨W1, hW1⟩ : ∃ W1, W1 = w.alloc (.cells #[.int .i64 0, .int .u32 0] 88) := ⟨_, rfl⟩
  have BP := Lib.hid (show IsB W1 P 88 #[.int .i64 0, .int .u32 0] from by rw [hW1, hP]; exact isb1 _ _ _)
  have G1 := Lib.hid (show w.grownBy W1 none from by rw [hW1]; exact gb_al (gb_refl _ _))
  have hgP : g < P := by omega
  have hPw := Lib.hid hP
  have K1 := BK.out.keep0 G1.out
  have wc0 : W1.cell? ⟨g, 0, none⟩ = some (.slice X.na X.nn X.nc) := (K1).cell 0
  clear hB hC hG hg
  go_enter Try.func34, Try.ntmps34
  go_upto_region 1 with fail
  rw [← hW1, ← hP]
  clear hW1 hP
  by_cases h24 : 24 < X.nn
  · have HS := Lib.hid (show wholeT C N = .error 12 by unfold wholeT; rw [if_pos (by rw [NL.out]; exact h24)])
    have i24 : (24 : Int) < (X.nn : Int) := by omega
    have k00 := BP.out.cell 0
    have k01 := BP.out.cell 1
    have f00 := BP.out.free 0
    have f01 := BP.out.free 1
    simp at k00 k01
    go_wp2
    (try simp only [Exit.inBlock, Exit.then])
    refine bodyPost_ret (v := (.tuple #[.agg #[.int .i64 0, .int .u32 0], .int .i64 12])) (by rw [results_cell_tmp rfl]; go_simp) rfl ?_
    rw [HS.out]
    exact ⟨gr_put (gr_put (gb_any G1.out) (by have := hPw.out; omega)) (by have := hPw.out; omega), rfl⟩
  · have i24 : ¬ (24 : Int) < (X.nn : Int) := by omega
    have HS := Lib.hid (show wholeT C N = match subT C (N.length + 1) N with
      | .error e => .error e
      | .ok (t, l) => if l = [] then .ok t else .error 4 by
      unfold wholeT
      rw [if_neg (by rw [NL.out]; exact h24)]
      cases subT C (N.length + 1) N with
      | error e => rfl
      | ok r => obtain ⟨t, l⟩ := r; rfl)
    have CL := Lib.hid (ksub_any (N.length + 1) W1 g X 0 C N W0 K1 CC.out (gb_trans GK.out G1.out) HGs.out (Nat.zero_le _) (by have := NL.out; omega) (by omega))
    rw [List.drop_zero] at CL
    unfold RetSub at CL
    cases hr : subT C (N.length + 1) N with
    | error er =>
      rw [hr] at CL HS
      have ne := sub_err C _ _ er hr
      have e1 : (er != 0) = true := by rw [bne_iff_ne]; exact ne
      have e2 : (er == 0) = false := by rw [beq_eq_false_iff_ne]; exact ne
      have e3 : ¬ er = 0 := ne
      clear hr ne
      go_wp2_with fail
      refine CL.out.mono ?_
      rintro e w7 ⟨g7, rfl⟩
      have P7 := BP.out.keep g7 (by intro h; injection h with h; omega)
      have G7 := Lib.hid (gb_trans (gb_any (row := some g) G1.out) g7)
      have k00 := P7.cell 0
      have k01 := P7.cell 1
      have f00 := P7.free 0
      have f01 := P7.free 1
      have plt := P7.lt
      simp at k00 k01
      clear g7 CL P7
      go_wp2
      (try simp only [Exit.inBlock, Exit.then])
      refine bodyPost_ret (v := (.tuple #[.agg #[.int .i64 0, .int .u32 0], .int .i64 er])) (by rw [results_cell_tmp rfl]; go_simp) rfl ?_
      rw [HS.out]
      refine ⟨?_, rfl⟩
      first
        | exact gr_al (gr_put (gr_put G7.out (by have := hPw.out; omega)) (by have := hPw.out; omega))
        | exact gr_put (gr_put (gr_al G7.out) (by have := hPw.out; omega)) (by have := hPw.out; omega)
    | ok r =>
      obtain ⟨t, l'⟩ := r
      rw [hr] at CL HS
      obtain ⟨tw, tv⟩ := t
      clear hr
      go_wp2_with fail
      refine CL.out.mono ?_
      rintro e w7 ⟨g7, rfl, k2, hk3, rfl, K7⟩
      clear wc0
      have P7 := BP.out.keep g7 (by intro h; injection h with h; omega)
      have G7 := Lib.hid (gb_trans (gb_any (row := some g) G1.out) g7)
      have k00 := P7.cell 0
      have k01 := P7.cell 1
      have f00 := P7.free 0
      have f01 := P7.free 1
      have plt := P7.lt
      have klt := K7.lt
      simp at k00 k01
      have wc0 : w7.cell? ⟨g, 0, none⟩ = some (.slice X.na X.nn X.nc) := (K7).cell 0
      have wc1 : w7.cell? ⟨g, 1, none⟩ = some (.int .i64 (k2 : Int)) := (K7).cell 1
      have q0 := fun o => (gb_alloc w7 o none).cell wc0 (by simp)
      have q1 := fun o => (gb_alloc w7 o none).cell wc1 (by simp)
      clear g7 CL P7 K7
      dsimp only
      by_cases hke : k2 = X.nn
      · subst hke
        have HS2 := Lib.hid (show wholeT C N = .ok (tw, tv) by rw [HS.out]; show (if N.drop X.nn = [] then _ else _) = _; rw [if_pos (List.drop_of_length_le (by rw [NL.out]; omega))])
        go_wp2
        go_region
        go_wp2
        (try simp only [Exit.inBlock, Exit.then])
        refine bodyPost_ret (v := (.tuple #[.agg #[.int .i64 tw, .int .u32 tv], .int .i64 0])) (by rw [results_cell_tmp rfl]; go_simp) rfl ?_
        rw [HS2.out]
        refine ⟨?_, rfl⟩
        first
          | exact gr_put (gr_put (gr_dr1 (gr_al G7.out)) (by have := hPw.out; omega)) (by have := hPw.out; omega)
          | exact gr_dr1 (gr_al (gr_put (gr_put G7.out (by have := hPw.out; omega)) (by have := hPw.out; omega)))
          | exact gr_al (gr_put (gr_put (gr_dr1 G7.out) (by have := hPw.out; omega)) (by have := hPw.out; omega))
      · have i3 : (k2 : Int) < (X.nn : Int) := by have := NL.out; omega
        have HS2 := Lib.hid (show wholeT C N = .error 4 by
          rw [HS.out]
          show (if N.drop k2 = [] then _ else _) = _
          rw [if_neg (fun h => by have := congrArg List.length h; rw [List.length_drop, NL.out] at this; simp at this; omega)])
        go_wp2
        go_region
        go_wp2
        (try simp only [Exit.inBlock, Exit.then])
        refine bodyPost_ret (v := (.tuple #[.agg #[.int .i64 0, .int .u32 0], .int .i64 4])) (by rw [results_cell_tmp rfl]; go_simp) rfl ?_
        rw [HS2.out]
        refine ⟨?_, rfl⟩
        first
          | exact gr_put (gr_put (gr_dr1 (gr_al G7.out)) (by have := hPw.out; omega)) (by have := hPw.out; omega)
          | exact gr_dr1 (gr_al (gr_put (gr_put G7.out (by have := hPw.out; omega)) (by have := hPw.out; omega)))
          | exact gr_al (gr_put (gr_put (gr_dr1 G7.out) (by have := hPw.out; omega)) (by have := hPw.out; omega))
/-- A width and an error come back. -/
def RetWE (r : Except Int Tm) (w : World) (e : Ending) (w' : World) : Prop := e = .returned (.tuple #[.int .i64 (rW r), .int .i64 (rE r)]) ∧ w.grownBy w' none
set_option maxRecDepth 100000 in
set_option maxHeartbeats 8000000 in
theorem kcheck_any (w : World) (X : KX) (C : Cx) (N : List Nd) (hC : CR w X C N) :
    Calls Try.prog 10 #[.slice X.na X.nn X.nc, .agg #[.string X.nm, .slice X.ha X.hn X.hc, .slice X.ma X.mn X.mc, .slice X.a0 X.n0 X.c0, .slice X.a1 X.n1 X.c1, .slice X.a2 X.n2 X.c2, .slice X.a3 X.n3 X.c3, .slice X.a4 X.n4 X.c4, .slice X.a5 X.n5 X.c5, .slice X.pa X.pn X.pc]] w (RetWE (wholeT C N) w) := by
  obtain ⟨Y, hY⟩ : ∃ Y : KX, Y = { X with va := none, vn := 0, vc := 0, fa := none, fn := 0, fc := 0, ta := none, tn := 0, tc := 0, la := none, ln := 0, lc := 0, aa := none, an := 0, ac := 0 } := ⟨_, rfl⟩
  obtain ⟨D, hD⟩ : ∃ D : Cx, D = { C with V := [], F := [], T := [], A := [] } := ⟨_, rfl⟩
  have SM : Same D C := by rw [hD]; exact ⟨rfl, rfl, rfl⟩
  obtain ⟨rw1, re1⟩ := rel_we (rel_whole SM N)
  have CY : CR w Y D N := by
    rw [hY, hD]
    exact ⟨hC.nd, hC.hd, hC.md, hC.pd, ⟨rfl, fun _ => ⟨rfl, rfl⟩, Nat.le_refl _, fun ad e => by cases e⟩, ⟨rfl, fun _ => ⟨rfl, rfl⟩, Nat.le_refl _, fun ad e => by cases e⟩, su_nil _, su_nil _⟩
  obtain ⟨W2, hW2⟩ : ∃ W2, W2 = (w.alloc (.cells #[.string X.nm, .slice X.ha X.hn X.hc, .slice X.ma X.mn X.mc, .slice X.a0 X.n0 X.c0, .slice X.a1 X.n1 X.c1, .slice X.a2 X.n2 X.c2, .slice X.a3 X.n3 X.c3, .slice X.a4 X.n4 X.c4, .slice X.a5 X.n5 X.c5, .slice X.pa X.pn X.pc] 45)).alloc (.cells #[.slice X.na X.nn X.nc, .int .i64 0, .string X.nm, .slice X.ha X.hn X.hc, .slice X.ma X.mn X.mc, .slice X.a0 X.n0 X.c0, .slice X.a1 X.n1 X.c1, .slice X.a2 X.n2 X.c2, .slice X.a3 X.n3 X.c3, .slice X.a4 X.n4 X.c4, .slice X.a5 X.n5 X.c5, .slice X.pa X.pn X.pc, .slice none 0 0, .slice none 0 0, .slice none 0 0, .slice none 0 0, .slice none 0 0] 85) := ⟨_, rfl⟩
  have B2 : IsB W2 (w.heap.size + 1) 85 (kc Y 0) := by rw [hW2, hY]; exact isb2 _ _ _ _
  have G2 := Lib.hid (show w.grownBy W2 none from by rw [hW2]; exact gb_al (gb_al (gb_refl _ _)))
  have CL := Lib.hid (kwhole_any W2 (w.heap.size + 1) Y D N w B2 CY G2.out (by omega))
  unfold RetK at CL
  unfold RetWE
  rw [rw1, re1] at CL
  generalize rW (wholeT C N) = rw0 at *
  generalize rE (wholeT C N) = re0 at *
  generalize rV (wholeT D N) = rv0 at *
  clear hC hD SM CY rw1 re1 B2 hY
  go_enter Try.func10, Try.ntmps10
  go_wp2_with fail
  rw [← hW2]
  clear hW2
  refine CL.out.mono ?_
  rintro e w3 ⟨g3, rfl⟩
  have G3 := Lib.hid (gb_row G2.out g3 (by omega))
  clear g3 CL
  go_wp2
  go_ret2
  exact ⟨rfl, gb_al G3.out⟩
set_option maxRecDepth 100000 in
set_option maxHeartbeats 8000000 in
theorem keval_any (w : World) (X : KX) (C : Cx) (N : List Nd) (hC : CR w X C N) :
    Calls Try.prog 36 #[.slice X.na X.nn X.nc, .agg #[.string X.nm, .slice X.ha X.hn X.hc, .slice X.ma X.mn X.mc, .slice X.a0 X.n0 X.c0, .slice X.a1 X.n1 X.c1, .slice X.a2 X.n2 X.c2, .slice X.a3 X.n3 X.c3, .slice X.a4 X.n4 X.c4, .slice X.a5 X.n5 X.c5, .slice X.pa X.pn X.pc], .agg #[.slice X.va X.vn X.vc, .slice X.fa X.fn X.fc, .slice X.ta X.tn X.tc, .slice X.la X.ln X.lc], .slice X.aa X.an X.ac] w (RetV (.int .u32 (rV (wholeT C N))) w) := by
  obtain ⟨W2, hW2⟩ : ∃ W2, W2 = ((w.alloc (.cells #[.string X.nm, .slice X.ha X.hn X.hc, .slice X.ma X.mn X.mc, .slice X.a0 X.n0 X.c0, .slice X.a1 X.n1 X.c1, .slice X.a2 X.n2 X.c2, .slice X.a3 X.n3 X.c3, .slice X.a4 X.n4 X.c4, .slice X.a5 X.n5 X.c5, .slice X.pa X.pn X.pc] 45)).alloc (.cells #[.slice X.va X.vn X.vc, .slice X.fa X.fn X.fc, .slice X.ta X.tn X.tc, .slice X.la X.ln X.lc] 38)).alloc (.cells #[.slice X.na X.nn X.nc, .int .i64 0, .string X.nm, .slice X.ha X.hn X.hc, .slice X.ma X.mn X.mc, .slice X.a0 X.n0 X.c0, .slice X.a1 X.n1 X.c1, .slice X.a2 X.n2 X.c2, .slice X.a3 X.n3 X.c3, .slice X.a4 X.n4 X.c4, .slice X.a5 X.n5 X.c5, .slice X.pa X.pn X.pc, .slice X.va X.vn X.vc, .slice X.fa X.fn X.fc, .slice X.ta X.tn X.tc, .slice X.la X.ln X.lc, .slice X.aa X.an X.ac] 85) := ⟨_, rfl⟩
  have B2 : IsB W2 (w.heap.size + 2) 85 (kc X 0) := by rw [hW2]; exact isb3 _ _ _ _ _
  have G2 := Lib.hid (show w.grownBy W2 none from by rw [hW2]; exact gb_al (gb_al (gb_al (gb_refl _ _))))
  have CL := Lib.hid (kwhole_any W2 (w.heap.size + 2) X C N w B2 hC G2.out (by omega))
  unfold RetK at CL
  generalize rW (wholeT C N) = rw0 at *
  generalize rE (wholeT C N) = re0 at *
  generalize rV (wholeT C N) = rv0 at *
  clear hC B2
  go_enter Try.func36, Try.ntmps36
  go_wp2_with fail
  rw [← hW2]
  clear hW2
  refine CL.out.mono ?_
  rintro e w3 ⟨g3, rfl⟩
  have G3 := Lib.hid (gb_row G2.out g3 (by omega))
  clear g3 CL
  go_wp2
  go_ret
  exact ⟨rfl, gb_al G3.out⟩
set_option maxRecDepth 100000 in
set_option maxHeartbeats 8000000 in
theorem kend_any (w : World) (a : Option Addr) (n c : Nat) (N : List Nd) (hN : SN w a n c N) (hn : n ≤ 1000) (i : Int) :
    Calls Try.prog 37 #[.slice a n c, .int .i64 i] w (RetV (.int .i64 (endT N i)) w) := by
  have HN := Lib.hid hN
  have NL := Lib.hid hN.len
  have ncap := hN.cap
  have IX := Lib.hid (fun w => isx_any w i n)
  unfold RetS at IX
  have HD := Lib.hid (show endT N i = if isX i n = true then scanT (N.drop i.toNat) 1 i else -1 by unfold endT; rw [NL.out])
  clear hN
  go_enter Try.func37, Try.ntmps37
  cases hx : isX i n with
  | false =>
    rw [hx] at IX HD
    rw [if_neg (by decide)] at HD
    clear hx
    go_wp2_with fail
    refine (IX.out _).mono ?_
    rintro e w3 ⟨rfl, rfl⟩
    go_wp2
    go_ret
    exact ⟨by rw [HD.out] <;> rfl, gb_refl _ _⟩
  | true =>
    rw [hx] at IX HD
    rw [if_pos rfl] at HD
    obtain ⟨j, rfl, hj⟩ := isx_nat hx
    rw [Int.toNat_natCast] at HD
    obtain ⟨ad, rfl⟩ := HN.out.some (by omega)
    have i0 : (0 : Int) ≤ (j : Int) := by omega
    have i1 : (j : Int) ≤ n := by omega
    have i1' := Nat.le_of_lt hj
    have i2 : ¬ j = c := by omega
    have i3 : (n : Int) ≤ c := by omega
    have i4 : (j : Int) ≤ c := by omega
    obtain ⟨R, hR⟩ : ∃ R, R = endT N (j : Int) := ⟨_, rfl⟩
    rw [← hR] at HD ⊢
    clear hx hR
    go_wp2_with fail
    refine (IX.out _).mono ?_
    rintro e w3 ⟨rfl, rfl⟩
    go_wp2
    have HS := Lib.hid (sn_drop HN.out j i1')
    have ET := Lib.hid (fun t => show (N.drop j).drop t = N.drop (j + t) by rw [List.drop_drop])
    have LD := Lib.hid (show (N.drop j).length = n - j by rw [List.length_drop, NL.out])
    generalize ad.add (j * 3) = bd at *
    generalize hq : n - j = q at *
    generalize c - j = cc at *
    have q1 : (q : Int) ≤ 1000 := by omega
    have jq : (j : Int) ≤ 1000 := by omega
    generalize N.drop j = M at *
    have qcap := HS.out.cap
    clear i1 i2 i3 i4 hq ncap HN ET
    go_loopw [5, 19] (fun s5 s19 wr => ∃ (t : Nat) (m : Int), t ≤ q ∧ s19 = .int .i64 t ∧ s5 = .int .i64 m ∧ scanT (M.drop t) m ((j : Int) + (t : Int)) = R ∧ 1 ≤ m ∧ m ≤ 1 + 2 * t ∧ w3.grownBy wr none) (fun _ s19 _ => q - (intOf s19).toNat)
    case atStart => exact ⟨0, 1, Nat.zero_le _, rfl, rfl, by rw [HD.out, List.drop_zero]; simp, by omega, by omega, gb_refl _ _⟩
    case round =>
      obtain ⟨t, m, ht, rfl, rfl, hs, hm1, hm2, hg⟩ := hrel
      have HSc := Lib.hid hs
      have HG := Lib.hid hg
      clear hs hg
      by_cases hlt : t < q
      · have l1 : (t : Int) < q := by omega
        have l0 : (0 : Int) ≤ (t : Int) := by omega
        obtain ⟨c0, c1, c2⟩ := (HS.out.keep0 HG.out).cells bd rfl t hlt
        have DC := Lib.hid (drop_cons (N := M) (k := t) (by rw [LD.out]; exact hlt))
        obtain ⟨x, hx⟩ : ∃ x, x = M.getD t nz := ⟨_, rfl⟩
        rw [← hx] at c0 c1 c2 DC
        obtain ⟨op, n1, wd⟩ := x
        have SC := Lib.hid (show (if arB op = true then (if m + ((arN op : Nat) : Int) - 1 = 0 then (j : Int) + (t : Int) + 1 else scanT (M.drop (t + 1)) (m + ((arN op : Nat) : Int) - 1) ((j : Int) + (t : Int) + 1)) else -1) = R by
          rw [← HSc.out, DC.out, scan_cons])
        have CN := Lib.hid (show arN op ≤ 3 by unfold arN; split <;> (try split) <;> (try split) <;> (try split) <;> decide)
        have AR := Lib.hid (fun w => arity_any w op)
        unfold RetS at AR
        clear hx DC HSc
        dsimp only at c0 c1 c2
        cases hb : arB op with
        | false =>
          rw [hb] at AR SC
          rw [if_neg (by decide)] at SC
          clear hb
          go_wp2_with fail
          refine (AR.out _).mono ?_
          rintro e w5 ⟨rfl, rfl⟩
          go_wp2
          go_ret
          exact ⟨by rw [← SC.out] <;> rfl, gb_al HG.out⟩
        | true =>
          rw [hb] at AR SC
          rw [if_pos rfl] at SC
          clear hb
          generalize arN op = cnt at *
          have c3 : (cnt : Int) ≤ 3 := by have := CN.out; omega
          have e1 : m + ((cnt : Int) - 1) = m + (cnt : Int) - 1 := by omega
          by_cases hz : m + (cnt : Int) - 1 = 0
          · rw [if_pos hz] at SC
            have z1 : m + ((cnt : Int) - 1) = 0 := by omega
            clear e1 hz
            go_wp2_with fail
            refine (AR.out _).mono ?_
            rintro e w5 ⟨rfl, rfl⟩
            go_wp2
            go_ret
            exact ⟨by rw [← SC.out] <;> rfl, gb_al HG.out⟩
          · rw [if_neg hz] at SC
            obtain ⟨m2, hm3⟩ : ∃ m2, m2 = m + (cnt : Int) - 1 := ⟨_, rfl⟩
            have e2 : m + ((cnt : Int) - 1) = m2 := by omega
            have z1 : ¬ m2 = 0 := by omega
            have z2 : (m2 == 0) = false := by rw [beq_eq_false_iff_ne]; exact z1
            rw [← hm3] at SC
            have b1 : 1 ≤ m2 := by omega
            have b2 : m2 ≤ 1 + 2 * (t + 1 : Nat) := by omega
            clear e1 hz hm3
            go_wp2_with fail
            refine (AR.out _).mono ?_
            rintro e w5 ⟨rfl, rfl⟩
            go_wp2
            go_roundw
            case rel => exact ⟨t + 1, m2, by omega, by go_num, rfl, by rw [← SC.out]; congr 1, b1, b2, gb_al HG.out⟩
            case measure => simp [intOf]; omega
      · have RR := Lib.hid (show R = -1 by rw [← HSc.out, List.drop_of_length_le (by rw [LD.out]; omega)]; rfl)
        have l1 : ¬ (t : Int) < q := by omega
        go_wp2
        go_ret
        exact ⟨by rw [RR.out] <;> rfl, HG.out⟩
end Go.Proofs.Ytfjeonoihdgdoaa
