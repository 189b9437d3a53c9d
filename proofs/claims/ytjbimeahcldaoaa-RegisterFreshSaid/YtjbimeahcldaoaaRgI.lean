/- Register: the reference's width, cell, Read; no condition but sizes. -/
import Derived.Test.YtjbimeahcldaoaaRgH
namespace Go.Proofs.Ytjbimeahcldaoaa
open Go.RowKit
set_option linter.unusedVariables false
def widN (wd : Int) : Int := if 1 ≤ wd ∧ wd ≤ 32 then wd else 0
set_option maxRecDepth 100000 in
theorem rwid_any (w : World) (nm : ByteArray) (wd sz : Int) : Calls Try.prog 31 #[.agg #[.string nm, .int .i64 wd, .int .i64 sz]] w (RetV (.int .i64 (widN wd)) w) := by
  rcases (show wd < 1 ∨ (1 ≤ wd ∧ 32 < wd) ∨ (1 ≤ wd ∧ wd ≤ 32) by omega) with q | ⟨q, q2⟩ | ⟨q, q2⟩
  all_goals
    first
      | (have HX := Lib.hid (show widN wd = 0 from if_neg (by omega)))
      | (have HX := Lib.hid (show widN wd = wd from if_pos ⟨q, q2⟩))
    go_enter Try.func31, Try.ntmps31
    go_wp2
    go_ret
    exact ⟨by rw [HX.out] <;> rfl, gb_alloc _ _ _⟩
theorem cell_no {L : List Rg} {R : List (List Int)} {r i : Int} (h : ¬ (0 ≤ r ∧ r < L.length ∧ r < R.length ∧ i < (L.getD r.toNat rz).2.2 ∧ i < (R.getD r.toNat []).length)) : cellB L R r i = false := decide_eq_false h
theorem cell_iff (L : List Rg) (R : List (List Int)) (q : Nat) (i : Int) : cellB L R (q : Int) i = decide (q < L.length ∧ q < R.length ∧ i < (L.getD q rz).2.2 ∧ i < (R.getD q []).length) := by
  unfold cellB
  rw [Int.toNat_natCast]
  rw [Bool.eq_iff_iff, decide_eq_true_eq, decide_eq_true_eq]
  omega
set_option maxRecDepth 100000 in
set_option maxHeartbeats 4000000 in
theorem rcell_b (w : World) (X : PX) (L : List Rg) (a : Option Addr) (n c : Nat) (R : List (List Int)) (r i : Int) (h : SG w X.ra X.rn X.rc L) (g : SR w a n c R) (hn : X.rn ≤ 100000) (hm : n ≤ 1000000) (hr : -9223372036854775808 ≤ r ∧ r ≤ 9223372036854775807) (i0 : 0 ≤ i) (i1 : i < 4294967296) (hrow : ∀ j, (R.getD j []).length ≤ 1000000) (b : Bool) (hb : cellB L R r i = b) :
    Calls Try.prog 37 #[.agg #[.string X.nm, .slice X.ha X.hn X.hc, .slice X.ma X.mn X.mc, .slice X.ra X.rn X.rc, .slice X.aa X.an X.ac, .slice X.ta X.tn X.tc, .slice X.sa X.sn X.sc, .slice X.ca X.cn X.cc, .slice X.da X.dn X.dc], .slice a n c, .int .i64 r, .int .u32 i] w (RetV (.bool b) w) := by
  have H := Lib.hid h
  have K := Lib.hid g
  have LN := Lib.hid h.len
  have RN := Lib.hid g.len
  have HR := Lib.hid hrow
  have HB := Lib.hid hb
  clear h g hrow hb
  by_cases h0 : 0 ≤ r
  · obtain ⟨q, rfl⟩ : ∃ q : Nat, r = q := ⟨r.toNat, by omega⟩
    rw [cell_iff L R q i, LN.out, RN.out] at HB
    by_cases h1 : q < X.rn
    · have j1 : (q : Int) < (X.rn : Int) := by omega
      by_cases h2 : q < n
      · have j2 : (q : Int) < (n : Int) := by omega
        obtain ⟨ar, har⟩ := H.out.some (by omega)
        obtain ⟨br, rfl⟩ := K.out.some (by omega)
        obtain ⟨x0, x1, x2⟩ := H.out.cells ar har q h1
        obtain ⟨fa, fn, fc, y0, y1⟩ := K.out.cells br rfl q h2
        have yb : fn ≤ 1000000 := by rw [← y1.len]; exact HR.out q
        rw [y1.len] at HB
        rw [har]
        obtain ⟨g0, hg0⟩ : ∃ g, g = L.getD q rz := ⟨_, rfl⟩
        rw [← hg0] at x0 x1 x2 HB
        clear hg0 y1 har
        obtain ⟨nm, wd, sz⟩ := g0
        have x2' := (gb_alloc w (.cells #[.string X.nm, .slice X.ha X.hn X.hc, .slice X.ma X.mn X.mc, .slice (some ar) X.rn X.rc, .slice X.aa X.an X.ac, .slice X.ta X.tn X.tc, .slice X.sa X.sn X.sc, .slice X.ca X.cn X.cc, .slice X.da X.dn X.dc] 37) none).cell x2 (by simp)
        have y0' := (gb_alloc w (.cells #[.string X.nm, .slice X.ha X.hn X.hc, .slice X.ma X.mn X.mc, .slice (some ar) X.rn X.rc, .slice X.aa X.an X.ac, .slice X.ta X.tn X.tc, .slice X.sa X.sn X.sc, .slice X.ca X.cn X.cc, .slice X.da X.dn X.dc] 37) none).cell y0 (by simp)
        clear x0 x1 x2 y0
        by_cases h3 : i < sz
        · by_cases h4 : i < (fn : Int)
          · obtain rfl : b = true := by rw [← HB.out]; exact decide_eq_true ⟨h1, h2, h3, h4⟩
            clear HB
            go_enter Try.func37, Try.ntmps37
            go_wp2
            go_ret
            exact ⟨rfl, gb_alloc _ _ _⟩
          · obtain rfl : b = false := by rw [← HB.out]; exact decide_eq_false fun h => h4 h.2.2.2
            clear HB
            go_enter Try.func37, Try.ntmps37
            go_wp2
            go_ret
            exact ⟨rfl, gb_alloc _ _ _⟩
        · obtain rfl : b = false := by rw [← HB.out]; exact decide_eq_false fun h => h3 h.2.2.1
          clear HB
          go_enter Try.func37, Try.ntmps37
          go_wp2
          go_ret
          exact ⟨rfl, gb_alloc _ _ _⟩
      · have j2 : ¬ (q : Int) < (n : Int) := by omega
        obtain rfl : b = false := by rw [← HB.out]; exact decide_eq_false fun h => h2 h.2.1
        clear HB
        go_enter Try.func37, Try.ntmps37
        go_wp2
        go_ret
        exact ⟨rfl, gb_alloc _ _ _⟩
    · have j1 : ¬ (q : Int) < (X.rn : Int) := by omega
      obtain rfl : b = false := by rw [← HB.out]; exact decide_eq_false fun h => h1 h.1
      clear HB
      go_enter Try.func37, Try.ntmps37
      go_wp2
      go_ret
      exact ⟨rfl, gb_alloc _ _ _⟩
  · obtain rfl : b = false := by rw [← HB.out]; exact cell_no fun h => h0 h.1
    clear HB
    go_enter Try.func37, Try.ntmps37
    go_wp2
    go_ret
    exact ⟨rfl, gb_alloc _ _ _⟩
theorem rcell_any (w : World) (X : PX) (L : List Rg) (a : Option Addr) (n c : Nat) (R : List (List Int)) (r i : Int) (h : SG w X.ra X.rn X.rc L) (g : SR w a n c R) (hn : X.rn ≤ 100000) (hm : n ≤ 1000000) (hr : -9223372036854775808 ≤ r ∧ r ≤ 9223372036854775807) (i0 : 0 ≤ i) (i1 : i < 4294967296) (hrow : ∀ j, (R.getD j []).length ≤ 1000000) :
    Calls Try.prog 37 #[.agg #[.string X.nm, .slice X.ha X.hn X.hc, .slice X.ma X.mn X.mc, .slice X.ra X.rn X.rc, .slice X.aa X.an X.ac, .slice X.ta X.tn X.tc, .slice X.sa X.sn X.sc, .slice X.ca X.cn X.cc, .slice X.da X.dn X.dc], .slice a n c, .int .i64 r, .int .u32 i] w (RetV (.bool (cellB L R r i)) w) := rcell_b w X L a n c R r i h g hn hm hr i0 i1 hrow _ rfl
theorem read_yes (L : List Rg) (R : List (List Int)) (q j : Nat) (h : cellB L R (q : Int) (j : Int) = true) : readL L R q j = (R.getD q []).getD j 0 := by
  unfold readL; rw [if_pos h]; rfl
theorem read_no (L : List Rg) (R : List (List Int)) (r i : Int) (h : cellB L R r i = false) : readL L R r i = 0 := by
  unfold readL; rw [if_neg (by rw [h]; decide)]
set_option maxRecDepth 100000 in
set_option maxHeartbeats 4000000 in
theorem rread_any (w : World) (X : PX) (L : List Rg) (a : Option Addr) (n c : Nat) (R : List (List Int)) (r i : Int) (h : SG w X.ra X.rn X.rc L) (g : SR w a n c R) (hn : X.rn ≤ 100000) (hm : n ≤ 1000000) (hr : -9223372036854775808 ≤ r ∧ r ≤ 9223372036854775807) (i0 : 0 ≤ i) (i1 : i < 4294967296) (hrow : ∀ j, (R.getD j []).length ≤ 1000000) :
    Calls Try.prog 19 #[.agg #[.string X.nm, .slice X.ha X.hn X.hc, .slice X.ma X.mn X.mc, .slice X.ra X.rn X.rc, .slice X.aa X.an X.ac, .slice X.ta X.tn X.tc, .slice X.sa X.sn X.sc, .slice X.ca X.cn X.cc, .slice X.da X.dn X.dc], .slice a n c, .int .i64 r, .int .u32 i] w (RetV (.int .u32 (readL L R r i)) w) := by
  have CO := Lib.hid (fun (w2 : World) (k : w.grownBy w2 none) => rcell_any w2 X L a n c R r i (h.keep0 k) (g.keep0 k) hn hm hr i0 i1 hrow)
  unfold RetV at CO
  have H := Lib.hid h
  have K := Lib.hid g
  have LN := Lib.hid h.len
  have RN := Lib.hid g.len
  have HR := Lib.hid hrow
  clear h g hrow
  obtain ⟨A, hA⟩ : ∃ A, A = w.heap.size := ⟨_, rfl⟩
  obtain ⟨w1, hw1⟩ : ∃ w1, w1 = w.alloc (.cells #[.string X.nm, .slice X.ha X.hn X.hc, .slice X.ma X.mn X.mc, .slice X.ra X.rn X.rc, .slice X.aa X.an X.ac, .slice X.ta X.tn X.tc, .slice X.sa X.sn X.sc, .slice X.ca X.cn X.cc, .slice X.da X.dn X.dc] 37) := ⟨_, rfl⟩
  have BA := Lib.hid (show IsB w1 A 37 #[.string X.nm, .slice X.ha X.hn X.hc, .slice X.ma X.mn X.mc, .slice X.ra X.rn X.rc, .slice X.aa X.an X.ac, .slice X.ta X.tn X.tc, .slice X.sa X.sn X.sc, .slice X.ca X.cn X.cc, .slice X.da X.dn X.dc] from by rw [hw1, hA]; exact IsB.new _ _ _)
  have GZ := Lib.hid (show w.grownBy w1 none from by rw [hw1]; exact gb_al (gb_refl _ _))
  have LA := Lib.hid (show A < w1.heap.size from by rw [hw1, hA]; simp)
  go_enter Try.func19, Try.ntmps19
  go_upto_region 1 with fail
  rw [← hw1, ← hA]

  clear hw1 hA
  have s0 : w1.cell? ⟨A, 0, none⟩ = some (.string X.nm) := BA.out.cell 0
  have s1 : w1.cell? ⟨A, 1, none⟩ = some (.slice X.ha X.hn X.hc) := BA.out.cell 1
  have s2 : w1.cell? ⟨A, 2, none⟩ = some (.slice X.ma X.mn X.mc) := BA.out.cell 2
  have s3 : w1.cell? ⟨A, 3, none⟩ = some (.slice X.ra X.rn X.rc) := BA.out.cell 3
  have s4 : w1.cell? ⟨A, 4, none⟩ = some (.slice X.aa X.an X.ac) := BA.out.cell 4
  have s5 : w1.cell? ⟨A, 5, none⟩ = some (.slice X.ta X.tn X.tc) := BA.out.cell 5
  have s6 : w1.cell? ⟨A, 6, none⟩ = some (.slice X.sa X.sn X.sc) := BA.out.cell 6
  have s7 : w1.cell? ⟨A, 7, none⟩ = some (.slice X.ca X.cn X.cc) := BA.out.cell 7
  have s8 : w1.cell? ⟨A, 8, none⟩ = some (.slice X.da X.dn X.dc) := BA.out.cell 8
  have CC := CO.out w1 GZ.out
  cases hb : cellB L R r i
  · rw [hb] at CC
    have RE := Lib.hid (read_no L R r i hb)
    clear hb
    go_wp2_with fail
    refine CC.mono ?_
    rintro e w3 ⟨rfl, g3⟩
    have G3 := Lib.hid (gb_trans GZ.out g3)
    clear g3 CC
    go_wp2
    go_ret
    exact ⟨by rw [RE.out] <;> rfl, G3.out⟩
  · rw [hb] at CC
    have h0 : 0 ≤ r := by unfold cellB at hb; exact (of_decide_eq_true hb).1
    obtain ⟨q, rfl⟩ : ∃ q : Nat, r = q := ⟨r.toNat, by omega⟩
    obtain ⟨j, rfl⟩ : ∃ j : Nat, i = j := ⟨i.toNat, by omega⟩
    have RE := Lib.hid (read_yes L R q j hb)
    have hb2 := hb
    rw [cell_iff] at hb2
    obtain ⟨-, h2, -, h4⟩ := of_decide_eq_true hb2
    have h2 : q < n := by rw [← RN.out]; exact h2
    obtain ⟨br, rfl⟩ := K.out.some (by omega)
    obtain ⟨fa, fn, fc, y0, y1⟩ := K.out.cells br rfl q h2
    have h4 : j < fn := by rw [← y1.len]; omega
    obtain ⟨cr, rfl⟩ := y1.some (by omega)
    have z0 := y1.cells cr rfl j h4
    have y0' := GZ.out.cell y0 (by simp)
    have z0' := GZ.out.cell z0 (by simp)
    have j1 : (q : Int) < (n : Int) := by omega
    have j2 : (j : Int) < (fn : Int) := by omega
    have j3 : (0 : Int) ≤ (q : Int) := by omega
    clear hb hb2 y1 y0 z0
    generalize (R.getD q []).getD j 0 = z at *
    go_wp2_with fail
    refine CC.mono ?_
    rintro e w3 ⟨rfl, g3⟩
    have y2 := g3.cell y0' (by simp)
    have z2 := g3.cell z0' (by simp)
    have G3 := Lib.hid (gb_trans GZ.out g3)
    clear g3 CC y0' z0'
    go_wp2
    go_ret
    exact ⟨by rw [RE.out] <;> rfl, G3.out⟩
end Go.Proofs.Ytjbimeahcldaoaa
