/- Register: allFit, CheckContents of both sides, TooLarge; no condition but sizes. -/
import Derived.Test.YtjbimeahcldaoaaRgN
namespace Go.Proofs.Ytjbimeahcldaoaa
open Go.RowKit
set_option linter.unusedVariables false
theorem fit_any (nm : ByteArray) (wd sz : Int) (l : List Int) : fitR (nm, wd, sz) l = !(l.any fun v => decide (mkB wd < v)) := by
  unfold fitR
  rw [List.not_any_eq_all_not]
  congr 1
  funext x
  show decide (x ≤ mkB wd) = !decide (mkB wd < x)
  rw [Bool.eq_iff_iff, decide_eq_true_eq, Bool.not_eq_true', decide_eq_false_iff_not]
  omega
set_option maxRecDepth 100000 in
set_option maxHeartbeats 4000000 in
theorem allfit_b (w : World) (a b : Option Addr) (n d c : Nat) (L : List Rg) (R : List (List Int)) (h : SG w a n d L) (g : SR w b n c R) (hn : n ≤ 1000000) (hrow : ∀ j, (R.getD j []).length ≤ 1000000) (bo : Bool) (hbo : fitZ L R = bo) :
    Calls Try.prog 30 #[.slice a n d, .slice b n c] w (RetV (.bool bo) w) := by
  have H := Lib.hid h
  have K := Lib.hid g
  have LN := Lib.hid h.len
  have RN := Lib.hid g.len
  have HB := Lib.hid hbo
  have HR := Lib.hid hrow
  clear h g hbo hrow
  go_enter Try.func30, Try.ntmps30
  go_wp2
  go_loopw [10] (fun s wr => ∃ k : Nat, k ≤ n ∧ s = .int .i64 k ∧ (∀ j, j < k → fitR (L.getD j rz) (R.getD j []) = true) ∧ w.grownBy wr none) (fun s _ => n - (intOf s).toNat)
  case atStart => exact ⟨0, Nat.zero_le _, rfl, fun j hj => absurd hj (Nat.not_lt_zero _), gb_refl _ _⟩
  case round =>
    obtain ⟨k, hk, rfl, hno, hg⟩ := hrel
    have HG := Lib.hid hg
    have HN := Lib.hid hno
    clear hg hno
    by_cases hlt : k < n
    · obtain ⟨ar, rfl⟩ := H.out.some (by omega)
      obtain ⟨br, rfl⟩ := K.out.some (by omega)
      obtain ⟨x0, x1, x2⟩ := (H.out.keep0 HG.out).cells ar rfl k hlt
      obtain ⟨fa, fn, fc, y0, y1⟩ := (K.out.keep0 HG.out).cells br rfl k hlt
      have Y1 := Lib.hid y1
      have fb : fn ≤ 1000000 := by rw [← y1.len]; exact HR.out k
      have i0 : (0 : Int) ≤ (k : Int) := by omega
      have i2 : (k : Int) < (n : Int) := by omega
      have YES := Lib.hid (show fitR (L.getD k rz) (R.getD k []) = true → ∀ j, j < k + 1 → fitR (L.getD j rz) (R.getD j []) = true from fun e j hj => by
        rcases (show j < k ∨ j = k by omega) with q | rfl
        · exact HN.out j q
        · exact e)
      have NO := Lib.hid (show ¬ fitR (L.getD k rz) (R.getD k []) = true → fitZ L R = false from fun e => bool_no (fit_iff L R) fun q => e (q k (by rw [LN.out]; exact hlt)))
      clear y1
      obtain ⟨g0, hg0⟩ : ∃ g, g = L.getD k rz := ⟨_, rfl⟩
      rw [← hg0] at x0 x1 x2 YES NO
      clear hg0
      obtain ⟨nm, wd, sz⟩ := g0
      obtain ⟨w3, hw3⟩ : ∃ w3, w3 = wr.alloc (.cells #[.string nm, .int .i64 wd, .int .i64 sz] 23) := ⟨_, rfl⟩
      obtain ⟨D, hD⟩ : ∃ D, D = wr.heap.size := ⟨_, rfl⟩
      have BD := Lib.hid (show IsB w3 D 23 #[.string nm, .int .i64 wd, .int .i64 sz] from by rw [hw3, hD]; exact IsB.new _ _ _)
      have GA := Lib.hid (show wr.grownBy w3 none from by rw [hw3]; exact gb_alloc _ _ _)
      have y0' : w3.cell? (br.add k) = some (.slice fa fn fc) := GA.out.cell y0 (by simp)
      have CF := Lib.hid (cfu_any w3 fa fn fc (R.getD k []) (Y1.out.keep0 GA.out) fb 45 #[.pointer (some ⟨D, 0, none⟩)] (fun v => decide (mkB wd < v)) (fun args w => by rfl) (fun v W k => af1_any W D nm wd sz v (BD.out.keep0 k) _ rfl))
      unfold RetV at CF
      have FA := Lib.hid (fit_any nm wd sz (R.getD k []))
      clear y0
      cases hh : (R.getD k []).any fun v => decide (mkB wd < v)
      · rw [hh] at CF
        have Y2 := Lib.hid (YES.out (by rw [FA.out, hh]; rfl))
        clear YES NO hh FA
        go_upto_region 5 with fail
        rw [← hw3, ← hD]
        clear hw3 hD
        go_wp2_with fail
        refine CF.out.mono ?_
        rintro e w4 ⟨rfl, g4⟩
        have G4 := Lib.hid (gb_trans (gb_trans HG.out GA.out) g4)
        clear g4 x0 x1 x2 y0'
        go_wp2
        go_roundw
        case rel => exact ⟨k + 1, by omega, by go_num, Y2.out, G4.out⟩
        case measure => simp [intOf]; omega
      · rw [hh] at CF
        obtain rfl : bo = false := by rw [← HB.out]; exact NO.out (by rw [FA.out, hh]; decide)
        clear YES NO HB hh FA
        go_upto_region 5 with fail
        rw [← hw3, ← hD]
        clear hw3 hD
        go_wp2_with fail
        refine CF.out.mono ?_
        rintro e w4 ⟨rfl, g4⟩
        have G4 := Lib.hid (gb_trans (gb_trans HG.out GA.out) g4)
        clear g4 x0 x1 x2 y0'
        go_wp2
        go_ret
        exact ⟨rfl, G4.out⟩
    · have hke : k = n := by omega
      subst hke
      obtain rfl : bo = true := by rw [← HB.out]; exact (fit_iff L R).2 fun j hj => HN.out j (by rw [← LN.out]; exact hj)
      clear HB
      go_wp2
      go_ret
      exact ⟨rfl, HG.out⟩
set_option maxRecDepth 100000 in
set_option maxHeartbeats 400000 in
theorem cont_b (w : World) (X : PX) (L : List Rg) (a : Option Addr) (n c : Nat) (R : List (List Int)) (h : SG w X.ra X.rn X.rc L) (g : SR w a n c R) (hm : X.rn ≤ 1000000) (hn : n ≤ 1000000) (hrow : ∀ j, (R.getD j []).length ≤ 1000000) (e : Int) (he : contZ L R = e) :
    Calls Try.prog 15 #[.agg #[.string X.nm, .slice X.ha X.hn X.hc, .slice X.ma X.mn X.mc, .slice X.ra X.rn X.rc, .slice X.aa X.an X.ac, .slice X.ta X.tn X.tc, .slice X.sa X.sn X.sc, .slice X.ca X.cn X.cc, .slice X.da X.dn X.dc], .slice a n c] w (RetV (.int .i64 e) w) := by
  have EQ := Lib.hid (fun (w' : World) (k : w.grownBy w' none) => seqg_b w' X.ra a X.rn X.rc n c L R (h.keep0 k) (g.keep0 k) hm hn _ rfl)
  have AF := Lib.hid (fun (w' : World) (k : w.grownBy w' none) (e : X.rn = n) => allfit_b w' X.ra a X.rn X.rc c L R (h.keep0 k) (by rw [e]; exact g.keep0 k) hm hrow _ rfl)
  unfold RetV at EQ AF
  have LN := Lib.hid h.len
  have RN := Lib.hid g.len
  have HE := Lib.hid he
  unfold contZ at HE
  clear h g hrow he
  obtain ⟨A, hA⟩ : ∃ A, A = w.heap.size := ⟨_, rfl⟩
  obtain ⟨w1, hw1⟩ : ∃ w1, w1 = w.alloc (.cells #[.string X.nm, .slice X.ha X.hn X.hc, .slice X.ma X.mn X.mc, .slice X.ra X.rn X.rc, .slice X.aa X.an X.ac, .slice X.ta X.tn X.tc, .slice X.sa X.sn X.sc, .slice X.ca X.cn X.cc, .slice X.da X.dn X.dc] 37) := ⟨_, rfl⟩
  have BA := Lib.hid (show IsB w1 A 37 #[.string X.nm, .slice X.ha X.hn X.hc, .slice X.ma X.mn X.mc, .slice X.ra X.rn X.rc, .slice X.aa X.an X.ac, .slice X.ta X.tn X.tc, .slice X.sa X.sn X.sc, .slice X.ca X.cn X.cc, .slice X.da X.dn X.dc] from by rw [hw1, hA]; exact IsB.new _ _ _)
  have GZ := Lib.hid (show w.grownBy w1 none from by rw [hw1]; exact gb_al (gb_refl _ _))
  have LA := Lib.hid (show A < w1.heap.size from by rw [hw1, hA]; simp)
  go_enter Try.func15, Try.ntmps15
  go_upto_region 1 with fail
  rw [← hw1, ← hA]

  clear hw1 hA
  have s3 : w1.cell? ⟨A, 3, none⟩ = some (.slice X.ra X.rn X.rc) := BA.out.cell 3
  have E1 := EQ.out w1 GZ.out
  cases hb : (decide (L.length = R.length) && sameZ L R)
  · rw [hb] at E1
    obtain rfl : e = 2 := by
      rw [← HE.out]
      by_cases hl : L.length = R.length
      · rw [if_pos hl]
        rw [decide_eq_true hl, Bool.true_and] at hb
        exact if_neg (by rw [hb]; decide)
      · exact if_neg hl
    clear hb HE
    go_wp2_with fail
    refine E1.mono ?_
    rintro e w3 ⟨rfl, g3⟩
    have G3 := Lib.hid (gb_trans GZ.out g3)
    clear g3 E1
    go_wp2
    go_ret
    exact ⟨rfl, G3.out⟩
  rw [hb] at E1
  obtain ⟨hl, hz⟩ : L.length = R.length ∧ sameZ L R = true := by
    rw [Bool.and_eq_true, decide_eq_true_eq] at hb; exact hb
  rw [if_pos hl, if_pos hz] at HE
  have hmn : X.rn = n := by rw [← LN.out, ← RN.out]; exact hl
  clear hb hl hz
  subst hmn
  have AF2 := Lib.hid (fun w' k => AF.out w' k rfl)
  clear AF EQ
  cases hf : fitZ L R
  · rw [hf] at AF2
    obtain rfl : e = 9 := by rw [← HE.out]; exact if_neg (by rw [hf]; decide)
    clear hf HE
    go_wp2_with fail
    refine E1.mono ?_
    rintro e w3 ⟨rfl, g3⟩
    have G3 := Lib.hid (gb_trans GZ.out g3)
    have t3 := g3.cell s3 (by simp)
    have A3 := AF2.out w3 G3.out
    clear g3 E1
    go_wp2_with fail
    refine A3.mono ?_
    rintro e w4 ⟨rfl, g4⟩
    have G4 := Lib.hid (gb_trans G3.out g4)
    clear g4 A3
    go_wp2
    go_ret
    exact ⟨rfl, G4.out⟩
  · rw [hf] at AF2
    obtain rfl : e = 0 := by rw [← HE.out]; exact if_pos hf
    clear hf HE
    go_wp2_with fail
    refine E1.mono ?_
    rintro e w3 ⟨rfl, g3⟩
    have G3 := Lib.hid (gb_trans GZ.out g3)
    have t3 := g3.cell s3 (by simp)
    have A3 := AF2.out w3 G3.out
    clear g3 E1
    go_wp2_with fail
    refine A3.mono ?_
    rintro e w4 ⟨rfl, g4⟩
    have G4 := Lib.hid (gb_trans G3.out g4)
    clear g4 A3
    go_wp2
    go_ret
    exact ⟨rfl, G4.out⟩
theorem big_iff (L : List Rg) (R : List (List Int)) : bigB L R = true ↔ (8 < L.length ∨ 8 < R.length) ∨ ∃ j, j < R.length ∧ 100 < (R.getD j []).length := by
  unfold bigB
  rw [Bool.or_eq_true, decide_eq_true_eq, List.any_eq_true]
  constructor
  · rintro (h | ⟨l, hl, h⟩)
    · exact .inl h
    · obtain ⟨j, hj, rfl⟩ := List.getElem_of_mem hl
      exact .inr ⟨j, hj, by rw [List.getD_eq_getElem?_getD, List.getElem?_eq_getElem hj]; exact of_decide_eq_true h⟩
  · rintro (h | ⟨j, hj, h⟩)
    · exact .inl h
    · refine .inr ⟨R.getD j [], ?_, decide_eq_true h⟩
      rw [List.getD_eq_getElem?_getD, List.getElem?_eq_getElem hj]; exact List.getElem_mem _
theorem not_big {L : List Rg} {R : List (List Int)} (h : bigB L R = false) : L.length ≤ 8 ∧ R.length ≤ 8 ∧ ∀ j, (R.getD j []).length ≤ 100 := by
  have k : ¬ ((8 < L.length ∨ 8 < R.length) ∨ ∃ j, j < R.length ∧ 100 < (R.getD j []).length) := fun e => by rw [(big_iff L R).2 e] at h; cases h
  refine ⟨by omega, by omega, fun j => ?_⟩
  by_cases hj : j < R.length
  · exact Nat.le_of_not_lt fun e => k (.inr ⟨j, hj, e⟩)
  · rw [List.getD_eq_getElem?_getD, List.getElem?_eq_none (by omega)]; exact Nat.zero_le _
set_option maxRecDepth 100000 in
set_option maxHeartbeats 4000000 in
theorem big_b (w : World) (X : PX) (L : List Rg) (a : Option Addr) (n c : Nat) (R : List (List Int)) (h : SG w X.ra X.rn X.rc L) (g : SR w a n c R) (b : Bool) (hb : bigB L R = b) :
    Calls Try.prog 11 #[.agg #[.string X.nm, .slice X.ha X.hn X.hc, .slice X.ma X.mn X.mc, .slice X.ra X.rn X.rc, .slice X.aa X.an X.ac, .slice X.ta X.tn X.tc, .slice X.sa X.sn X.sc, .slice X.ca X.cn X.cc, .slice X.da X.dn X.dc], .slice a n c] w (RetV (.bool b) w) := by
  have K := Lib.hid g
  have LN := Lib.hid h.len
  have RN := Lib.hid g.len
  have HB := Lib.hid hb
  clear h g hb
  obtain ⟨A, hA⟩ : ∃ A, A = w.heap.size := ⟨_, rfl⟩
  obtain ⟨w1, hw1⟩ : ∃ w1, w1 = w.alloc (.cells #[.string X.nm, .slice X.ha X.hn X.hc, .slice X.ma X.mn X.mc, .slice X.ra X.rn X.rc, .slice X.aa X.an X.ac, .slice X.ta X.tn X.tc, .slice X.sa X.sn X.sc, .slice X.ca X.cn X.cc, .slice X.da X.dn X.dc] 37) := ⟨_, rfl⟩
  have BA := Lib.hid (show IsB w1 A 37 #[.string X.nm, .slice X.ha X.hn X.hc, .slice X.ma X.mn X.mc, .slice X.ra X.rn X.rc, .slice X.aa X.an X.ac, .slice X.ta X.tn X.tc, .slice X.sa X.sn X.sc, .slice X.ca X.cn X.cc, .slice X.da X.dn X.dc] from by rw [hw1, hA]; exact IsB.new _ _ _)
  have GZ := Lib.hid (show w.grownBy w1 none from by rw [hw1]; exact gb_al (gb_refl _ _))
  have LA := Lib.hid (show A < w1.heap.size from by rw [hw1, hA]; simp)
  go_enter Try.func11, Try.ntmps11
  go_upto_region 1 with fail
  rw [← hw1, ← hA]

  clear hw1 hA
  have s3 : w1.cell? ⟨A, 3, none⟩ = some (.slice X.ra X.rn X.rc) := BA.out.cell 3
  rcases (show 8 < X.rn ∨ (X.rn ≤ 8 ∧ 8 < n) ∨ (X.rn ≤ 8 ∧ n ≤ 8) by omega) with q | ⟨q, q2⟩ | ⟨q, q2⟩
  · obtain rfl : b = true := by rw [← HB.out]; exact (big_iff L R).2 (.inl (.inl (by rw [LN.out]; exact q)))
    have j1 : (8 : Int) < (X.rn : Int) := by omega
    clear HB
    go_wp2
    go_ret
    exact ⟨rfl, GZ.out⟩
  · obtain rfl : b = true := by rw [← HB.out]; exact (big_iff L R).2 (.inl (.inr (by rw [RN.out]; exact q2)))
    have j1 : ¬ (8 : Int) < (X.rn : Int) := by omega
    have j2 : (8 : Int) < (n : Int) := by omega
    clear HB
    go_wp2
    go_ret
    exact ⟨rfl, GZ.out⟩
  · have j1 : ¬ (8 : Int) < (X.rn : Int) := by omega
    have j2 : ¬ (8 : Int) < (n : Int) := by omega
    go_wp2
    go_loopw [5] (fun s wr => ∃ k : Nat, k ≤ n ∧ s = .int .i64 k ∧ (∀ j, j < k → ¬ 100 < (R.getD j []).length) ∧ wr = w1) (fun s _ => n - (intOf s).toNat)
    case atStart => exact ⟨0, Nat.zero_le _, rfl, fun j hj => absurd hj (Nat.not_lt_zero _), rfl⟩
    case round =>
      obtain ⟨k, hk, rfl, hno, rfl⟩ := hrel
      have HN := Lib.hid hno
      clear hno
      by_cases hlt : k < n
      · obtain ⟨br, rfl⟩ := K.out.some (by omega)
        obtain ⟨fa, fn, fc, y0, y1⟩ := (K.out.keep0 GZ.out).cells br rfl k hlt
        have FN := Lib.hid y1.len
        have i0 : (0 : Int) ≤ (k : Int) := by omega
        have i2 : (k : Int) < (n : Int) := by omega
        clear y1
        by_cases hh : 100 < fn
        · obtain rfl : b = true := by rw [← HB.out]; exact (big_iff L R).2 (.inr ⟨k, by rw [RN.out]; exact hlt, by rw [FN.out]; exact hh⟩)
          have j3 : (100 : Int) < (fn : Int) := by omega
          clear HB
          go_wp2
          go_ret
          exact ⟨rfl, GZ.out⟩
        · have j3 : ¬ (100 : Int) < (fn : Int) := by omega
          have N2 := Lib.hid (show ∀ j, j < k + 1 → ¬ 100 < (R.getD j []).length from fun j hj => by
            rcases (show j < k ∨ j = k by omega) with q | rfl
            · exact HN.out j q
            · rw [FN.out]; exact hh)
          go_wp2
          go_roundw
          case rel => exact ⟨k + 1, by omega, by go_num, N2.out, by trivial⟩
          case measure => simp [intOf]; omega
      · have hke : k = n := by omega
        subst hke
        obtain rfl : b = false := by
          rw [← HB.out]
          refine bool_no (big_iff L R) ?_
          rintro ((e | e) | ⟨j, hj, e⟩)
          · rw [LN.out] at e; omega
          · rw [RN.out] at e; omega
          · exact HN.out j (by rw [← RN.out]; exact hj) e
        clear HB
        go_wp2
        go_ret
        exact ⟨rfl, GZ.out⟩
end Go.Proofs.Ytjbimeahcldaoaa
