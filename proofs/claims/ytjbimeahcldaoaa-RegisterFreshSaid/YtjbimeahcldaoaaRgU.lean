/- Register: the law Fresh; no condition. -/
import Derived.Test.YtjbimeahcldaoaaRgT
namespace Go.Proofs.Ytjbimeahcldaoaa
open Go.RowKit
set_option linter.unusedVariables false
/-- A row whose first i numbers have 7 more. -/
def plus7 (l : List Int) (i : Nat) : List Int := (List.range l.length).map fun j => if j < i then (l.getD j 0 + 7) % 4294967296 else l.getD j 0
theorem p7_len (l : List Int) (i : Nat) : (plus7 l i).length = l.length := by simp [plus7]
theorem p7_zero (l : List Int) : plus7 l 0 = l := by
  apply List.ext_getElem (by simp [plus7])
  intro i h1 h2
  simp [plus7, h2]
theorem p7_at (l : List Int) (i j : Nat) (h : i ≤ j) (hj : j < l.length) : (plus7 l i).getD j 0 = l.getD j 0 := by
  simp [plus7, hj]
  intro k
  omega
theorem p7_set (l : List Int) (i : Nat) (h : i < l.length) : (plus7 l i).set i ((l.getD i 0 + 7) % 4294967296) = plus7 l (i + 1) := by
  apply List.ext_getElem (by simp [plus7])
  intro k h1 h2
  rw [List.getElem_set]
  by_cases e : i = k
  · subst e
    simp [plus7]
  · rw [if_neg e]
    simp [plus7]
    by_cases q : k < i
    · rw [if_pos q, if_pos (by omega)]
    · rw [if_neg q, if_neg (by omega)]
theorem p7_rng (l : List Int) (i : Nat) (h : ∀ x ∈ l, 0 ≤ x ∧ x < 4294967296) : ∀ x ∈ plus7 l i, 0 ≤ x ∧ x < 4294967296 := by
  intro x hx
  obtain ⟨j, hj, rfl⟩ := List.mem_map.1 hx
  have hj := List.mem_range.1 hj
  have := rng_at h j
  split <;> omega
/-- Where the cell of x is left out, a write changes nothing. -/
theorem write_off (L : List Rg) (R : List (List Int)) (r i v : Int) (hi : 0 ≤ i) (q t : Nat) (h : ¬ ((q : Int) = r ∧ (t : Int) = i)) : ((writeL L R r i v).getD q []).getD t 0 = (R.getD q []).getD t 0 := by
  unfold writeL
  split
  · rename_i hc
    rw [Bool.and_eq_true] at hc
    have c := of_decide_eq_true (show decide _ = true from hc.1)
    by_cases e : q = r.toNat
    · rw [e, getD_set_at _ _ _ _ (by omega), getD_set_row, if_neg]
      rintro ⟨e2, _⟩
      exact h ⟨by omega, by omega⟩
    · rw [getD_set_off _ _ _ _ _ e]
  · rfl
theorem write_len (L : List Rg) (R : List (List Int)) (r i v : Int) (q : Nat) : ((writeL L R r i v).getD q []).length = (R.getD q []).length := by
  unfold writeL
  split
  · rename_i hc
    rw [Bool.and_eq_true] at hc
    have c := of_decide_eq_true (show decide _ = true from hc.1)
    by_cases e : q = r.toNat
    · rw [e, getD_set_at _ _ _ _ (by omega), List.length_set]
    · rw [getD_set_off _ _ _ _ _ e]
  · rfl
theorem set_set (L : List (List Int)) (k : Nat) (x y : List Int) : (L.set k x).set k y = L.set k y := by simp
/-- The rows ahead of i have 7 more. -/
def plR (W : List (List Int)) (i : Nat) : List (List Int) := (List.range W.length).map fun j => if j < i then plus7 (W.getD j []) (W.getD j []).length else W.getD j []
theorem pl_len (W : List (List Int)) (i : Nat) : (plR W i).length = W.length := by simp [plR]
theorem pl_zero (W : List (List Int)) : plR W 0 = W := by
  apply List.ext_getElem (by simp [plR])
  intro i h1 h2
  simp [plR, h2]
theorem pl_at (W : List (List Int)) (i : Nat) (h : i < W.length) : (plR W i).getD i [] = W.getD i [] := by
  simp [plR, h]
theorem pl_set (W : List (List Int)) (i : Nat) (h : i < W.length) : (plR W i).set i (plus7 (W.getD i []) (W.getD i []).length) = plR W (i + 1) := by
  apply List.ext_getElem (by simp [plR])
  intro k h1 h2
  rw [List.getElem_set]
  by_cases e : i = k
  · subst e
    simp [plR]
  · rw [if_neg e]
    simp [plR]
    by_cases q : k < i
    · rw [if_pos q, if_pos (by omega)]
    · rw [if_neg q, if_neg (by omega)]
set_option maxRecDepth 100000 in
set_option maxHeartbeats 4000000 in
theorem fresh_walk (w : World) (X : PX) (L : List Rg) (a : Option Addr) (n c : Nat) (R : List (List Int)) (x : Ac) (h : SG w X.ra X.rn X.rc L) (g : SR w a n c R) (hx : AcOk x) :
    Calls Try.prog 7 #[.agg #[.string X.nm, .slice X.ha X.hn X.hc, .slice X.ma X.mn X.mc, .slice X.ra X.rn X.rc, .slice X.aa X.an X.ac, .slice X.ta X.tn X.tc, .slice X.sa X.sn X.sc, .slice X.ca X.cn X.cc, .slice X.da X.dn X.dc], .slice a n c, .agg #[.int .i64 x.1, .int .u32 x.2.1, .int .u32 x.2.2]] w (RetV (.bool true) w) := by
  have WK := Lib.hid (fun W => works_any W)
  have T1 := Lib.hid (fun (W : World) (k : w.grownBy W none) => big_b W X L a n c R (h.keep0 k) (g.keep0 k) _ rfl)
  unfold RetV at WK T1
  have HH := Lib.hid h
  have H := Lib.hid g
  have HX := Lib.hid hx
  have LN := Lib.hid h.len
  have RN := Lib.hid g.len
  clear h g hx
  obtain ⟨A, hA⟩ : ∃ A, A = w.heap.size := ⟨_, rfl⟩
  obtain ⟨D, hD⟩ : ∃ D, D = A + 1 := ⟨_, rfl⟩
  obtain ⟨w1, hw1⟩ : ∃ w1, w1 = (w.alloc (.cells #[.string X.nm, .slice X.ha X.hn X.hc, .slice X.ma X.mn X.mc, .slice X.ra X.rn X.rc, .slice X.aa X.an X.ac, .slice X.ta X.tn X.tc, .slice X.sa X.sn X.sc, .slice X.ca X.cn X.cc, .slice X.da X.dn X.dc] 37)).alloc (.cells #[.int .i64 x.1, .int .u32 x.2.1, .int .u32 x.2.2] 46) := ⟨_, rfl⟩
  have BA := Lib.hid (show IsB w1 A 37 #[.string X.nm, .slice X.ha X.hn X.hc, .slice X.ma X.mn X.mc, .slice X.ra X.rn X.rc, .slice X.aa X.an X.ac, .slice X.ta X.tn X.tc, .slice X.sa X.sn X.sc, .slice X.ca X.cn X.cc, .slice X.da X.dn X.dc] from by rw [hw1, hA]; exact (IsB.new _ _ _).alloc _)
  have BD := Lib.hid (show IsB w1 D 46 #[.int .i64 x.1, .int .u32 x.2.1, .int .u32 x.2.2] from by rw [hw1, hD, hA, ← sz_al w (.cells #[.string X.nm, .slice X.ha X.hn X.hc, .slice X.ma X.mn X.mc, .slice X.ra X.rn X.rc, .slice X.aa X.an X.ac, .slice X.ta X.tn X.tc, .slice X.sa X.sn X.sc, .slice X.ca X.cn X.cc, .slice X.da X.dn X.dc] 37)]; exact IsB.new _ _ _)
  have GZ := Lib.hid (show w.grownBy w1 none from by rw [hw1]; exact gb_al (gb_al (gb_refl _ _)))
  go_enter Try.func7, Try.ntmps7
  go_upto_region 1 with fail
  rw [← hA, ← hD, ← hw1]
  clear hw1 hD hA
  have s0 : w1.cell? ⟨A, 0, none⟩ = some (.string X.nm) := (BA.out).cell 0
  have s1 : w1.cell? ⟨A, 1, none⟩ = some (.slice X.ha X.hn X.hc) := (BA.out).cell 1
  have s2 : w1.cell? ⟨A, 2, none⟩ = some (.slice X.ma X.mn X.mc) := (BA.out).cell 2
  have s3 : w1.cell? ⟨A, 3, none⟩ = some (.slice X.ra X.rn X.rc) := (BA.out).cell 3
  have s4 : w1.cell? ⟨A, 4, none⟩ = some (.slice X.aa X.an X.ac) := (BA.out).cell 4
  have s5 : w1.cell? ⟨A, 5, none⟩ = some (.slice X.ta X.tn X.tc) := (BA.out).cell 5
  have s6 : w1.cell? ⟨A, 6, none⟩ = some (.slice X.sa X.sn X.sc) := (BA.out).cell 6
  have s7 : w1.cell? ⟨A, 7, none⟩ = some (.slice X.ca X.cn X.cc) := (BA.out).cell 7
  have s8 : w1.cell? ⟨A, 8, none⟩ = some (.slice X.da X.dn X.dc) := (BA.out).cell 8
  cases h1 : bigB L R
  rotate_left
  · rw [h1] at T1
    clear h1
    go_wp2_with fail
    refine (T1.out _ GZ.out).mono ?_
    rintro e w3 ⟨rfl, g⟩
    have G3 := Lib.hid (gb_trans GZ.out g)
    clear g s0 s1 s2 s3 s4 s5 s6 s7 s8
    go_wp2_with fail
    refine (WK.out _).mono ?_
    rintro e w4 ⟨rfl, g⟩
    have G4 := Lib.hid (gb_trans G3.out g)
    clear g
    go_wp2
    go_ret
    exact ⟨rfl, G4.out⟩
  rw [h1] at T1
  obtain ⟨b1, b2, b3⟩ := not_big h1
  rw [LN.out] at b1
  rw [RN.out] at b2
  have B3 := Lib.hid b3
  have HR := Lib.hid (show ∀ j, (R.getD j []).length ≤ 1000000 from fun j => by have := b3 j; omega)
  clear h1 b3
  go_wp2_with fail
  refine (T1.out _ GZ.out).mono ?_
  rintro e wb ⟨rfl, g⟩
  replace BA := Lib.hid (BA.out.keep0 g)
  replace BD := Lib.hid (BD.out.keep0 g)
  replace GZ := Lib.hid (gb_trans GZ.out g)
  clear g s0 s1 s2 s3 s4 s5 s6 s7 s8
  go_wp2
  go_loopw [7, 8] (fun o s wr => ∃ k : Nat, k ≤ n ∧ s = .int .i64 k ∧ (∃ V Vs, V = o ∧ OR wr wb.heap.size V (R.take k) Vs) ∧ wb.grownBy wr none) (fun _ s _ => n - (intOf s).toNat)
  case atStart => exact ⟨0, Nat.zero_le _, rfl, ⟨_, [], rfl, or_nil _ _⟩, gb_refl _ _⟩
  case round =>
    obtain ⟨k, hk, rfl, ⟨V, Vs, rfl, hO⟩, hg⟩ := hrel
    have HO := Lib.hid hO
    have HG := Lib.hid hg
    clear hO hg
    by_cases hlt : k < n
    · obtain ⟨ar, har⟩ := H.out.some (by omega)
      rw [har] at H
      subst har
      obtain ⟨A1, N1, C1, d0, r1⟩ := H.out.cells ar rfl k hlt
      have c0 := HG.out.cell (GZ.out.cell d0 (by simp)) (by simp)
      have c0' := (gb_alloc wr (.cells #[] 44) none).cell c0 (by simp)
      have R1 := Lib.hid ((r1.keep0 GZ.out).keep0 HG.out)
      have i0 : (0 : Int) ≤ (k : Int) := by omega
      have i2 : (k : Int) < (n : Int) := by omega
      have TK := Lib.hid (take_one R k (by rw [RN.out]; exact hlt))
      have NB := Lib.hid (show (R.getD k []).length ≤ 1000000 from HR.out k)
      obtain ⟨l0, hl0⟩ : ∃ l, l = R.getD k [] := ⟨_, rfl⟩
      rw [← hl0] at R1 TK NB
      clear hl0
      have hlen := HO.out.nV
      have hT : (R.take k).length = k := by rw [List.length_take, RN.out]; omega
      rw [hT] at hlen
      have VL := Lib.hid hlen
      clear hlen hT r1 d0
      have E0 := Lib.hid (show NU (wr.alloc (.cells #[] 44)) wr.heap.size (.slice (some ⟨wr.heap.size, 0, none⟩) 0 0) [] from World.ownsRow_lit (base := wr.heap.size) (e := 44) (size := 1) wr #[] 0 (Nat.le_refl _) (by unfold maxLen; omega) (by simp))
      go_wp2_with (at_builtin; refine upush_any rfl _ _ rfl wr.heap.size _ [] rfl E0.out A1 N1 C1 l0 rfl (R1.out.keep0 (gb_alloc _ _ _)) (by have := NB.out; simpa using this) (by simp) ?_)
      intro V1 w5 n5 g5
      have n5 : NU w5 wr.heap.size V1 l0 := by simpa using n5
      obtain ⟨f5, e5, rfl⟩ := nu_shape n5
      have NZ := Lib.hid n5
      have g6 := Lib.hid (show wr.grownBy w5 none from gb_new (gb_trans (gb_alloc wr (.cells #[] 44) (some wr.heap.size)) g5) (Nat.le_refl _))
      have O5 := Lib.hid (HO.out.keep0 g6.out)
      have G5 := Lib.hid (gb_trans HG.out g6.out)
      clear n5 g5 E0 c0 c0'
      obtain ⟨N0, hN0⟩ : ∃ N0, N0 = l0.length := ⟨_, rfl⟩
      rw [← hN0] at NZ ⊢
      clear hN0
      have OA := Lib.hid (show (w5.alloc (.cells #[.slice f5 N0 e5] 53)).ownsRow wb.heap.size 53 1 V Vs.length Vs from by
        have q := O5.out.out
        rw [← O5.out.nV] at q
        exact own_keep0 q (gb_alloc _ _ _))
      have HB := Lib.hid (show wb.heap.size ≤ (w5.alloc (.cells #[.slice f5 N0 e5] 53)).heap.size from by
        have := G5.out.size
        rw [sz_al]; omega)
      have VB := Lib.hid (show Vs.length + 1 ≤ 1000000 from by have := VL.out; omega)
      go_wp2_with (at_builtin; refine rpush_any rfl _ _ rfl wb.heap.size V Vs rfl OA.out _ _ _ rfl (one_cell _ _ _ _ rfl) rfl VB.out HB.out ?_; intro V2 w6 o6 g7)
      have O6 := Lib.hid (OR.more HO.out (gb_trans g6.out (gb_alloc w5 (.cells #[.slice f5 N0 e5] 53) none)) l0 (own_low (NZ.out.keep0 (gb_alloc _ _ _)) HG.out.size) (fun q e => (World.ownsRow.lt NZ.out q e).1) R1.out.rng g7 o6)
      have G6 := Lib.hid (show wb.grownBy w6 none from by
        have q := gb_trans G5.out (gb_alloc w5 (.cells #[.slice f5 N0 e5] 53) none)
        cases e : V.ownBlock with
        | none => rw [e] at g7; exact gb_trans q g7
        | some g =>
          rw [e] at g7
          exact gb_new (gb_trans (gb_any q) g7) (World.ownsRow.lt OA.out g e).1)
      rw [← TK.out] at O6
      clear o6 g7 OA NZ O5 R1
      go_wp2
      go_roundw
      case rel => exact ⟨k + 1, by omega, by go_num, ⟨_, _, rfl, O6.out⟩, G6.out⟩
      case measure => simp [intOf]; omega
    · have hke : k = n := by omega
      subst hke
      rw [List.take_of_length_le (by rw [RN.out]; exact Nat.le_refl _)] at HO
      obtain ⟨wo, hwo⟩ : ∃ wo, wo = wr := ⟨_, rfl⟩
      rw [← hwo] at HO HG ⊢
      clear hwo
      obtain ⟨ao, co, hV⟩ := HO.out.shape
      rw [RN.out] at hV
      subst hV
      have S0 := Lib.hid (HO.out.sr RN.out)
      have HR0 := Lib.hid ((H.out.keep0 GZ.out).keep0 HG.out)
      have BA2 := Lib.hid (BA.out.keep0 HG.out)
      have BD2 := Lib.hid (BD.out.keep0 HG.out)
      have GW := Lib.hid (gb_trans GZ.out HG.out)
      clear HO BA BD GZ HG H
      have s0 : wo.cell? ⟨A, 0, none⟩ = some (.string X.nm) := (BA2.out).cell 0
      have s1 : wo.cell? ⟨A, 1, none⟩ = some (.slice X.ha X.hn X.hc) := (BA2.out).cell 1
      have s2 : wo.cell? ⟨A, 2, none⟩ = some (.slice X.ma X.mn X.mc) := (BA2.out).cell 2
      have s3 : wo.cell? ⟨A, 3, none⟩ = some (.slice X.ra X.rn X.rc) := (BA2.out).cell 3
      have s4 : wo.cell? ⟨A, 4, none⟩ = some (.slice X.aa X.an X.ac) := (BA2.out).cell 4
      have s5 : wo.cell? ⟨A, 5, none⟩ = some (.slice X.ta X.tn X.tc) := (BA2.out).cell 5
      have s6 : wo.cell? ⟨A, 6, none⟩ = some (.slice X.sa X.sn X.sc) := (BA2.out).cell 6
      have s7 : wo.cell? ⟨A, 7, none⟩ = some (.slice X.ca X.cn X.cc) := (BA2.out).cell 7
      have s8 : wo.cell? ⟨A, 8, none⟩ = some (.slice X.da X.dn X.dc) := (BA2.out).cell 8
      have d0 : wo.cell? ⟨D, 0, none⟩ = some (.int .i64 x.1) := BD2.out.cell 0
      have d1 : wo.cell? ⟨D, 1, none⟩ = some (.int .u32 x.2.1) := BD2.out.cell 1
      have d2 : wo.cell? ⟨D, 2, none⟩ = some (.int .u32 x.2.2) := BD2.out.cell 2
      have WP := pwrite_any wo X L ao k co R x.1 x.2.1 x.2.2 (HH.out.keep0 GW.out) S0.out (by omega) (by omega) HX.out.1 HX.out.2.1.1 HX.out.2.1.2 HX.out.2.2.1 HX.out.2.2.2 HR.out
      unfold RetR at WP
      have hlt0 : ¬ (k : Int) < (k : Int) := by omega
      go_wp2_with fail
      refine WP.mono ?_
      rintro e w3 ⟨V1, Vs1, rfl, o1, g⟩
      have O1 := Lib.hid o1
      have G3 := Lib.hid g
      clear g o1 WP hlt0 d0 d1 d2 s0 s1 s2 s3 s4 s5 s6 s7 s8
      obtain ⟨W0, hW0⟩ : ∃ W0, W0 = writeL L R x.1 x.2.1 x.2.2 := ⟨_, rfl⟩
      have WL := Lib.hid (show W0.length = k from by rw [hW0, keep_rows, RN.out])
      have WR := Lib.hid (show ∀ q, (W0.getD q []).length = (R.getD q []).length from fun q => by rw [hW0]; exact write_len _ _ _ _ _ q)
      have WO := Lib.hid (show ∀ q t : Nat, ¬ ((q : Int) = x.1 ∧ (t : Int) = x.2.1) → (W0.getD q []).getD t 0 = (R.getD q []).getD t 0 from fun q t e => by rw [hW0]; exact write_off _ _ _ _ _ HX.out.2.1.1 q t e)
      rw [← hW0] at O1
      clear hW0
      obtain ⟨a1, c1, hV⟩ := O1.out.shape
      rw [WL.out] at hV
      subst hV
      have LB := Lib.hid (show wo.heap.size ≤ wo.heap.size from Nat.le_refl _)
      go_wp2
      go_loopw [10] (fun s wr => ∃ i : Nat, i ≤ k ∧ s = .int .i64 i ∧ OR wr wo.heap.size (.slice a1 k c1) (plR W0 i) Vs1 ∧ wo.grownBy wr none) (fun s _ => k - (intOf s).toNat)
      case atStart => exact ⟨0, Nat.zero_le _, rfl, by rw [pl_zero]; exact O1.out, G3.out⟩
      case round =>
        clear O1 G3
        obtain ⟨i, hi, rfl, hO, hg⟩ := hrel
        have HO := Lib.hid hO
        have HG := Lib.hid hg
        clear hO hg
        by_cases hlt2 : i < k
        · have PL := Lib.hid (show (plR W0 i).length = k from by rw [pl_len, WL.out])
          obtain ⟨B, fa, fc, rfl, hV2, y0, hbB⟩ := HO.out.cellq PL.out i hlt2
          rw [pl_at W0 i (by rw [WL.out]; exact hlt2)] at hV2 y0
          obtain ⟨ar, har⟩ := HR0.out.some (by omega)
          obtain ⟨ra, rn, rc, z0, z1⟩ := HR0.out.cells ar har i hlt2
          have Z1 := Lib.hid z1
          have Z0 := Lib.hid z0
          have ZL := Lib.hid (show rn = (W0.getD i []).length from by rw [WR.out i]; exact z1.len.symm)
          have z0' := HG.out.cell z0 (by simp)
          have NB := Lib.hid (show (W0.getD i []).length ≤ 100 from by rw [WR.out i]; exact B3.out i)
          rw [har]
          have i0 : (0 : Int) ≤ (i : Int) := by omega
          have i2 : (i : Int) < (k : Int) := by omega
          have VV := Lib.hid hV2
          have WOi := Lib.hid (fun (t : Nat) (e : ¬ ((i : Int) = x.1 ∧ (t : Int) = x.2.1)) => WO.out i t e)
          have PS2 := Lib.hid (pl_set W0 i (by rw [WL.out]; exact hlt2))
          have RGL := Lib.hid (show ∀ y ∈ W0.getD i [], 0 ≤ y ∧ y < 4294967296 from by
            have q := rrng_at HO.out.rng i
            rw [pl_at W0 i (by rw [WL.out]; exact hlt2)] at q
            exact q)
          have PAt := Lib.hid (pl_at W0 i (by rw [WL.out]; exact hlt2))
          obtain ⟨l0, hl0⟩ : ∃ l, l = W0.getD i [] := ⟨_, rfl⟩
          rw [← hl0] at y0 ZL NB VV WOi PS2 PAt RGL
          obtain ⟨N, hN⟩ : ∃ N, N = l0.length := ⟨_, rfl⟩
          have NL := Lib.hid hN.symm
          rw [← hN] at y0 ZL NB VV PS2
          have ZL2 := ZL.out
          subst ZL2
          obtain ⟨lr, hlr⟩ : ∃ l, l = R.getD i [] := ⟨_, rfl⟩
          rw [← hlr] at Z1 WOi
          clear hl0 hN hlr hV2 z0 z1 ZL
          have nb : rn ≤ 100 := NB.out
          go_upto_region 14 with fail
          go_region
          clear y0 z0'
          go_wp2
          go_loopw [11] (fun s wi => ∃ t : Nat, t ≤ rn ∧ s = .int .i64 t ∧ OR wi wo.heap.size (.slice (some ⟨B, 0, none⟩) k c1) ((plR W0 i).set i (plus7 l0 t)) Vs1 ∧ wo.grownBy wi none) (fun s _ => rn - (intOf s).toNat)
          case atStart =>
            refine ⟨0, Nat.zero_le _, rfl, ?_, gb_dr1 HG.out⟩
            rw [p7_zero, ← PAt.out, set_self _ _ (by rw [PL.out]; exact hlt2)]
            exact HO.out.keep0 (gb_drew _ none)
          case round =>
            clear HO HG
            obtain ⟨t, ht, rfl, hO, hg⟩ := hrel
            obtain ⟨wi, hwi⟩ : ∃ wi, wi = wr := ⟨_, rfl⟩
            rw [← hwi] at hO hg ⊢
            clear hwi
            have HO := Lib.hid hO
            have HG := Lib.hid hg
            clear hO hg
            have PL2 := Lib.hid (show ((plR W0 i).set i (plus7 l0 t)).length = k from by rw [List.length_set, PL.out])
            have GA := Lib.hid (show ((plR W0 i).set i (plus7 l0 t)).getD i [] = plus7 l0 t from getD_set_at _ _ _ _ (by rw [PL.out]; exact hlt2))
            obtain ⟨B', fa', fc', eB, hV3, y0, -⟩ := HO.out.cellq PL2.out i hlt2
            rw [VV.out] at hV3
            rw [GA.out, p7_len, NL.out] at hV3 y0
            injection eB with eB
            injection eB with eB
            subst eB
            injection hV3 with e1 e2 e3
            subst e1 e3
            clear e2
            have OW := Lib.hid (HO.out.own i (by rw [PL2.out]; exact hlt2))
            rw [VV.out, GA.out] at OW
            by_cases hlt3 : t < rn
            · obtain ⟨g, fc3, hsl⟩ := own_head (n := rn) (show wi.ownsRow wo.heap.size 44 1 (.slice fa rn fc) rn ((plus7 l0 t).map (Value.int .u32)) from by have q := OW.out; unfold NU at q; rw [p7_len, NL.out] at q; exact q) (by omega)
              obtain ⟨rfl, -, -⟩ : fa = some ⟨g, 0, none⟩ ∧ rn = rn ∧ fc = fc3 := by injection hsl with e1 e2 e3; exact ⟨e1, e2, e3⟩
              clear hsl
              obtain ⟨v0', f0⟩ := nu_cell OW.out (by rw [p7_len, NL.out]) t hlt3
              rw [p7_at l0 t t (Nat.le_refl _) (by rw [NL.out]; exact hlt3)] at v0'
              obtain ⟨rr, hrr⟩ := Z1.out.some (by omega)
              have u0 := (Z1.out.keep0 HG.out).cells rr hrr t hlt3
              have z0' := HG.out.cell Z0.out (by simp)
              rw [hrr] at z0'
              have d0 : wi.cell? ⟨D, 0, none⟩ = some (.int .i64 x.1) := (BD2.out.keep0 HG.out).cell 0
              have d1 : wi.cell? ⟨D, 1, none⟩ = some (.int .u32 x.2.1) := (BD2.out.keep0 HG.out).cell 1
              have LG := Lib.hid (World.ownsRow.lt OW.out g rfl).1
              have PU := Lib.hid (NU.put OW.out (by rw [p7_len, NL.out]) t ((l0.getD t 0 + 7) % 4294967296))
              rw [p7_set l0 t (by rw [NL.out]; exact hlt3)] at PU
              have SR0 := Lib.hid (show ∀ y ∈ plus7 l0 (t + 1), 0 ≤ y ∧ y < 4294967296 from by
                have q := rrng_at HO.out.rng i
                rw [GA.out] at q
                intro y hy
                refine p7_rng l0 (t + 1) ?_ y hy
                exact RGL.out)
              have UP := Lib.hid (HO.out.upd i (by rw [PL2.out]; exact hlt2) (plus7 l0 (t + 1)) g (by rw [VV.out]; rfl) (gb_set wi g t (.int .u32 ((l0.getD t 0 + 7) % 4294967296))) (by rw [VV.out]; exact PU.out) SR0.out)
              rw [set_set] at UP
              have GS := Lib.hid (gb_put (i := t) (u := .int .u32 ((l0.getD t 0 + 7) % 4294967296)) HG.out LG.out)
              have WOt := Lib.hid (WOi.out t)
              have i3 : (0 : Int) ≤ (t : Int) := by omega
              have i4 : (t : Int) < (rn : Int) := by omega
              have hx0 := HX.out.2.1.1
              have hx1 := HX.out.2.1.2
              obtain ⟨v, hv⟩ : ∃ v, v = l0.getD t 0 := ⟨_, rfl⟩
              rw [← hv] at v0' UP GS WOt
              obtain ⟨u, hu⟩ : ∃ u, u = lr.getD t 0 := ⟨_, rfl⟩
              rw [← hu] at u0 WOt
              clear hv hu PU SR0 OW
              by_cases q0 : (i : Int) = x.1
              · by_cases q1 : (t : Int) = x.2.1
                · rw [← q0] at d0
                  rw [← q1] at d1
                  have wt : IntKind.i64.wrap (t : Int) = (t : Int) := IntWalk.i64_in _ (by omega)
                  clear q0 q1 hx0 hx1 WOt
                  go_upto_region 19 with fail
                  refine wp_region_held_drew (S := (fun w' : World => w'.cell? ⟨D, 0, none⟩ = some (.int .i64 (i : Int)) ∧ w'.cell? ⟨D, 1, none⟩ = some (.int .u32 (t : Int)) ∧ w'.cell? ⟨B, i, none⟩ = some (.slice (some ⟨g, 0, none⟩) rn fc) ∧ w'.cell? ⟨g, t, none⟩ = some (.int .u32 v) ∧ w'.cell? (ar.add i) = some (.slice (some rr) rn rc) ∧ w'.cell? (rr.add t) = some (.int .u32 u) ∧ True)) (by kernel_rfl) (⟨d0, d1, y0, v0', z0', u0, trivial⟩) (fun hH0 => ?_)
                  refine wpAnyH_take (i := 0) (v := ?v1) rfl (by kernel_rfl) (by kernel_rfl) (by kernel_rfl) (fun _ _ _ h => h) (Or.inl ⟨by rfl, ?hy1⟩) (by assumption) ?rest1
                  case hy1 => (intro wz hSw; (try dsimp only at hSw); first | (go_simp; done) | (go_simp; with_reducible rfl))
                  try simp only [Act.put, List.getElem_toArray, List.getElem_cons_zero, List.setIfInBounds_toArray, List.set_cons_zero, List.set_cons_succ]
                  refine wpAnyH_take (i := 1) (v := ?v2) rfl (by kernel_rfl) (by kernel_rfl) (by kernel_rfl) (fun _ _ _ h => h) (Or.inl ⟨by rfl, ?hy2⟩) (by assumption) ?rest2
                  case hy2 => (intro wz hSw; (try dsimp only at hSw); first | (go_simp; done) | (go_simp; with_reducible rfl))
                  try simp only [Act.put, List.getElem_toArray, List.getElem_cons_succ, List.getElem_cons_zero, List.setIfInBounds_toArray, List.set_cons_zero, List.set_cons_succ]
                  refine wpAnyH_take (i := 2) (v := ?v3) rfl (by kernel_rfl) (by kernel_rfl) (by kernel_rfl) (fun _ _ _ h => h) (Or.inl ⟨by rfl, ?hy3⟩) (by assumption) ?rest3
                  case hy3 => (intro wz hSw; (try dsimp only at hSw); first | (go_simp; done) | (go_simp; with_reducible rfl))
                  try simp only [Act.put, List.getElem_toArray, List.getElem_cons_succ, List.getElem_cons_zero, List.setIfInBounds_toArray, List.set_cons_zero, List.set_cons_succ]
                  refine wpAnyH_take (i := 3) (v := ?v4) rfl (by kernel_rfl) (by kernel_rfl) (by kernel_rfl) (fun _ _ _ h => h) (Or.inl ⟨by rfl, ?hy4⟩) (by assumption) ?rest4
                  case hy4 => (intro wz hSw; (try dsimp only at hSw); first | (go_simp; done) | (go_simp; with_reducible rfl))
                  try simp only [Act.put, List.getElem_toArray, List.getElem_cons_succ, List.getElem_cons_zero, List.setIfInBounds_toArray, List.set_cons_zero, List.set_cons_succ]
                  refine wpAnyH_take (i := 4) (v := ?v5) rfl (by kernel_rfl) (by kernel_rfl) (by kernel_rfl) (fun _ _ _ h => h) (Or.inl ⟨by rfl, ?hy5⟩) (by assumption) ?rest5
                  case hy5 => (intro wz hSw; (try dsimp only at hSw); first | (go_simp; done) | (go_simp; with_reducible rfl))
                  try simp only [Act.put, List.getElem_toArray, List.getElem_cons_succ, List.getElem_cons_zero, List.setIfInBounds_toArray, List.set_cons_zero, List.set_cons_succ]
                  refine wpAnyH_take (i := 5) (v := ?v6) rfl (by kernel_rfl) (by kernel_rfl) (by kernel_rfl) (fun _ _ _ h => h) (Or.inl ⟨by rfl, ?hy6⟩) (by assumption) ?rest6
                  case hy6 => (intro wz hSw; (try dsimp only at hSw); first | (go_simp; done) | (go_simp; with_reducible rfl))
                  try simp only [Act.put, List.getElem_toArray, List.getElem_cons_succ, List.getElem_cons_zero, List.setIfInBounds_toArray, List.set_cons_zero, List.set_cons_succ]
                  refine wpAnyH_take (i := 6) (v := ?v7) rfl (by kernel_rfl) (by kernel_rfl) (by kernel_rfl) (fun _ _ _ h => h) (Or.inl ⟨by rfl, ?hy7⟩) (by assumption) ?rest7
                  case hy7 => (intro wz hSw; (try dsimp only at hSw); first | (go_simp; done) | (go_simp; with_reducible rfl))
                  try simp only [Act.put, List.getElem_toArray, List.getElem_cons_succ, List.getElem_cons_zero, List.setIfInBounds_toArray, List.set_cons_zero, List.set_cons_succ]
                  refine wpAnyH_take (i := 7) (v := ?v8) rfl (by kernel_rfl) (by kernel_rfl) (by kernel_rfl) (fun _ _ _ h => h) (Or.inl ⟨by rfl, ?hy8⟩) (by assumption) ?rest8
                  case hy8 => (intro wz hSw; (try dsimp only at hSw); first | (go_simp; done) | (go_simp; with_reducible rfl))
                  try simp only [Act.put, List.getElem_toArray, List.getElem_cons_succ, List.getElem_cons_zero, List.setIfInBounds_toArray, List.set_cons_zero, List.set_cons_succ]
                  refine wpAnyH_take (i := 8) (v := ?v9) rfl (by kernel_rfl) (by kernel_rfl) (by kernel_rfl) (fun _ _ _ h => h) (Or.inl ⟨by rfl, ?hy9⟩) (by assumption) ?rest9
                  case hy9 => (intro wz hSw; (try dsimp only at hSw); first | (go_simp; done) | (go_simp; with_reducible rfl))
                  try simp only [Act.put, List.getElem_toArray, List.getElem_cons_succ, List.getElem_cons_zero, List.setIfInBounds_toArray, List.set_cons_zero, List.set_cons_succ]
                  refine wpAnyH_take (i := 9) (v := ?v10) rfl (by kernel_rfl) (by kernel_rfl) (by kernel_rfl) (fun _ _ _ h => h) (Or.inl ⟨by rfl, ?hy10⟩) (by assumption) ?rest10
                  case hy10 => (intro wz hSw; (try dsimp only at hSw); first | (go_simp; done) | (go_simp; with_reducible rfl))
                  try simp only [Act.put, List.getElem_toArray, List.getElem_cons_succ, List.getElem_cons_zero, List.setIfInBounds_toArray, List.set_cons_zero, List.set_cons_succ]
                  refine wpAnyH_take (i := 10) (v := ?v11) rfl (by kernel_rfl) (by kernel_rfl) (by kernel_rfl) (fun _ _ _ h => h) (Or.inl ⟨by rfl, ?hy11⟩) (by assumption) ?rest11
                  case hy11 => (intro wz hSw; (try dsimp only at hSw); first | (go_simp; done) | (go_simp; with_reducible rfl))
                  try simp only [Act.put, List.getElem_toArray, List.getElem_cons_succ, List.getElem_cons_zero, List.setIfInBounds_toArray, List.set_cons_zero, List.set_cons_succ]
                  refine wpAnyH_take (i := 11) (v := ?v12) rfl (by kernel_rfl) (by kernel_rfl) (by kernel_rfl) (fun _ _ _ h => h) (Or.inl ⟨by rfl, ?hy12⟩) (by assumption) ?rest12
                  case hy12 => (intro wz hSw; (try dsimp only at hSw); first | (go_simp; done) | (go_simp; with_reducible rfl))
                  try simp only [Act.put, List.getElem_toArray, List.getElem_cons_succ, List.getElem_cons_zero, List.setIfInBounds_toArray, List.set_cons_zero, List.set_cons_succ]
                  refine wpAnyH_take (i := 12) (v := undef) rfl (by kernel_rfl) (by kernel_rfl) (by kernel_rfl) (fun _ _ _ h => h) (Or.inr ⟨by rfl, rfl⟩) (by assumption) ?_
                  try simp only [Act.put, List.getElem_toArray, List.getElem_cons_succ, List.getElem_cons_zero, List.setIfInBounds_toArray, List.set_cons_zero, List.set_cons_succ]
                  refine wpAnyH_take (i := 13) (v := undef) rfl (by kernel_rfl) (by kernel_rfl) (by kernel_rfl) (fun _ _ _ h => h) (Or.inr ⟨by rfl, rfl⟩) (by assumption) ?_
                  try simp only [Act.put, List.getElem_toArray, List.getElem_cons_succ, List.getElem_cons_zero, List.setIfInBounds_toArray, List.set_cons_zero, List.set_cons_succ]
                  refine wpAnyH_take (i := 14) (v := undef) rfl (by kernel_rfl) (by kernel_rfl) (by kernel_rfl) (fun _ _ _ h => h) (Or.inr ⟨by rfl, rfl⟩) (by assumption) ?_
                  try simp only [Act.put, List.getElem_toArray, List.getElem_cons_succ, List.getElem_cons_zero, List.setIfInBounds_toArray, List.set_cons_zero, List.set_cons_succ]
                  refine wpAnyH_take (i := 15) (v := undef) rfl (by kernel_rfl) (by kernel_rfl) (by kernel_rfl) (fun _ _ _ h => h) (Or.inr ⟨by rfl, rfl⟩) (by assumption) ?_
                  try simp only [Act.put, List.getElem_toArray, List.getElem_cons_succ, List.getElem_cons_zero, List.setIfInBounds_toArray, List.set_cons_zero, List.set_cons_succ]
                  refine wpAnyH_take (i := 16) (v := undef) rfl (by kernel_rfl) (by kernel_rfl) (by kernel_rfl) (fun _ _ _ h => h) (Or.inr ⟨by rfl, rfl⟩) (by assumption) ?_
                  try simp only [Act.put, List.getElem_toArray, List.getElem_cons_succ, List.getElem_cons_zero, List.setIfInBounds_toArray, List.set_cons_zero, List.set_cons_succ]
                  refine wpAnyH_take (i := 17) (v := undef) rfl (by kernel_rfl) (by kernel_rfl) (by kernel_rfl) (fun _ _ _ h => h) (Or.inr ⟨by rfl, rfl⟩) (by assumption) ?_
                  try simp only [Act.put, List.getElem_toArray, List.getElem_cons_succ, List.getElem_cons_zero, List.setIfInBounds_toArray, List.set_cons_zero, List.set_cons_succ]
                  refine wpAnyH_take (i := 18) (v := undef) rfl (by kernel_rfl) (by kernel_rfl) (by kernel_rfl) (fun _ _ _ h => h) (Or.inr ⟨by rfl, rfl⟩) (by assumption) ?_
                  try simp only [Act.put, List.getElem_toArray, List.getElem_cons_succ, List.getElem_cons_zero, List.setIfInBounds_toArray, List.set_cons_zero, List.set_cons_succ]
                  refine wpAnyH_take (i := 19) (v := undef) rfl (by kernel_rfl) (by kernel_rfl) (by kernel_rfl) (fun _ _ _ h => h) (Or.inr ⟨by rfl, rfl⟩) (by assumption) ?_
                  try simp only [Act.put, List.getElem_toArray, List.getElem_cons_succ, List.getElem_cons_zero, List.setIfInBounds_toArray, List.set_cons_zero, List.set_cons_succ]
                  refine wpAnyH_take (i := 20) (v := undef) rfl (by kernel_rfl) (by kernel_rfl) (by kernel_rfl) (fun _ _ _ h => h) (Or.inr ⟨by rfl, rfl⟩) (by assumption) ?_
                  try simp only [Act.put, List.getElem_toArray, List.getElem_cons_succ, List.getElem_cons_zero, List.setIfInBounds_toArray, List.set_cons_zero, List.set_cons_succ]
                  refine wpAnyH_take (i := 21) (v := undef) rfl (by kernel_rfl) (by kernel_rfl) (by kernel_rfl) (fun _ _ _ h => h) (Or.inr ⟨by rfl, rfl⟩) (by assumption) ?_
                  try simp only [Act.put, List.getElem_toArray, List.getElem_cons_succ, List.getElem_cons_zero, List.setIfInBounds_toArray, List.set_cons_zero, List.set_cons_succ]
                  refine wpAnyH_take (i := 22) (v := undef) rfl (by kernel_rfl) (by kernel_rfl) (by kernel_rfl) (fun _ _ _ h => h) (Or.inr ⟨by rfl, rfl⟩) (by assumption) ?_
                  try simp only [Act.put, List.getElem_toArray, List.getElem_cons_succ, List.getElem_cons_zero, List.setIfInBounds_toArray, List.set_cons_zero, List.set_cons_succ]
                  refine wpAnyH_take (i := 23) (v := undef) rfl (by kernel_rfl) (by kernel_rfl) (by kernel_rfl) (fun _ _ _ h => h) (Or.inr ⟨by rfl, rfl⟩) (by assumption) ?_
                  try simp only [Act.put, List.getElem_toArray, List.getElem_cons_succ, List.getElem_cons_zero, List.setIfInBounds_toArray, List.set_cons_zero, List.set_cons_succ]
                  refine wpAnyH_take (i := 24) (v := undef) rfl (by kernel_rfl) (by kernel_rfl) (by kernel_rfl) (fun _ _ _ h => h) (Or.inr ⟨by rfl, rfl⟩) (by assumption) ?_
                  try simp only [Act.put, List.getElem_toArray, List.getElem_cons_succ, List.getElem_cons_zero, List.setIfInBounds_toArray, List.set_cons_zero, List.set_cons_succ]
                  refine wpAnyH_take (i := 25) (v := undef) rfl (by kernel_rfl) (by kernel_rfl) (by kernel_rfl) (fun _ _ _ h => h) (Or.inr ⟨by rfl, rfl⟩) (by assumption) ?_
                  try simp only [Act.put, List.getElem_toArray, List.getElem_cons_succ, List.getElem_cons_zero, List.setIfInBounds_toArray, List.set_cons_zero, List.set_cons_succ]
                  refine wpAnyH_take (i := 26) (v := undef) rfl (by kernel_rfl) (by kernel_rfl) (by kernel_rfl) (fun _ _ _ h => h) (Or.inr ⟨by rfl, rfl⟩) (by assumption) ?_
                  try simp only [Act.put, List.getElem_toArray, List.getElem_cons_succ, List.getElem_cons_zero, List.setIfInBounds_toArray, List.set_cons_zero, List.set_cons_succ]
                  refine wpAnyH_take (i := 27) (v := ?v28) rfl (by kernel_rfl) (by kernel_rfl) (by kernel_rfl) (fun _ _ _ h => h) (Or.inl ⟨by rfl, ?hy28⟩) (by assumption) ?rest28
                  case hy28 => (intro wz hSw; (try dsimp only at hSw); first | (go_simp; done) | (go_simp; with_reducible rfl))
                  try simp only [Act.put, List.getElem_toArray, List.getElem_cons_succ, List.getElem_cons_zero, List.setIfInBounds_toArray, List.set_cons_zero, List.set_cons_succ]
                  refine wpAnyH_done (by kernel_rfl) ?_ _
                  clear hH0
                  clear d0 d1 u0 z0'
                  go_wp2
                  go_roundw
                  case rel => exact ⟨t + 1, by omega, by go_num, UP.out.keep0 (gb_drew _ none), gb_dr1 GS.out⟩
                  case measure => simp [intOf]; omega
                · have EQ := WOt.out fun h => q1 h.2
                  rw [← EQ] at u0
                  rw [← q0] at d0
                  have wt : IntKind.i64.wrap x.2.1 = x.2.1 := IntWalk.i64_in _ (by omega)
                  have n1 : ((t : Int) != x.2.1) = true := by rw [bne_iff_ne]; exact q1
                  clear q0 hx0 hx1 WOt EQ
                  go_upto_region 19 with fail
                  refine wp_region_held_drew (S := (fun w' : World => w'.cell? ⟨D, 0, none⟩ = some (.int .i64 (i : Int)) ∧ w'.cell? ⟨D, 1, none⟩ = some (.int .u32 x.2.1) ∧ w'.cell? ⟨B, i, none⟩ = some (.slice (some ⟨g, 0, none⟩) rn fc) ∧ w'.cell? ⟨g, t, none⟩ = some (.int .u32 v) ∧ w'.cell? (ar.add i) = some (.slice (some rr) rn rc) ∧ w'.cell? (rr.add t) = some (.int .u32 v) ∧ True)) (by kernel_rfl) (⟨d0, d1, y0, v0', z0', u0, trivial⟩) (fun hH0 => ?_)
                  refine wpAnyH_take (i := 0) (v := ?v29) rfl (by kernel_rfl) (by kernel_rfl) (by kernel_rfl) (fun _ _ _ h => h) (Or.inl ⟨by rfl, ?hy29⟩) (by assumption) ?rest29
                  case hy29 => (intro wz hSw; (try dsimp only at hSw); first | (go_simp; done) | (go_simp; with_reducible rfl))
                  try simp only [Act.put, List.getElem_toArray, List.getElem_cons_zero, List.setIfInBounds_toArray, List.set_cons_zero, List.set_cons_succ]
                  refine wpAnyH_take (i := 1) (v := ?v30) rfl (by kernel_rfl) (by kernel_rfl) (by kernel_rfl) (fun _ _ _ h => h) (Or.inl ⟨by rfl, ?hy30⟩) (by assumption) ?rest30
                  case hy30 => (intro wz hSw; (try dsimp only at hSw); first | (go_simp; done) | (go_simp; with_reducible rfl))
                  try simp only [Act.put, List.getElem_toArray, List.getElem_cons_succ, List.getElem_cons_zero, List.setIfInBounds_toArray, List.set_cons_zero, List.set_cons_succ]
                  refine wpAnyH_take (i := 2) (v := ?v31) rfl (by kernel_rfl) (by kernel_rfl) (by kernel_rfl) (fun _ _ _ h => h) (Or.inl ⟨by rfl, ?hy31⟩) (by assumption) ?rest31
                  case hy31 => (intro wz hSw; (try dsimp only at hSw); first | (go_simp; done) | (go_simp; with_reducible rfl))
                  try simp only [Act.put, List.getElem_toArray, List.getElem_cons_succ, List.getElem_cons_zero, List.setIfInBounds_toArray, List.set_cons_zero, List.set_cons_succ]
                  refine wpAnyH_take (i := 3) (v := ?v32) rfl (by kernel_rfl) (by kernel_rfl) (by kernel_rfl) (fun _ _ _ h => h) (Or.inl ⟨by rfl, ?hy32⟩) (by assumption) ?rest32
                  case hy32 => (intro wz hSw; (try dsimp only at hSw); first | (go_simp; done) | (go_simp; with_reducible rfl))
                  try simp only [Act.put, List.getElem_toArray, List.getElem_cons_succ, List.getElem_cons_zero, List.setIfInBounds_toArray, List.set_cons_zero, List.set_cons_succ]
                  refine wpAnyH_take (i := 4) (v := ?v33) rfl (by kernel_rfl) (by kernel_rfl) (by kernel_rfl) (fun _ _ _ h => h) (Or.inl ⟨by rfl, ?hy33⟩) (by assumption) ?rest33
                  case hy33 => (intro wz hSw; (try dsimp only at hSw); first | (go_simp; done) | (go_simp; with_reducible rfl))
                  try simp only [Act.put, List.getElem_toArray, List.getElem_cons_succ, List.getElem_cons_zero, List.setIfInBounds_toArray, List.set_cons_zero, List.set_cons_succ]
                  refine wpAnyH_take (i := 5) (v := ?v34) rfl (by kernel_rfl) (by kernel_rfl) (by kernel_rfl) (fun _ _ _ h => h) (Or.inl ⟨by rfl, ?hy34⟩) (by assumption) ?rest34
                  case hy34 => (intro wz hSw; (try dsimp only at hSw); first | (go_simp; done) | (go_simp; with_reducible rfl))
                  try simp only [Act.put, List.getElem_toArray, List.getElem_cons_succ, List.getElem_cons_zero, List.setIfInBounds_toArray, List.set_cons_zero, List.set_cons_succ]
                  refine wpAnyH_take (i := 6) (v := ?v35) rfl (by kernel_rfl) (by kernel_rfl) (by kernel_rfl) (fun _ _ _ h => h) (Or.inl ⟨by rfl, ?hy35⟩) (by assumption) ?rest35
                  case hy35 => (intro wz hSw; (try dsimp only at hSw); first | (go_simp; done) | (go_simp; with_reducible rfl))
                  try simp only [Act.put, List.getElem_toArray, List.getElem_cons_succ, List.getElem_cons_zero, List.setIfInBounds_toArray, List.set_cons_zero, List.set_cons_succ]
                  refine wpAnyH_take (i := 7) (v := ?v36) rfl (by kernel_rfl) (by kernel_rfl) (by kernel_rfl) (fun _ _ _ h => h) (Or.inl ⟨by rfl, ?hy36⟩) (by assumption) ?rest36
                  case hy36 => (intro wz hSw; (try dsimp only at hSw); first | (go_simp; done) | (go_simp; with_reducible rfl))
                  try simp only [Act.put, List.getElem_toArray, List.getElem_cons_succ, List.getElem_cons_zero, List.setIfInBounds_toArray, List.set_cons_zero, List.set_cons_succ]
                  refine wpAnyH_take (i := 8) (v := ?v37) rfl (by kernel_rfl) (by kernel_rfl) (by kernel_rfl) (fun _ _ _ h => h) (Or.inl ⟨by rfl, ?hy37⟩) (by assumption) ?rest37
                  case hy37 => (intro wz hSw; (try dsimp only at hSw); first | (go_simp; done) | (go_simp; with_reducible rfl))
                  try simp only [Act.put, List.getElem_toArray, List.getElem_cons_succ, List.getElem_cons_zero, List.setIfInBounds_toArray, List.set_cons_zero, List.set_cons_succ]
                  refine wpAnyH_take (i := 9) (v := ?v38) rfl (by kernel_rfl) (by kernel_rfl) (by kernel_rfl) (fun _ _ _ h => h) (Or.inl ⟨by rfl, ?hy38⟩) (by assumption) ?rest38
                  case hy38 => (intro wz hSw; (try dsimp only at hSw); first | (go_simp; done) | (go_simp; with_reducible rfl))
                  try simp only [Act.put, List.getElem_toArray, List.getElem_cons_succ, List.getElem_cons_zero, List.setIfInBounds_toArray, List.set_cons_zero, List.set_cons_succ]
                  refine wpAnyH_take (i := 10) (v := ?v39) rfl (by kernel_rfl) (by kernel_rfl) (by kernel_rfl) (fun _ _ _ h => h) (Or.inl ⟨by rfl, ?hy39⟩) (by assumption) ?rest39
                  case hy39 => (intro wz hSw; (try dsimp only at hSw); first | (go_simp; done) | (go_simp; with_reducible rfl))
                  try simp only [Act.put, List.getElem_toArray, List.getElem_cons_succ, List.getElem_cons_zero, List.setIfInBounds_toArray, List.set_cons_zero, List.set_cons_succ]
                  refine wpAnyH_take (i := 11) (v := ?v40) rfl (by kernel_rfl) (by kernel_rfl) (by kernel_rfl) (fun _ _ _ h => h) (Or.inl ⟨by rfl, ?hy40⟩) (by assumption) ?rest40
                  case hy40 => (intro wz hSw; (try dsimp only at hSw); first | (go_simp; done) | (go_simp; with_reducible rfl))
                  try simp only [Act.put, List.getElem_toArray, List.getElem_cons_succ, List.getElem_cons_zero, List.setIfInBounds_toArray, List.set_cons_zero, List.set_cons_succ]
                  refine wpAnyH_take (i := 12) (v := ?v41) rfl (by kernel_rfl) (by kernel_rfl) (by kernel_rfl) (fun _ _ _ h => h) (Or.inl ⟨by rfl, ?hy41⟩) (by assumption) ?rest41
                  case hy41 => (intro wz hSw; (try dsimp only at hSw); first | (go_simp; done) | (go_simp; with_reducible rfl))
                  try simp only [Act.put, List.getElem_toArray, List.getElem_cons_succ, List.getElem_cons_zero, List.setIfInBounds_toArray, List.set_cons_zero, List.set_cons_succ]
                  refine wpAnyH_take (i := 13) (v := ?v42) rfl (by kernel_rfl) (by kernel_rfl) (by kernel_rfl) (fun _ _ _ h => h) (Or.inl ⟨by rfl, ?hy42⟩) (by assumption) ?rest42
                  case hy42 => (intro wz hSw; (try dsimp only at hSw); first | (go_simp; done) | (go_simp; with_reducible rfl))
                  try simp only [Act.put, List.getElem_toArray, List.getElem_cons_succ, List.getElem_cons_zero, List.setIfInBounds_toArray, List.set_cons_zero, List.set_cons_succ]
                  refine wpAnyH_take (i := 14) (v := ?v43) rfl (by kernel_rfl) (by kernel_rfl) (by kernel_rfl) (fun _ _ _ h => h) (Or.inl ⟨by rfl, ?hy43⟩) (by assumption) ?rest43
                  case hy43 => (intro wz hSw; (try dsimp only at hSw); first | (go_simp; done) | (go_simp; with_reducible rfl))
                  try simp only [Act.put, List.getElem_toArray, List.getElem_cons_succ, List.getElem_cons_zero, List.setIfInBounds_toArray, List.set_cons_zero, List.set_cons_succ]
                  refine wpAnyH_take (i := 15) (v := ?v44) rfl (by kernel_rfl) (by kernel_rfl) (by kernel_rfl) (fun _ _ _ h => h) (Or.inl ⟨by rfl, ?hy44⟩) (by assumption) ?rest44
                  case hy44 => (intro wz hSw; (try dsimp only at hSw); first | (go_simp; done) | (go_simp; with_reducible rfl))
                  try simp only [Act.put, List.getElem_toArray, List.getElem_cons_succ, List.getElem_cons_zero, List.setIfInBounds_toArray, List.set_cons_zero, List.set_cons_succ]
                  refine wpAnyH_take (i := 16) (v := ?v45) rfl (by kernel_rfl) (by kernel_rfl) (by kernel_rfl) (fun _ _ _ h => h) (Or.inl ⟨by rfl, ?hy45⟩) (by assumption) ?rest45
                  case hy45 => (intro wz hSw; (try dsimp only at hSw); first | (go_simp; done) | (go_simp; with_reducible rfl))
                  try simp only [Act.put, List.getElem_toArray, List.getElem_cons_succ, List.getElem_cons_zero, List.setIfInBounds_toArray, List.set_cons_zero, List.set_cons_succ]
                  refine wpAnyH_take (i := 17) (v := ?v46) rfl (by kernel_rfl) (by kernel_rfl) (by kernel_rfl) (fun _ _ _ h => h) (Or.inl ⟨by rfl, ?hy46⟩) (by assumption) ?rest46
                  case hy46 => (intro wz hSw; (try dsimp only at hSw); first | (go_simp; done) | (go_simp; with_reducible rfl))
                  try simp only [Act.put, List.getElem_toArray, List.getElem_cons_succ, List.getElem_cons_zero, List.setIfInBounds_toArray, List.set_cons_zero, List.set_cons_succ]
                  refine wpAnyH_take (i := 18) (v := ?v47) rfl (by kernel_rfl) (by kernel_rfl) (by kernel_rfl) (fun _ _ _ h => h) (Or.inl ⟨by rfl, ?hy47⟩) (by assumption) ?rest47
                  case hy47 => (intro wz hSw; (try dsimp only at hSw); first | (go_simp; done) | (go_simp; with_reducible rfl))
                  try simp only [Act.put, List.getElem_toArray, List.getElem_cons_succ, List.getElem_cons_zero, List.setIfInBounds_toArray, List.set_cons_zero, List.set_cons_succ]
                  refine wpAnyH_take (i := 19) (v := ?v48) rfl (by kernel_rfl) (by kernel_rfl) (by kernel_rfl) (fun _ _ _ h => h) (Or.inl ⟨by rfl, ?hy48⟩) (by assumption) ?rest48
                  case hy48 => (intro wz hSw; (try dsimp only at hSw); first | (go_simp; done) | (go_simp; with_reducible rfl))
                  try simp only [Act.put, List.getElem_toArray, List.getElem_cons_succ, List.getElem_cons_zero, List.setIfInBounds_toArray, List.set_cons_zero, List.set_cons_succ]
                  refine wpAnyH_take (i := 20) (v := ?v49) rfl (by kernel_rfl) (by kernel_rfl) (by kernel_rfl) (fun _ _ _ h => h) (Or.inl ⟨by rfl, ?hy49⟩) (by assumption) ?rest49
                  case hy49 => (intro wz hSw; (try dsimp only at hSw); first | (go_simp; done) | (go_simp; with_reducible rfl))
                  try simp only [Act.put, List.getElem_toArray, List.getElem_cons_succ, List.getElem_cons_zero, List.setIfInBounds_toArray, List.set_cons_zero, List.set_cons_succ]
                  refine wpAnyH_take (i := 21) (v := ?v50) rfl (by kernel_rfl) (by kernel_rfl) (by kernel_rfl) (fun _ _ _ h => h) (Or.inl ⟨by rfl, ?hy50⟩) (by assumption) ?rest50
                  case hy50 => (intro wz hSw; (try dsimp only at hSw); first | (go_simp; done) | (go_simp; with_reducible rfl))
                  try simp only [Act.put, List.getElem_toArray, List.getElem_cons_succ, List.getElem_cons_zero, List.setIfInBounds_toArray, List.set_cons_zero, List.set_cons_succ]
                  refine wpAnyH_take (i := 22) (v := ?v51) rfl (by kernel_rfl) (by kernel_rfl) (by kernel_rfl) (fun _ _ _ h => h) (Or.inl ⟨by rfl, ?hy51⟩) (by assumption) ?rest51
                  case hy51 => (intro wz hSw; (try dsimp only at hSw); first | (go_simp; done) | (go_simp; with_reducible rfl))
                  try simp only [Act.put, List.getElem_toArray, List.getElem_cons_succ, List.getElem_cons_zero, List.setIfInBounds_toArray, List.set_cons_zero, List.set_cons_succ]
                  refine wpAnyH_take (i := 23) (v := ?v52) rfl (by kernel_rfl) (by kernel_rfl) (by kernel_rfl) (fun _ _ _ h => h) (Or.inl ⟨by rfl, ?hy52⟩) (by assumption) ?rest52
                  case hy52 => (intro wz hSw; (try dsimp only at hSw); first | (go_simp; done) | (go_simp; with_reducible rfl))
                  try simp only [Act.put, List.getElem_toArray, List.getElem_cons_succ, List.getElem_cons_zero, List.setIfInBounds_toArray, List.set_cons_zero, List.set_cons_succ]
                  refine wpAnyH_take (i := 24) (v := ?v53) rfl (by kernel_rfl) (by kernel_rfl) (by kernel_rfl) (fun _ _ _ h => h) (Or.inl ⟨by rfl, ?hy53⟩) (by assumption) ?rest53
                  case hy53 => (intro wz hSw; (try dsimp only at hSw); first | (go_simp; done) | (go_simp; with_reducible rfl))
                  try simp only [Act.put, List.getElem_toArray, List.getElem_cons_succ, List.getElem_cons_zero, List.setIfInBounds_toArray, List.set_cons_zero, List.set_cons_succ]
                  refine wpAnyH_take (i := 25) (v := ?v54) rfl (by kernel_rfl) (by kernel_rfl) (by kernel_rfl) (fun _ _ _ h => h) (Or.inl ⟨by rfl, ?hy54⟩) (by assumption) ?rest54
                  case hy54 => (intro wz hSw; (try dsimp only at hSw); first | (go_simp; done) | (go_simp; with_reducible rfl))
                  try simp only [Act.put, List.getElem_toArray, List.getElem_cons_succ, List.getElem_cons_zero, List.setIfInBounds_toArray, List.set_cons_zero, List.set_cons_succ]
                  refine wpAnyH_take (i := 26) (v := ?v55) rfl (by kernel_rfl) (by kernel_rfl) (by kernel_rfl) (fun _ _ _ h => h) (Or.inl ⟨by rfl, ?hy55⟩) (by assumption) ?rest55
                  case hy55 => (intro wz hSw; (try dsimp only at hSw); first | (go_simp; done) | (go_simp; with_reducible rfl))
                  try simp only [Act.put, List.getElem_toArray, List.getElem_cons_succ, List.getElem_cons_zero, List.setIfInBounds_toArray, List.set_cons_zero, List.set_cons_succ]
                  refine wpAnyH_take (i := 27) (v := ?v56) rfl (by kernel_rfl) (by kernel_rfl) (by kernel_rfl) (fun _ _ _ h => h) (Or.inl ⟨by rfl, ?hy56⟩) (by assumption) ?rest56
                  case hy56 => (intro wz hSw; (try dsimp only at hSw); first | (go_simp; done) | (go_simp; with_reducible rfl))
                  try simp only [Act.put, List.getElem_toArray, List.getElem_cons_succ, List.getElem_cons_zero, List.setIfInBounds_toArray, List.set_cons_zero, List.set_cons_succ]
                  refine wpAnyH_done (by kernel_rfl) ?_ _
                  clear hH0
                  clear n1 wt q1
                  clear d0 d1 u0 z0'
                  go_wp2
                  go_roundw
                  case rel => exact ⟨t + 1, by omega, by go_num, UP.out.keep0 (gb_drew _ none), gb_dr1 GS.out⟩
                  case measure => simp [intOf]; omega
              · have EQ := WOt.out fun h => q0 h.1
                rw [← EQ] at u0
                have n0 : ((i : Int) != x.1) = true := by rw [bne_iff_ne]; exact q0
                clear hx0 hx1 WOt EQ
                go_upto_region 19 with fail
                refine wp_region_held_drew (S := (fun w' : World => w'.cell? ⟨D, 0, none⟩ = some (.int .i64 x.1) ∧ w'.cell? ⟨D, 1, none⟩ = some (.int .u32 x.2.1) ∧ w'.cell? ⟨B, i, none⟩ = some (.slice (some ⟨g, 0, none⟩) rn fc) ∧ w'.cell? ⟨g, t, none⟩ = some (.int .u32 v) ∧ w'.cell? (ar.add i) = some (.slice (some rr) rn rc) ∧ w'.cell? (rr.add t) = some (.int .u32 v) ∧ True)) (by kernel_rfl) (⟨d0, d1, y0, v0', z0', u0, trivial⟩) (fun hH0 => ?_)
                refine wpAnyH_take (i := 0) (v := ?v57) rfl (by kernel_rfl) (by kernel_rfl) (by kernel_rfl) (fun _ _ _ h => h) (Or.inl ⟨by rfl, ?hy57⟩) (by assumption) ?rest57
                case hy57 => (intro wz hSw; (try dsimp only at hSw); first | (go_simp; done) | (go_simp; with_reducible rfl))
                try simp only [Act.put, List.getElem_toArray, List.getElem_cons_zero, List.setIfInBounds_toArray, List.set_cons_zero, List.set_cons_succ]
                refine wpAnyH_take (i := 1) (v := ?v58) rfl (by kernel_rfl) (by kernel_rfl) (by kernel_rfl) (fun _ _ _ h => h) (Or.inl ⟨by rfl, ?hy58⟩) (by assumption) ?rest58
                case hy58 => (intro wz hSw; (try dsimp only at hSw); first | (go_simp; done) | (go_simp; with_reducible rfl))
                try simp only [Act.put, List.getElem_toArray, List.getElem_cons_succ, List.getElem_cons_zero, List.setIfInBounds_toArray, List.set_cons_zero, List.set_cons_succ]
                refine wpAnyH_take (i := 2) (v := ?v59) rfl (by kernel_rfl) (by kernel_rfl) (by kernel_rfl) (fun _ _ _ h => h) (Or.inl ⟨by rfl, ?hy59⟩) (by assumption) ?rest59
                case hy59 => (intro wz hSw; (try dsimp only at hSw); first | (go_simp; done) | (go_simp; with_reducible rfl))
                try simp only [Act.put, List.getElem_toArray, List.getElem_cons_succ, List.getElem_cons_zero, List.setIfInBounds_toArray, List.set_cons_zero, List.set_cons_succ]
                refine wpAnyH_take (i := 3) (v := ?v60) rfl (by kernel_rfl) (by kernel_rfl) (by kernel_rfl) (fun _ _ _ h => h) (Or.inl ⟨by rfl, ?hy60⟩) (by assumption) ?rest60
                case hy60 => (intro wz hSw; (try dsimp only at hSw); first | (go_simp; done) | (go_simp; with_reducible rfl))
                try simp only [Act.put, List.getElem_toArray, List.getElem_cons_succ, List.getElem_cons_zero, List.setIfInBounds_toArray, List.set_cons_zero, List.set_cons_succ]
                refine wpAnyH_take (i := 4) (v := ?v61) rfl (by kernel_rfl) (by kernel_rfl) (by kernel_rfl) (fun _ _ _ h => h) (Or.inl ⟨by rfl, ?hy61⟩) (by assumption) ?rest61
                case hy61 => (intro wz hSw; (try dsimp only at hSw); first | (go_simp; done) | (go_simp; with_reducible rfl))
                try simp only [Act.put, List.getElem_toArray, List.getElem_cons_succ, List.getElem_cons_zero, List.setIfInBounds_toArray, List.set_cons_zero, List.set_cons_succ]
                refine wpAnyH_take (i := 5) (v := undef) rfl (by kernel_rfl) (by kernel_rfl) (by kernel_rfl) (fun _ _ _ h => h) (Or.inr ⟨by rfl, rfl⟩) (by assumption) ?_
                try simp only [Act.put, List.getElem_toArray, List.getElem_cons_succ, List.getElem_cons_zero, List.setIfInBounds_toArray, List.set_cons_zero, List.set_cons_succ]
                refine wpAnyH_take (i := 6) (v := undef) rfl (by kernel_rfl) (by kernel_rfl) (by kernel_rfl) (fun _ _ _ h => h) (Or.inr ⟨by rfl, rfl⟩) (by assumption) ?_
                try simp only [Act.put, List.getElem_toArray, List.getElem_cons_succ, List.getElem_cons_zero, List.setIfInBounds_toArray, List.set_cons_zero, List.set_cons_succ]
                refine wpAnyH_take (i := 7) (v := undef) rfl (by kernel_rfl) (by kernel_rfl) (by kernel_rfl) (fun _ _ _ h => h) (Or.inr ⟨by rfl, rfl⟩) (by assumption) ?_
                try simp only [Act.put, List.getElem_toArray, List.getElem_cons_succ, List.getElem_cons_zero, List.setIfInBounds_toArray, List.set_cons_zero, List.set_cons_succ]
                refine wpAnyH_take (i := 8) (v := undef) rfl (by kernel_rfl) (by kernel_rfl) (by kernel_rfl) (fun _ _ _ h => h) (Or.inr ⟨by rfl, rfl⟩) (by assumption) ?_
                try simp only [Act.put, List.getElem_toArray, List.getElem_cons_succ, List.getElem_cons_zero, List.setIfInBounds_toArray, List.set_cons_zero, List.set_cons_succ]
                refine wpAnyH_take (i := 9) (v := undef) rfl (by kernel_rfl) (by kernel_rfl) (by kernel_rfl) (fun _ _ _ h => h) (Or.inr ⟨by rfl, rfl⟩) (by assumption) ?_
                try simp only [Act.put, List.getElem_toArray, List.getElem_cons_succ, List.getElem_cons_zero, List.setIfInBounds_toArray, List.set_cons_zero, List.set_cons_succ]
                refine wpAnyH_take (i := 10) (v := ?v67) rfl (by kernel_rfl) (by kernel_rfl) (by kernel_rfl) (fun _ _ _ h => h) (Or.inl ⟨by rfl, ?hy67⟩) (by assumption) ?rest67
                case hy67 => (intro wz hSw; (try dsimp only at hSw); first | (go_simp; done) | (go_simp; with_reducible rfl))
                try simp only [Act.put, List.getElem_toArray, List.getElem_cons_succ, List.getElem_cons_zero, List.setIfInBounds_toArray, List.set_cons_zero, List.set_cons_succ]
                refine wpAnyH_take (i := 11) (v := ?v68) rfl (by kernel_rfl) (by kernel_rfl) (by kernel_rfl) (fun _ _ _ h => h) (Or.inl ⟨by rfl, ?hy68⟩) (by assumption) ?rest68
                case hy68 => (intro wz hSw; (try dsimp only at hSw); first | (go_simp; done) | (go_simp; with_reducible rfl))
                try simp only [Act.put, List.getElem_toArray, List.getElem_cons_succ, List.getElem_cons_zero, List.setIfInBounds_toArray, List.set_cons_zero, List.set_cons_succ]
                refine wpAnyH_take (i := 12) (v := ?v69) rfl (by kernel_rfl) (by kernel_rfl) (by kernel_rfl) (fun _ _ _ h => h) (Or.inl ⟨by rfl, ?hy69⟩) (by assumption) ?rest69
                case hy69 => (intro wz hSw; (try dsimp only at hSw); first | (go_simp; done) | (go_simp; with_reducible rfl))
                try simp only [Act.put, List.getElem_toArray, List.getElem_cons_succ, List.getElem_cons_zero, List.setIfInBounds_toArray, List.set_cons_zero, List.set_cons_succ]
                refine wpAnyH_take (i := 13) (v := ?v70) rfl (by kernel_rfl) (by kernel_rfl) (by kernel_rfl) (fun _ _ _ h => h) (Or.inl ⟨by rfl, ?hy70⟩) (by assumption) ?rest70
                case hy70 => (intro wz hSw; (try dsimp only at hSw); first | (go_simp; done) | (go_simp; with_reducible rfl))
                try simp only [Act.put, List.getElem_toArray, List.getElem_cons_succ, List.getElem_cons_zero, List.setIfInBounds_toArray, List.set_cons_zero, List.set_cons_succ]
                refine wpAnyH_take (i := 14) (v := ?v71) rfl (by kernel_rfl) (by kernel_rfl) (by kernel_rfl) (fun _ _ _ h => h) (Or.inl ⟨by rfl, ?hy71⟩) (by assumption) ?rest71
                case hy71 => (intro wz hSw; (try dsimp only at hSw); first | (go_simp; done) | (go_simp; with_reducible rfl))
                try simp only [Act.put, List.getElem_toArray, List.getElem_cons_succ, List.getElem_cons_zero, List.setIfInBounds_toArray, List.set_cons_zero, List.set_cons_succ]
                refine wpAnyH_take (i := 15) (v := ?v72) rfl (by kernel_rfl) (by kernel_rfl) (by kernel_rfl) (fun _ _ _ h => h) (Or.inl ⟨by rfl, ?hy72⟩) (by assumption) ?rest72
                case hy72 => (intro wz hSw; (try dsimp only at hSw); first | (go_simp; done) | (go_simp; with_reducible rfl))
                try simp only [Act.put, List.getElem_toArray, List.getElem_cons_succ, List.getElem_cons_zero, List.setIfInBounds_toArray, List.set_cons_zero, List.set_cons_succ]
                refine wpAnyH_take (i := 16) (v := ?v73) rfl (by kernel_rfl) (by kernel_rfl) (by kernel_rfl) (fun _ _ _ h => h) (Or.inl ⟨by rfl, ?hy73⟩) (by assumption) ?rest73
                case hy73 => (intro wz hSw; (try dsimp only at hSw); first | (go_simp; done) | (go_simp; with_reducible rfl))
                try simp only [Act.put, List.getElem_toArray, List.getElem_cons_succ, List.getElem_cons_zero, List.setIfInBounds_toArray, List.set_cons_zero, List.set_cons_succ]
                refine wpAnyH_take (i := 17) (v := ?v74) rfl (by kernel_rfl) (by kernel_rfl) (by kernel_rfl) (fun _ _ _ h => h) (Or.inl ⟨by rfl, ?hy74⟩) (by assumption) ?rest74
                case hy74 => (intro wz hSw; (try dsimp only at hSw); first | (go_simp; done) | (go_simp; with_reducible rfl))
                try simp only [Act.put, List.getElem_toArray, List.getElem_cons_succ, List.getElem_cons_zero, List.setIfInBounds_toArray, List.set_cons_zero, List.set_cons_succ]
                refine wpAnyH_take (i := 18) (v := ?v75) rfl (by kernel_rfl) (by kernel_rfl) (by kernel_rfl) (fun _ _ _ h => h) (Or.inl ⟨by rfl, ?hy75⟩) (by assumption) ?rest75
                case hy75 => (intro wz hSw; (try dsimp only at hSw); first | (go_simp; done) | (go_simp; with_reducible rfl))
                try simp only [Act.put, List.getElem_toArray, List.getElem_cons_succ, List.getElem_cons_zero, List.setIfInBounds_toArray, List.set_cons_zero, List.set_cons_succ]
                refine wpAnyH_take (i := 19) (v := ?v76) rfl (by kernel_rfl) (by kernel_rfl) (by kernel_rfl) (fun _ _ _ h => h) (Or.inl ⟨by rfl, ?hy76⟩) (by assumption) ?rest76
                case hy76 => (intro wz hSw; (try dsimp only at hSw); first | (go_simp; done) | (go_simp; with_reducible rfl))
                try simp only [Act.put, List.getElem_toArray, List.getElem_cons_succ, List.getElem_cons_zero, List.setIfInBounds_toArray, List.set_cons_zero, List.set_cons_succ]
                refine wpAnyH_take (i := 20) (v := ?v77) rfl (by kernel_rfl) (by kernel_rfl) (by kernel_rfl) (fun _ _ _ h => h) (Or.inl ⟨by rfl, ?hy77⟩) (by assumption) ?rest77
                case hy77 => (intro wz hSw; (try dsimp only at hSw); first | (go_simp; done) | (go_simp; with_reducible rfl))
                try simp only [Act.put, List.getElem_toArray, List.getElem_cons_succ, List.getElem_cons_zero, List.setIfInBounds_toArray, List.set_cons_zero, List.set_cons_succ]
                refine wpAnyH_take (i := 21) (v := ?v78) rfl (by kernel_rfl) (by kernel_rfl) (by kernel_rfl) (fun _ _ _ h => h) (Or.inl ⟨by rfl, ?hy78⟩) (by assumption) ?rest78
                case hy78 => (intro wz hSw; (try dsimp only at hSw); first | (go_simp; done) | (go_simp; with_reducible rfl))
                try simp only [Act.put, List.getElem_toArray, List.getElem_cons_succ, List.getElem_cons_zero, List.setIfInBounds_toArray, List.set_cons_zero, List.set_cons_succ]
                refine wpAnyH_take (i := 22) (v := ?v79) rfl (by kernel_rfl) (by kernel_rfl) (by kernel_rfl) (fun _ _ _ h => h) (Or.inl ⟨by rfl, ?hy79⟩) (by assumption) ?rest79
                case hy79 => (intro wz hSw; (try dsimp only at hSw); first | (go_simp; done) | (go_simp; with_reducible rfl))
                try simp only [Act.put, List.getElem_toArray, List.getElem_cons_succ, List.getElem_cons_zero, List.setIfInBounds_toArray, List.set_cons_zero, List.set_cons_succ]
                refine wpAnyH_take (i := 23) (v := ?v80) rfl (by kernel_rfl) (by kernel_rfl) (by kernel_rfl) (fun _ _ _ h => h) (Or.inl ⟨by rfl, ?hy80⟩) (by assumption) ?rest80
                case hy80 => (intro wz hSw; (try dsimp only at hSw); first | (go_simp; done) | (go_simp; with_reducible rfl))
                try simp only [Act.put, List.getElem_toArray, List.getElem_cons_succ, List.getElem_cons_zero, List.setIfInBounds_toArray, List.set_cons_zero, List.set_cons_succ]
                refine wpAnyH_take (i := 24) (v := ?v81) rfl (by kernel_rfl) (by kernel_rfl) (by kernel_rfl) (fun _ _ _ h => h) (Or.inl ⟨by rfl, ?hy81⟩) (by assumption) ?rest81
                case hy81 => (intro wz hSw; (try dsimp only at hSw); first | (go_simp; done) | (go_simp; with_reducible rfl))
                try simp only [Act.put, List.getElem_toArray, List.getElem_cons_succ, List.getElem_cons_zero, List.setIfInBounds_toArray, List.set_cons_zero, List.set_cons_succ]
                refine wpAnyH_take (i := 25) (v := ?v82) rfl (by kernel_rfl) (by kernel_rfl) (by kernel_rfl) (fun _ _ _ h => h) (Or.inl ⟨by rfl, ?hy82⟩) (by assumption) ?rest82
                case hy82 => (intro wz hSw; (try dsimp only at hSw); first | (go_simp; done) | (go_simp; with_reducible rfl))
                try simp only [Act.put, List.getElem_toArray, List.getElem_cons_succ, List.getElem_cons_zero, List.setIfInBounds_toArray, List.set_cons_zero, List.set_cons_succ]
                refine wpAnyH_take (i := 26) (v := ?v83) rfl (by kernel_rfl) (by kernel_rfl) (by kernel_rfl) (fun _ _ _ h => h) (Or.inl ⟨by rfl, ?hy83⟩) (by assumption) ?rest83
                case hy83 => (intro wz hSw; (try dsimp only at hSw); first | (go_simp; done) | (go_simp; with_reducible rfl))
                try simp only [Act.put, List.getElem_toArray, List.getElem_cons_succ, List.getElem_cons_zero, List.setIfInBounds_toArray, List.set_cons_zero, List.set_cons_succ]
                refine wpAnyH_take (i := 27) (v := ?v84) rfl (by kernel_rfl) (by kernel_rfl) (by kernel_rfl) (fun _ _ _ h => h) (Or.inl ⟨by rfl, ?hy84⟩) (by assumption) ?rest84
                case hy84 => (intro wz hSw; (try dsimp only at hSw); first | (go_simp; done) | (go_simp; with_reducible rfl))
                try simp only [Act.put, List.getElem_toArray, List.getElem_cons_succ, List.getElem_cons_zero, List.setIfInBounds_toArray, List.set_cons_zero, List.set_cons_succ]
                refine wpAnyH_done (by kernel_rfl) ?_ _
                clear hH0
                clear n0 q0
                clear d0 d1 u0 z0'
                go_wp2
                go_roundw
                case rel => exact ⟨t + 1, by omega, by go_num, UP.out.keep0 (gb_drew _ none), gb_dr1 GS.out⟩
                case measure => simp [intOf]; omega
            · have hte : t = rn := by omega
              have O7 := Lib.hid (show OR wi wo.heap.size (.slice (some ⟨B, 0, none⟩) k c1) (plR W0 (i + 1)) Vs1 from by rw [← PS2.out, ← hte]; exact HO.out)
              clear hte
              go_wp2
              go_roundw
              case rel => exact ⟨i + 1, by omega, by go_num, O7.out, HG.out⟩
              case measure => simp [intOf]; omega
        · have EN := requr_any wr ao a k co k c R R (S0.out.keep0 HG.out) (HR0.out.keep0 HG.out) (by omega) (by omega) HR.out HR.out
          rw [decide_eq_true rfl] at EN
          unfold RetD at EN
          have hlt4 : ¬ (i : Int) < (k : Int) := by omega
          go_wp2_with fail
          refine EN.mono ?_
          rintro e w5 ⟨rfl, m⟩
          have G5 := Lib.hid (gb_trans HG.out (dn_gb m none))
          clear m EN
          go_wp2_with fail
          refine (WK.out _).mono ?_
          rintro e w6 ⟨rfl, g⟩
          have G6 := Lib.hid (gb_trans (gb_trans GW.out G5.out) g)
          clear g
          go_wp2
          go_ret
          exact ⟨rfl, G6.out⟩
end Go.Proofs.Ytjbimeahcldaoaa
