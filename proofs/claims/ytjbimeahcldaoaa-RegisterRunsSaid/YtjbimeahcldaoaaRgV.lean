/- Register: the law Runs; no condition. -/
import Derived.Test.YtjbimeahcldaoaaRgT
namespace Go.Proofs.Ytjbimeahcldaoaa
open Go.RowKit
set_option linter.unusedVariables false
theorem shf_eq (wd : Int) (h : 1 ≤ wd ∧ wd ≤ 32) : ((2 : Int) ^ min wd.toNat 32 - 1) % 4294967296 = mkB wd := by
  rw [mkB_in wd h, Nat.min_eq_left (by omega)]
  have := pow_le32 wd h.2
  have := pow_ge2 wd h.1
  omega
theorem want_rng (l : List Ac) (x : Ac) (hl : ∀ y ∈ l, AcOk y) : ∀ k, 0 ≤ wantN l x k ∧ wantN l x k < 4294967296 := by
  intro k
  induction k with
  | zero => exact ⟨Int.le_refl _, show (0 : Int) < 4294967296 by decide⟩
  | succ k ih =>
    unfold wantN
    split
    · by_cases hk : k < l.length
      · have : AcOk (l.getD k az) := by rw [List.getD_eq_getElem?_getD, List.getElem?_eq_getElem hk]; exact hl _ (List.getElem_mem _)
        exact this.2.2
      · rw [List.getD_eq_getElem?_getD, List.getElem?_eq_none (by omega)]; exact ⟨Int.le_refl _, by decide⟩
    · exact ih
set_option maxRecDepth 100000 in
set_option maxHeartbeats 4000000 in
theorem runs_walk (w : World) (X : PX) (L : List Rg) (b : Option Addr) (m d : Nat) (l : List Ac) (x : Ac) (h : SG w X.ra X.rn X.rc L) (gl : SA w b m d l) (hx : AcOk x) :
    Calls Try.prog 6 #[.agg #[.string X.nm, .slice X.ha X.hn X.hc, .slice X.ma X.mn X.mc, .slice X.ra X.rn X.rc, .slice X.aa X.an X.ac, .slice X.ta X.tn X.tc, .slice X.sa X.sn X.sc, .slice X.ca X.cn X.cc, .slice X.da X.dn X.dc], .slice b m d, .agg #[.int .i64 x.1, .int .u32 x.2.1, .int .u32 x.2.2]] w (RetV (.bool true) w) := by
  have WK := Lib.hid (fun W => works_any W)
  have T1 := Lib.hid (fun (W : World) (k : w.grownBy W none) => big_b W X L none 0 0 [] (h.keep0 k) (sr_nil W) _ rfl)
  unfold RetV at WK T1
  have HH := Lib.hid h
  have HL := Lib.hid gl
  have HX := Lib.hid hx
  have LN := Lib.hid h.len
  have ML := Lib.hid gl.len
  clear h gl hx
  obtain ⟨A, hA⟩ : ∃ A, A = w.heap.size := ⟨_, rfl⟩
  obtain ⟨D, hD⟩ : ∃ D, D = A + 1 := ⟨_, rfl⟩
  obtain ⟨w1, hw1⟩ : ∃ w1, w1 = (w.alloc (.cells #[.string X.nm, .slice X.ha X.hn X.hc, .slice X.ma X.mn X.mc, .slice X.ra X.rn X.rc, .slice X.aa X.an X.ac, .slice X.ta X.tn X.tc, .slice X.sa X.sn X.sc, .slice X.ca X.cn X.cc, .slice X.da X.dn X.dc] 37)).alloc (.cells #[.int .i64 x.1, .int .u32 x.2.1, .int .u32 x.2.2] 46) := ⟨_, rfl⟩
  have BA := Lib.hid (show IsB w1 A 37 #[.string X.nm, .slice X.ha X.hn X.hc, .slice X.ma X.mn X.mc, .slice X.ra X.rn X.rc, .slice X.aa X.an X.ac, .slice X.ta X.tn X.tc, .slice X.sa X.sn X.sc, .slice X.ca X.cn X.cc, .slice X.da X.dn X.dc] from by rw [hw1, hA]; exact (IsB.new _ _ _).alloc _)
  have BD := Lib.hid (show IsB w1 D 46 #[.int .i64 x.1, .int .u32 x.2.1, .int .u32 x.2.2] from by rw [hw1, hD, hA, ← sz_al w (.cells #[.string X.nm, .slice X.ha X.hn X.hc, .slice X.ma X.mn X.mc, .slice X.ra X.rn X.rc, .slice X.aa X.an X.ac, .slice X.ta X.tn X.tc, .slice X.sa X.sn X.sc, .slice X.ca X.cn X.cc, .slice X.da X.dn X.dc] 37)]; exact IsB.new _ _ _)
  have GZ := Lib.hid (show w.grownBy w1 none from by rw [hw1]; exact gb_al (gb_al (gb_refl _ _)))
  go_enter Try.func6, Try.ntmps6
  go_upto_region 1 with fail
  rw [← hA, ← hD, ← hw1]
  clear hw1 hD hA
  have s0 : w1.cell? ⟨A, 0, none⟩ = some (.string X.nm) := (BA.out).cell 0
  have s1 : w1.cell? ⟨A, 1, none⟩ = some (.slice X.ha X.hn X.hc) := (BA.out).cell 1
  have s2 : w1.cell? ⟨A, 2, none⟩ = some (.slice X.ma X.mn X.mc) := (BA.out).cell 2
  have s3 : w1.cell? ⟨A, 3, none⟩ = some (.slice X.ra X.rn X.rc) := (BA.out).cell 3
  have s4 : w1.cell? ⟨A, 4, none⟩ = some (.slice X.aa X.an X.ac) := (BA.out).cell 4
  have s5 : w1.cell? ⟨A, 5, none⟩ = some (.slice X.ta X.tn X.tc) := (BA.out).cell 5
  have s6 : w1.cell? ⟨A, 6, none⟩ = some (.slice X.sa X.sn X.sc) := (BA.out).cell 6
  have s7 : w1.cell? ⟨A, 7, none⟩ = some (.slice X.ca X.cn X.cc) := (BA.out).cell 7
  have s8 : w1.cell? ⟨A, 8, none⟩ = some (.slice X.da X.dn X.dc) := (BA.out).cell 8
  cases h1 : bigB L []
  rotate_left
  · rw [h1] at T1
    clear h1
    go_wp2_with fail
    refine (T1.out _ GZ.out).mono ?_
    rintro e w3 ⟨rfl, g⟩
    have G3 := Lib.hid (gb_trans GZ.out g)
    clear g s0 s1 s2 s3 s4 s5 s6 s7 s8
    go_wp2_with fail
    refine (WK.out _).mono ?_
    rintro e w4 ⟨rfl, g⟩
    have G4 := Lib.hid (gb_trans G3.out g)
    clear g
    go_wp2
    go_ret
    exact ⟨rfl, G4.out⟩
  rw [h1] at T1
  obtain ⟨b1, -, -⟩ := not_big h1
  rw [LN.out] at b1
  clear h1
  go_wp2_with fail
  refine (T1.out _ GZ.out).mono ?_
  rintro e wb ⟨rfl, g⟩
  replace BA := Lib.hid (BA.out.keep0 g)
  replace BD := Lib.hid (BD.out.keep0 g)
  replace GZ := Lib.hid (gb_trans GZ.out g)
  clear g s0 s1 s2 s3 s4 s5 s6 s7 s8
  rcases (show 60 < m ∨ m ≤ 60 by omega) with hm | hm
  · have hm2 : (60 : Int) < (m : Int) := by omega
    go_wp2_with fail
    refine (WK.out _).mono ?_
    rintro e w4 ⟨rfl, g⟩
    have G4 := Lib.hid (gb_trans GZ.out g)
    clear g
    go_wp2
    go_ret
    exact ⟨rfl, G4.out⟩
  have hm2 : ¬ (60 : Int) < (m : Int) := by omega
  go_wp2
  clear hm2
  go_loopw [7] (fun s wr => ∃ k : Nat, k ≤ X.rn ∧ s = .int .i64 k ∧ (∀ j, j < k → okW (L.getD j rz).2.1 = true ∧ okS (L.getD j rz).2.2 = true) ∧ wb.grownBy wr none) (fun s _ => X.rn - (intOf s).toNat)
  case atStart => exact ⟨0, Nat.zero_le _, rfl, fun j hj => absurd hj (Nat.not_lt_zero _), gb_refl _ _⟩
  case round =>
    obtain ⟨k, hk, rfl, hno, hg⟩ := hrel
    have HG := Lib.hid hg
    have HN := Lib.hid hno
    clear hg hno
    have s3 : wr.cell? ⟨A, 3, none⟩ = some (.slice X.ra X.rn X.rc) := (BA.out.keep0 HG.out).cell 3
    by_cases hlt : k < X.rn
    · obtain ⟨ar, har⟩ := HH.out.some (by omega)
      rw [har] at s3 ⊢
      obtain ⟨x0, x1, x2⟩ := (HH.out.keep0 (gb_trans GZ.out HG.out)).cells ar har k hlt
      have i0 : (0 : Int) ≤ (k : Int) := by omega
      have i2 : (k : Int) < (X.rn : Int) := by omega
      have YES := Lib.hid (show okW (L.getD k rz).2.1 = true ∧ okS (L.getD k rz).2.2 = true → ∀ j, j < k + 1 → okW (L.getD j rz).2.1 = true ∧ okS (L.getD j rz).2.2 = true from fun e j hj => by
        rcases (show j < k ∨ j = k by omega) with q | rfl
        · exact HN.out j q
        · exact e)
      obtain ⟨g0, hg0⟩ : ∃ g, g = L.getD k rz := ⟨_, rfl⟩
      rw [← hg0] at x0 x1 x2 YES
      clear hg0
      obtain ⟨nm, wd, sz⟩ := g0
      rcases (show 100 < nm.size ∨ nm.size ≤ 100 by omega) with hb | hb
      · have hb2 : (100 : Int) < (nm.size : Int) := by omega
        clear YES
        go_wp2_with fail
        refine (WK.out _).mono ?_
        rintro e w4 ⟨rfl, g⟩
        have G4 := Lib.hid (gb_trans (gb_trans GZ.out HG.out) g)
        clear g
        go_wp2
        go_ret
        exact ⟨rfl, G4.out⟩
      · have hb2 : ¬ (100 : Int) < (nm.size : Int) := by omega
        cases hc : decide (chkG (nm, wd, sz) = 0)
        · have CQ := Lib.hid (fun W => rcheck_b W nm wd sz (by omega) _ rfl)
          unfold RetV at CQ
          have hc2 := of_decide_eq_false hc
          generalize chkG (nm, wd, sz) = e0 at CQ hc2
          have hc3 : (e0 != 0) = true := by rw [bne_iff_ne]; exact hc2
          clear YES hc hb
          go_wp2_with fail
          refine (CQ.out _).mono ?_
          rintro e w3 ⟨rfl, g⟩
          have G3 := Lib.hid (gb_trans (gb_trans GZ.out HG.out) g)
          clear g s3 x0 x1 x2
          go_wp2_with fail
          refine (WK.out _).mono ?_
          rintro e w4 ⟨rfl, g⟩
          have G4 := Lib.hid (gb_trans G3.out g)
          clear g
          go_wp2
          go_ret
          exact ⟨rfl, G4.out⟩
        · have hc2 := of_decide_eq_true hc
          have CQ := Lib.hid (fun W => rcheck_b W nm wd sz (by omega) 0 hc2)
          unfold RetV at CQ
          have OK2 : okW wd = true ∧ okS sz = true := by
            unfold chkG at hc2
            split at hc2
            · cases hc2
            · split at hc2
              · cases hc2
              · split at hc2
                · cases hc2
                · rename_i q2 q3
                  exact ⟨by simpa using q2, by simpa using q3⟩
          have Y2 := Lib.hid (YES.out OK2)
          clear YES hc hc2 OK2 hb
          go_wp2_with fail
          refine (CQ.out _).mono ?_
          rintro e w3 ⟨rfl, g⟩
          have G3 := Lib.hid (gb_trans HG.out g)
          clear g s3 x0 x1 x2
          go_wp2
          go_roundw
          case rel => exact ⟨k + 1, by omega, by go_num, Y2.out, G3.out⟩
          case measure => simp [intOf]; omega
    · have hke : k = X.rn := by omega
      have OK := Lib.hid (show OkL L from fun j hj => HN.out j (by rw [hke, ← LN.out]; exact hj))
      have hlt0 : ¬ (k : Int) < (X.rn : Int) := by omega
      clear HN hke hk hlt s3
      have BA' := Lib.hid (BA.out.keep0 HG.out)
      have BD' := Lib.hid (BD.out.keep0 HG.out)
      have GZ' := Lib.hid (gb_trans GZ.out HG.out)
      clear BA BD GZ HG
      obtain ⟨wc, hwc⟩ : ∃ wc, wc = wr := ⟨_, rfl⟩
      rw [← hwc] at BA' BD' GZ' ⊢
      clear hwc
      have BA := BA'
      have BD := BD'
      have GZ := GZ'
      clear BA' BD' GZ'
      have s0 : wc.cell? ⟨A, 0, none⟩ = some (.string X.nm) := (BA.out).cell 0
      have s1 : wc.cell? ⟨A, 1, none⟩ = some (.slice X.ha X.hn X.hc) := (BA.out).cell 1
      have s2 : wc.cell? ⟨A, 2, none⟩ = some (.slice X.ma X.mn X.mc) := (BA.out).cell 2
      have s3 : wc.cell? ⟨A, 3, none⟩ = some (.slice X.ra X.rn X.rc) := (BA.out).cell 3
      have s4 : wc.cell? ⟨A, 4, none⟩ = some (.slice X.aa X.an X.ac) := (BA.out).cell 4
      have s5 : wc.cell? ⟨A, 5, none⟩ = some (.slice X.ta X.tn X.tc) := (BA.out).cell 5
      have s6 : wc.cell? ⟨A, 6, none⟩ = some (.slice X.sa X.sn X.sc) := (BA.out).cell 6
      have s7 : wc.cell? ⟨A, 7, none⟩ = some (.slice X.ca X.cn X.cc) := (BA.out).cell 7
      have s8 : wc.cell? ⟨A, 8, none⟩ = some (.slice X.da X.dn X.dc) := (BA.out).cell 8
      have NP := new_any wc X L (HH.out.keep0 GZ.out) (by omega)
      unfold RetR at NP
      go_wp2_with fail
      refine NP.mono ?_
      rintro e w3 ⟨V1, Vs1, rfl, o1, g⟩
      obtain ⟨a1, c1, hV⟩ := o1.shape
      rw [newL_len, LN.out] at hV
      subst hV
      have S1 := Lib.hid (o1.sr (n := X.rn) (by rw [newL_len, LN.out]))
      have G3 := Lib.hid g
      clear g o1 NP hlt0 s0 s1 s2 s3 s4 s5 s6 s7 s8
      go_wp2
      go_loopw [8, 9, 10] (fun q8 q9 s wr => ∃ k : Nat, k ≤ m ∧ s = .int .i64 k ∧ q9 = .int .u32 (wantN l x k) ∧ (∃ a' c', q8 = .slice a' X.rn c' ∧ SR wr a' X.rn c' (runN L l k)) ∧ wc.grownBy wr none) (fun _ _ s _ => m - (intOf s).toNat)
      case atStart => exact ⟨0, Nat.zero_le _, rfl, rfl, ⟨a1, c1, rfl, S1.out⟩, G3.out⟩
      case round =>
        clear S1 G3
        obtain ⟨k, hk, rfl, rfl, ⟨a2, c2, rfl, s2'⟩, hg⟩ := hrel
        have HG := Lib.hid hg
        have S2 := Lib.hid s2'
        clear hg s2'
        by_cases hlt : k < m
        · obtain ⟨br, hbr⟩ := HL.out.some (by omega)
          obtain ⟨y0', y1', y2'⟩ := (HL.out.keep0 (gb_trans GZ.out HG.out)).cells br hbr k hlt
          have YO := Lib.hid (HL.out.at_ k hlt)
          rw [hbr]
          have i0 : (0 : Int) ≤ (k : Int) := by omega
          have i2 : (k : Int) < (m : Int) := by omega
          have WN := Lib.hid (show wantN l x (k + 1) = if (l.getD k az).1 = x.1 ∧ (l.getD k az).2.1 = x.2.1 then (l.getD k az).2.2 else wantN l x k from rfl)
          have RN := Lib.hid (show runN L l (k + 1) = writeL L (runN L l k) (l.getD k az).1 (l.getD k az).2.1 (l.getD k az).2.2 from rfl)
          obtain ⟨y, hy⟩ : ∃ y, y = l.getD k az := ⟨_, rfl⟩
          rw [← hy] at y0' y1' y2' YO WN RN
          clear hy
          have y0 := y0'
          have y1 := y1'
          have y2 := y2'
          clear y0' y1' y2'
          have WP := Lib.hid (fun (W : World) (g : wr.grownBy W none) => pwrite_any W X L a2 X.rn c2 (runN L l k) y.1 y.2.1 y.2.2 (HH.out.keep0 (gb_trans GZ.out (gb_trans HG.out g))) (S2.out.keep0 g) (by omega) (by omega) YO.out.1 YO.out.2.1.1 YO.out.2.1.2 YO.out.2.2.1 YO.out.2.2.2 (fun j => by have := run_row L l k j; omega))
          unfold RetR at WP
          have KT := Lib.hid (fun (w' : World) (g : wr.grownBy w' none) => (⟨(BA.out.keep0 (gb_trans HG.out g)).cell 0, (BA.out.keep0 (gb_trans HG.out g)).cell 1, (BA.out.keep0 (gb_trans HG.out g)).cell 2, (BA.out.keep0 (gb_trans HG.out g)).cell 3, (BA.out.keep0 (gb_trans HG.out g)).cell 4, (BA.out.keep0 (gb_trans HG.out g)).cell 5, (BA.out.keep0 (gb_trans HG.out g)).cell 6, (BA.out.keep0 (gb_trans HG.out g)).cell 7, (BA.out.keep0 (gb_trans HG.out g)).cell 8, g.cell y0 (by simp), g.cell y1 (by simp), g.cell y2 (by simp), trivial⟩ : (fun w' : World => w'.cell? ⟨A, 0, none⟩ = some (.string X.nm) ∧ w'.cell? ⟨A, 1, none⟩ = some (.slice X.ha X.hn X.hc) ∧ w'.cell? ⟨A, 2, none⟩ = some (.slice X.ma X.mn X.mc) ∧ w'.cell? ⟨A, 3, none⟩ = some (.slice X.ra X.rn X.rc) ∧ w'.cell? ⟨A, 4, none⟩ = some (.slice X.aa X.an X.ac) ∧ w'.cell? ⟨A, 5, none⟩ = some (.slice X.ta X.tn X.tc) ∧ w'.cell? ⟨A, 6, none⟩ = some (.slice X.sa X.sn X.sc) ∧ w'.cell? ⟨A, 7, none⟩ = some (.slice X.ca X.cn X.cc) ∧ w'.cell? ⟨A, 8, none⟩ = some (.slice X.da X.dn X.dc) ∧ w'.cell? (br.add (k * 3)) = some (.int .i64 y.1) ∧ w'.cell? ⟨(br.add (k * 3)).block, (br.add (k * 3)).off + 1, none⟩ = some (.int .u32 y.2.1) ∧ w'.cell? ⟨(br.add (k * 3)).block, (br.add (k * 3)).off + 2, none⟩ = some (.int .u32 y.2.2) ∧ True) w'))
          generalize wantN l x k = w0 at WN ⊢
          go_upto_region 13 with fail
          have G0 := Lib.hid (gb_drew wr none)
          refine wp_region_held_drew (S := (fun w' : World => w'.cell? ⟨A, 0, none⟩ = some (.string X.nm) ∧ w'.cell? ⟨A, 1, none⟩ = some (.slice X.ha X.hn X.hc) ∧ w'.cell? ⟨A, 2, none⟩ = some (.slice X.ma X.mn X.mc) ∧ w'.cell? ⟨A, 3, none⟩ = some (.slice X.ra X.rn X.rc) ∧ w'.cell? ⟨A, 4, none⟩ = some (.slice X.aa X.an X.ac) ∧ w'.cell? ⟨A, 5, none⟩ = some (.slice X.ta X.tn X.tc) ∧ w'.cell? ⟨A, 6, none⟩ = some (.slice X.sa X.sn X.sc) ∧ w'.cell? ⟨A, 7, none⟩ = some (.slice X.ca X.cn X.cc) ∧ w'.cell? ⟨A, 8, none⟩ = some (.slice X.da X.dn X.dc) ∧ w'.cell? (br.add (k * 3)) = some (.int .i64 y.1) ∧ w'.cell? ⟨(br.add (k * 3)).block, (br.add (k * 3)).off + 1, none⟩ = some (.int .u32 y.2.1) ∧ w'.cell? ⟨(br.add (k * 3)).block, (br.add (k * 3)).off + 2, none⟩ = some (.int .u32 y.2.2) ∧ True)) (by kernel_rfl) (KT.out _ G0.out) (fun hH0 => ?_)
          refine wpAnyH_take (i := 0) (v := ?v1) rfl (by kernel_rfl) (by kernel_rfl) (by kernel_rfl) (fun _ _ _ h => h) (Or.inl ⟨by rfl, ?hy1⟩) (by assumption) ?rest1
          case hy1 => (intro wz hSw; (try dsimp only at hSw); first | (go_simp; done) | (go_simp; with_reducible rfl))
          try simp only [Act.put, List.getElem_toArray, List.getElem_cons_zero, List.setIfInBounds_toArray, List.set_cons_zero, List.set_cons_succ]
          refine wpAnyH_take (i := 1) (v := ?v2) rfl (by kernel_rfl) (by kernel_rfl) (by kernel_rfl) (fun _ _ _ h => h) (Or.inl ⟨by rfl, ?hy2⟩) (by assumption) ?rest2
          case hy2 => (intro wz hSw; (try dsimp only at hSw); first | (go_simp; done) | (go_simp; with_reducible rfl))
          try simp only [Act.put, List.getElem_toArray, List.getElem_cons_succ, List.getElem_cons_zero, List.setIfInBounds_toArray, List.set_cons_zero, List.set_cons_succ]
          refine wpAnyH_take (i := 2) (v := ?v3) rfl (by kernel_rfl) (by kernel_rfl) (by kernel_rfl) (fun _ _ _ h => h) (Or.inl ⟨by rfl, ?hy3⟩) (by assumption) ?rest3
          case hy3 => (intro wz hSw; (try dsimp only at hSw); first | (go_simp; done) | (go_simp; with_reducible rfl))
          try simp only [Act.put, List.getElem_toArray, List.getElem_cons_succ, List.getElem_cons_zero, List.setIfInBounds_toArray, List.set_cons_zero, List.set_cons_succ]
          refine wpAnyH_take (i := 3) (v := ?v4) rfl (by kernel_rfl) (by kernel_rfl) (by kernel_rfl) (fun _ _ _ h => h) (Or.inl ⟨by rfl, ?hy4⟩) (by assumption) ?rest4
          case hy4 => (intro wz hSw; (try dsimp only at hSw); first | (go_simp; done) | (go_simp; with_reducible rfl))
          try simp only [Act.put, List.getElem_toArray, List.getElem_cons_succ, List.getElem_cons_zero, List.setIfInBounds_toArray, List.set_cons_zero, List.set_cons_succ]
          refine wpAnyH_take (i := 4) (v := ?v5) rfl (by kernel_rfl) (by kernel_rfl) (by kernel_rfl) (fun _ _ _ h => h) (Or.inl ⟨by rfl, ?hy5⟩) (by assumption) ?rest5
          case hy5 => (intro wz hSw; (try dsimp only at hSw); first | (go_simp; done) | (go_simp; with_reducible rfl))
          try simp only [Act.put, List.getElem_toArray, List.getElem_cons_succ, List.getElem_cons_zero, List.setIfInBounds_toArray, List.set_cons_zero, List.set_cons_succ]
          refine wpAnyH_take (i := 5) (v := ?v6) rfl (by kernel_rfl) (by kernel_rfl) (by kernel_rfl) (fun _ _ _ h => h) (Or.inl ⟨by rfl, ?hy6⟩) (by assumption) ?rest6
          case hy6 => (intro wz hSw; (try dsimp only at hSw); first | (go_simp; done) | (go_simp; with_reducible rfl))
          try simp only [Act.put, List.getElem_toArray, List.getElem_cons_succ, List.getElem_cons_zero, List.setIfInBounds_toArray, List.set_cons_zero, List.set_cons_succ]
          refine wpAnyH_take (i := 6) (v := ?v7) rfl (by kernel_rfl) (by kernel_rfl) (by kernel_rfl) (fun _ _ _ h => h) (Or.inl ⟨by rfl, ?hy7⟩) (by assumption) ?rest7
          case hy7 => (intro wz hSw; (try dsimp only at hSw); first | (go_simp; done) | (go_simp; with_reducible rfl))
          try simp only [Act.put, List.getElem_toArray, List.getElem_cons_succ, List.getElem_cons_zero, List.setIfInBounds_toArray, List.set_cons_zero, List.set_cons_succ]
          refine wpAnyH_take (i := 7) (v := ?v8) rfl (by kernel_rfl) (by kernel_rfl) (by kernel_rfl) (fun _ _ _ h => h) (Or.inl ⟨by rfl, ?hy8⟩) (by assumption) ?rest8
          case hy8 => (intro wz hSw; (try dsimp only at hSw); first | (go_simp; done) | (go_simp; with_reducible rfl))
          try simp only [Act.put, List.getElem_toArray, List.getElem_cons_succ, List.getElem_cons_zero, List.setIfInBounds_toArray, List.set_cons_zero, List.set_cons_succ]
          refine wpAnyH_take (i := 8) (v := ?v9) rfl (by kernel_rfl) (by kernel_rfl) (by kernel_rfl) (fun _ _ _ h => h) (Or.inl ⟨by rfl, ?hy9⟩) (by assumption) ?rest9
          case hy9 => (intro wz hSw; (try dsimp only at hSw); first | (go_simp; done) | (go_simp; with_reducible rfl))
          try simp only [Act.put, List.getElem_toArray, List.getElem_cons_succ, List.getElem_cons_zero, List.setIfInBounds_toArray, List.set_cons_zero, List.set_cons_succ]
          refine wpAnyH_take (i := 9) (v := ?v10) rfl (by kernel_rfl) (by kernel_rfl) (by kernel_rfl) (fun _ _ _ h => h) (Or.inl ⟨by rfl, ?hy10⟩) (by assumption) ?rest10
          case hy10 => (intro wz hSw; (try dsimp only at hSw); first | (go_simp; done) | (go_simp; with_reducible rfl))
          try simp only [Act.put, List.getElem_toArray, List.getElem_cons_succ, List.getElem_cons_zero, List.setIfInBounds_toArray, List.set_cons_zero, List.set_cons_succ]
          refine wpAnyH_take (i := 10) (v := ?v11) rfl (by kernel_rfl) (by kernel_rfl) (by kernel_rfl) (fun _ _ _ h => h) (Or.inl ⟨by rfl, ?hy11⟩) (by assumption) ?rest11
          case hy11 => (intro wz hSw; (try dsimp only at hSw); first | (go_simp; done) | (go_simp; with_reducible rfl))
          try simp only [Act.put, List.getElem_toArray, List.getElem_cons_succ, List.getElem_cons_zero, List.setIfInBounds_toArray, List.set_cons_zero, List.set_cons_succ]
          refine wpAnyH_take (i := 11) (v := ?v12) rfl (by kernel_rfl) (by kernel_rfl) (by kernel_rfl) (fun _ _ _ h => h) (Or.inl ⟨by rfl, ?hy12⟩) (by assumption) ?rest12
          case hy12 => (intro wz hSw; (try dsimp only at hSw); first | (go_simp; done) | (go_simp; with_reducible rfl))
          try simp only [Act.put, List.getElem_toArray, List.getElem_cons_succ, List.getElem_cons_zero, List.setIfInBounds_toArray, List.set_cons_zero, List.set_cons_succ]
          refine wpAnyH_take (i := 12) (v := ?v13) rfl (by kernel_rfl) (by kernel_rfl) (by kernel_rfl) (fun _ _ _ h => h) (Or.inl ⟨by rfl, ?hy13⟩) (by assumption) ?rest13
          case hy13 => (intro wz hSw; (try dsimp only at hSw); first | (go_simp; done) | (go_simp; with_reducible rfl))
          try simp only [Act.put, List.getElem_toArray, List.getElem_cons_succ, List.getElem_cons_zero, List.setIfInBounds_toArray, List.set_cons_zero, List.set_cons_succ]
          refine wpAnyH_take (i := 13) (v := ?v14) rfl (by kernel_rfl) (by kernel_rfl) (by kernel_rfl) (fun _ _ _ h => h) (Or.inl ⟨by rfl, ?hy14⟩) (by assumption) ?rest14
          case hy14 => (intro wz hSw; (try dsimp only at hSw); first | (go_simp; done) | (go_simp; with_reducible rfl))
          try simp only [Act.put, List.getElem_toArray, List.getElem_cons_succ, List.getElem_cons_zero, List.setIfInBounds_toArray, List.set_cons_zero, List.set_cons_succ]
          refine wpAnyH_take (i := 14) (v := ?v15) rfl (by kernel_rfl) (by kernel_rfl) (by kernel_rfl) (fun _ _ _ h => h) (Or.inl ⟨by rfl, ?hy15⟩) (by assumption) ?rest15
          case hy15 => (intro wz hSw; (try dsimp only at hSw); first | (go_simp; done) | (go_simp; with_reducible rfl))
          try simp only [Act.put, List.getElem_toArray, List.getElem_cons_succ, List.getElem_cons_zero, List.setIfInBounds_toArray, List.set_cons_zero, List.set_cons_succ]
          refine wpAnyH_take (i := 15) (v := ?v16) rfl (by kernel_rfl) (by kernel_rfl) (by kernel_rfl) (fun _ _ _ h => h) (Or.inl ⟨by rfl, ?hy16⟩) (by assumption) ?rest16
          case hy16 => (intro wz hSw; (try dsimp only at hSw); first | (go_simp; done) | (go_simp; with_reducible rfl))
          try simp only [Act.put, List.getElem_toArray, List.getElem_cons_succ, List.getElem_cons_zero, List.setIfInBounds_toArray, List.set_cons_zero, List.set_cons_succ]
          refine wpAnyH_take (i := 16) (v := ?v17) rfl (by kernel_rfl) (by kernel_rfl) (by kernel_rfl) (fun _ _ _ h => h) (Or.inl ⟨by rfl, ?hy17⟩) (by assumption) ?rest17
          case hy17 => (intro wz hSw; (try dsimp only at hSw); first | (go_simp; done) | (go_simp; with_reducible rfl))
          try simp only [Act.put, List.getElem_toArray, List.getElem_cons_succ, List.getElem_cons_zero, List.setIfInBounds_toArray, List.set_cons_zero, List.set_cons_succ]
          refine wpAnyH_ready (rs := [17]) (by kernel_rfl) (by simp) ?_
          refine AllReadyH.cons (o := _) rfl (fun K hK => ?_) AllReadyH.nil
          go_simp
          refine (WP.out _ G0.out).mono ?_
          rintro e wh1 ⟨V1, Vs1, rfl, o1, g⟩
          obtain ⟨a1, c1, hV⟩ := o1.shape
          rw [keep_rows, run_len] at hV
          subst hV
          have S1 := Lib.hid (o1.sr (n := L.length) (by rw [keep_rows, run_len]))
          rw [LN.out] at S1 ⊢
          clear o1
          have G1 := Lib.hid (gb_trans G0.out g)
          clear g
          try dsimp only
          refine hK.out _ _ (KT.out _ G1.out) (fun hH1 => ?_)
          clear hK K hH0
          try simp only [Act.put, List.getElem_toArray, List.getElem_cons_succ, List.getElem_cons_zero, List.setIfInBounds_toArray, List.set_cons_zero, List.set_cons_succ]
          refine wpAnyH_take (i := 18) (v := ?v18) rfl (by kernel_rfl) (by kernel_rfl) (by kernel_rfl) (fun _ _ _ h => h) (Or.inl ⟨by rfl, ?hy18⟩) (by assumption) ?rest18
          case hy18 => (intro wz hSw; (try dsimp only at hSw); first | (go_simp; done) | (go_simp; with_reducible rfl))
          try simp only [Act.put, List.getElem_toArray, List.getElem_cons_succ, List.getElem_cons_zero, List.setIfInBounds_toArray, List.set_cons_zero, List.set_cons_succ]
          refine wpAnyH_done (by kernel_rfl) ?_ _
          clear hH1
          clear KT WP S2
          have y0' := G1.out.cell y0 (by simp)
          have y1' := G1.out.cell y1 (by simp)
          have y2' := G1.out.cell y2 (by simp)
          have d0 : wh1.cell? ⟨D, 0, none⟩ = some (.int .i64 x.1) := (BD.out.keep0 (gb_trans HG.out G1.out)).cell 0
          have d1 : wh1.cell? ⟨D, 1, none⟩ = some (.int .u32 x.2.1) := (BD.out.keep0 (gb_trans HG.out G1.out)).cell 1
          have HG2 := Lib.hid (gb_trans HG.out G1.out)
          clear y0 y1 y2 G1
          by_cases e1 : y.1 = x.1
          · have e1b : (y.1 == x.1) = true := by rw [beq_iff_eq]; exact e1
            by_cases e2 : y.2.1 = x.2.1
            · have e2b : (y.2.1 == x.2.1) = true := by rw [beq_iff_eq]; exact e2
              have WE := Lib.hid (show wantN l x (k + 1) = y.2.2 from by rw [WN.out]; exact if_pos ⟨e1, e2⟩)
              clear e1 e2 WN
              go_upto_region 14 with fail
              go_region
              go_wp2
              go_roundw
              case rel => exact ⟨k + 1, by omega, by go_num, by rw [WE.out], ⟨a1, c1, rfl, by rw [RN.out]; exact S1.out.keep0 (gb_drew _ none)⟩, gb_dr1 HG2.out⟩
              case measure => simp [intOf]; omega
            · have e2b : (y.2.1 == x.2.1) = false := by rw [beq_eq_false_iff_ne]; exact e2
              have WE := Lib.hid (show wantN l x (k + 1) = w0 from by rw [WN.out]; exact if_neg fun h => e2 h.2)
              clear e1 e2 WN
              go_upto_region 14 with fail
              go_region
              go_wp2
              go_roundw
              case rel => exact ⟨k + 1, by omega, by go_num, by rw [WE.out], ⟨a1, c1, rfl, by rw [RN.out]; exact S1.out.keep0 (gb_drew _ none)⟩, gb_dr1 HG2.out⟩
              case measure => simp [intOf]; omega
          · have e1b : (y.1 == x.1) = false := by rw [beq_eq_false_iff_ne]; exact e1
            have WE := Lib.hid (show wantN l x (k + 1) = w0 from by rw [WN.out]; exact if_neg fun h => e1 h.1)
            clear e1 WN
            go_upto_region 14 with fail
            go_region
            go_wp2
            go_roundw
            case rel => exact ⟨k + 1, by omega, by go_num, by rw [WE.out], ⟨a1, c1, rfl, by rw [RN.out]; exact S1.out.keep0 (gb_drew _ none)⟩, gb_dr1 HG2.out⟩
            case measure => simp [intOf]; omega
        · have hke : k = m := by omega
          subst hke
          have GD := Lib.hid (good_run OK.out l HL.out.rng k (by rw [ML.out]; exact Nat.le_refl _))
          have RC := Lib.hid (fun (q t : Nat) (h1 : x.1 = q) (h2 : x.2.1 = t) (hq : q < L.length) (ht : (t : Int) < (L.getD q rz).2.2) => run_cell OK.out l HL.out.rng q t x h1 h2 hq ht k (by rw [ML.out]; exact Nat.le_refl _))
          have RR := Lib.hid (fun j => run_row L l k j)
          have RL := Lib.hid (run_len L l k)
          have WB := Lib.hid (show 0 ≤ wantN l x k ∧ wantN l x k < 4294967296 from want_rng l x HL.out.rng k)
          generalize runN L l k = R0 at *
          generalize wantN l x k = w0 at *
          have CT := Lib.hid (fun (W : World) (g : wr.grownBy W none) => cont_b W X L a2 X.rn c2 R0 (HH.out.keep0 (gb_trans GZ.out (gb_trans HG.out g))) (S2.out.keep0 g) (by omega) (by omega) (fun j => by have := RR.out j; omega) 0 (good_cont GD.out))
          have RD := Lib.hid (fun (W : World) (g : wr.grownBy W none) => pread_any W X L a2 X.rn c2 R0 x.1 x.2.1 (HH.out.keep0 (gb_trans GZ.out (gb_trans HG.out g))) (S2.out.keep0 g) (by omega) (by omega) HX.out.1 HX.out.2.1.1 HX.out.2.1.2 (fun j => by have := RR.out j; omega))
          unfold RetV at CT RD
          have s0 : wr.cell? ⟨A, 0, none⟩ = some (.string X.nm) := (BA.out.keep0 HG.out).cell 0
          have s1 : wr.cell? ⟨A, 1, none⟩ = some (.slice X.ha X.hn X.hc) := (BA.out.keep0 HG.out).cell 1
          have s2 : wr.cell? ⟨A, 2, none⟩ = some (.slice X.ma X.mn X.mc) := (BA.out.keep0 HG.out).cell 2
          have s3 : wr.cell? ⟨A, 3, none⟩ = some (.slice X.ra X.rn X.rc) := (BA.out.keep0 HG.out).cell 3
          have s4 : wr.cell? ⟨A, 4, none⟩ = some (.slice X.aa X.an X.ac) := (BA.out.keep0 HG.out).cell 4
          have s5 : wr.cell? ⟨A, 5, none⟩ = some (.slice X.ta X.tn X.tc) := (BA.out.keep0 HG.out).cell 5
          have s6 : wr.cell? ⟨A, 6, none⟩ = some (.slice X.sa X.sn X.sc) := (BA.out.keep0 HG.out).cell 6
          have s7 : wr.cell? ⟨A, 7, none⟩ = some (.slice X.ca X.cn X.cc) := (BA.out.keep0 HG.out).cell 7
          have s8 : wr.cell? ⟨A, 8, none⟩ = some (.slice X.da X.dn X.dc) := (BA.out.keep0 HG.out).cell 8
          have hlt0 : ¬ (k : Int) < (k : Int) := by omega
          go_wp2_with fail
          refine (CT.out wr (gb_refl _ _)).mono ?_
          rintro e w5 ⟨rfl, g⟩
          have G5 := Lib.hid g
          clear g s0 s1 s2 s3 s4 s5 s6 s7 s8
          have s0 : w5.cell? ⟨A, 0, none⟩ = some (.string X.nm) := (BA.out.keep0 (gb_trans HG.out G5.out)).cell 0
          have s1 : w5.cell? ⟨A, 1, none⟩ = some (.slice X.ha X.hn X.hc) := (BA.out.keep0 (gb_trans HG.out G5.out)).cell 1
          have s2 : w5.cell? ⟨A, 2, none⟩ = some (.slice X.ma X.mn X.mc) := (BA.out.keep0 (gb_trans HG.out G5.out)).cell 2
          have s3 : w5.cell? ⟨A, 3, none⟩ = some (.slice X.ra X.rn X.rc) := (BA.out.keep0 (gb_trans HG.out G5.out)).cell 3
          have s4 : w5.cell? ⟨A, 4, none⟩ = some (.slice X.aa X.an X.ac) := (BA.out.keep0 (gb_trans HG.out G5.out)).cell 4
          have s5 : w5.cell? ⟨A, 5, none⟩ = some (.slice X.ta X.tn X.tc) := (BA.out.keep0 (gb_trans HG.out G5.out)).cell 5
          have s6 : w5.cell? ⟨A, 6, none⟩ = some (.slice X.sa X.sn X.sc) := (BA.out.keep0 (gb_trans HG.out G5.out)).cell 6
          have s7 : w5.cell? ⟨A, 7, none⟩ = some (.slice X.ca X.cn X.cc) := (BA.out.keep0 (gb_trans HG.out G5.out)).cell 7
          have s8 : w5.cell? ⟨A, 8, none⟩ = some (.slice X.da X.dn X.dc) := (BA.out.keep0 (gb_trans HG.out G5.out)).cell 8
          have d0 : w5.cell? ⟨D, 0, none⟩ = some (.int .i64 x.1) := (BD.out.keep0 (gb_trans HG.out G5.out)).cell 0
          have d1 : w5.cell? ⟨D, 1, none⟩ = some (.int .u32 x.2.1) := (BD.out.keep0 (gb_trans HG.out G5.out)).cell 1
          go_wp2_with fail
          refine (RD.out w5 G5.out).mono ?_
          rintro e w6 ⟨rfl, g⟩
          have G6 := Lib.hid (gb_trans HG.out (gb_trans G5.out g))
          clear g G5 CT RD d0 d1 s0 s1 s2 s3 s4 s5 s6 s7 s8
          have d0 : w6.cell? ⟨D, 0, none⟩ = some (.int .i64 x.1) := (BD.out.keep0 G6.out).cell 0
          have d1 : w6.cell? ⟨D, 1, none⟩ = some (.int .u32 x.2.1) := (BD.out.keep0 G6.out).cell 1
          have s3 : w6.cell? ⟨A, 3, none⟩ = some (.slice X.ra X.rn X.rc) := (BA.out.keep0 G6.out).cell 3
          have hx0 := HX.out.2.1.1
          have hx1 := HX.out.2.1.2
          by_cases q0 : x.1 < 0
          · rw [read_no L R0 x.1 x.2.1 (cell_no fun h => by have := h.1; omega)]
            go_upto_region 19 with fail
            refine wp_region_held_drew (S := (fun w' : World => w'.cell? ⟨D, 0, none⟩ = some (.int .i64 x.1) ∧ w'.cell? ⟨A, 3, none⟩ = some (.slice X.ra X.rn X.rc) ∧ True)) (by kernel_rfl) (⟨d0, s3, trivial⟩) (fun hH0 => ?_)
            refine wpAnyH_take (i := 0) (v := ?v19) rfl (by kernel_rfl) (by kernel_rfl) (by kernel_rfl) (fun _ _ _ h => h) (Or.inl ⟨by rfl, ?hy19⟩) (by assumption) ?rest19
            case hy19 => (intro wz hSw; (try dsimp only at hSw); first | (go_simp; done) | (go_simp; with_reducible rfl))
            try simp only [Act.put, List.getElem_toArray, List.getElem_cons_zero, List.setIfInBounds_toArray, List.set_cons_zero, List.set_cons_succ]
            refine wpAnyH_take (i := 1) (v := ?v20) rfl (by kernel_rfl) (by kernel_rfl) (by kernel_rfl) (fun _ _ _ h => h) (Or.inl ⟨by rfl, ?hy20⟩) (by assumption) ?rest20
            case hy20 => (intro wz hSw; (try dsimp only at hSw); first | (go_simp; done) | (go_simp; with_reducible rfl))
            try simp only [Act.put, List.getElem_toArray, List.getElem_cons_succ, List.getElem_cons_zero, List.setIfInBounds_toArray, List.set_cons_zero, List.set_cons_succ]
            refine wpAnyH_take (i := 2) (v := ?v21) rfl (by kernel_rfl) (by kernel_rfl) (by kernel_rfl) (fun _ _ _ h => h) (Or.inl ⟨by rfl, ?hy21⟩) (by assumption) ?rest21
            case hy21 => (intro wz hSw; (try dsimp only at hSw); first | (go_simp; done) | (go_simp; with_reducible rfl))
            try simp only [Act.put, List.getElem_toArray, List.getElem_cons_succ, List.getElem_cons_zero, List.setIfInBounds_toArray, List.set_cons_zero, List.set_cons_succ]
            refine wpAnyH_take (i := 3) (v := ?v22) rfl (by kernel_rfl) (by kernel_rfl) (by kernel_rfl) (fun _ _ _ h => h) (Or.inl ⟨by rfl, ?hy22⟩) (by assumption) ?rest22
            case hy22 => (intro wz hSw; (try dsimp only at hSw); first | (go_simp; done) | (go_simp; with_reducible rfl))
            try simp only [Act.put, List.getElem_toArray, List.getElem_cons_succ, List.getElem_cons_zero, List.setIfInBounds_toArray, List.set_cons_zero, List.set_cons_succ]
            refine wpAnyH_take (i := 4) (v := undef) rfl (by kernel_rfl) (by kernel_rfl) (by kernel_rfl) (fun _ _ _ h => h) (Or.inr ⟨by rfl, rfl⟩) (by assumption) ?_
            try simp only [Act.put, List.getElem_toArray, List.getElem_cons_succ, List.getElem_cons_zero, List.setIfInBounds_toArray, List.set_cons_zero, List.set_cons_succ]
            refine wpAnyH_take (i := 5) (v := undef) rfl (by kernel_rfl) (by kernel_rfl) (by kernel_rfl) (fun _ _ _ h => h) (Or.inr ⟨by rfl, rfl⟩) (by assumption) ?_
            try simp only [Act.put, List.getElem_toArray, List.getElem_cons_succ, List.getElem_cons_zero, List.setIfInBounds_toArray, List.set_cons_zero, List.set_cons_succ]
            refine wpAnyH_take (i := 6) (v := undef) rfl (by kernel_rfl) (by kernel_rfl) (by kernel_rfl) (fun _ _ _ h => h) (Or.inr ⟨by rfl, rfl⟩) (by assumption) ?_
            try simp only [Act.put, List.getElem_toArray, List.getElem_cons_succ, List.getElem_cons_zero, List.setIfInBounds_toArray, List.set_cons_zero, List.set_cons_succ]
            refine wpAnyH_take (i := 7) (v := undef) rfl (by kernel_rfl) (by kernel_rfl) (by kernel_rfl) (fun _ _ _ h => h) (Or.inr ⟨by rfl, rfl⟩) (by assumption) ?_
            try simp only [Act.put, List.getElem_toArray, List.getElem_cons_succ, List.getElem_cons_zero, List.setIfInBounds_toArray, List.set_cons_zero, List.set_cons_succ]
            refine wpAnyH_take (i := 8) (v := undef) rfl (by kernel_rfl) (by kernel_rfl) (by kernel_rfl) (fun _ _ _ h => h) (Or.inr ⟨by rfl, rfl⟩) (by assumption) ?_
            try simp only [Act.put, List.getElem_toArray, List.getElem_cons_succ, List.getElem_cons_zero, List.setIfInBounds_toArray, List.set_cons_zero, List.set_cons_succ]
            refine wpAnyH_take (i := 9) (v := undef) rfl (by kernel_rfl) (by kernel_rfl) (by kernel_rfl) (fun _ _ _ h => h) (Or.inr ⟨by rfl, rfl⟩) (by assumption) ?_
            try simp only [Act.put, List.getElem_toArray, List.getElem_cons_succ, List.getElem_cons_zero, List.setIfInBounds_toArray, List.set_cons_zero, List.set_cons_succ]
            refine wpAnyH_take (i := 10) (v := ?v29) rfl (by kernel_rfl) (by kernel_rfl) (by kernel_rfl) (fun _ _ _ h => h) (Or.inl ⟨by rfl, ?hy29⟩) (by assumption) ?rest29
            case hy29 => (intro wz hSw; (try dsimp only at hSw); first | (go_simp; done) | (go_simp; with_reducible rfl))
            try simp only [Act.put, List.getElem_toArray, List.getElem_cons_succ, List.getElem_cons_zero, List.setIfInBounds_toArray, List.set_cons_zero, List.set_cons_succ]
            refine wpAnyH_take (i := 11) (v := ?v30) rfl (by kernel_rfl) (by kernel_rfl) (by kernel_rfl) (fun _ _ _ h => h) (Or.inl ⟨by rfl, ?hy30⟩) (by assumption) ?rest30
            case hy30 => (intro wz hSw; (try dsimp only at hSw); first | (go_simp; done) | (go_simp; with_reducible rfl))
            try simp only [Act.put, List.getElem_toArray, List.getElem_cons_succ, List.getElem_cons_zero, List.setIfInBounds_toArray, List.set_cons_zero, List.set_cons_succ]
            refine wpAnyH_take (i := 12) (v := undef) rfl (by kernel_rfl) (by kernel_rfl) (by kernel_rfl) (fun _ _ _ h => h) (Or.inr ⟨by rfl, rfl⟩) (by assumption) ?_
            try simp only [Act.put, List.getElem_toArray, List.getElem_cons_succ, List.getElem_cons_zero, List.setIfInBounds_toArray, List.set_cons_zero, List.set_cons_succ]
            refine wpAnyH_take (i := 13) (v := undef) rfl (by kernel_rfl) (by kernel_rfl) (by kernel_rfl) (fun _ _ _ h => h) (Or.inr ⟨by rfl, rfl⟩) (by assumption) ?_
            try simp only [Act.put, List.getElem_toArray, List.getElem_cons_succ, List.getElem_cons_zero, List.setIfInBounds_toArray, List.set_cons_zero, List.set_cons_succ]
            refine wpAnyH_take (i := 14) (v := undef) rfl (by kernel_rfl) (by kernel_rfl) (by kernel_rfl) (fun _ _ _ h => h) (Or.inr ⟨by rfl, rfl⟩) (by assumption) ?_
            try simp only [Act.put, List.getElem_toArray, List.getElem_cons_succ, List.getElem_cons_zero, List.setIfInBounds_toArray, List.set_cons_zero, List.set_cons_succ]
            refine wpAnyH_take (i := 15) (v := undef) rfl (by kernel_rfl) (by kernel_rfl) (by kernel_rfl) (fun _ _ _ h => h) (Or.inr ⟨by rfl, rfl⟩) (by assumption) ?_
            try simp only [Act.put, List.getElem_toArray, List.getElem_cons_succ, List.getElem_cons_zero, List.setIfInBounds_toArray, List.set_cons_zero, List.set_cons_succ]
            refine wpAnyH_take (i := 16) (v := undef) rfl (by kernel_rfl) (by kernel_rfl) (by kernel_rfl) (fun _ _ _ h => h) (Or.inr ⟨by rfl, rfl⟩) (by assumption) ?_
            try simp only [Act.put, List.getElem_toArray, List.getElem_cons_succ, List.getElem_cons_zero, List.setIfInBounds_toArray, List.set_cons_zero, List.set_cons_succ]
            refine wpAnyH_take (i := 17) (v := undef) rfl (by kernel_rfl) (by kernel_rfl) (by kernel_rfl) (fun _ _ _ h => h) (Or.inr ⟨by rfl, rfl⟩) (by assumption) ?_
            try simp only [Act.put, List.getElem_toArray, List.getElem_cons_succ, List.getElem_cons_zero, List.setIfInBounds_toArray, List.set_cons_zero, List.set_cons_succ]
            refine wpAnyH_take (i := 18) (v := undef) rfl (by kernel_rfl) (by kernel_rfl) (by kernel_rfl) (fun _ _ _ h => h) (Or.inr ⟨by rfl, rfl⟩) (by assumption) ?_
            try simp only [Act.put, List.getElem_toArray, List.getElem_cons_succ, List.getElem_cons_zero, List.setIfInBounds_toArray, List.set_cons_zero, List.set_cons_succ]
            refine wpAnyH_take (i := 19) (v := undef) rfl (by kernel_rfl) (by kernel_rfl) (by kernel_rfl) (fun _ _ _ h => h) (Or.inr ⟨by rfl, rfl⟩) (by assumption) ?_
            try simp only [Act.put, List.getElem_toArray, List.getElem_cons_succ, List.getElem_cons_zero, List.setIfInBounds_toArray, List.set_cons_zero, List.set_cons_succ]
            refine wpAnyH_take (i := 20) (v := undef) rfl (by kernel_rfl) (by kernel_rfl) (by kernel_rfl) (fun _ _ _ h => h) (Or.inr ⟨by rfl, rfl⟩) (by assumption) ?_
            try simp only [Act.put, List.getElem_toArray, List.getElem_cons_succ, List.getElem_cons_zero, List.setIfInBounds_toArray, List.set_cons_zero, List.set_cons_succ]
            refine wpAnyH_take (i := 21) (v := undef) rfl (by kernel_rfl) (by kernel_rfl) (by kernel_rfl) (fun _ _ _ h => h) (Or.inr ⟨by rfl, rfl⟩) (by assumption) ?_
            try simp only [Act.put, List.getElem_toArray, List.getElem_cons_succ, List.getElem_cons_zero, List.setIfInBounds_toArray, List.set_cons_zero, List.set_cons_succ]
            refine wpAnyH_take (i := 22) (v := undef) rfl (by kernel_rfl) (by kernel_rfl) (by kernel_rfl) (fun _ _ _ h => h) (Or.inr ⟨by rfl, rfl⟩) (by assumption) ?_
            try simp only [Act.put, List.getElem_toArray, List.getElem_cons_succ, List.getElem_cons_zero, List.setIfInBounds_toArray, List.set_cons_zero, List.set_cons_succ]
            refine wpAnyH_take (i := 23) (v := ?v42) rfl (by kernel_rfl) (by kernel_rfl) (by kernel_rfl) (fun _ _ _ h => h) (Or.inl ⟨by rfl, ?hy42⟩) (by assumption) ?rest42
            case hy42 => (intro wz hSw; (try dsimp only at hSw); first | (go_simp; done) | (go_simp; with_reducible rfl))
            try simp only [Act.put, List.getElem_toArray, List.getElem_cons_succ, List.getElem_cons_zero, List.setIfInBounds_toArray, List.set_cons_zero, List.set_cons_succ]
            refine wpAnyH_done (by kernel_rfl) ?_ _
            clear hH0
            go_wp2_with fail
            refine (WK.out _).mono ?_
            rintro e w7 ⟨rfl, g⟩
            have G7 := Lib.hid (gb_trans (gb_trans GZ.out (gb_dr1 G6.out)) g)
            clear g
            go_wp2
            go_ret
            exact ⟨rfl, G7.out⟩
          by_cases q1 : (X.rn : Int) ≤ x.1
          · rw [read_no L R0 x.1 x.2.1 (cell_no fun h => by have := h.2.1; rw [LN.out] at this; omega)]
            have n0 : decide (x.1 < 0) = false := decide_eq_false q0
            have n1 : decide ((X.rn : Int) ≤ x.1) = true := decide_eq_true q1
            go_upto_region 19 with fail
            refine wp_region_held_drew (S := (fun w' : World => w'.cell? ⟨D, 0, none⟩ = some (.int .i64 x.1) ∧ w'.cell? ⟨A, 3, none⟩ = some (.slice X.ra X.rn X.rc) ∧ True)) (by kernel_rfl) (⟨d0, s3, trivial⟩) (fun hH0 => ?_)
            refine wpAnyH_take (i := 0) (v := ?v43) rfl (by kernel_rfl) (by kernel_rfl) (by kernel_rfl) (fun _ _ _ h => h) (Or.inl ⟨by rfl, ?hy43⟩) (by assumption) ?rest43
            case hy43 => (intro wz hSw; (try dsimp only at hSw); first | (go_simp; done) | (go_simp; with_reducible rfl))
            try simp only [Act.put, List.getElem_toArray, List.getElem_cons_zero, List.setIfInBounds_toArray, List.set_cons_zero, List.set_cons_succ]
            refine wpAnyH_take (i := 1) (v := ?v44) rfl (by kernel_rfl) (by kernel_rfl) (by kernel_rfl) (fun _ _ _ h => h) (Or.inl ⟨by rfl, ?hy44⟩) (by assumption) ?rest44
            case hy44 => (intro wz hSw; (try dsimp only at hSw); first | (go_simp; done) | (go_simp; with_reducible rfl))
            try simp only [Act.put, List.getElem_toArray, List.getElem_cons_succ, List.getElem_cons_zero, List.setIfInBounds_toArray, List.set_cons_zero, List.set_cons_succ]
            refine wpAnyH_take (i := 2) (v := ?v45) rfl (by kernel_rfl) (by kernel_rfl) (by kernel_rfl) (fun _ _ _ h => h) (Or.inl ⟨by rfl, ?hy45⟩) (by assumption) ?rest45
            case hy45 => (intro wz hSw; (try dsimp only at hSw); first | (go_simp; done) | (go_simp; with_reducible rfl))
            try simp only [Act.put, List.getElem_toArray, List.getElem_cons_succ, List.getElem_cons_zero, List.setIfInBounds_toArray, List.set_cons_zero, List.set_cons_succ]
            refine wpAnyH_take (i := 3) (v := ?v46) rfl (by kernel_rfl) (by kernel_rfl) (by kernel_rfl) (fun _ _ _ h => h) (Or.inl ⟨by rfl, ?hy46⟩) (by assumption) ?rest46
            case hy46 => (intro wz hSw; (try dsimp only at hSw); first | (go_simp; done) | (go_simp; with_reducible rfl))
            try simp only [Act.put, List.getElem_toArray, List.getElem_cons_succ, List.getElem_cons_zero, List.setIfInBounds_toArray, List.set_cons_zero, List.set_cons_succ]
            refine wpAnyH_take (i := 4) (v := ?v47) rfl (by kernel_rfl) (by kernel_rfl) (by kernel_rfl) (fun _ _ _ h => h) (Or.inl ⟨by rfl, ?hy47⟩) (by assumption) ?rest47
            case hy47 => (intro wz hSw; (try dsimp only at hSw); first | (go_simp; done) | (go_simp; with_reducible rfl))
            try simp only [Act.put, List.getElem_toArray, List.getElem_cons_succ, List.getElem_cons_zero, List.setIfInBounds_toArray, List.set_cons_zero, List.set_cons_succ]
            refine wpAnyH_take (i := 5) (v := ?v48) rfl (by kernel_rfl) (by kernel_rfl) (by kernel_rfl) (fun _ _ _ h => h) (Or.inl ⟨by rfl, ?hy48⟩) (by assumption) ?rest48
            case hy48 => (intro wz hSw; (try dsimp only at hSw); first | (go_simp; done) | (go_simp; with_reducible rfl))
            try simp only [Act.put, List.getElem_toArray, List.getElem_cons_succ, List.getElem_cons_zero, List.setIfInBounds_toArray, List.set_cons_zero, List.set_cons_succ]
            refine wpAnyH_take (i := 6) (v := ?v49) rfl (by kernel_rfl) (by kernel_rfl) (by kernel_rfl) (fun _ _ _ h => h) (Or.inl ⟨by rfl, ?hy49⟩) (by assumption) ?rest49
            case hy49 => (intro wz hSw; (try dsimp only at hSw); first | (go_simp; done) | (go_simp; with_reducible rfl))
            try simp only [Act.put, List.getElem_toArray, List.getElem_cons_succ, List.getElem_cons_zero, List.setIfInBounds_toArray, List.set_cons_zero, List.set_cons_succ]
            refine wpAnyH_take (i := 7) (v := ?v50) rfl (by kernel_rfl) (by kernel_rfl) (by kernel_rfl) (fun _ _ _ h => h) (Or.inl ⟨by rfl, ?hy50⟩) (by assumption) ?rest50
            case hy50 => (intro wz hSw; (try dsimp only at hSw); first | (go_simp; done) | (go_simp; with_reducible rfl))
            try simp only [Act.put, List.getElem_toArray, List.getElem_cons_succ, List.getElem_cons_zero, List.setIfInBounds_toArray, List.set_cons_zero, List.set_cons_succ]
            refine wpAnyH_take (i := 8) (v := ?v51) rfl (by kernel_rfl) (by kernel_rfl) (by kernel_rfl) (fun _ _ _ h => h) (Or.inl ⟨by rfl, ?hy51⟩) (by assumption) ?rest51
            case hy51 => (intro wz hSw; (try dsimp only at hSw); first | (go_simp; done) | (go_simp; with_reducible rfl))
            try simp only [Act.put, List.getElem_toArray, List.getElem_cons_succ, List.getElem_cons_zero, List.setIfInBounds_toArray, List.set_cons_zero, List.set_cons_succ]
            refine wpAnyH_take (i := 9) (v := ?v52) rfl (by kernel_rfl) (by kernel_rfl) (by kernel_rfl) (fun _ _ _ h => h) (Or.inl ⟨by rfl, ?hy52⟩) (by assumption) ?rest52
            case hy52 => (intro wz hSw; (try dsimp only at hSw); first | (go_simp; done) | (go_simp; with_reducible rfl))
            try simp only [Act.put, List.getElem_toArray, List.getElem_cons_succ, List.getElem_cons_zero, List.setIfInBounds_toArray, List.set_cons_zero, List.set_cons_succ]
            refine wpAnyH_take (i := 10) (v := ?v53) rfl (by kernel_rfl) (by kernel_rfl) (by kernel_rfl) (fun _ _ _ h => h) (Or.inl ⟨by rfl, ?hy53⟩) (by assumption) ?rest53
            case hy53 => (intro wz hSw; (try dsimp only at hSw); first | (go_simp; done) | (go_simp; with_reducible rfl))
            try simp only [Act.put, List.getElem_toArray, List.getElem_cons_succ, List.getElem_cons_zero, List.setIfInBounds_toArray, List.set_cons_zero, List.set_cons_succ]
            refine wpAnyH_take (i := 11) (v := ?v54) rfl (by kernel_rfl) (by kernel_rfl) (by kernel_rfl) (fun _ _ _ h => h) (Or.inl ⟨by rfl, ?hy54⟩) (by assumption) ?rest54
            case hy54 => (intro wz hSw; (try dsimp only at hSw); first | (go_simp; done) | (go_simp; with_reducible rfl))
            try simp only [Act.put, List.getElem_toArray, List.getElem_cons_succ, List.getElem_cons_zero, List.setIfInBounds_toArray, List.set_cons_zero, List.set_cons_succ]
            refine wpAnyH_take (i := 12) (v := undef) rfl (by kernel_rfl) (by kernel_rfl) (by kernel_rfl) (fun _ _ _ h => h) (Or.inr ⟨by rfl, rfl⟩) (by assumption) ?_
            try simp only [Act.put, List.getElem_toArray, List.getElem_cons_succ, List.getElem_cons_zero, List.setIfInBounds_toArray, List.set_cons_zero, List.set_cons_succ]
            refine wpAnyH_take (i := 13) (v := undef) rfl (by kernel_rfl) (by kernel_rfl) (by kernel_rfl) (fun _ _ _ h => h) (Or.inr ⟨by rfl, rfl⟩) (by assumption) ?_
            try simp only [Act.put, List.getElem_toArray, List.getElem_cons_succ, List.getElem_cons_zero, List.setIfInBounds_toArray, List.set_cons_zero, List.set_cons_succ]
            refine wpAnyH_take (i := 14) (v := undef) rfl (by kernel_rfl) (by kernel_rfl) (by kernel_rfl) (fun _ _ _ h => h) (Or.inr ⟨by rfl, rfl⟩) (by assumption) ?_
            try simp only [Act.put, List.getElem_toArray, List.getElem_cons_succ, List.getElem_cons_zero, List.setIfInBounds_toArray, List.set_cons_zero, List.set_cons_succ]
            refine wpAnyH_take (i := 15) (v := undef) rfl (by kernel_rfl) (by kernel_rfl) (by kernel_rfl) (fun _ _ _ h => h) (Or.inr ⟨by rfl, rfl⟩) (by assumption) ?_
            try simp only [Act.put, List.getElem_toArray, List.getElem_cons_succ, List.getElem_cons_zero, List.setIfInBounds_toArray, List.set_cons_zero, List.set_cons_succ]
            refine wpAnyH_take (i := 16) (v := undef) rfl (by kernel_rfl) (by kernel_rfl) (by kernel_rfl) (fun _ _ _ h => h) (Or.inr ⟨by rfl, rfl⟩) (by assumption) ?_
            try simp only [Act.put, List.getElem_toArray, List.getElem_cons_succ, List.getElem_cons_zero, List.setIfInBounds_toArray, List.set_cons_zero, List.set_cons_succ]
            refine wpAnyH_take (i := 17) (v := undef) rfl (by kernel_rfl) (by kernel_rfl) (by kernel_rfl) (fun _ _ _ h => h) (Or.inr ⟨by rfl, rfl⟩) (by assumption) ?_
            try simp only [Act.put, List.getElem_toArray, List.getElem_cons_succ, List.getElem_cons_zero, List.setIfInBounds_toArray, List.set_cons_zero, List.set_cons_succ]
            refine wpAnyH_take (i := 18) (v := undef) rfl (by kernel_rfl) (by kernel_rfl) (by kernel_rfl) (fun _ _ _ h => h) (Or.inr ⟨by rfl, rfl⟩) (by assumption) ?_
            try simp only [Act.put, List.getElem_toArray, List.getElem_cons_succ, List.getElem_cons_zero, List.setIfInBounds_toArray, List.set_cons_zero, List.set_cons_succ]
            refine wpAnyH_take (i := 19) (v := undef) rfl (by kernel_rfl) (by kernel_rfl) (by kernel_rfl) (fun _ _ _ h => h) (Or.inr ⟨by rfl, rfl⟩) (by assumption) ?_
            try simp only [Act.put, List.getElem_toArray, List.getElem_cons_succ, List.getElem_cons_zero, List.setIfInBounds_toArray, List.set_cons_zero, List.set_cons_succ]
            refine wpAnyH_take (i := 20) (v := undef) rfl (by kernel_rfl) (by kernel_rfl) (by kernel_rfl) (fun _ _ _ h => h) (Or.inr ⟨by rfl, rfl⟩) (by assumption) ?_
            try simp only [Act.put, List.getElem_toArray, List.getElem_cons_succ, List.getElem_cons_zero, List.setIfInBounds_toArray, List.set_cons_zero, List.set_cons_succ]
            refine wpAnyH_take (i := 21) (v := undef) rfl (by kernel_rfl) (by kernel_rfl) (by kernel_rfl) (fun _ _ _ h => h) (Or.inr ⟨by rfl, rfl⟩) (by assumption) ?_
            try simp only [Act.put, List.getElem_toArray, List.getElem_cons_succ, List.getElem_cons_zero, List.setIfInBounds_toArray, List.set_cons_zero, List.set_cons_succ]
            refine wpAnyH_take (i := 22) (v := undef) rfl (by kernel_rfl) (by kernel_rfl) (by kernel_rfl) (fun _ _ _ h => h) (Or.inr ⟨by rfl, rfl⟩) (by assumption) ?_
            try simp only [Act.put, List.getElem_toArray, List.getElem_cons_succ, List.getElem_cons_zero, List.setIfInBounds_toArray, List.set_cons_zero, List.set_cons_succ]
            refine wpAnyH_take (i := 23) (v := ?v66) rfl (by kernel_rfl) (by kernel_rfl) (by kernel_rfl) (fun _ _ _ h => h) (Or.inl ⟨by rfl, ?hy66⟩) (by assumption) ?rest66
            case hy66 => (intro wz hSw; (try dsimp only at hSw); first | (go_simp; done) | (go_simp; with_reducible rfl))
            try simp only [Act.put, List.getElem_toArray, List.getElem_cons_succ, List.getElem_cons_zero, List.setIfInBounds_toArray, List.set_cons_zero, List.set_cons_succ]
            refine wpAnyH_done (by kernel_rfl) ?_ _
            clear hH0
            go_wp2_with fail
            refine (WK.out _).mono ?_
            rintro e w7 ⟨rfl, g⟩
            have G7 := Lib.hid (gb_trans (gb_trans GZ.out (gb_dr1 G6.out)) g)
            clear g
            go_wp2
            go_ret
            exact ⟨rfl, G7.out⟩
          obtain ⟨q, xq⟩ : ∃ q : Nat, x.1 = q := ⟨x.1.toNat, by omega⟩
          obtain ⟨t, xt⟩ : ∃ t : Nat, x.2.1 = t := ⟨x.2.1.toNat, by omega⟩
          have hq : q < X.rn := by omega
          obtain ⟨ar, har⟩ := HH.out.some (by omega)
          obtain ⟨x0, x1, x2⟩ := (HH.out.keep0 (gb_trans GZ.out G6.out)).cells ar har q hq
          have RC2 := Lib.hid (RC.out q t xq xt (by rw [LN.out]; exact hq))
          have OK2 := Lib.hid (OK.out q (by rw [LN.out]; exact hq)).1
          have RI := Lib.hid (read_in GD.out q t (by rw [LN.out]; exact hq))
          have NI := Lib.hid (fun (e : ¬ (t : Int) < (L.getD q rz).2.2) => read_no L R0 (q : Int) (t : Int) (by rw [cell_iff]; exact decide_eq_false fun h => e h.2.2.1))
          rw [xq] at d0
          rw [xt] at d1 hx1 hx0
          rw [har] at s3
          rw [xq, xt, har]
          have hq0 := xq
          clear xq xt q0 q1
          obtain ⟨g0, hg0⟩ : ∃ g, g = L.getD q rz := ⟨_, rfl⟩
          rw [← hg0] at x0 x1 x2 RC2 OK2 RI NI
          clear hg0
          obtain ⟨nm, wd, sz⟩ := g0
          have j1 : (q : Int) < (X.rn : Int) := by omega
          have j3 : (0 : Int) ≤ (q : Int) := by omega
          have n0 : decide ((q : Int) < 0) = false := decide_eq_false (by omega)
          have n1 : decide (X.rn ≤ q) = false := decide_eq_false (by omega)
          have wt : IntKind.i64.wrap (t : Int) = (t : Int) := IntWalk.i64_in _ (by omega)
          clear hq0
          by_cases q2 : sz ≤ (t : Int)
          · rw [NI.out (by show ¬ (t : Int) < sz; omega)]
            have n2 : decide (sz ≤ (t : Int)) = true := decide_eq_true q2
            go_upto_region 19 with fail
            refine wp_region_held_drew (S := (fun w' : World => w'.cell? ⟨D, 0, none⟩ = some (.int .i64 (q : Int)) ∧ w'.cell? ⟨A, 3, none⟩ = some (.slice (some ar) X.rn X.rc) ∧ w'.cell? ⟨D, 1, none⟩ = some (.int .u32 (t : Int)) ∧ w'.cell? ⟨(ar.add (q * 3)).block, (ar.add (q * 3)).off + 2, none⟩ = some (.int .i64 sz) ∧ True)) (by kernel_rfl) (⟨d0, s3, d1, x2, trivial⟩) (fun hH0 => ?_)
            refine wpAnyH_take (i := 0) (v := ?v67) rfl (by kernel_rfl) (by kernel_rfl) (by kernel_rfl) (fun _ _ _ h => h) (Or.inl ⟨by rfl, ?hy67⟩) (by assumption) ?rest67
            case hy67 => (intro wz hSw; (try dsimp only at hSw); first | (go_simp; done) | (go_simp; with_reducible rfl))
            try simp only [Act.put, List.getElem_toArray, List.getElem_cons_zero, List.setIfInBounds_toArray, List.set_cons_zero, List.set_cons_succ]
            refine wpAnyH_take (i := 1) (v := ?v68) rfl (by kernel_rfl) (by kernel_rfl) (by kernel_rfl) (fun _ _ _ h => h) (Or.inl ⟨by rfl, ?hy68⟩) (by assumption) ?rest68
            case hy68 => (intro wz hSw; (try dsimp only at hSw); first | (go_simp; done) | (go_simp; with_reducible rfl))
            try simp only [Act.put, List.getElem_toArray, List.getElem_cons_succ, List.getElem_cons_zero, List.setIfInBounds_toArray, List.set_cons_zero, List.set_cons_succ]
            refine wpAnyH_take (i := 2) (v := ?v69) rfl (by kernel_rfl) (by kernel_rfl) (by kernel_rfl) (fun _ _ _ h => h) (Or.inl ⟨by rfl, ?hy69⟩) (by assumption) ?rest69
            case hy69 => (intro wz hSw; (try dsimp only at hSw); first | (go_simp; done) | (go_simp; with_reducible rfl))
            try simp only [Act.put, List.getElem_toArray, List.getElem_cons_succ, List.getElem_cons_zero, List.setIfInBounds_toArray, List.set_cons_zero, List.set_cons_succ]
            refine wpAnyH_take (i := 3) (v := ?v70) rfl (by kernel_rfl) (by kernel_rfl) (by kernel_rfl) (fun _ _ _ h => h) (Or.inl ⟨by rfl, ?hy70⟩) (by assumption) ?rest70
            case hy70 => (intro wz hSw; (try dsimp only at hSw); first | (go_simp; done) | (go_simp; with_reducible rfl))
            try simp only [Act.put, List.getElem_toArray, List.getElem_cons_succ, List.getElem_cons_zero, List.setIfInBounds_toArray, List.set_cons_zero, List.set_cons_succ]
            refine wpAnyH_take (i := 4) (v := ?v71) rfl (by kernel_rfl) (by kernel_rfl) (by kernel_rfl) (fun _ _ _ h => h) (Or.inl ⟨by rfl, ?hy71⟩) (by assumption) ?rest71
            case hy71 => (intro wz hSw; (try dsimp only at hSw); first | (go_simp; done) | (go_simp; with_reducible rfl))
            try simp only [Act.put, List.getElem_toArray, List.getElem_cons_succ, List.getElem_cons_zero, List.setIfInBounds_toArray, List.set_cons_zero, List.set_cons_succ]
            refine wpAnyH_take (i := 5) (v := ?v72) rfl (by kernel_rfl) (by kernel_rfl) (by kernel_rfl) (fun _ _ _ h => h) (Or.inl ⟨by rfl, ?hy72⟩) (by assumption) ?rest72
            case hy72 => (intro wz hSw; (try dsimp only at hSw); first | (go_simp; done) | (go_simp; with_reducible rfl))
            try simp only [Act.put, List.getElem_toArray, List.getElem_cons_succ, List.getElem_cons_zero, List.setIfInBounds_toArray, List.set_cons_zero, List.set_cons_succ]
            refine wpAnyH_take (i := 6) (v := ?v73) rfl (by kernel_rfl) (by kernel_rfl) (by kernel_rfl) (fun _ _ _ h => h) (Or.inl ⟨by rfl, ?hy73⟩) (by assumption) ?rest73
            case hy73 => (intro wz hSw; (try dsimp only at hSw); first | (go_simp; done) | (go_simp; with_reducible rfl))
            try simp only [Act.put, List.getElem_toArray, List.getElem_cons_succ, List.getElem_cons_zero, List.setIfInBounds_toArray, List.set_cons_zero, List.set_cons_succ]
            refine wpAnyH_take (i := 7) (v := ?v74) rfl (by kernel_rfl) (by kernel_rfl) (by kernel_rfl) (fun _ _ _ h => h) (Or.inl ⟨by rfl, ?hy74⟩) (by assumption) ?rest74
            case hy74 => (intro wz hSw; (try dsimp only at hSw); first | (go_simp; done) | (go_simp; with_reducible rfl))
            try simp only [Act.put, List.getElem_toArray, List.getElem_cons_succ, List.getElem_cons_zero, List.setIfInBounds_toArray, List.set_cons_zero, List.set_cons_succ]
            refine wpAnyH_take (i := 8) (v := ?v75) rfl (by kernel_rfl) (by kernel_rfl) (by kernel_rfl) (fun _ _ _ h => h) (Or.inl ⟨by rfl, ?hy75⟩) (by assumption) ?rest75
            case hy75 => (intro wz hSw; (try dsimp only at hSw); first | (go_simp; done) | (go_simp; with_reducible rfl))
            try simp only [Act.put, List.getElem_toArray, List.getElem_cons_succ, List.getElem_cons_zero, List.setIfInBounds_toArray, List.set_cons_zero, List.set_cons_succ]
            refine wpAnyH_take (i := 9) (v := ?v76) rfl (by kernel_rfl) (by kernel_rfl) (by kernel_rfl) (fun _ _ _ h => h) (Or.inl ⟨by rfl, ?hy76⟩) (by assumption) ?rest76
            case hy76 => (intro wz hSw; (try dsimp only at hSw); first | (go_simp; done) | (go_simp; with_reducible rfl))
            try simp only [Act.put, List.getElem_toArray, List.getElem_cons_succ, List.getElem_cons_zero, List.setIfInBounds_toArray, List.set_cons_zero, List.set_cons_succ]
            refine wpAnyH_take (i := 10) (v := ?v77) rfl (by kernel_rfl) (by kernel_rfl) (by kernel_rfl) (fun _ _ _ h => h) (Or.inl ⟨by rfl, ?hy77⟩) (by assumption) ?rest77
            case hy77 => (intro wz hSw; (try dsimp only at hSw); first | (go_simp; done) | (go_simp; with_reducible rfl))
            try simp only [Act.put, List.getElem_toArray, List.getElem_cons_succ, List.getElem_cons_zero, List.setIfInBounds_toArray, List.set_cons_zero, List.set_cons_succ]
            refine wpAnyH_take (i := 11) (v := ?v78) rfl (by kernel_rfl) (by kernel_rfl) (by kernel_rfl) (fun _ _ _ h => h) (Or.inl ⟨by rfl, ?hy78⟩) (by assumption) ?rest78
            case hy78 => (intro wz hSw; (try dsimp only at hSw); first | (go_simp; done) | (go_simp; with_reducible rfl))
            try simp only [Act.put, List.getElem_toArray, List.getElem_cons_succ, List.getElem_cons_zero, List.setIfInBounds_toArray, List.set_cons_zero, List.set_cons_succ]
            refine wpAnyH_take (i := 12) (v := ?v79) rfl (by kernel_rfl) (by kernel_rfl) (by kernel_rfl) (fun _ _ _ h => h) (Or.inl ⟨by rfl, ?hy79⟩) (by assumption) ?rest79
            case hy79 => (intro wz hSw; (try dsimp only at hSw); first | (go_simp; done) | (go_simp; with_reducible rfl))
            try simp only [Act.put, List.getElem_toArray, List.getElem_cons_succ, List.getElem_cons_zero, List.setIfInBounds_toArray, List.set_cons_zero, List.set_cons_succ]
            refine wpAnyH_take (i := 13) (v := ?v80) rfl (by kernel_rfl) (by kernel_rfl) (by kernel_rfl) (fun _ _ _ h => h) (Or.inl ⟨by rfl, ?hy80⟩) (by assumption) ?rest80
            case hy80 => (intro wz hSw; (try dsimp only at hSw); first | (go_simp; done) | (go_simp; with_reducible rfl))
            try simp only [Act.put, List.getElem_toArray, List.getElem_cons_succ, List.getElem_cons_zero, List.setIfInBounds_toArray, List.set_cons_zero, List.set_cons_succ]
            refine wpAnyH_take (i := 14) (v := ?v81) rfl (by kernel_rfl) (by kernel_rfl) (by kernel_rfl) (fun _ _ _ h => h) (Or.inl ⟨by rfl, ?hy81⟩) (by assumption) ?rest81
            case hy81 => (intro wz hSw; (try dsimp only at hSw); first | (go_simp; done) | (go_simp; with_reducible rfl))
            try simp only [Act.put, List.getElem_toArray, List.getElem_cons_succ, List.getElem_cons_zero, List.setIfInBounds_toArray, List.set_cons_zero, List.set_cons_succ]
            refine wpAnyH_take (i := 15) (v := ?v82) rfl (by kernel_rfl) (by kernel_rfl) (by kernel_rfl) (fun _ _ _ h => h) (Or.inl ⟨by rfl, ?hy82⟩) (by assumption) ?rest82
            case hy82 => (intro wz hSw; (try dsimp only at hSw); first | (go_simp; done) | (go_simp; with_reducible rfl))
            try simp only [Act.put, List.getElem_toArray, List.getElem_cons_succ, List.getElem_cons_zero, List.setIfInBounds_toArray, List.set_cons_zero, List.set_cons_succ]
            refine wpAnyH_take (i := 16) (v := ?v83) rfl (by kernel_rfl) (by kernel_rfl) (by kernel_rfl) (fun _ _ _ h => h) (Or.inl ⟨by rfl, ?hy83⟩) (by assumption) ?rest83
            case hy83 => (intro wz hSw; (try dsimp only at hSw); first | (go_simp; done) | (go_simp; with_reducible rfl))
            try simp only [Act.put, List.getElem_toArray, List.getElem_cons_succ, List.getElem_cons_zero, List.setIfInBounds_toArray, List.set_cons_zero, List.set_cons_succ]
            refine wpAnyH_take (i := 17) (v := ?v84) rfl (by kernel_rfl) (by kernel_rfl) (by kernel_rfl) (fun _ _ _ h => h) (Or.inl ⟨by rfl, ?hy84⟩) (by assumption) ?rest84
            case hy84 => (intro wz hSw; (try dsimp only at hSw); first | (go_simp; done) | (go_simp; with_reducible rfl))
            try simp only [Act.put, List.getElem_toArray, List.getElem_cons_succ, List.getElem_cons_zero, List.setIfInBounds_toArray, List.set_cons_zero, List.set_cons_succ]
            refine wpAnyH_take (i := 18) (v := ?v85) rfl (by kernel_rfl) (by kernel_rfl) (by kernel_rfl) (fun _ _ _ h => h) (Or.inl ⟨by rfl, ?hy85⟩) (by assumption) ?rest85
            case hy85 => (intro wz hSw; (try dsimp only at hSw); first | (go_simp; done) | (go_simp; with_reducible rfl))
            try simp only [Act.put, List.getElem_toArray, List.getElem_cons_succ, List.getElem_cons_zero, List.setIfInBounds_toArray, List.set_cons_zero, List.set_cons_succ]
            refine wpAnyH_take (i := 19) (v := ?v86) rfl (by kernel_rfl) (by kernel_rfl) (by kernel_rfl) (fun _ _ _ h => h) (Or.inl ⟨by rfl, ?hy86⟩) (by assumption) ?rest86
            case hy86 => (intro wz hSw; (try dsimp only at hSw); first | (go_simp; done) | (go_simp; with_reducible rfl))
            try simp only [Act.put, List.getElem_toArray, List.getElem_cons_succ, List.getElem_cons_zero, List.setIfInBounds_toArray, List.set_cons_zero, List.set_cons_succ]
            refine wpAnyH_take (i := 20) (v := ?v87) rfl (by kernel_rfl) (by kernel_rfl) (by kernel_rfl) (fun _ _ _ h => h) (Or.inl ⟨by rfl, ?hy87⟩) (by assumption) ?rest87
            case hy87 => (intro wz hSw; (try dsimp only at hSw); first | (go_simp; done) | (go_simp; with_reducible rfl))
            try simp only [Act.put, List.getElem_toArray, List.getElem_cons_succ, List.getElem_cons_zero, List.setIfInBounds_toArray, List.set_cons_zero, List.set_cons_succ]
            refine wpAnyH_take (i := 21) (v := ?v88) rfl (by kernel_rfl) (by kernel_rfl) (by kernel_rfl) (fun _ _ _ h => h) (Or.inl ⟨by rfl, ?hy88⟩) (by assumption) ?rest88
            case hy88 => (intro wz hSw; (try dsimp only at hSw); first | (go_simp; done) | (go_simp; with_reducible rfl))
            try simp only [Act.put, List.getElem_toArray, List.getElem_cons_succ, List.getElem_cons_zero, List.setIfInBounds_toArray, List.set_cons_zero, List.set_cons_succ]
            refine wpAnyH_take (i := 22) (v := ?v89) rfl (by kernel_rfl) (by kernel_rfl) (by kernel_rfl) (fun _ _ _ h => h) (Or.inl ⟨by rfl, ?hy89⟩) (by assumption) ?rest89
            case hy89 => (intro wz hSw; (try dsimp only at hSw); first | (go_simp; done) | (go_simp; with_reducible rfl))
            try simp only [Act.put, List.getElem_toArray, List.getElem_cons_succ, List.getElem_cons_zero, List.setIfInBounds_toArray, List.set_cons_zero, List.set_cons_succ]
            refine wpAnyH_take (i := 23) (v := ?v90) rfl (by kernel_rfl) (by kernel_rfl) (by kernel_rfl) (fun _ _ _ h => h) (Or.inl ⟨by rfl, ?hy90⟩) (by assumption) ?rest90
            case hy90 => (intro wz hSw; (try dsimp only at hSw); first | (go_simp; done) | (go_simp; with_reducible rfl))
            try simp only [Act.put, List.getElem_toArray, List.getElem_cons_succ, List.getElem_cons_zero, List.setIfInBounds_toArray, List.set_cons_zero, List.set_cons_succ]
            refine wpAnyH_done (by kernel_rfl) ?_ _
            clear hH0
            clear n0 n1 hx0 hx1 j1 j3 hlt0 hm b1 x0 x1 x2 d0 d1 s3 hq
            go_wp2_with fail
            refine (WK.out _).mono ?_
            rintro e w7 ⟨rfl, g⟩
            have G7 := Lib.hid (gb_trans (gb_trans GZ.out (gb_dr1 G6.out)) g)
            clear g
            go_wp2
            go_ret
            exact ⟨rfl, G7.out⟩
          · rw [RI.out (by show (t : Int) < sz; omega), RC2.out (by show (t : Int) < sz; omega)]
            have n2 : decide (sz ≤ (t : Int)) = false := decide_eq_false q2
            have hwd : 1 ≤ wd ∧ wd ≤ 32 := of_decide_eq_true OK2.out
            have rr := redB_range w0 wd
            have XR := xor_red w0 wd WB.out.1 WB.out.2 hwd
            have lt := redB_lt w0 wd hwd
            have FI := Lib.hid (fun W => rfits_any (redB w0 wd) wd W rr.1 (by omega) (by omega) hwd.2)
            unfold RetS at FI
            rw [show decide (redB w0 wd < pw wd.toNat) = true from decide_eq_true lt.2] at FI
            go_upto_region 19 with fail
            refine wp_region_held_drew (S := (fun w' : World => w'.cell? ⟨D, 0, none⟩ = some (.int .i64 (q : Int)) ∧ w'.cell? ⟨A, 3, none⟩ = some (.slice (some ar) X.rn X.rc) ∧ w'.cell? ⟨D, 1, none⟩ = some (.int .u32 (t : Int)) ∧ w'.cell? ⟨(ar.add (q * 3)).block, (ar.add (q * 3)).off + 2, none⟩ = some (.int .i64 sz) ∧ True)) (by kernel_rfl) (⟨d0, s3, d1, x2, trivial⟩) (fun hH0 => ?_)
            refine wpAnyH_take (i := 0) (v := ?v115) rfl (by kernel_rfl) (by kernel_rfl) (by kernel_rfl) (fun _ _ _ h => h) (Or.inl ⟨by rfl, ?hy115⟩) (by assumption) ?rest115
            case hy115 => (intro wz hSw; (try dsimp only at hSw); first | (go_simp; done) | (go_simp; with_reducible rfl))
            try simp only [Act.put, List.getElem_toArray, List.getElem_cons_zero, List.setIfInBounds_toArray, List.set_cons_zero, List.set_cons_succ]
            refine wpAnyH_take (i := 1) (v := ?v116) rfl (by kernel_rfl) (by kernel_rfl) (by kernel_rfl) (fun _ _ _ h => h) (Or.inl ⟨by rfl, ?hy116⟩) (by assumption) ?rest116
            case hy116 => (intro wz hSw; (try dsimp only at hSw); first | (go_simp; done) | (go_simp; with_reducible rfl))
            try simp only [Act.put, List.getElem_toArray, List.getElem_cons_succ, List.getElem_cons_zero, List.setIfInBounds_toArray, List.set_cons_zero, List.set_cons_succ]
            refine wpAnyH_take (i := 2) (v := ?v117) rfl (by kernel_rfl) (by kernel_rfl) (by kernel_rfl) (fun _ _ _ h => h) (Or.inl ⟨by rfl, ?hy117⟩) (by assumption) ?rest117
            case hy117 => (intro wz hSw; (try dsimp only at hSw); first | (go_simp; done) | (go_simp; with_reducible rfl))
            try simp only [Act.put, List.getElem_toArray, List.getElem_cons_succ, List.getElem_cons_zero, List.setIfInBounds_toArray, List.set_cons_zero, List.set_cons_succ]
            refine wpAnyH_take (i := 3) (v := ?v118) rfl (by kernel_rfl) (by kernel_rfl) (by kernel_rfl) (fun _ _ _ h => h) (Or.inl ⟨by rfl, ?hy118⟩) (by assumption) ?rest118
            case hy118 => (intro wz hSw; (try dsimp only at hSw); first | (go_simp; done) | (go_simp; with_reducible rfl))
            try simp only [Act.put, List.getElem_toArray, List.getElem_cons_succ, List.getElem_cons_zero, List.setIfInBounds_toArray, List.set_cons_zero, List.set_cons_succ]
            refine wpAnyH_take (i := 4) (v := ?v119) rfl (by kernel_rfl) (by kernel_rfl) (by kernel_rfl) (fun _ _ _ h => h) (Or.inl ⟨by rfl, ?hy119⟩) (by assumption) ?rest119
            case hy119 => (intro wz hSw; (try dsimp only at hSw); first | (go_simp; done) | (go_simp; with_reducible rfl))
            try simp only [Act.put, List.getElem_toArray, List.getElem_cons_succ, List.getElem_cons_zero, List.setIfInBounds_toArray, List.set_cons_zero, List.set_cons_succ]
            refine wpAnyH_take (i := 5) (v := ?v120) rfl (by kernel_rfl) (by kernel_rfl) (by kernel_rfl) (fun _ _ _ h => h) (Or.inl ⟨by rfl, ?hy120⟩) (by assumption) ?rest120
            case hy120 => (intro wz hSw; (try dsimp only at hSw); first | (go_simp; done) | (go_simp; with_reducible rfl))
            try simp only [Act.put, List.getElem_toArray, List.getElem_cons_succ, List.getElem_cons_zero, List.setIfInBounds_toArray, List.set_cons_zero, List.set_cons_succ]
            refine wpAnyH_take (i := 6) (v := ?v121) rfl (by kernel_rfl) (by kernel_rfl) (by kernel_rfl) (fun _ _ _ h => h) (Or.inl ⟨by rfl, ?hy121⟩) (by assumption) ?rest121
            case hy121 => (intro wz hSw; (try dsimp only at hSw); first | (go_simp; done) | (go_simp; with_reducible rfl))
            try simp only [Act.put, List.getElem_toArray, List.getElem_cons_succ, List.getElem_cons_zero, List.setIfInBounds_toArray, List.set_cons_zero, List.set_cons_succ]
            refine wpAnyH_take (i := 7) (v := ?v122) rfl (by kernel_rfl) (by kernel_rfl) (by kernel_rfl) (fun _ _ _ h => h) (Or.inl ⟨by rfl, ?hy122⟩) (by assumption) ?rest122
            case hy122 => (intro wz hSw; (try dsimp only at hSw); first | (go_simp; done) | (go_simp; with_reducible rfl))
            try simp only [Act.put, List.getElem_toArray, List.getElem_cons_succ, List.getElem_cons_zero, List.setIfInBounds_toArray, List.set_cons_zero, List.set_cons_succ]
            refine wpAnyH_take (i := 8) (v := ?v123) rfl (by kernel_rfl) (by kernel_rfl) (by kernel_rfl) (fun _ _ _ h => h) (Or.inl ⟨by rfl, ?hy123⟩) (by assumption) ?rest123
            case hy123 => (intro wz hSw; (try dsimp only at hSw); first | (go_simp; done) | (go_simp; with_reducible rfl))
            try simp only [Act.put, List.getElem_toArray, List.getElem_cons_succ, List.getElem_cons_zero, List.setIfInBounds_toArray, List.set_cons_zero, List.set_cons_succ]
            refine wpAnyH_take (i := 9) (v := ?v124) rfl (by kernel_rfl) (by kernel_rfl) (by kernel_rfl) (fun _ _ _ h => h) (Or.inl ⟨by rfl, ?hy124⟩) (by assumption) ?rest124
            case hy124 => (intro wz hSw; (try dsimp only at hSw); first | (go_simp; done) | (go_simp; with_reducible rfl))
            try simp only [Act.put, List.getElem_toArray, List.getElem_cons_succ, List.getElem_cons_zero, List.setIfInBounds_toArray, List.set_cons_zero, List.set_cons_succ]
            refine wpAnyH_take (i := 10) (v := ?v125) rfl (by kernel_rfl) (by kernel_rfl) (by kernel_rfl) (fun _ _ _ h => h) (Or.inl ⟨by rfl, ?hy125⟩) (by assumption) ?rest125
            case hy125 => (intro wz hSw; (try dsimp only at hSw); first | (go_simp; done) | (go_simp; with_reducible rfl))
            try simp only [Act.put, List.getElem_toArray, List.getElem_cons_succ, List.getElem_cons_zero, List.setIfInBounds_toArray, List.set_cons_zero, List.set_cons_succ]
            refine wpAnyH_take (i := 11) (v := ?v126) rfl (by kernel_rfl) (by kernel_rfl) (by kernel_rfl) (fun _ _ _ h => h) (Or.inl ⟨by rfl, ?hy126⟩) (by assumption) ?rest126
            case hy126 => (intro wz hSw; (try dsimp only at hSw); first | (go_simp; done) | (go_simp; with_reducible rfl))
            try simp only [Act.put, List.getElem_toArray, List.getElem_cons_succ, List.getElem_cons_zero, List.setIfInBounds_toArray, List.set_cons_zero, List.set_cons_succ]
            refine wpAnyH_take (i := 12) (v := ?v127) rfl (by kernel_rfl) (by kernel_rfl) (by kernel_rfl) (fun _ _ _ h => h) (Or.inl ⟨by rfl, ?hy127⟩) (by assumption) ?rest127
            case hy127 => (intro wz hSw; (try dsimp only at hSw); first | (go_simp; done) | (go_simp; with_reducible rfl))
            try simp only [Act.put, List.getElem_toArray, List.getElem_cons_succ, List.getElem_cons_zero, List.setIfInBounds_toArray, List.set_cons_zero, List.set_cons_succ]
            refine wpAnyH_take (i := 13) (v := ?v128) rfl (by kernel_rfl) (by kernel_rfl) (by kernel_rfl) (fun _ _ _ h => h) (Or.inl ⟨by rfl, ?hy128⟩) (by assumption) ?rest128
            case hy128 => (intro wz hSw; (try dsimp only at hSw); first | (go_simp; done) | (go_simp; with_reducible rfl))
            try simp only [Act.put, List.getElem_toArray, List.getElem_cons_succ, List.getElem_cons_zero, List.setIfInBounds_toArray, List.set_cons_zero, List.set_cons_succ]
            refine wpAnyH_take (i := 14) (v := ?v129) rfl (by kernel_rfl) (by kernel_rfl) (by kernel_rfl) (fun _ _ _ h => h) (Or.inl ⟨by rfl, ?hy129⟩) (by assumption) ?rest129
            case hy129 => (intro wz hSw; (try dsimp only at hSw); first | (go_simp; done) | (go_simp; with_reducible rfl))
            try simp only [Act.put, List.getElem_toArray, List.getElem_cons_succ, List.getElem_cons_zero, List.setIfInBounds_toArray, List.set_cons_zero, List.set_cons_succ]
            refine wpAnyH_take (i := 15) (v := ?v130) rfl (by kernel_rfl) (by kernel_rfl) (by kernel_rfl) (fun _ _ _ h => h) (Or.inl ⟨by rfl, ?hy130⟩) (by assumption) ?rest130
            case hy130 => (intro wz hSw; (try dsimp only at hSw); first | (go_simp; done) | (go_simp; with_reducible rfl))
            try simp only [Act.put, List.getElem_toArray, List.getElem_cons_succ, List.getElem_cons_zero, List.setIfInBounds_toArray, List.set_cons_zero, List.set_cons_succ]
            refine wpAnyH_take (i := 16) (v := ?v131) rfl (by kernel_rfl) (by kernel_rfl) (by kernel_rfl) (fun _ _ _ h => h) (Or.inl ⟨by rfl, ?hy131⟩) (by assumption) ?rest131
            case hy131 => (intro wz hSw; (try dsimp only at hSw); first | (go_simp; done) | (go_simp; with_reducible rfl))
            try simp only [Act.put, List.getElem_toArray, List.getElem_cons_succ, List.getElem_cons_zero, List.setIfInBounds_toArray, List.set_cons_zero, List.set_cons_succ]
            refine wpAnyH_take (i := 17) (v := ?v132) rfl (by kernel_rfl) (by kernel_rfl) (by kernel_rfl) (fun _ _ _ h => h) (Or.inl ⟨by rfl, ?hy132⟩) (by assumption) ?rest132
            case hy132 => (intro wz hSw; (try dsimp only at hSw); first | (go_simp; done) | (go_simp; with_reducible rfl))
            try simp only [Act.put, List.getElem_toArray, List.getElem_cons_succ, List.getElem_cons_zero, List.setIfInBounds_toArray, List.set_cons_zero, List.set_cons_succ]
            refine wpAnyH_take (i := 18) (v := ?v133) rfl (by kernel_rfl) (by kernel_rfl) (by kernel_rfl) (fun _ _ _ h => h) (Or.inl ⟨by rfl, ?hy133⟩) (by assumption) ?rest133
            case hy133 => (intro wz hSw; (try dsimp only at hSw); first | (go_simp; done) | (go_simp; with_reducible rfl))
            try simp only [Act.put, List.getElem_toArray, List.getElem_cons_succ, List.getElem_cons_zero, List.setIfInBounds_toArray, List.set_cons_zero, List.set_cons_succ]
            refine wpAnyH_take (i := 19) (v := ?v134) rfl (by kernel_rfl) (by kernel_rfl) (by kernel_rfl) (fun _ _ _ h => h) (Or.inl ⟨by rfl, ?hy134⟩) (by assumption) ?rest134
            case hy134 => (intro wz hSw; (try dsimp only at hSw); first | (go_simp; done) | (go_simp; with_reducible rfl))
            try simp only [Act.put, List.getElem_toArray, List.getElem_cons_succ, List.getElem_cons_zero, List.setIfInBounds_toArray, List.set_cons_zero, List.set_cons_succ]
            refine wpAnyH_take (i := 20) (v := ?v135) rfl (by kernel_rfl) (by kernel_rfl) (by kernel_rfl) (fun _ _ _ h => h) (Or.inl ⟨by rfl, ?hy135⟩) (by assumption) ?rest135
            case hy135 => (intro wz hSw; (try dsimp only at hSw); first | (go_simp; done) | (go_simp; with_reducible rfl))
            try simp only [Act.put, List.getElem_toArray, List.getElem_cons_succ, List.getElem_cons_zero, List.setIfInBounds_toArray, List.set_cons_zero, List.set_cons_succ]
            refine wpAnyH_take (i := 21) (v := ?v136) rfl (by kernel_rfl) (by kernel_rfl) (by kernel_rfl) (fun _ _ _ h => h) (Or.inl ⟨by rfl, ?hy136⟩) (by assumption) ?rest136
            case hy136 => (intro wz hSw; (try dsimp only at hSw); first | (go_simp; done) | (go_simp; with_reducible rfl))
            try simp only [Act.put, List.getElem_toArray, List.getElem_cons_succ, List.getElem_cons_zero, List.setIfInBounds_toArray, List.set_cons_zero, List.set_cons_succ]
            refine wpAnyH_take (i := 22) (v := ?v137) rfl (by kernel_rfl) (by kernel_rfl) (by kernel_rfl) (fun _ _ _ h => h) (Or.inl ⟨by rfl, ?hy137⟩) (by assumption) ?rest137
            case hy137 => (intro wz hSw; (try dsimp only at hSw); first | (go_simp; done) | (go_simp; with_reducible rfl))
            try simp only [Act.put, List.getElem_toArray, List.getElem_cons_succ, List.getElem_cons_zero, List.setIfInBounds_toArray, List.set_cons_zero, List.set_cons_succ]
            refine wpAnyH_take (i := 23) (v := ?v138) rfl (by kernel_rfl) (by kernel_rfl) (by kernel_rfl) (fun _ _ _ h => h) (Or.inl ⟨by rfl, ?hy138⟩) (by assumption) ?rest138
            case hy138 => (intro wz hSw; (try dsimp only at hSw); first | (go_simp; done) | (go_simp; with_reducible rfl))
            try simp only [Act.put, List.getElem_toArray, List.getElem_cons_succ, List.getElem_cons_zero, List.setIfInBounds_toArray, List.set_cons_zero, List.set_cons_succ]
            refine wpAnyH_done (by kernel_rfl) ?_ _
            clear hH0
            have hw0 : 0 ≤ wd := by omega
            have SHF : ((2 : Int) ^ min wd.toNat 32 - 1) % 4294967296 = mkB wd := shf_eq wd hwd
            have hw1 : ¬ wd < 0 := by omega
            clear n0 n1 hx0 hx1 hlt0 hm b1 lt rr hwd hq
            go_wp2_with fail
            refine (FI.out _).mono ?_
            rintro e w7 ⟨rfl, rfl⟩
            go_wp2_with fail
            refine (WK.out _).mono ?_
            rintro e w7 ⟨rfl, g⟩
            have G7 := Lib.hid (gb_trans (gb_trans GZ.out (gb_dr1 G6.out)) g)
            clear g
            go_wp2
            go_ret
            exact ⟨rfl, G7.out⟩
end Go.Proofs.Ytjbimeahcldaoaa
