/- Register: the reference's Write; no condition but sizes. -/
import Derived.Test.YtjbimeahcldaoaaRgI
namespace Go.Proofs.Ytjbimeahcldaoaa
open Go.RowKit
set_option linter.unusedVariables false
theorem write_no (L : List Rg) (R : List (List Int)) (r i v : Int) (h : cellB L R r i = false) : writeL L R r i v = R := by
  unfold writeL; rw [h]; rfl
theorem write_w (L : List Rg) (R : List (List Int)) (q : Nat) (i v : Int) (h : okW (L.getD q rz).2.1 = false) : writeL L R (q : Int) i v = R := by
  unfold writeL; rw [Int.toNat_natCast, h, Bool.and_false]; rfl
theorem write_yes (L : List Rg) (R : List (List Int)) (q j : Nat) (v : Int) (h : cellB L R (q : Int) (j : Int) = true) (h2 : okW (L.getD q rz).2.1 = true) : writeL L R (q : Int) (j : Int) v = R.set q ((R.getD q []).set j (redB v (L.getD q rz).2.1)) := by
  unfold writeL; rw [Int.toNat_natCast, Int.toNat_natCast, h, h2]; rfl
theorem NU.put {w : World} {base g n c : Nat} {L : List Int} (h : NU w base (.slice (some ⟨g, 0, none⟩) n c) L) (hn : n = L.length) (p : Nat) (v : Int) :
    NU (w.setCell ⟨g, p, none⟩ (.int .u32 v)) base (.slice (some ⟨g, 0, none⟩) n c) (L.set p v) := by
  subst hn
  have k := (World.ownsRow.stored h p (.int .u32 v)).1
  unfold NU
  rw [List.map_set, List.length_set]
  exact k
theorem set_rng {l : List Int} (h : ∀ x ∈ l, 0 ≤ x ∧ x < 4294967296) (j : Nat) (v : Int) (h0 : 0 ≤ v) (h1 : v < 4294967296) : ∀ x ∈ l.set j v, 0 ≤ x ∧ x < 4294967296 := by
  intro x hx
  rcases List.mem_or_eq_of_mem_set hx with q | rfl
  · exact h x q
  · exact ⟨h0, h1⟩
set_option maxRecDepth 100000 in
set_option maxHeartbeats 8000000 in
theorem rwrite_any (w : World) (X : PX) (L : List Rg) (a : Option Addr) (n c : Nat) (R : List (List Int)) (r i v : Int) (h : SG w X.ra X.rn X.rc L) (g : SR w a n c R) (hn : X.rn ≤ 100000) (hm : n ≤ 100000) (hr : -9223372036854775808 ≤ r ∧ r ≤ 9223372036854775807) (i0 : 0 ≤ i) (i1 : i < 4294967296) (v0 : 0 ≤ v) (v1 : v < 4294967296) (hrow : ∀ j, (R.getD j []).length ≤ 1000000) :
    Calls Try.prog 21 #[.agg #[.string X.nm, .slice X.ha X.hn X.hc, .slice X.ma X.mn X.mc, .slice X.ra X.rn X.rc, .slice X.aa X.an X.ac, .slice X.ta X.tn X.tc, .slice X.sa X.sn X.sc, .slice X.ca X.cn X.cc, .slice X.da X.dn X.dc], .slice a n c, .int .i64 r, .int .u32 i, .int .u32 v] w (RetR (writeL L R r i v) w) := by
  have CO := Lib.hid (fun (w2 : World) (k : w.grownBy w2 none) => rcell_any w2 X L a n c R r i (h.keep0 k) (g.keep0 k) hn (by omega) hr i0 i1 hrow)
  unfold RetV at CO
  have HS := Lib.hid h
  have H := Lib.hid g
  have LN := Lib.hid h.len
  have RN := Lib.hid g.len
  have HR := Lib.hid hrow
  clear h g hrow
  obtain ⟨A, hA⟩ : ∃ A, A = w.heap.size := ⟨_, rfl⟩
  obtain ⟨w1, hw1⟩ : ∃ w1, w1 = w.alloc (.cells #[.string X.nm, .slice X.ha X.hn X.hc, .slice X.ma X.mn X.mc, .slice X.ra X.rn X.rc, .slice X.aa X.an X.ac, .slice X.ta X.tn X.tc, .slice X.sa X.sn X.sc, .slice X.ca X.cn X.cc, .slice X.da X.dn X.dc] 37) := ⟨_, rfl⟩
  have BA := Lib.hid (show IsB w1 A 37 #[.string X.nm, .slice X.ha X.hn X.hc, .slice X.ma X.mn X.mc, .slice X.ra X.rn X.rc, .slice X.aa X.an X.ac, .slice X.ta X.tn X.tc, .slice X.sa X.sn X.sc, .slice X.ca X.cn X.cc, .slice X.da X.dn X.dc] from by rw [hw1, hA]; exact IsB.new _ _ _)
  have GZ := Lib.hid (show w.grownBy w1 none from by rw [hw1]; exact gb_al (gb_refl _ _))
  have LA := Lib.hid (show A < w1.heap.size from by rw [hw1, hA]; simp)
  go_enter Try.func21, Try.ntmps21
  go_upto_region 1 with fail
  rw [← hw1, ← hA]

  clear hw1 hA
  go_wp2
  go_loopw [11, 12] (fun o s wr => ∃ k : Nat, k ≤ n ∧ s = .int .i64 k ∧ (∃ V Vs, V = o ∧ OR wr w1.heap.size V (R.take k) Vs) ∧ w1.grownBy wr none) (fun _ s _ => n - (intOf s).toNat)
  case atStart => exact ⟨0, Nat.zero_le _, rfl, ⟨_, [], rfl, or_nil _ _⟩, gb_refl _ _⟩
  case round =>
    obtain ⟨k, hk, rfl, ⟨V, Vs, rfl, hO⟩, hg⟩ := hrel
    have HO := Lib.hid hO
    have HG := Lib.hid hg
    clear hO hg
    by_cases hlt : k < n
    · obtain ⟨ar, har⟩ := H.out.some (by omega)
      rw [har] at H
      subst har
      obtain ⟨A1, N1, C1, d0, r1⟩ := H.out.cells ar rfl k hlt
      have c0 := HG.out.cell (GZ.out.cell d0 (by simp)) (by simp)
      have c0' := (gb_alloc wr (.cells #[] 44) none).cell c0 (by simp)
      have R1 := Lib.hid ((r1.keep0 GZ.out).keep0 HG.out)
      have i0 : (0 : Int) ≤ (k : Int) := by omega
      have i2 : (k : Int) < (n : Int) := by omega
      have TK := Lib.hid (take_one R k (by rw [RN.out]; exact hlt))
      have NB := Lib.hid (show (R.getD k []).length ≤ 1000000 from HR.out k)
      obtain ⟨l0, hl0⟩ : ∃ l, l = R.getD k [] := ⟨_, rfl⟩
      rw [← hl0] at R1 TK NB
      clear hl0
      have hlen := HO.out.nV
      have hT : (R.take k).length = k := by rw [List.length_take, RN.out]; omega
      rw [hT] at hlen
      have VL := Lib.hid hlen
      clear hlen hT r1 d0
      have E0 := Lib.hid (show NU (wr.alloc (.cells #[] 44)) wr.heap.size (.slice (some ⟨wr.heap.size, 0, none⟩) 0 0) [] from World.ownsRow_lit (base := wr.heap.size) (e := 44) (size := 1) wr #[] 0 (Nat.le_refl _) (by unfold maxLen; omega) (by simp))
      go_wp2_with (at_builtin; refine upush_any rfl _ _ rfl wr.heap.size _ [] rfl E0.out A1 N1 C1 l0 rfl (R1.out.keep0 (gb_alloc _ _ _)) (by have := NB.out; simpa using this) (by simp) ?_)
      intro V1 w5 n5 g5
      have n5 : NU w5 wr.heap.size V1 l0 := by simpa using n5
      obtain ⟨f5, e5, rfl⟩ := nu_shape n5
      have NZ := Lib.hid n5
      have g6 := Lib.hid (show wr.grownBy w5 none from gb_new (gb_trans (gb_alloc wr (.cells #[] 44) (some wr.heap.size)) g5) (Nat.le_refl _))
      have O5 := Lib.hid (HO.out.keep0 g6.out)
      have G5 := Lib.hid (gb_trans HG.out g6.out)
      clear n5 g5 E0 c0 c0'
      obtain ⟨N0, hN0⟩ : ∃ N0, N0 = l0.length := ⟨_, rfl⟩
      rw [← hN0] at NZ ⊢
      clear hN0
      have OA := Lib.hid (show (w5.alloc (.cells #[.slice f5 N0 e5] 53)).ownsRow w1.heap.size 53 1 V Vs.length Vs from by
        have q := O5.out.out
        rw [← O5.out.nV] at q
        exact own_keep0 q (gb_alloc _ _ _))
      have HB := Lib.hid (show w1.heap.size ≤ (w5.alloc (.cells #[.slice f5 N0 e5] 53)).heap.size from by
        have := G5.out.size
        rw [sz_al]; omega)
      have VB := Lib.hid (show Vs.length + 1 ≤ 1000000 from by have := VL.out; omega)
      go_wp2_with (at_builtin; refine rpush_any rfl _ _ rfl w1.heap.size V Vs rfl OA.out _ _ _ rfl (one_cell _ _ _ _ rfl) rfl VB.out HB.out ?_; intro V2 w6 o6 g7)
      have O6 := Lib.hid (OR.more HO.out (gb_trans g6.out (gb_alloc w5 (.cells #[.slice f5 N0 e5] 53) none)) l0 (own_low (NZ.out.keep0 (gb_alloc _ _ _)) HG.out.size) (fun q e => (World.ownsRow.lt NZ.out q e).1) R1.out.rng g7 o6)
      have G6 := Lib.hid (show w1.grownBy w6 none from by
        have q := gb_trans G5.out (gb_alloc w5 (.cells #[.slice f5 N0 e5] 53) none)
        cases e : V.ownBlock with
        | none => rw [e] at g7; exact gb_trans q g7
        | some g =>
          rw [e] at g7
          exact gb_new (gb_trans (gb_any q) g7) (World.ownsRow.lt OA.out g e).1)
      rw [← TK.out] at O6
      clear o6 g7 OA NZ O5 R1
      go_wp2
      go_roundw
      case rel => exact ⟨k + 1, by omega, by go_num, ⟨_, _, rfl, O6.out⟩, G6.out⟩
      case measure => simp [intOf]; omega
    · have hke : k = n := by omega
      subst hke
      rw [List.take_of_length_le (by rw [RN.out]; exact Nat.le_refl _)] at HO
      clear H
      have s0 : wr.cell? ⟨A, 0, none⟩ = some (.string X.nm) := (BA.out.keep0 HG.out).cell 0
      have s1 : wr.cell? ⟨A, 1, none⟩ = some (.slice X.ha X.hn X.hc) := (BA.out.keep0 HG.out).cell 1
      have s2 : wr.cell? ⟨A, 2, none⟩ = some (.slice X.ma X.mn X.mc) := (BA.out.keep0 HG.out).cell 2
      have s3 : wr.cell? ⟨A, 3, none⟩ = some (.slice X.ra X.rn X.rc) := (BA.out.keep0 HG.out).cell 3
      have s4 : wr.cell? ⟨A, 4, none⟩ = some (.slice X.aa X.an X.ac) := (BA.out.keep0 HG.out).cell 4
      have s5 : wr.cell? ⟨A, 5, none⟩ = some (.slice X.ta X.tn X.tc) := (BA.out.keep0 HG.out).cell 5
      have s6 : wr.cell? ⟨A, 6, none⟩ = some (.slice X.sa X.sn X.sc) := (BA.out.keep0 HG.out).cell 6
      have s7 : wr.cell? ⟨A, 7, none⟩ = some (.slice X.ca X.cn X.cc) := (BA.out.keep0 HG.out).cell 7
      have s8 : wr.cell? ⟨A, 8, none⟩ = some (.slice X.da X.dn X.dc) := (BA.out.keep0 HG.out).cell 8
      have CC := CO.out wr (gb_trans GZ.out HG.out)
      cases hb : cellB L R r i
      · rw [hb] at CC
        have RE := Lib.hid (write_no L R r i v hb)
        clear hb
        go_wp2_with fail
        refine CC.mono ?_
        rintro e w3 ⟨rfl, g3⟩
        have G3 := Lib.hid (gb_trans (gb_trans GZ.out HG.out) g3)
        have O3 := Lib.hid ((HO.out.keep0 g3).low GZ.out.size)
        clear g3 CC s0 s1 s2 s3 s4 s5 s6 s7 s8
        go_wp2
        go_ret
        exact ⟨_, Vs, rfl, by rw [RE.out]; exact O3.out, G3.out⟩
      · rw [hb] at CC
        have h0 : 0 ≤ r := by unfold cellB at hb; exact (of_decide_eq_true hb).1
        obtain ⟨q, rfl⟩ : ∃ q : Nat, r = q := ⟨r.toNat, by omega⟩
        obtain ⟨j, rfl⟩ : ∃ j : Nat, i = j := ⟨i.toNat, by omega⟩
        have RY := Lib.hid (fun h2 => write_yes L R q j v hb h2)
        have RW := Lib.hid (fun h2 => write_w L R q (j : Int) v h2)
        rw [cell_iff] at hb
        obtain ⟨p1, p2, p3, p4⟩ := of_decide_eq_true hb
        have p1 : q < X.rn := by rw [← LN.out]; exact p1
        have p2 : q < k := by rw [← RN.out]; exact p2
        have p4 : j < (R.getD q []).length := by omega
        obtain ⟨ar, har⟩ := HS.out.some (by omega)
        rw [har] at s3
        obtain ⟨x0, x1, x2⟩ := ((HS.out.keep0 GZ.out).keep0 HG.out).cells ar har q p1
        obtain ⟨g0, hg0⟩ : ∃ g, g = L.getD q rz := ⟨_, rfl⟩
        rw [← hg0] at x0 x1 x2 RY RW
        clear hg0
        obtain ⟨nm, wd, sz⟩ := g0
        have j1 : (q : Int) < (X.rn : Int) := by omega
        have j3 : (0 : Int) ≤ (q : Int) := by omega
        have WA := Lib.hid (fun W => rwid_any W nm wd sz)
        unfold RetV at WA
        clear hb p3
        rw [har] at CC ⊢
        go_wp2_with fail
        refine CC.mono ?_
        rintro e w3 ⟨rfl, g3⟩
        have G3 := Lib.hid (gb_trans (gb_trans GZ.out HG.out) g3)
        have O3 := Lib.hid ((HO.out.keep0 g3).low GZ.out.size)
        have t3 := g3.cell s3 (by simp)
        have y0 := g3.cell x0 (by simp)
        have y1 := g3.cell x1 (by simp)
        have y2 := g3.cell x2 (by simp)
        clear g3 CC s0 s1 s2 s3 s4 s5 s6 s7 s8 x0 x1 x2
        go_wp2_with fail
        refine (WA.out _).mono ?_
        rintro e w4 ⟨rfl, g4⟩
        have G4 := Lib.hid (gb_trans G3.out g4)
        have O4 := Lib.hid (O3.out.keep0 g4)
        have u3 := g4.cell t3 (by simp)
        have z1 := g4.cell y1 (by simp)
        clear g4 t3 y0 y1 y2 O3 G3
        cases hw : okW wd
        · have e1 : widN wd = 0 := by unfold widN; exact if_neg (of_decide_eq_false hw)
          have RE := Lib.hid (RW.out hw)
          clear hw RY RW
          rw [e1]
          clear e1
          go_wp2
          go_ret
          exact ⟨_, Vs, rfl, by rw [RE.out]; exact O4.out, G4.out⟩
        · have hwd := of_decide_eq_true hw
          have e1 : widN wd = wd := by unfold widN; exact if_pos hwd
          have RE := Lib.hid (RY.out hw)
          have RB := Lib.hid (redB_in v wd hwd)
          obtain ⟨b1, b2⟩ := hwd
          have e2 : (wd == 0) = false := by rw [beq_eq_false_iff_ne]; omega
          have e3 : ¬ wd = 0 := by omega
          clear hw RY RW
          rw [e1]
          clear e1
          go_wp2
          go_loop [13, 14] (fun x i => ∃ m : Nat, m ≤ wd.toNat ∧ x = .int .u64 (pw m) ∧ i = .int .i64 m) (fun _ i => wd.toNat - (intOf i).toNat)
          case atStart => exact ⟨0, Nat.zero_le _, rfl, rfl⟩
          case round =>
            obtain ⟨m, hm2, rfl, rfl⟩ := hrel
            have hp := pw_pos m
            by_cases hlt2 : (m : Int) < wd
            · have hb := pw_le62 m (by omega)
              go_wp2
              go_round
              case rel => exact ⟨m + 1, by omega, by rw [pw_succ], by go_num⟩
              case measure => simp [intOf]; omega
            · have hme : m = wd.toNat := by omega
              have hpos := O4.out.out
              obtain ⟨B, cB, rfl⟩ := own_head hpos (by rw [RN.out]; omega)
              have o2 := O4.out.own q (by rw [RN.out]; exact p2)
              obtain ⟨g, cg, hV2⟩ := own_head o2 (by omega)
              have nV := O4.out.nV
              have hc := O4.out.out.cellAt q (by rw [RN.out]; omega)
              rw [List.getElem?_eq_getElem (show q < Vs.length by rw [nV, RN.out]; exact p2)] at hc
              have e5 : Vs[q]'(by rw [nV, RN.out]; exact p2) = Vs.getD q nilV := by
                rw [List.getD_eq_getElem?_getD, List.getElem?_eq_getElem (show q < Vs.length by rw [nV, RN.out]; exact p2)]
                rfl
              rw [e5, hV2] at hc
              have HV2 := Lib.hid hV2
              rw [hV2] at o2
              have d1 := own_cell o2 j p4
              have f1 : w4.frozen? ⟨g, j, none⟩ = false := o2.frozenAt j
              have PU := Lib.hid (NU.put o2 rfl j (redB v wd))
              have US := Lib.hid (O4.out.upd q (by rw [RN.out]; exact p2) ((R.getD q []).set j (redB v wd)) g (by rw [HV2.out]; rfl) (gb_set w4 g j (.int .u32 (redB v wd))) (by rw [HV2.out]; exact PU.out) (set_rng (rrng_at O4.out.rng q) j _ (redB_range v wd).1 (by have := (redB_range v wd).2; omega)))
              have GS := Lib.hid (gb_put (i := j) (u := .int .u32 (redB v wd)) G4.out (World.ownsRow.lt o2 g rfl).1)
              have RB2 : v % pw m = redB v wd := by rw [hme]; exact RB.out.symm
              have r1 := (redB_range v wd).1
              have r2 : redB v wd < 4294967296 := by have := (redB_range v wd).2; omega
              have LN2 : (R.length : Int) = (k : Int) := by rw [RN.out]
              have j4 : (q : Int) < (k : Int) := by omega
              have j5 : (j : Int) < ((R.getD q []).length : Int) := by omega
              obtain ⟨N2, hN2⟩ : ∃ N2, N2 = (R.getD q []).length := ⟨_, rfl⟩
              rw [← hN2] at hc j5
              obtain ⟨y, hy⟩ : ∃ y, y = (R.getD q []).getD j 0 := ⟨_, rfl⟩
              rw [← hy] at d1
              have RK := RN.out
              clear hme hpos o2 nV e5 hV2 hN2 hy HV2 PU p4
              rw [RK]
              clear RK LN2
              go_wp2
              go_region
              go_wp2
              go_ret
              have US2 := US.out
              rw [RN.out] at US2
              exact ⟨_, Vs, rfl, by rw [RE.out]; exact US2.keep0 (gb_drew _ none), gb_dr1 GS.out⟩
end Go.Proofs.Ytjbimeahcldaoaa
