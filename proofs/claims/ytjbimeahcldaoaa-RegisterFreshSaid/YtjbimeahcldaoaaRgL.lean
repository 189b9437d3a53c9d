/- Register: apply with store, Read and Write of the program; no condition but sizes. -/
import Derived.Test.YtjbimeahcldaoaaRgK
namespace Go.Proofs.Ytjbimeahcldaoaa
open Go.RowKit
set_option linter.unusedVariables false
theorem OR.cellq {w : World} {base n c : Nat} {a : Option Addr} {L : List (List Int)} {Vs : List Value} (h : OR w base (.slice a n c) L Vs) (hn : L.length = n) (q : Nat) (hq : q < n) : ∃ B fa fc, a = some ⟨B, 0, none⟩ ∧ Vs.getD q nilV = .slice fa (L.getD q []).length fc ∧ w.cell? ⟨B, q, none⟩ = some (.slice fa (L.getD q []).length fc) ∧ base ≤ B := by
  subst hn
  obtain ⟨B, c2, e⟩ := own_head h.out (by omega)
  cases e
  obtain ⟨fa, fc, hV⟩ := nu_shape (h.own q hq)
  have nV := h.nV
  have hc := h.out.cellAt q (by omega)
  have e5 : Vs[q]? = some (Vs.getD q nilV) := by
    rw [List.getD_eq_getElem?_getD, List.getElem?_eq_getElem (show q < Vs.length by omega)]
    rfl
  rw [e5, hV] at hc
  exact ⟨B, fa, fc, rfl, hV, hc, (World.ownsRow.lt h.out B rfl).1⟩
theorem set_self (R : List (List Int)) (q : Nat) (h : q < R.length) : R.set q (R.getD q []) = R := by
  apply List.ext_getElem (by simp)
  intro i h1 h2
  rw [List.getElem_set]
  split
  · rename_i e; subst e; simp [h]
  · rfl
theorem write_sto (L : List Rg) (R : List (List Int)) (q j : Nat) (v : Int) (h : cellB L R (q : Int) (j : Int) = true) : writeL L R (q : Int) (j : Int) v = R.set q (stoL (R.getD q []) j v (L.getD q rz).2.1) := by
  cases h2 : okW (L.getD q rz).2.1
  · rw [write_w L R q j v h2]
    have hq : q < R.length := by rw [cell_iff] at h; exact (of_decide_eq_true h).2.1
    unfold stoL
    rw [h2]
    exact (set_self R q hq).symm
  · rw [write_yes L R q j v h h2]
    unfold stoL
    rw [h2]
    rfl
theorem sto_rng {l : List Int} (h : ∀ x ∈ l, 0 ≤ x ∧ x < 4294967296) (j : Nat) (v wd : Int) : ∀ x ∈ stoL l j v wd, 0 ≤ x ∧ x < 4294967296 := by
  unfold stoL
  split
  · exact set_rng h j _ (redB_range v wd).1 (by have := (redB_range v wd).2; omega)
  · exact h
set_option maxRecDepth 100000 in
set_option maxHeartbeats 8000000 in
theorem apstore_any (W0 w : World) (X : PX) (L : List Rg) (base : Nat) (V : Value) (Vs : List Value) (R : List (List Int)) (r i v : Int) (h : SG w X.ra X.rn X.rc L) (o : OR w base V R Vs) (hW : W0.heap.size ≤ base) (hG : W0.grownBy w none) (hn : X.rn ≤ 100000) (hm : R.length ≤ 100000) (hr : -9223372036854775808 ≤ r ∧ r ≤ 9223372036854775807) (i0 : 0 ≤ i) (i1 : i < 4294967296) (v0 : 0 ≤ v) (v1 : v < 4294967296) (hrow : ∀ j, (R.getD j []).length ≤ 1000000) :
    Calls Try.prog 35 #[.func (.func 39) #[] #[], .agg #[.string X.nm, .slice X.ha X.hn X.hc, .slice X.ma X.mn X.mc, .slice X.ra X.rn X.rc, .slice X.aa X.an X.ac, .slice X.ta X.tn X.tc, .slice X.sa X.sn X.sc, .slice X.ca X.cn X.cc, .slice X.da X.dn X.dc], V, .int .i64 r, .int .u32 i, .int .u32 v] w (fun e w' => (∃ y : Int, e = .returned (.int .u32 y)) ∧ OR w' base V (writeL L R r i v) Vs ∧ W0.grownBy w' none) := by
  obtain ⟨a, c, rfl⟩ := o.shape
  have RN := Lib.hid (show R.length = R.length from rfl)
  obtain ⟨n, hn2⟩ : ∃ n, n = R.length := ⟨_, rfl⟩
  rw [← hn2] at o hm ⊢
  replace RN := Lib.hid hn2.symm
  clear hn2
  have H := Lib.hid h
  have O := Lib.hid o
  have LN := Lib.hid h.len
  have HR := Lib.hid hrow
  have IL := Lib.hid (fun W => isi_any W r X.rn)
  have IR := Lib.hid (fun W => isi_any W r n)
  have HG := Lib.hid hG
  have HW := Lib.hid hW
  unfold RetS at IL IR
  clear h o hrow hG hW
  obtain ⟨A, hA⟩ : ∃ A, A = w.heap.size := ⟨_, rfl⟩
  obtain ⟨w1, hw1⟩ : ∃ w1, w1 = w.alloc (.cells #[.string X.nm, .slice X.ha X.hn X.hc, .slice X.ma X.mn X.mc, .slice X.ra X.rn X.rc, .slice X.aa X.an X.ac, .slice X.ta X.tn X.tc, .slice X.sa X.sn X.sc, .slice X.ca X.cn X.cc, .slice X.da X.dn X.dc] 37) := ⟨_, rfl⟩
  have BA := Lib.hid (show IsB w1 A 37 #[.string X.nm, .slice X.ha X.hn X.hc, .slice X.ma X.mn X.mc, .slice X.ra X.rn X.rc, .slice X.aa X.an X.ac, .slice X.ta X.tn X.tc, .slice X.sa X.sn X.sc, .slice X.ca X.cn X.cc, .slice X.da X.dn X.dc] from by rw [hw1, hA]; exact IsB.new _ _ _)
  have GZ := Lib.hid (show w.grownBy w1 none from by rw [hw1]; exact gb_al (gb_refl _ _))
  have LA := Lib.hid (show A < w1.heap.size from by rw [hw1, hA]; simp)
  go_enter Try.func35, Try.ntmps35
  go_upto_region 1 with fail
  rw [← hw1, ← hA]

  clear hw1 hA
  have O1 := Lib.hid (O.out.keep0 GZ.out)
  have s3 : w1.cell? ⟨A, 3, none⟩ = some (.slice X.ra X.rn X.rc) := BA.out.cell 3
  cases hx : isX r X.rn
  · rw [hx] at IL
    have WN := Lib.hid (show writeL L R r i v = R from by
      apply write_no; apply cell_no
      rw [isX_not] at hx; rw [LN.out]; omega)
    clear hx
    go_wp2_with fail
    refine (IL.out _).mono ?_
    rintro e w3 ⟨rfl, rfl⟩
    go_wp2
    go_ret
    exact ⟨⟨_, rfl⟩, by rw [WN.out]; exact O1.out, gb_trans HG.out GZ.out⟩
  rw [hx] at IL
  obtain ⟨h0, h1⟩ := (isX_iff _ _).1 hx
  obtain ⟨q, rfl⟩ : ∃ q : Nat, r = q := ⟨r.toNat, by omega⟩
  have h1 : q < X.rn := by omega
  clear hx
  cases hx : isX (q : Int) n
  · rw [hx] at IR
    have WN := Lib.hid (show writeL L R q i v = R from by
      apply write_no; rw [cell_iff]
      rw [isX_not] at hx; exact decide_eq_false fun k => hx (by have := k.2.1; rw [RN.out] at this; omega))
    clear hx
    go_wp2_with fail
    refine (IL.out _).mono ?_
    rintro e w3 ⟨rfl, rfl⟩
    go_wp2_with fail
    refine (IR.out _).mono ?_
    rintro e w3 ⟨rfl, rfl⟩
    go_wp2
    go_ret
    exact ⟨⟨_, rfl⟩, by rw [WN.out]; exact O1.out, gb_trans HG.out GZ.out⟩
  rw [hx] at IR
  have h2 : q < n := by have := ((isX_iff _ _).1 hx).2; omega
  clear hx
  obtain ⟨ar, har⟩ := H.out.some (by omega)
  have hgo := H.out.at_ q h1
  obtain ⟨x0, x1, x2⟩ := (H.out.keep0 GZ.out).cells ar har q h1
  obtain ⟨B, fa, fc, rfl, hV, y0, hbB⟩ := O1.out.cellq RN.out q h2
  have HV := Lib.hid hV
  clear hV
  have j1 : (q : Int) < (X.rn : Int) := by omega
  have j2 : (q : Int) < (n : Int) := by omega
  have fb := HR.out q
  have CI := Lib.hid (cell_iff L R q i)
  have NU1 := Lib.hid (O1.out.own q (by rw [RN.out]; exact h2))
  have RG0 := Lib.hid (rrng_at O1.out.rng q)
  obtain ⟨fn, hfn⟩ : ∃ fn, fn = (R.getD q []).length := ⟨_, rfl⟩
  have FN := Lib.hid hfn.symm
  rw [HV.out] at NU1
  rw [← hfn] at y0 fb HV NU1
  rw [FN.out, LN.out, RN.out] at CI
  clear hfn
  obtain ⟨g0, hg0⟩ : ∃ g, g = L.getD q rz := ⟨_, rfl⟩
  have WS := Lib.hid (fun (j : Nat) (hc : cellB L R (q : Int) (j : Int) = true) => write_sto L R q j v hc)
  rw [← hg0] at x0 x1 x2 CI hgo WS
  clear hg0
  obtain ⟨nm, wd, sz⟩ := g0
  obtain ⟨w2, hw2⟩ : ∃ w2, w2 = w1.alloc (.cells #[.string nm, .int .i64 wd, .int .i64 sz] 23) := ⟨_, rfl⟩
  obtain ⟨D, hD⟩ : ∃ D, D = w1.heap.size := ⟨_, rfl⟩
  have BD := Lib.hid (show IsB w2 D 23 #[.string nm, .int .i64 wd, .int .i64 sz] from by rw [hw2, hD]; exact IsB.new _ _ _)
  have GA := Lib.hid (show w1.grownBy w2 none from by rw [hw2]; exact gb_alloc _ _ _)
  have G2 := Lib.hid (gb_trans (gb_trans HG.out GZ.out) GA.out)
  have O2 := Lib.hid (O1.out.keep0 GA.out)
  have NU2 := Lib.hid (NU1.out.keep0 GA.out)
  have Y0 := Lib.hid (GA.out.cell y0 (by simp))
  have DL := Lib.hid (show w1.heap.size ≤ D from by rw [hD]; exact Nat.le_refl _)
  rw [har] at s3 ⊢
  go_wp2_with fail
  refine (IL.out _).mono ?_
  rintro e w3 ⟨rfl, rfl⟩
  go_wp2_with fail
  refine (IR.out _).mono ?_
  rintro e w3 ⟨rfl, rfl⟩
  go_upto_region 4 with fail
  rw [← hw2, ← hD]
  clear hw2 hD s3 x0 x1 x2 BA
  have z2 : w2.cell? ⟨D, 2, none⟩ = some (.int .i64 sz) := BD.out.cell 2
  have z1 : w2.cell? ⟨D, 1, none⟩ = some (.int .i64 wd) := BD.out.cell 1
  have Y0' := Y0.out
  by_cases ha : i < sz ∧ i < (fn : Int)
  · obtain ⟨ha1, ha2⟩ := ha
    obtain ⟨j, rfl⟩ : ∃ j : Nat, i = j := ⟨i.toNat, by omega⟩
    have hj : j < fn := by omega
    have WY := Lib.hid (WS.out j (by rw [CI.out]; exact decide_eq_true ⟨h1, h2, ha1, ha2⟩))
    obtain ⟨g, fc2, hsl⟩ := own_head (n := (R.getD q []).length) (show w2.ownsRow base 44 1 (.slice fa fn fc) (R.getD q []).length ((R.getD q []).map (Value.int .u32)) from NU2.out) (by rw [FN.out]; omega)
    obtain ⟨rfl, -, -⟩ : fa = some ⟨g, 0, none⟩ ∧ fn = (R.getD q []).length ∧ fc = fc2 := by injection hsl with e1 e2 e3; exact ⟨e1, e2, e3⟩
    have ST := Lib.hid (fun (w' : World) (k : w2.grownBy w' none) => store_any w' base g fn fc (R.getD q []) j wd v (NU2.out.keep0 k) FN.out hj i1 v0 v1)
    have LG := Lib.hid (show W0.heap.size ≤ g from Nat.le_trans HW.out (World.ownsRow.lt NU2.out g rfl).1)
    have ND := Lib.hid (show D ≠ g from by have := (World.ownsRow.lt NU1.out g rfl).2; have := DL.out; omega)
    have NB := Lib.hid (show B ≠ g from fun e => nu_ne O1.out.out NU1.out g rfl (by rw [e]; rfl))
    have SR0 := Lib.hid (sto_rng RG0.out j v wd)
    have KT := Lib.hid (fun (w' : World) (k : w2.grownBy w' none) => (⟨k.cell z1 (by simp), k.cell Y0.out (by simp), trivial⟩ : (fun w' : World => w'.cell? ⟨D, 1, none⟩ = some (.int .i64 wd) ∧ w'.cell? ⟨B, q, none⟩ = some (.slice (some ⟨g, 0, none⟩) fn fc) ∧ True) w'))
    clear hsl
    rcases (show sz ≤ (fn : Int) ∨ (fn : Int) < sz by omega) with hs | hs
    · have hc1 : decide (sz ≤ (j : Int)) = false := decide_eq_false (by omega)
      have hc2 : decide (fn ≤ j) = false := decide_eq_false (by omega)
      go_region
      clear ha1 hs ha2 hj
      clear hc1 hc2
      go_upto_region 6 with fail
      refine wp_region_held_drew (S := (fun w' : World => w'.cell? ⟨D, 1, none⟩ = some (.int .i64 wd) ∧ w'.cell? ⟨B, q, none⟩ = some (.slice (some ⟨g, 0, none⟩) fn fc) ∧ True)) (by kernel_rfl) (KT.out _ (gb_trans (gb_drew w2 none) (gb_drew _ none))) (fun hH0 => ?_)
      refine wpAnyH_take (i := 0) (v := ?v1) rfl (by kernel_rfl) (by kernel_rfl) (by kernel_rfl) (fun _ _ _ h => h) (Or.inl ⟨by rfl, ?hy1⟩) (by assumption) ?rest1
      case hy1 => (intro wz hSw; (try dsimp only at hSw); first | (go_simp; done) | (go_simp; with_reducible rfl))
      try simp only [Act.put, List.getElem_toArray, List.getElem_cons_zero, List.setIfInBounds_toArray, List.set_cons_zero, List.set_cons_succ]
      refine wpAnyH_take (i := 1) (v := ?v2) rfl (by kernel_rfl) (by kernel_rfl) (by kernel_rfl) (fun _ _ _ h => h) (Or.inl ⟨by rfl, ?hy2⟩) (by assumption) ?rest2
      case hy2 => (intro wz hSw; (try dsimp only at hSw); first | (go_simp; done) | (go_simp; with_reducible rfl))
      try simp only [Act.put, List.getElem_toArray, List.getElem_cons_succ, List.getElem_cons_zero, List.setIfInBounds_toArray, List.set_cons_zero, List.set_cons_succ]
      refine wpAnyH_take (i := 2) (v := ?v3) rfl (by kernel_rfl) (by kernel_rfl) (by kernel_rfl) (fun _ _ _ h => h) (Or.inl ⟨by rfl, ?hy3⟩) (by assumption) ?rest3
      case hy3 => (intro wz hSw; (try dsimp only at hSw); first | (go_simp; done) | (go_simp; with_reducible rfl))
      try simp only [Act.put, List.getElem_toArray, List.getElem_cons_succ, List.getElem_cons_zero, List.setIfInBounds_toArray, List.set_cons_zero, List.set_cons_succ]
      refine wpAnyH_take (i := 3) (v := ?v4) rfl (by kernel_rfl) (by kernel_rfl) (by kernel_rfl) (fun _ _ _ h => h) (Or.inl ⟨by rfl, ?hy4⟩) (by assumption) ?rest4
      case hy4 => (intro wz hSw; (try dsimp only at hSw); first | (go_simp; done) | (go_simp; with_reducible rfl))
      try simp only [Act.put, List.getElem_toArray, List.getElem_cons_succ, List.getElem_cons_zero, List.setIfInBounds_toArray, List.set_cons_zero, List.set_cons_succ]
      refine wpAnyH_take (i := 4) (v := ?v5) rfl (by kernel_rfl) (by kernel_rfl) (by kernel_rfl) (fun _ _ _ h => h) (Or.inl ⟨by rfl, ?hy5⟩) (by assumption) ?rest5
      case hy5 => (intro wz hSw; (try dsimp only at hSw); first | (go_simp; done) | (go_simp; with_reducible rfl))
      try simp only [Act.put, List.getElem_toArray, List.getElem_cons_succ, List.getElem_cons_zero, List.setIfInBounds_toArray, List.set_cons_zero, List.set_cons_succ]
      refine wpAnyH_take (i := 5) (v := ?v6) rfl (by kernel_rfl) (by kernel_rfl) (by kernel_rfl) (fun _ _ _ h => h) (Or.inl ⟨by rfl, ?hy6⟩) (by assumption) ?rest6
      case hy6 => (intro wz hSw; (try dsimp only at hSw); first | (go_simp; done) | (go_simp; with_reducible rfl))
      try simp only [Act.put, List.getElem_toArray, List.getElem_cons_succ, List.getElem_cons_zero, List.setIfInBounds_toArray, List.set_cons_zero, List.set_cons_succ]
      refine wpAnyH_take (i := 6) (v := ?v7) rfl (by kernel_rfl) (by kernel_rfl) (by kernel_rfl) (fun _ _ _ h => h) (Or.inl ⟨by rfl, ?hy7⟩) (by assumption) ?rest7
      case hy7 => (intro wz hSw; (try dsimp only at hSw); first | (go_simp; done) | (go_simp; with_reducible rfl))
      try simp only [Act.put, List.getElem_toArray, List.getElem_cons_succ, List.getElem_cons_zero, List.setIfInBounds_toArray, List.set_cons_zero, List.set_cons_succ]
      refine wpAnyH_take (i := 7) (v := ?v8) rfl (by kernel_rfl) (by kernel_rfl) (by kernel_rfl) (fun _ _ _ h => h) (Or.inl ⟨by rfl, ?hy8⟩) (by assumption) ?rest8
      case hy8 => (intro wz hSw; (try dsimp only at hSw); first | (go_simp; done) | (go_simp; with_reducible rfl))
      try simp only [Act.put, List.getElem_toArray, List.getElem_cons_succ, List.getElem_cons_zero, List.setIfInBounds_toArray, List.set_cons_zero, List.set_cons_succ]
      refine wpAnyH_take (i := 8) (v := ?v9) rfl (by kernel_rfl) (by kernel_rfl) (by kernel_rfl) (fun _ _ _ h => h) (Or.inl ⟨by rfl, ?hy9⟩) (by assumption) ?rest9
      case hy9 => (intro wz hSw; (try dsimp only at hSw); first | (go_simp; done) | (go_simp; with_reducible rfl))
      try simp only [Act.put, List.getElem_toArray, List.getElem_cons_succ, List.getElem_cons_zero, List.setIfInBounds_toArray, List.set_cons_zero, List.set_cons_succ]
      refine wpAnyH_take (i := 9) (v := ?v10) rfl (by kernel_rfl) (by kernel_rfl) (by kernel_rfl) (fun _ _ _ h => h) (Or.inl ⟨by rfl, ?hy10⟩) (by assumption) ?rest10
      case hy10 => (intro wz hSw; (try dsimp only at hSw); first | (go_simp; done) | (go_simp; with_reducible rfl))
      try simp only [Act.put, List.getElem_toArray, List.getElem_cons_succ, List.getElem_cons_zero, List.setIfInBounds_toArray, List.set_cons_zero, List.set_cons_succ]
      refine wpAnyH_ready (rs := [10]) (by kernel_rfl) (by simp) ?_
      refine AllReadyH.cons (o := _) rfl (fun K hK => ?_) AllReadyH.nil
      go_simp
      refine (ST.out _ (gb_trans (gb_drew w2 none) (gb_drew _ none))).mono ?_
      rintro e w4 ⟨⟨ye, rfl⟩, n4, g4⟩
      have K4 := Lib.hid (show (fun w' : World => w'.cell? ⟨D, 1, none⟩ = some (.int .i64 wd) ∧ w'.cell? ⟨B, q, none⟩ = some (.slice (some ⟨g, 0, none⟩) fn fc) ∧ True) w4 from ⟨g4.cell (KT.out _ (gb_trans (gb_drew w2 none) (gb_drew _ none))).1 (fun e => by injection e with e; exact ND.out e), g4.cell (KT.out _ (gb_trans (gb_drew w2 none) (gb_drew _ none))).2.1 (fun e => by injection e with e; exact NB.out e), trivial⟩)
      have O4 := Lib.hid ((O2.out.keep0 (gb_trans (gb_drew w2 none) (gb_drew _ none))).upd q (by rw [RN.out]; exact h2) (stoL (R.getD q []) j v wd) g (by rw [HV.out]; rfl) g4 (by rw [HV.out]; exact n4) SR0.out)
      have G4 := Lib.hid (show W0.grownBy w4 none from gb_new (gb_trans (gb_any (gb_trans G2.out (gb_trans (gb_drew w2 none) (gb_drew _ none)))) g4) LG.out)
      clear g4 n4
      try dsimp only
      refine hK.out _ _ K4.out (fun hH1 => ?_)
      clear hK K hH0
      try simp only [Act.put, List.getElem_toArray, List.getElem_cons_succ, List.getElem_cons_zero, List.setIfInBounds_toArray, List.set_cons_zero, List.set_cons_succ]
      refine wpAnyH_take (i := 11) (v := ?v11) rfl (by kernel_rfl) (by kernel_rfl) (by kernel_rfl) (fun _ _ _ h => h) (Or.inl ⟨by rfl, ?hy11⟩) (by assumption) ?rest11
      case hy11 => (intro wz hSw; (try dsimp only at hSw); first | (go_simp; done) | (go_simp; with_reducible rfl))
      try simp only [Act.put, List.getElem_toArray, List.getElem_cons_succ, List.getElem_cons_zero, List.setIfInBounds_toArray, List.set_cons_zero, List.set_cons_succ]
      refine wpAnyH_done (by kernel_rfl) ?_ _
      clear hH1 KT
      go_wp2
      go_ret
      exact ⟨⟨_, rfl⟩, by rw [WY.out]; exact O4.out, G4.out⟩
    · have hc1 : decide (sz ≤ (j : Int)) = false := decide_eq_false (by omega)
      have hc2 : decide (fn ≤ j) = false := decide_eq_false (by omega)
      go_region
      clear ha1 hs ha2 hj
      clear hc1 hc2
      go_upto_region 6 with fail
      refine wp_region_held_drew (S := (fun w' : World => w'.cell? ⟨D, 1, none⟩ = some (.int .i64 wd) ∧ w'.cell? ⟨B, q, none⟩ = some (.slice (some ⟨g, 0, none⟩) fn fc) ∧ True)) (by kernel_rfl) (KT.out _ (gb_trans (gb_drew w2 none) (gb_drew _ none))) (fun hH0 => ?_)
      refine wpAnyH_take (i := 0) (v := ?v12) rfl (by kernel_rfl) (by kernel_rfl) (by kernel_rfl) (fun _ _ _ h => h) (Or.inl ⟨by rfl, ?hy12⟩) (by assumption) ?rest12
      case hy12 => (intro wz hSw; (try dsimp only at hSw); first | (go_simp; done) | (go_simp; with_reducible rfl))
      try simp only [Act.put, List.getElem_toArray, List.getElem_cons_zero, List.setIfInBounds_toArray, List.set_cons_zero, List.set_cons_succ]
      refine wpAnyH_take (i := 1) (v := ?v13) rfl (by kernel_rfl) (by kernel_rfl) (by kernel_rfl) (fun _ _ _ h => h) (Or.inl ⟨by rfl, ?hy13⟩) (by assumption) ?rest13
      case hy13 => (intro wz hSw; (try dsimp only at hSw); first | (go_simp; done) | (go_simp; with_reducible rfl))
      try simp only [Act.put, List.getElem_toArray, List.getElem_cons_succ, List.getElem_cons_zero, List.setIfInBounds_toArray, List.set_cons_zero, List.set_cons_succ]
      refine wpAnyH_take (i := 2) (v := ?v14) rfl (by kernel_rfl) (by kernel_rfl) (by kernel_rfl) (fun _ _ _ h => h) (Or.inl ⟨by rfl, ?hy14⟩) (by assumption) ?rest14
      case hy14 => (intro wz hSw; (try dsimp only at hSw); first | (go_simp; done) | (go_simp; with_reducible rfl))
      try simp only [Act.put, List.getElem_toArray, List.getElem_cons_succ, List.getElem_cons_zero, List.setIfInBounds_toArray, List.set_cons_zero, List.set_cons_succ]
      refine wpAnyH_take (i := 3) (v := ?v15) rfl (by kernel_rfl) (by kernel_rfl) (by kernel_rfl) (fun _ _ _ h => h) (Or.inl ⟨by rfl, ?hy15⟩) (by assumption) ?rest15
      case hy15 => (intro wz hSw; (try dsimp only at hSw); first | (go_simp; done) | (go_simp; with_reducible rfl))
      try simp only [Act.put, List.getElem_toArray, List.getElem_cons_succ, List.getElem_cons_zero, List.setIfInBounds_toArray, List.set_cons_zero, List.set_cons_succ]
      refine wpAnyH_take (i := 4) (v := ?v16) rfl (by kernel_rfl) (by kernel_rfl) (by kernel_rfl) (fun _ _ _ h => h) (Or.inl ⟨by rfl, ?hy16⟩) (by assumption) ?rest16
      case hy16 => (intro wz hSw; (try dsimp only at hSw); first | (go_simp; done) | (go_simp; with_reducible rfl))
      try simp only [Act.put, List.getElem_toArray, List.getElem_cons_succ, List.getElem_cons_zero, List.setIfInBounds_toArray, List.set_cons_zero, List.set_cons_succ]
      refine wpAnyH_take (i := 5) (v := ?v17) rfl (by kernel_rfl) (by kernel_rfl) (by kernel_rfl) (fun _ _ _ h => h) (Or.inl ⟨by rfl, ?hy17⟩) (by assumption) ?rest17
      case hy17 => (intro wz hSw; (try dsimp only at hSw); first | (go_simp; done) | (go_simp; with_reducible rfl))
      try simp only [Act.put, List.getElem_toArray, List.getElem_cons_succ, List.getElem_cons_zero, List.setIfInBounds_toArray, List.set_cons_zero, List.set_cons_succ]
      refine wpAnyH_take (i := 6) (v := ?v18) rfl (by kernel_rfl) (by kernel_rfl) (by kernel_rfl) (fun _ _ _ h => h) (Or.inl ⟨by rfl, ?hy18⟩) (by assumption) ?rest18
      case hy18 => (intro wz hSw; (try dsimp only at hSw); first | (go_simp; done) | (go_simp; with_reducible rfl))
      try simp only [Act.put, List.getElem_toArray, List.getElem_cons_succ, List.getElem_cons_zero, List.setIfInBounds_toArray, List.set_cons_zero, List.set_cons_succ]
      refine wpAnyH_take (i := 7) (v := ?v19) rfl (by kernel_rfl) (by kernel_rfl) (by kernel_rfl) (fun _ _ _ h => h) (Or.inl ⟨by rfl, ?hy19⟩) (by assumption) ?rest19
      case hy19 => (intro wz hSw; (try dsimp only at hSw); first | (go_simp; done) | (go_simp; with_reducible rfl))
      try simp only [Act.put, List.getElem_toArray, List.getElem_cons_succ, List.getElem_cons_zero, List.setIfInBounds_toArray, List.set_cons_zero, List.set_cons_succ]
      refine wpAnyH_take (i := 8) (v := ?v20) rfl (by kernel_rfl) (by kernel_rfl) (by kernel_rfl) (fun _ _ _ h => h) (Or.inl ⟨by rfl, ?hy20⟩) (by assumption) ?rest20
      case hy20 => (intro wz hSw; (try dsimp only at hSw); first | (go_simp; done) | (go_simp; with_reducible rfl))
      try simp only [Act.put, List.getElem_toArray, List.getElem_cons_succ, List.getElem_cons_zero, List.setIfInBounds_toArray, List.set_cons_zero, List.set_cons_succ]
      refine wpAnyH_take (i := 9) (v := ?v21) rfl (by kernel_rfl) (by kernel_rfl) (by kernel_rfl) (fun _ _ _ h => h) (Or.inl ⟨by rfl, ?hy21⟩) (by assumption) ?rest21
      case hy21 => (intro wz hSw; (try dsimp only at hSw); first | (go_simp; done) | (go_simp; with_reducible rfl))
      try simp only [Act.put, List.getElem_toArray, List.getElem_cons_succ, List.getElem_cons_zero, List.setIfInBounds_toArray, List.set_cons_zero, List.set_cons_succ]
      refine wpAnyH_ready (rs := [10]) (by kernel_rfl) (by simp) ?_
      refine AllReadyH.cons (o := _) rfl (fun K hK => ?_) AllReadyH.nil
      go_simp
      refine (ST.out _ (gb_trans (gb_drew w2 none) (gb_drew _ none))).mono ?_
      rintro e w4 ⟨⟨ye, rfl⟩, n4, g4⟩
      have K4 := Lib.hid (show (fun w' : World => w'.cell? ⟨D, 1, none⟩ = some (.int .i64 wd) ∧ w'.cell? ⟨B, q, none⟩ = some (.slice (some ⟨g, 0, none⟩) fn fc) ∧ True) w4 from ⟨g4.cell (KT.out _ (gb_trans (gb_drew w2 none) (gb_drew _ none))).1 (fun e => by injection e with e; exact ND.out e), g4.cell (KT.out _ (gb_trans (gb_drew w2 none) (gb_drew _ none))).2.1 (fun e => by injection e with e; exact NB.out e), trivial⟩)
      have O4 := Lib.hid ((O2.out.keep0 (gb_trans (gb_drew w2 none) (gb_drew _ none))).upd q (by rw [RN.out]; exact h2) (stoL (R.getD q []) j v wd) g (by rw [HV.out]; rfl) g4 (by rw [HV.out]; exact n4) SR0.out)
      have G4 := Lib.hid (show W0.grownBy w4 none from gb_new (gb_trans (gb_any (gb_trans G2.out (gb_trans (gb_drew w2 none) (gb_drew _ none)))) g4) LG.out)
      clear g4 n4
      try dsimp only
      refine hK.out _ _ K4.out (fun hH1 => ?_)
      clear hK K hH0
      try simp only [Act.put, List.getElem_toArray, List.getElem_cons_succ, List.getElem_cons_zero, List.setIfInBounds_toArray, List.set_cons_zero, List.set_cons_succ]
      refine wpAnyH_take (i := 11) (v := ?v22) rfl (by kernel_rfl) (by kernel_rfl) (by kernel_rfl) (fun _ _ _ h => h) (Or.inl ⟨by rfl, ?hy22⟩) (by assumption) ?rest22
      case hy22 => (intro wz hSw; (try dsimp only at hSw); first | (go_simp; done) | (go_simp; with_reducible rfl))
      try simp only [Act.put, List.getElem_toArray, List.getElem_cons_succ, List.getElem_cons_zero, List.setIfInBounds_toArray, List.set_cons_zero, List.set_cons_succ]
      refine wpAnyH_done (by kernel_rfl) ?_ _
      clear hH1 KT
      go_wp2
      go_ret
      exact ⟨⟨_, rfl⟩, by rw [WY.out]; exact O4.out, G4.out⟩
  · have WN := Lib.hid (show writeL L R q i v = R from by
      apply write_no; rw [CI.out]
      exact decide_eq_false fun k => ha ⟨k.2.2.1, k.2.2.2⟩)
    rcases (show sz ≤ (fn : Int) ∨ (fn : Int) < sz by omega) with hs | hs
    · have hc : sz ≤ i := by omega
      go_region
      go_wp2
      go_ret
      exact ⟨⟨_, rfl⟩, by rw [WN.out]; exact O2.out.keep0 (gb_drew _ none), gb_dr1 G2.out⟩
    · have hc : (fn : Int) ≤ i := by omega
      go_region
      go_wp2
      go_ret
      exact ⟨⟨_, rfl⟩, by rw [WN.out]; exact O2.out.keep0 (gb_drew _ none), gb_dr1 G2.out⟩
end Go.Proofs.Ytjbimeahcldaoaa
