/- The law Checks; no condition. -/
import Derived.Test.YtcicjodpkbcigaaGreatSqK
import Derived.Test.YtcicjodpkbcigaaGreatExWh
import Derived.Test.YtcicjodpkbcigaaGreatExL
namespace Go.Proofs.YtcicjodpkbcigaaGreat
open Go.RowKit
set_option linter.unusedVariables false
theorem fl_sq {w : World} {base n c : Nat} {a : Option Addr} {L : List (Int × Int)} (h : FL w base (.slice a n c) L) (hl : n = L.length) : SQ w a n c L := by
  subst hl
  have cp := own_cap h
  refine ⟨rfl, ?_, cp, fun ad e j hj => ?_⟩
  · intro e
    subst e
    rcases h.2 with ⟨h', _⟩ | ⟨g', cap', cur, h', _⟩
    · injection h' with _ h1 h2
      exact ⟨h1, h2⟩
    · injection h' with h' _ _
      cases h'
  · obtain ⟨g, cx, hv⟩ := own_head h (by omega)
    injection hv with hv _ hc
    subst hc
    rw [e] at hv
    injection hv with hv
    subst hv e
    have z := h.at_ j hj
    have q : ((⟨g, 0, none⟩ : Addr).add (j * 2)) = ⟨g, j * 2, none⟩ := by unfold Addr.add; split <;> simp_all
    rw [q]
    exact z
theorem nl_sz {w : World} {base n c : Nat} {a : Option Addr} {L : List Int} (h : NL w base (.slice a n c) L) (hl : n = L.length) : SZ w a n c L := by
  subst hl
  have cp := own_cap h
  have s := h.slr rfl
  exact ⟨rfl, fun e => s.2.1 e, cp, fun ad e j hj => s.2.2 ad e j (.int .i64 (L.getD j 0)) (by simp [hj])⟩
set_option maxRecDepth 100000 in
set_option maxHeartbeats 40000000 in
theorem checks_walk (w : World) (X : KX) (C : Cx) (N : List Nd) (hC : CR w X C N) (ix : Int) :
    Calls Tryz.prog 3 #[.agg #[.string X.nm, .slice X.ha X.hn X.hc, .slice X.ma X.mn X.mc, .slice X.a0 X.n0 X.c0, .slice X.a1 X.n1 X.c1, .slice X.a2 X.n2 X.c2, .slice X.a3 X.n3 X.c3, .slice X.a4 X.n4 X.c4, .slice X.a5 X.n5 X.c5, .slice X.pa X.pn X.pc, .slice X.na X.nn X.nc, .slice X.va X.vn X.vc, .slice X.fa X.fn X.fc, .slice X.ta X.tn X.tc, .slice X.la X.ln X.lc, .slice X.aa X.an X.ac], .int .i64 ix] w (RetV (.bool true) w) := by
  have LN := Lib.hid hC.nd.len
  have ncap := hC.nd.cap
  have AW := Lib.hid (fun w => awake_any w)
  have SCo := Lib.hid (fun w => scope_any w X)
  have CK := Lib.hid (fun (w2 : World) (g : w.grownBy w2 none) => kcheck_any w2 X C N (hC.keep0 g))
  have RC := Lib.hid (fun (w2 : World) (g : w.grownBy w2 none) => rcheck13_any w2 X C N (hC.keep0 g))
  have ND := Lib.hid (fun (w2 : World) (g : w.grownBy w2 none) => (hC.keep0 g).nd)
  unfold RetV at AW SCo
  unfold RetWE at CK RC
  generalize rW (wholeT C N) = rw' at *
  generalize rE (wholeT C N) = re' at *
  clear hC
  have G1 := Lib.hid (gb_alloc w (.cells #[.string X.nm, .slice X.ha X.hn X.hc, .slice X.ma X.mn X.mc, .slice X.a0 X.n0 X.c0, .slice X.a1 X.n1 X.c1, .slice X.a2 X.n2 X.c2, .slice X.a3 X.n3 X.c3, .slice X.a4 X.n4 X.c4, .slice X.a5 X.n5 X.c5, .slice X.pa X.pn X.pc, .slice X.na X.nn X.nc, .slice X.va X.vn X.vc, .slice X.fa X.fn X.fc, .slice X.ta X.tn X.tc, .slice X.la X.ln X.lc, .slice X.aa X.an X.ac] 40) none)
  have B1 := IsB.new w 40 #[.string X.nm, .slice X.ha X.hn X.hc, .slice X.ma X.mn X.mc, .slice X.a0 X.n0 X.c0, .slice X.a1 X.n1 X.c1, .slice X.a2 X.n2 X.c2, .slice X.a3 X.n3 X.c3, .slice X.a4 X.n4 X.c4, .slice X.a5 X.n5 X.c5, .slice X.pa X.pn X.pc, .slice X.na X.nn X.nc, .slice X.va X.vn X.vc, .slice X.fa X.fn X.fc, .slice X.ta X.tn X.tc, .slice X.la X.ln X.lc, .slice X.aa X.an X.ac]
  replace B1 := Lib.hid B1
  go_enter Tryz.func3, Tryz.ntmps3
  go_upto_region 1 with fail
  generalize w.alloc (.cells #[.string X.nm, .slice X.ha X.hn X.hc, .slice X.ma X.mn X.mc, .slice X.a0 X.n0 X.c0, .slice X.a1 X.n1 X.c1, .slice X.a2 X.n2 X.c2, .slice X.a3 X.n3 X.c3, .slice X.a4 X.n4 X.c4, .slice X.a5 X.n5 X.c5, .slice X.pa X.pn X.pc, .slice X.na X.nn X.nc, .slice X.va X.vn X.vc, .slice X.fa X.fn X.fc, .slice X.ta X.tn X.tc, .slice X.la X.ln X.lc, .slice X.aa X.an X.ac] 40) = w1 at *
  obtain ⟨bx, hbx⟩ : ∃ b, b = w.heap.size := ⟨_, rfl⟩
  have Lbx := Lib.hid (show w.heap.size ≤ bx by rw [hbx]; exact Nat.le_refl _)
  rw [← hbx] at B1 ⊢
  clear hbx
  have s10 := B1.out.cell 10
  dsimp at s10
  by_cases hl : 100 < X.nn
  · have hl2 : (100 : Int) < (X.nn : Int) := by omega
    clear hl
    go_wp2_with fail
    refine (AW.out _).mono ?_
    rintro e x1 ⟨rfl, g⟩
    have GZ := Lib.hid (gb_trans G1.out g)
    clear g
    go_wp2
    go_ret
    exact ⟨rfl, GZ.out⟩
  have hl2 : ¬ (100 : Int) < (X.nn : Int) := by omega
  have h100 : X.nn ≤ 100 := by omega
  clear hl
  go_upto_region 3 with fail
  clear s10
  have KE := Lib.hid (fun (w2 : World) (g : w.grownBy w2 none) => kend_any w2 X.na X.nn X.nc N (ND.out w2 g) (by omega) ix)
  have RE := Lib.hid (fun (w2 : World) (g : w.grownBy w2 none) => rend_any w2 X.na X.nn X.nc N (ND.out w2 g) (by omega) ix)
  have KF := Lib.hid (fun (w2 : World) (g : w.grownBy w2 none) => kfields_any w2 X.na X.nn X.nc N (ND.out w2 g) (by omega))
  have RF := Lib.hid (fun (w2 : World) (g : w.grownBy w2 none) => rfields_any w2 X.na X.nn X.nc N (ND.out w2 g) (by omega))
  have KH := Lib.hid (fun (w2 : World) (g : w.grownBy w2 none) => kheaders_any w2 X.na X.nn X.nc N (ND.out w2 g) (by omega))
  have RH := Lib.hid (fun (w2 : World) (g : w.grownBy w2 none) => rheaders_any w2 X.na X.nn X.nc N (ND.out w2 g) (by omega))
  have lf : (aF N).length ≤ 10000 := by have := aF_len N; rw [LN.out] at this; omega
  have lh : (aHs N).length ≤ 10000 := by have := aHs_len N; rw [LN.out] at this; omega
  have EF := Lib.hid (fun (w2 : World) (a b : Option Addr) (c d : Nat) (h : SQ w2 a (aF N).length c (aF N)) (k : SQ w2 b (aF N).length d (aF N)) => by have z := eqf_any w2 a b _ c _ d (aF N) (aF N) h k lf lf; rw [decide_eq_true rfl] at z; exact z)
  have EI := Lib.hid (fun (w2 : World) (a b : Option Addr) (c d : Nat) (h : SZ w2 a (aHs N).length c (aHs N)) (k : SZ w2 b (aHs N).length d (aHs N)) => by have z := eqi_any w2 a b _ c _ d (aHs N) (aHs N) h k lh lh; rw [decide_eq_true rfl] at z; exact z)
  unfold RetV at KE RE EF EI
  unfold RetFX at KF RF
  unfold RetNX at KH RH
  generalize endT N ix = en at *
  generalize aF N = lF at *
  generalize aHs N = lH at *
  clear ND lf lh
  have KS := Lib.hid (fun (w' : World) (q0 : w1.grownBy w' none) => (⟨(B1.out.keep0 q0).cell 0, (B1.out.keep0 q0).cell 1, (B1.out.keep0 q0).cell 2, (B1.out.keep0 q0).cell 3, (B1.out.keep0 q0).cell 4, (B1.out.keep0 q0).cell 5, (B1.out.keep0 q0).cell 6, (B1.out.keep0 q0).cell 7, (B1.out.keep0 q0).cell 8, (B1.out.keep0 q0).cell 9, (B1.out.keep0 q0).cell 10, (B1.out.keep0 q0).cell 11, (B1.out.keep0 q0).cell 12, (B1.out.keep0 q0).cell 13, (B1.out.keep0 q0).cell 14, (B1.out.keep0 q0).cell 15, q0⟩ : (fun w' : World => w'.cell? ⟨bx, 0, none⟩ = some (.string X.nm) ∧ w'.cell? ⟨bx, 1, none⟩ = some (.slice X.ha X.hn X.hc) ∧ w'.cell? ⟨bx, 2, none⟩ = some (.slice X.ma X.mn X.mc) ∧ w'.cell? ⟨bx, 3, none⟩ = some (.slice X.a0 X.n0 X.c0) ∧ w'.cell? ⟨bx, 4, none⟩ = some (.slice X.a1 X.n1 X.c1) ∧ w'.cell? ⟨bx, 5, none⟩ = some (.slice X.a2 X.n2 X.c2) ∧ w'.cell? ⟨bx, 6, none⟩ = some (.slice X.a3 X.n3 X.c3) ∧ w'.cell? ⟨bx, 7, none⟩ = some (.slice X.a4 X.n4 X.c4) ∧ w'.cell? ⟨bx, 8, none⟩ = some (.slice X.a5 X.n5 X.c5) ∧ w'.cell? ⟨bx, 9, none⟩ = some (.slice X.pa X.pn X.pc) ∧ w'.cell? ⟨bx, 10, none⟩ = some (.slice X.na X.nn X.nc) ∧ w'.cell? ⟨bx, 11, none⟩ = some (.slice X.va X.vn X.vc) ∧ w'.cell? ⟨bx, 12, none⟩ = some (.slice X.fa X.fn X.fc) ∧ w'.cell? ⟨bx, 13, none⟩ = some (.slice X.ta X.tn X.tc) ∧ w'.cell? ⟨bx, 14, none⟩ = some (.slice X.la X.ln X.lc) ∧ w'.cell? ⟨bx, 15, none⟩ = some (.slice X.aa X.an X.ac) ∧ w1.grownBy w' none) w'))
  have H0 := Lib.hid (gb_drew w1 none)
  refine wp_region_held_drew (S := (fun w' : World => w'.cell? ⟨bx, 0, none⟩ = some (.string X.nm) ∧ w'.cell? ⟨bx, 1, none⟩ = some (.slice X.ha X.hn X.hc) ∧ w'.cell? ⟨bx, 2, none⟩ = some (.slice X.ma X.mn X.mc) ∧ w'.cell? ⟨bx, 3, none⟩ = some (.slice X.a0 X.n0 X.c0) ∧ w'.cell? ⟨bx, 4, none⟩ = some (.slice X.a1 X.n1 X.c1) ∧ w'.cell? ⟨bx, 5, none⟩ = some (.slice X.a2 X.n2 X.c2) ∧ w'.cell? ⟨bx, 6, none⟩ = some (.slice X.a3 X.n3 X.c3) ∧ w'.cell? ⟨bx, 7, none⟩ = some (.slice X.a4 X.n4 X.c4) ∧ w'.cell? ⟨bx, 8, none⟩ = some (.slice X.a5 X.n5 X.c5) ∧ w'.cell? ⟨bx, 9, none⟩ = some (.slice X.pa X.pn X.pc) ∧ w'.cell? ⟨bx, 10, none⟩ = some (.slice X.na X.nn X.nc) ∧ w'.cell? ⟨bx, 11, none⟩ = some (.slice X.va X.vn X.vc) ∧ w'.cell? ⟨bx, 12, none⟩ = some (.slice X.fa X.fn X.fc) ∧ w'.cell? ⟨bx, 13, none⟩ = some (.slice X.ta X.tn X.tc) ∧ w'.cell? ⟨bx, 14, none⟩ = some (.slice X.la X.ln X.lc) ∧ w'.cell? ⟨bx, 15, none⟩ = some (.slice X.aa X.an X.ac) ∧ w1.grownBy w' none)) (by kernel_rfl) (KS.out _ H0.out) (fun hH0 => ?_)
  refine wpAnyH_take (i := 0) (v := ?v5001) rfl (by kernel_rfl) (by kernel_rfl) (by kernel_rfl) (fun _ _ _ h => h) (Or.inl ⟨by rfl, ?hy5001⟩) (by assumption) ?rest5001
  case hy5001 => (intro wz hSw; (try dsimp only at hSw); first | (go_simp; done) | (go_simp; with_reducible rfl))
  try simp only [Act.put, List.getElem_toArray, List.getElem_cons_zero, List.setIfInBounds_toArray, List.set_cons_zero, List.set_cons_succ]
  refine wpAnyH_take (i := 1) (v := ?v5002) rfl (by kernel_rfl) (by kernel_rfl) (by kernel_rfl) (fun _ _ _ h => h) (Or.inl ⟨by rfl, ?hy5002⟩) (by assumption) ?rest5002
  case hy5002 => (intro wz hSw; (try dsimp only at hSw); first | (go_simp; done) | (go_simp; with_reducible rfl))
  try simp only [Act.put, List.getElem_toArray, List.getElem_cons_succ, List.getElem_cons_zero, List.setIfInBounds_toArray, List.set_cons_zero, List.set_cons_succ]
  refine wpAnyH_take (i := 2) (v := ?v5003) rfl (by kernel_rfl) (by kernel_rfl) (by kernel_rfl) (fun _ _ _ h => h) (Or.inl ⟨by rfl, ?hy5003⟩) (by assumption) ?rest5003
  case hy5003 => (intro wz hSw; (try dsimp only at hSw); first | (go_simp; done) | (go_simp; with_reducible rfl))
  try simp only [Act.put, List.getElem_toArray, List.getElem_cons_succ, List.getElem_cons_zero, List.setIfInBounds_toArray, List.set_cons_zero, List.set_cons_succ]
  refine wpAnyH_ready (rs := [3]) (by kernel_rfl) (by simp) ?_
  refine AllReadyH.cons (o := _) rfl (fun K hK => ?_) AllReadyH.nil
  go_simp
  (with_reducible refine (SCo.out _).mono ?_)
  rintro e hw1 ⟨rfl, g⟩
  have H1 := Lib.hid (gb_trans H0.out g)
  clear g
  try dsimp only
  refine hK.out _ _ (KS.out _ H1.out) (fun hH1 => ?_)
  clear hK K hH0
  try simp only [Act.put, List.getElem_toArray, List.getElem_cons_succ, List.getElem_cons_zero, List.setIfInBounds_toArray, List.set_cons_zero, List.set_cons_succ]
  refine wpAnyH_ready (rs := [4]) (by kernel_rfl) (by simp) ?_
  refine AllReadyH.cons (o := _) rfl (fun K hK => ?_) AllReadyH.nil
  go_simp
  (with_reducible refine (CK.out _ (gb_trans G1.out H1.out)).mono ?_)
  rintro e hw2 ⟨rfl, g⟩
  have H2 := Lib.hid (gb_trans H1.out g)
  clear g
  try dsimp only
  refine hK.out _ _ (KS.out _ H2.out) (fun hH2 => ?_)
  clear hK K hH1
  try simp only [Act.put, List.getElem_toArray, List.getElem_cons_succ, List.getElem_cons_zero, List.setIfInBounds_toArray, List.set_cons_zero, List.set_cons_succ]
  refine wpAnyH_take (i := 5) (v := ?v5004) rfl (by kernel_rfl) (by kernel_rfl) (by kernel_rfl) (fun _ _ _ h => h) (Or.inl ⟨by rfl, ?hy5004⟩) (by assumption) ?rest5004
  case hy5004 => (intro wz hSw; (try dsimp only at hSw); first | (go_simp; done) | (go_simp; with_reducible rfl))
  try simp only [Act.put, List.getElem_toArray, List.getElem_cons_succ, List.getElem_cons_zero, List.setIfInBounds_toArray, List.set_cons_zero, List.set_cons_succ]
  refine wpAnyH_take (i := 6) (v := ?v5005) rfl (by kernel_rfl) (by kernel_rfl) (by kernel_rfl) (fun _ _ _ h => h) (Or.inl ⟨by rfl, ?hy5005⟩) (by assumption) ?rest5005
  case hy5005 => (intro wz hSw; (try dsimp only at hSw); first | (go_simp; done) | (go_simp; with_reducible rfl))
  try simp only [Act.put, List.getElem_toArray, List.getElem_cons_succ, List.getElem_cons_zero, List.setIfInBounds_toArray, List.set_cons_zero, List.set_cons_succ]
  refine wpAnyH_take (i := 7) (v := ?v5006) rfl (by kernel_rfl) (by kernel_rfl) (by kernel_rfl) (fun _ _ _ h => h) (Or.inl ⟨by rfl, ?hy5006⟩) (by assumption) ?rest5006
  case hy5006 => (intro wz hSw; (try dsimp only at hSw); first | (go_simp; done) | (go_simp; with_reducible rfl))
  try simp only [Act.put, List.getElem_toArray, List.getElem_cons_succ, List.getElem_cons_zero, List.setIfInBounds_toArray, List.set_cons_zero, List.set_cons_succ]
  refine wpAnyH_take (i := 8) (v := ?v5007) rfl (by kernel_rfl) (by kernel_rfl) (by kernel_rfl) (fun _ _ _ h => h) (Or.inl ⟨by rfl, ?hy5007⟩) (by assumption) ?rest5007
  case hy5007 => (intro wz hSw; (try dsimp only at hSw); first | (go_simp; done) | (go_simp; with_reducible rfl))
  try simp only [Act.put, List.getElem_toArray, List.getElem_cons_succ, List.getElem_cons_zero, List.setIfInBounds_toArray, List.set_cons_zero, List.set_cons_succ]
  refine wpAnyH_take (i := 9) (v := ?v5008) rfl (by kernel_rfl) (by kernel_rfl) (by kernel_rfl) (fun _ _ _ h => h) (Or.inl ⟨by rfl, ?hy5008⟩) (by assumption) ?rest5008
  case hy5008 => (intro wz hSw; (try dsimp only at hSw); first | (go_simp; done) | (go_simp; with_reducible rfl))
  try simp only [Act.put, List.getElem_toArray, List.getElem_cons_succ, List.getElem_cons_zero, List.setIfInBounds_toArray, List.set_cons_zero, List.set_cons_succ]
  refine wpAnyH_done (by kernel_rfl) ?_ _
  clear hH2
  have GX := Lib.hid (gb_trans G1.out H2.out)
  have BX := Lib.hid (B1.out.keep0 H2.out)
  clear KS
  have a0 := (BX.out).cell 0
  have a1 := (BX.out).cell 1
  have a2 := (BX.out).cell 2
  have a3 := (BX.out).cell 3
  have a4 := (BX.out).cell 4
  have a5 := (BX.out).cell 5
  have a6 := (BX.out).cell 6
  have a7 := (BX.out).cell 7
  have a8 := (BX.out).cell 8
  have a9 := (BX.out).cell 9
  dsimp at a0 a1 a2 a3 a4 a5 a6 a7 a8 a9
  have s10 := BX.out.cell 10
  dsimp at s10
  go_upto_region 5 with (go_at_call 8; refine (RC.out _ GX.out).mono ?_; rintro e w7 ⟨rfl, g7⟩; have G7 := Lib.hid (gb_trans GX.out g7); have B7 := Lib.hid (BX.out.keep0 g7); clear g7)
  clear s10
  clear a0 a1 a2 a3 a4 a5 a6 a7 a8 a9
  have KS := Lib.hid (fun (w' : World) (q0 : w7.grownBy w' none) => (⟨(B7.out.keep0 q0).cell 10, q0⟩ : (fun w' : World => w'.cell? ⟨bx, 10, none⟩ = some (.slice X.na X.nn X.nc) ∧ w7.grownBy w' none) w'))
  have H0 := Lib.hid (gb_drew w7 none)
  refine wp_region_held_drew (S := (fun w' : World => w'.cell? ⟨bx, 10, none⟩ = some (.slice X.na X.nn X.nc) ∧ w7.grownBy w' none)) (by kernel_rfl) (KS.out _ H0.out) (fun hH0 => ?_)
  refine wpAnyH_take (i := 0) (v := ?v5009) rfl (by kernel_rfl) (by kernel_rfl) (by kernel_rfl) (fun _ _ _ h => h) (Or.inl ⟨by rfl, ?hy5009⟩) (by assumption) ?rest5009
  case hy5009 => (intro wz hSw; (try dsimp only at hSw); first | (go_simp; done) | (go_simp; with_reducible rfl))
  try simp only [Act.put, List.getElem_toArray, List.getElem_cons_zero, List.setIfInBounds_toArray, List.set_cons_zero, List.set_cons_succ]
  refine wpAnyH_take (i := 1) (v := ?v5010) rfl (by kernel_rfl) (by kernel_rfl) (by kernel_rfl) (fun _ _ _ h => h) (Or.inl ⟨by rfl, ?hy5010⟩) (by assumption) ?rest5010
  case hy5010 => (intro wz hSw; (try dsimp only at hSw); first | (go_simp; done) | (go_simp; with_reducible rfl))
  try simp only [Act.put, List.getElem_toArray, List.getElem_cons_succ, List.getElem_cons_zero, List.setIfInBounds_toArray, List.set_cons_zero, List.set_cons_succ]
  refine wpAnyH_take (i := 2) (v := ?v5011) rfl (by kernel_rfl) (by kernel_rfl) (by kernel_rfl) (fun _ _ _ h => h) (Or.inl ⟨by rfl, ?hy5011⟩) (by assumption) ?rest5011
  case hy5011 => (intro wz hSw; (try dsimp only at hSw); first | (go_simp; done) | (go_simp; with_reducible rfl))
  try simp only [Act.put, List.getElem_toArray, List.getElem_cons_succ, List.getElem_cons_zero, List.setIfInBounds_toArray, List.set_cons_zero, List.set_cons_succ]
  refine wpAnyH_take (i := 3) (v := ?v5012) rfl (by kernel_rfl) (by kernel_rfl) (by kernel_rfl) (fun _ _ _ h => h) (Or.inl ⟨by rfl, ?hy5012⟩) (by assumption) ?rest5012
  case hy5012 => (intro wz hSw; (try dsimp only at hSw); first | (go_simp; done) | (go_simp; with_reducible rfl))
  try simp only [Act.put, List.getElem_toArray, List.getElem_cons_succ, List.getElem_cons_zero, List.setIfInBounds_toArray, List.set_cons_zero, List.set_cons_succ]
  refine wpAnyH_take (i := 4) (v := ?v5013) rfl (by kernel_rfl) (by kernel_rfl) (by kernel_rfl) (fun _ _ _ h => h) (Or.inl ⟨by rfl, ?hy5013⟩) (by assumption) ?rest5013
  case hy5013 => (intro wz hSw; (try dsimp only at hSw); first | (go_simp; done) | (go_simp; with_reducible rfl))
  try simp only [Act.put, List.getElem_toArray, List.getElem_cons_succ, List.getElem_cons_zero, List.setIfInBounds_toArray, List.set_cons_zero, List.set_cons_succ]
  refine wpAnyH_take (i := 5) (v := ?v5014) rfl (by kernel_rfl) (by kernel_rfl) (by kernel_rfl) (fun _ _ _ h => h) (Or.inl ⟨by rfl, ?hy5014⟩) (by assumption) ?rest5014
  case hy5014 => (intro wz hSw; (try dsimp only at hSw); first | (go_simp; done) | (go_simp; with_reducible rfl))
  try simp only [Act.put, List.getElem_toArray, List.getElem_cons_succ, List.getElem_cons_zero, List.setIfInBounds_toArray, List.set_cons_zero, List.set_cons_succ]
  refine wpAnyH_take (i := 6) (v := ?v5015) rfl (by kernel_rfl) (by kernel_rfl) (by kernel_rfl) (fun _ _ _ h => h) (Or.inl ⟨by rfl, ?hy5015⟩) (by assumption) ?rest5015
  case hy5015 => (intro wz hSw; (try dsimp only at hSw); first | (go_simp; done) | (go_simp; with_reducible rfl))
  try simp only [Act.put, List.getElem_toArray, List.getElem_cons_succ, List.getElem_cons_zero, List.setIfInBounds_toArray, List.set_cons_zero, List.set_cons_succ]
  refine wpAnyH_take (i := 7) (v := ?v5016) rfl (by kernel_rfl) (by kernel_rfl) (by kernel_rfl) (fun _ _ _ h => h) (Or.inl ⟨by rfl, ?hy5016⟩) (by assumption) ?rest5016
  case hy5016 => (intro wz hSw; (try dsimp only at hSw); first | (go_simp; done) | (go_simp; with_reducible rfl))
  try simp only [Act.put, List.getElem_toArray, List.getElem_cons_succ, List.getElem_cons_zero, List.setIfInBounds_toArray, List.set_cons_zero, List.set_cons_succ]
  refine wpAnyH_take (i := 8) (v := ?v5017) rfl (by kernel_rfl) (by kernel_rfl) (by kernel_rfl) (fun _ _ _ h => h) (Or.inl ⟨by rfl, ?hy5017⟩) (by assumption) ?rest5017
  case hy5017 => (intro wz hSw; (try dsimp only at hSw); first | (go_simp; done) | (go_simp; with_reducible rfl))
  try simp only [Act.put, List.getElem_toArray, List.getElem_cons_succ, List.getElem_cons_zero, List.setIfInBounds_toArray, List.set_cons_zero, List.set_cons_succ]
  refine wpAnyH_take (i := 9) (v := ?v5018) rfl (by kernel_rfl) (by kernel_rfl) (by kernel_rfl) (fun _ _ _ h => h) (Or.inl ⟨by rfl, ?hy5018⟩) (by assumption) ?rest5018
  case hy5018 => (intro wz hSw; (try dsimp only at hSw); first | (go_simp; done) | (go_simp; with_reducible rfl))
  try simp only [Act.put, List.getElem_toArray, List.getElem_cons_succ, List.getElem_cons_zero, List.setIfInBounds_toArray, List.set_cons_zero, List.set_cons_succ]
  refine wpAnyH_take (i := 10) (v := ?v5019) rfl (by kernel_rfl) (by kernel_rfl) (by kernel_rfl) (fun _ _ _ h => h) (Or.inl ⟨by rfl, ?hy5019⟩) (by assumption) ?rest5019
  case hy5019 => (intro wz hSw; (try dsimp only at hSw); first | (go_simp; done) | (go_simp; with_reducible rfl))
  try simp only [Act.put, List.getElem_toArray, List.getElem_cons_succ, List.getElem_cons_zero, List.setIfInBounds_toArray, List.set_cons_zero, List.set_cons_succ]
  refine wpAnyH_take (i := 11) (v := ?v5020) rfl (by kernel_rfl) (by kernel_rfl) (by kernel_rfl) (fun _ _ _ h => h) (Or.inl ⟨by rfl, ?hy5020⟩) (by assumption) ?rest5020
  case hy5020 => (intro wz hSw; (try dsimp only at hSw); first | (go_simp; done) | (go_simp; with_reducible rfl))
  try simp only [Act.put, List.getElem_toArray, List.getElem_cons_succ, List.getElem_cons_zero, List.setIfInBounds_toArray, List.set_cons_zero, List.set_cons_succ]
  refine wpAnyH_take (i := 13) (v := ?v5021) rfl (by kernel_rfl) (by kernel_rfl) (by kernel_rfl) (fun _ _ _ h => h) (Or.inl ⟨by rfl, ?hy5021⟩) (by assumption) ?rest5021
  case hy5021 => (intro wz hSw; (try dsimp only at hSw); first | (go_simp; done) | (go_simp; with_reducible rfl))
  try simp only [Act.put, List.getElem_toArray, List.getElem_cons_succ, List.getElem_cons_zero, List.setIfInBounds_toArray, List.set_cons_zero, List.set_cons_succ]
  refine wpAnyH_take (i := 14) (v := ?v5022) rfl (by kernel_rfl) (by kernel_rfl) (by kernel_rfl) (fun _ _ _ h => h) (Or.inl ⟨by rfl, ?hy5022⟩) (by assumption) ?rest5022
  case hy5022 => (intro wz hSw; (try dsimp only at hSw); first | (go_simp; done) | (go_simp; with_reducible rfl))
  try simp only [Act.put, List.getElem_toArray, List.getElem_cons_succ, List.getElem_cons_zero, List.setIfInBounds_toArray, List.set_cons_zero, List.set_cons_succ]
  refine wpAnyH_take (i := 15) (v := ?v5023) rfl (by kernel_rfl) (by kernel_rfl) (by kernel_rfl) (fun _ _ _ h => h) (Or.inl ⟨by rfl, ?hy5023⟩) (by assumption) ?rest5023
  case hy5023 => (intro wz hSw; (try dsimp only at hSw); first | (go_simp; done) | (go_simp; with_reducible rfl))
  try simp only [Act.put, List.getElem_toArray, List.getElem_cons_succ, List.getElem_cons_zero, List.setIfInBounds_toArray, List.set_cons_zero, List.set_cons_succ]
  refine wpAnyH_ready (rs := [12]) (by kernel_rfl) (by simp) ?_
  refine AllReadyH.cons (o := _) rfl (fun K hK => ?_) AllReadyH.nil
  go_simp
  (with_reducible refine (KE.out _ (gb_trans G7.out H0.out)).mono ?_)
  rintro e hw1 ⟨rfl, g⟩
  have H1 := Lib.hid (gb_trans H0.out g)
  clear g
  try dsimp only
  refine hK.out _ _ (KS.out _ H1.out) (fun hH1 => ?_)
  clear hK K hH0
  try simp only [Act.put, List.getElem_toArray, List.getElem_cons_succ, List.getElem_cons_zero, List.setIfInBounds_toArray, List.set_cons_zero, List.set_cons_succ]
  refine wpAnyH_ready (rs := [16]) (by kernel_rfl) (by simp) ?_
  refine AllReadyH.cons (o := _) rfl (fun K hK => ?_) AllReadyH.nil
  go_simp
  (with_reducible refine (RE.out _ (gb_trans G7.out H1.out)).mono ?_)
  rintro e hw2 ⟨rfl, g⟩
  have H2 := Lib.hid (gb_trans H1.out g)
  clear g
  try dsimp only
  refine hK.out _ _ (KS.out _ H2.out) (fun hH2 => ?_)
  clear hK K hH1
  try simp only [Act.put, List.getElem_toArray, List.getElem_cons_succ, List.getElem_cons_zero, List.setIfInBounds_toArray, List.set_cons_zero, List.set_cons_succ]
  refine wpAnyH_take (i := 17) (v := ?v5024) rfl (by kernel_rfl) (by kernel_rfl) (by kernel_rfl) (fun _ _ _ h => h) (Or.inl ⟨by rfl, ?hy5024⟩) (by assumption) ?rest5024
  case hy5024 => (intro wz hSw; (try dsimp only at hSw); first | (go_simp; done) | (go_simp; with_reducible rfl))
  try simp only [Act.put, List.getElem_toArray, List.getElem_cons_succ, List.getElem_cons_zero, List.setIfInBounds_toArray, List.set_cons_zero, List.set_cons_succ]
  refine wpAnyH_take (i := 18) (v := ?v5025) rfl (by kernel_rfl) (by kernel_rfl) (by kernel_rfl) (fun _ _ _ h => h) (Or.inl ⟨by rfl, ?hy5025⟩) (by assumption) ?rest5025
  case hy5025 => (intro wz hSw; (try dsimp only at hSw); first | (go_simp; done) | (go_simp; with_reducible rfl))
  try simp only [Act.put, List.getElem_toArray, List.getElem_cons_succ, List.getElem_cons_zero, List.setIfInBounds_toArray, List.set_cons_zero, List.set_cons_succ]
  refine wpAnyH_take (i := 19) (v := ?v5026) rfl (by kernel_rfl) (by kernel_rfl) (by kernel_rfl) (fun _ _ _ h => h) (Or.inl ⟨by rfl, ?hy5026⟩) (by assumption) ?rest5026
  case hy5026 => (intro wz hSw; (try dsimp only at hSw); first | (go_simp; done) | (go_simp; with_reducible rfl))
  try simp only [Act.put, List.getElem_toArray, List.getElem_cons_succ, List.getElem_cons_zero, List.setIfInBounds_toArray, List.set_cons_zero, List.set_cons_succ]
  refine wpAnyH_take (i := 20) (v := ?v5027) rfl (by kernel_rfl) (by kernel_rfl) (by kernel_rfl) (fun _ _ _ h => h) (Or.inl ⟨by rfl, ?hy5027⟩) (by assumption) ?rest5027
  case hy5027 => (intro wz hSw; (try dsimp only at hSw); first | (go_simp; done) | (go_simp; with_reducible rfl))
  try simp only [Act.put, List.getElem_toArray, List.getElem_cons_succ, List.getElem_cons_zero, List.setIfInBounds_toArray, List.set_cons_zero, List.set_cons_succ]
  refine wpAnyH_take (i := 21) (v := ?v5028) rfl (by kernel_rfl) (by kernel_rfl) (by kernel_rfl) (fun _ _ _ h => h) (Or.inl ⟨by rfl, ?hy5028⟩) (by assumption) ?rest5028
  case hy5028 => (intro wz hSw; (try dsimp only at hSw); first | (go_simp; done) | (go_simp; with_reducible rfl))
  try simp only [Act.put, List.getElem_toArray, List.getElem_cons_succ, List.getElem_cons_zero, List.setIfInBounds_toArray, List.set_cons_zero, List.set_cons_succ]
  refine wpAnyH_take (i := 23) (v := ?v5029) rfl (by kernel_rfl) (by kernel_rfl) (by kernel_rfl) (fun _ _ _ h => h) (Or.inl ⟨by rfl, ?hy5029⟩) (by assumption) ?rest5029
  case hy5029 => (intro wz hSw; (try dsimp only at hSw); first | (go_simp; done) | (go_simp; with_reducible rfl))
  try simp only [Act.put, List.getElem_toArray, List.getElem_cons_succ, List.getElem_cons_zero, List.setIfInBounds_toArray, List.set_cons_zero, List.set_cons_succ]
  refine wpAnyH_take (i := 24) (v := ?v5030) rfl (by kernel_rfl) (by kernel_rfl) (by kernel_rfl) (fun _ _ _ h => h) (Or.inl ⟨by rfl, ?hy5030⟩) (by assumption) ?rest5030
  case hy5030 => (intro wz hSw; (try dsimp only at hSw); first | (go_simp; done) | (go_simp; with_reducible rfl))
  try simp only [Act.put, List.getElem_toArray, List.getElem_cons_succ, List.getElem_cons_zero, List.setIfInBounds_toArray, List.set_cons_zero, List.set_cons_succ]
  refine wpAnyH_ready (rs := [22]) (by kernel_rfl) (by simp) ?_
  refine AllReadyH.cons (o := _) rfl (fun K hK => ?_) AllReadyH.nil
  go_simp
  (with_reducible refine (KF.out _ (gb_trans G7.out H2.out)).mono ?_)
  rintro e hw3 ⟨fa, fc, rfl, fo, g⟩
  have FO := Lib.hid (fl_sq fo rfl)
  clear fo
  have H3 := Lib.hid (gb_trans H2.out g)
  clear g
  try dsimp only
  refine hK.out _ _ (KS.out _ H3.out) (fun hH3 => ?_)
  clear hK K hH2
  try simp only [Act.put, List.getElem_toArray, List.getElem_cons_succ, List.getElem_cons_zero, List.setIfInBounds_toArray, List.set_cons_zero, List.set_cons_succ]
  refine wpAnyH_ready (rs := [25]) (by kernel_rfl) (by simp) ?_
  refine AllReadyH.cons (o := _) rfl (fun K hK => ?_) AllReadyH.nil
  go_simp
  (with_reducible refine (RF.out _ (gb_trans G7.out H3.out)).mono ?_)
  rintro e hw4 ⟨ra, rc, rfl, ro, g⟩
  have RO := Lib.hid (fl_sq ro rfl)
  replace FO := Lib.hid (FO.out.keep0 g)
  clear ro
  have H4 := Lib.hid (gb_trans H3.out g)
  clear g
  try dsimp only
  refine hK.out _ _ (KS.out _ H4.out) (fun hH4 => ?_)
  clear hK K hH3
  try simp only [Act.put, List.getElem_toArray, List.getElem_cons_succ, List.getElem_cons_zero, List.setIfInBounds_toArray, List.set_cons_zero, List.set_cons_succ]
  refine wpAnyH_ready (rs := [26]) (by kernel_rfl) (by simp) ?_
  refine AllReadyH.cons (o := _) rfl (fun K hK => ?_) AllReadyH.nil
  go_simp
  (with_reducible refine (EF.out _ _ _ _ _ FO.out RO.out).mono ?_)
  rintro e hw5 ⟨rfl, g⟩
  clear FO RO
  have H5 := Lib.hid (gb_trans H4.out g)
  clear g
  try dsimp only
  refine hK.out _ _ (KS.out _ H5.out) (fun hH5 => ?_)
  clear hK K hH4
  try simp only [Act.put, List.getElem_toArray, List.getElem_cons_succ, List.getElem_cons_zero, List.setIfInBounds_toArray, List.set_cons_zero, List.set_cons_succ]
  refine wpAnyH_take (i := 27) (v := ?v5031) rfl (by kernel_rfl) (by kernel_rfl) (by kernel_rfl) (fun _ _ _ h => h) (Or.inl ⟨by rfl, ?hy5031⟩) (by assumption) ?rest5031
  case hy5031 => (intro wz hSw; (try dsimp only at hSw); first | (go_simp; done) | (go_simp; with_reducible rfl))
  try simp only [Act.put, List.getElem_toArray, List.getElem_cons_succ, List.getElem_cons_zero, List.setIfInBounds_toArray, List.set_cons_zero, List.set_cons_succ]
  refine wpAnyH_take (i := 28) (v := ?v5032) rfl (by kernel_rfl) (by kernel_rfl) (by kernel_rfl) (fun _ _ _ h => h) (Or.inl ⟨by rfl, ?hy5032⟩) (by assumption) ?rest5032
  case hy5032 => (intro wz hSw; (try dsimp only at hSw); first | (go_simp; done) | (go_simp; with_reducible rfl))
  try simp only [Act.put, List.getElem_toArray, List.getElem_cons_succ, List.getElem_cons_zero, List.setIfInBounds_toArray, List.set_cons_zero, List.set_cons_succ]
  refine wpAnyH_take (i := 29) (v := ?v5033) rfl (by kernel_rfl) (by kernel_rfl) (by kernel_rfl) (fun _ _ _ h => h) (Or.inl ⟨by rfl, ?hy5033⟩) (by assumption) ?rest5033
  case hy5033 => (intro wz hSw; (try dsimp only at hSw); first | (go_simp; done) | (go_simp; with_reducible rfl))
  try simp only [Act.put, List.getElem_toArray, List.getElem_cons_succ, List.getElem_cons_zero, List.setIfInBounds_toArray, List.set_cons_zero, List.set_cons_succ]
  refine wpAnyH_take (i := 30) (v := ?v5034) rfl (by kernel_rfl) (by kernel_rfl) (by kernel_rfl) (fun _ _ _ h => h) (Or.inl ⟨by rfl, ?hy5034⟩) (by assumption) ?rest5034
  case hy5034 => (intro wz hSw; (try dsimp only at hSw); first | (go_simp; done) | (go_simp; with_reducible rfl))
  try simp only [Act.put, List.getElem_toArray, List.getElem_cons_succ, List.getElem_cons_zero, List.setIfInBounds_toArray, List.set_cons_zero, List.set_cons_succ]
  refine wpAnyH_take (i := 32) (v := ?v5035) rfl (by kernel_rfl) (by kernel_rfl) (by kernel_rfl) (fun _ _ _ h => h) (Or.inl ⟨by rfl, ?hy5035⟩) (by assumption) ?rest5035
  case hy5035 => (intro wz hSw; (try dsimp only at hSw); first | (go_simp; done) | (go_simp; with_reducible rfl))
  try simp only [Act.put, List.getElem_toArray, List.getElem_cons_succ, List.getElem_cons_zero, List.setIfInBounds_toArray, List.set_cons_zero, List.set_cons_succ]
  refine wpAnyH_take (i := 33) (v := ?v5036) rfl (by kernel_rfl) (by kernel_rfl) (by kernel_rfl) (fun _ _ _ h => h) (Or.inl ⟨by rfl, ?hy5036⟩) (by assumption) ?rest5036
  case hy5036 => (intro wz hSw; (try dsimp only at hSw); first | (go_simp; done) | (go_simp; with_reducible rfl))
  try simp only [Act.put, List.getElem_toArray, List.getElem_cons_succ, List.getElem_cons_zero, List.setIfInBounds_toArray, List.set_cons_zero, List.set_cons_succ]
  refine wpAnyH_ready (rs := [31]) (by kernel_rfl) (by simp) ?_
  refine AllReadyH.cons (o := _) rfl (fun K hK => ?_) AllReadyH.nil
  go_simp
  (with_reducible refine (KH.out _ (gb_trans G7.out H5.out)).mono ?_)
  rintro e hw6 ⟨ha, hc, rfl, ho, g⟩
  have HO := Lib.hid (nl_sz ho rfl)
  clear ho
  have H6 := Lib.hid (gb_trans H5.out g)
  clear g
  try dsimp only
  refine hK.out _ _ (KS.out _ H6.out) (fun hH6 => ?_)
  clear hK K hH5
  try simp only [Act.put, List.getElem_toArray, List.getElem_cons_succ, List.getElem_cons_zero, List.setIfInBounds_toArray, List.set_cons_zero, List.set_cons_succ]
  refine wpAnyH_ready (rs := [34]) (by kernel_rfl) (by simp) ?_
  refine AllReadyH.cons (o := _) rfl (fun K hK => ?_) AllReadyH.nil
  go_simp
  (with_reducible refine (RH.out _ (gb_trans G7.out H6.out)).mono ?_)
  rintro e hw7 ⟨ja, jc, rfl, jo, g⟩
  have JO := Lib.hid (nl_sz jo rfl)
  replace HO := Lib.hid (HO.out.keep0 g)
  clear jo
  have H7 := Lib.hid (gb_trans H6.out g)
  clear g
  try dsimp only
  refine hK.out _ _ (KS.out _ H7.out) (fun hH7 => ?_)
  clear hK K hH6
  try simp only [Act.put, List.getElem_toArray, List.getElem_cons_succ, List.getElem_cons_zero, List.setIfInBounds_toArray, List.set_cons_zero, List.set_cons_succ]
  refine wpAnyH_ready (rs := [35]) (by kernel_rfl) (by simp) ?_
  refine AllReadyH.cons (o := _) rfl (fun K hK => ?_) AllReadyH.nil
  go_simp
  (with_reducible refine (EI.out _ _ _ _ _ HO.out JO.out).mono ?_)
  rintro e hw8 ⟨rfl, g⟩
  clear HO JO
  have H8 := Lib.hid (gb_trans H7.out g)
  clear g
  try dsimp only
  refine hK.out _ _ (KS.out _ H8.out) (fun hH8 => ?_)
  clear hK K hH7
  try simp only [Act.put, List.getElem_toArray, List.getElem_cons_succ, List.getElem_cons_zero, List.setIfInBounds_toArray, List.set_cons_zero, List.set_cons_succ]
  refine wpAnyH_take (i := 36) (v := ?v5037) rfl (by kernel_rfl) (by kernel_rfl) (by kernel_rfl) (fun _ _ _ h => h) (Or.inl ⟨by rfl, ?hy5037⟩) (by assumption) ?rest5037
  case hy5037 => (intro wz hSw; (try dsimp only at hSw); first | (go_simp; done) | (go_simp; with_reducible rfl))
  try simp only [Act.put, List.getElem_toArray, List.getElem_cons_succ, List.getElem_cons_zero, List.setIfInBounds_toArray, List.set_cons_zero, List.set_cons_succ]
  refine wpAnyH_take (i := 37) (v := ?v5038) rfl (by kernel_rfl) (by kernel_rfl) (by kernel_rfl) (fun _ _ _ h => h) (Or.inl ⟨by rfl, ?hy5038⟩) (by assumption) ?rest5038
  case hy5038 => (intro wz hSw; (try dsimp only at hSw); first | (go_simp; done) | (go_simp; with_reducible rfl))
  try simp only [Act.put, List.getElem_toArray, List.getElem_cons_succ, List.getElem_cons_zero, List.setIfInBounds_toArray, List.set_cons_zero, List.set_cons_succ]
  refine wpAnyH_ready (rs := [38]) (by kernel_rfl) (by simp) ?_
  refine AllReadyH.cons (o := _) rfl (fun K hK => ?_) AllReadyH.nil
  go_simp
  (with_reducible refine (AW.out _).mono ?_)
  rintro e hw9 ⟨rfl, g⟩
  have H9 := Lib.hid (gb_trans H8.out g)
  clear g
  try dsimp only
  refine hK.out _ _ (KS.out _ H9.out) (fun hH9 => ?_)
  clear hK K hH8
  try simp only [Act.put, List.getElem_toArray, List.getElem_cons_succ, List.getElem_cons_zero, List.setIfInBounds_toArray, List.set_cons_zero, List.set_cons_succ]
  refine wpAnyH_take (i := 39) (v := ?v5039) rfl (by kernel_rfl) (by kernel_rfl) (by kernel_rfl) (fun _ _ _ h => h) (Or.inl ⟨by rfl, ?hy5039⟩) (by assumption) ?rest5039
  case hy5039 => (intro wz hSw; (try dsimp only at hSw); first | (go_simp; done) | (go_simp; with_reducible rfl))
  try simp only [Act.put, List.getElem_toArray, List.getElem_cons_succ, List.getElem_cons_zero, List.setIfInBounds_toArray, List.set_cons_zero, List.set_cons_succ]
  refine wpAnyH_take (i := 40) (v := ?v5040) rfl (by kernel_rfl) (by kernel_rfl) (by kernel_rfl) (fun _ _ _ h => h) (Or.inl ⟨by rfl, ?hy5040⟩) (by assumption) ?rest5040
  case hy5040 => (intro wz hSw; (try dsimp only at hSw); first | (go_simp; done) | (go_simp; with_reducible rfl))
  try simp only [Act.put, List.getElem_toArray, List.getElem_cons_succ, List.getElem_cons_zero, List.setIfInBounds_toArray, List.set_cons_zero, List.set_cons_succ]
  refine wpAnyH_done (by kernel_rfl) ?_ _
  clear hH9
  have GZ := Lib.hid (gb_trans G7.out H9.out)
  clear KS
  go_wp2
  go_ret
  exact ⟨rfl, GZ.out⟩
end Go.Proofs.YtcicjodpkbcigaaGreat
