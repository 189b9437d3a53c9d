/- Expr: the walk's block in memory, and what its leaves come to; no condition. -/
import Derived.Test.YtfjeonoihdgdoaaExF
namespace Go.Proofs.Ytfjeonoihdgdoaa
open Go.RowKit
set_option linter.unusedVariables false
/-- The raw values that a walk's block holds. -/
structure KX where
  na : Option Addr
  nn : Nat
  nc : Nat
  nm : ByteArray
  ha : Option Addr
  hn : Nat
  hc : Nat
  ma : Option Addr
  mn : Nat
  mc : Nat
  a0 : Option Addr
  n0 : Nat
  c0 : Nat
  a1 : Option Addr
  n1 : Nat
  c1 : Nat
  a2 : Option Addr
  n2 : Nat
  c2 : Nat
  a3 : Option Addr
  n3 : Nat
  c3 : Nat
  a4 : Option Addr
  n4 : Nat
  c4 : Nat
  a5 : Option Addr
  n5 : Nat
  c5 : Nat
  pa : Option Addr
  pn : Nat
  pc : Nat
  va : Option Addr
  vn : Nat
  vc : Nat
  fa : Option Addr
  fn : Nat
  fc : Nat
  ta : Option Addr
  tn : Nat
  tc : Nat
  la : Option Addr
  ln : Nat
  lc : Nat
  aa : Option Addr
  an : Nat
  ac : Nat
def kc (X : KX) (k : Nat) : Array Value := #[.slice X.na X.nn X.nc, .int .i64 (k : Int), .string X.nm, .slice X.ha X.hn X.hc, .slice X.ma X.mn X.mc, .slice X.a0 X.n0 X.c0, .slice X.a1 X.n1 X.c1, .slice X.a2 X.n2 X.c2, .slice X.a3 X.n3 X.c3, .slice X.a4 X.n4 X.c4, .slice X.a5 X.n5 X.c5, .slice X.pa X.pn X.pc, .slice X.va X.vn X.vc, .slice X.fa X.fn X.fc, .slice X.ta X.tn X.tc, .slice X.la X.ln X.lc, .slice X.aa X.an X.ac]
/-- What those values read as. -/
structure CR (w : World) (X : KX) (C : Cx) (N : List Nd) : Prop where
  nd : SN w X.na X.nn X.nc N
  hd : SH w X.ha X.hn X.hc C.H
  md : SF w X.ma X.mn X.mc C.M
  pd : SF w X.pa X.pn X.pc C.P
  vd : SB w X.va X.vn X.vc C.V
  fd : SR w X.fa X.fn X.fc C.F
  td : SU w X.ta X.tn X.tc C.T
  ad : SU w X.aa X.an X.ac C.A
theorem CR.keep0 {w w2 : World} {X : KX} {C : Cx} {N : List Nd} (h : CR w X C N) (k : w.grownBy w2 none) : CR w2 X C N :=
  ⟨h.nd.keep0 k, h.hd.keep0 k, h.md.keep0 k, h.pd.keep0 k, h.vd.keep0 k, h.fd.keep0 k, h.td.keep0 k, h.ad.keep0 k⟩
set_option maxRecDepth 100000 in
set_option maxHeartbeats 16000000 in
theorem kparam_any (w : World) (g : Nat) (X : KX) (k : Nat) (C : Cx) (N : List Nd) (hB : IsB w g 85 (kc X k)) (hC : CR w X C N) (i : Int) :
    Calls Try.prog 99 #[.pointer (some ⟨g, 0, none⟩), .int .i64 i] w (RetT (paramT C i) w) := by
  have BK := Lib.hid hB
  have CC := Lib.hid hC
  have PD := Lib.hid hC.pd
  have AD := Lib.hid hC.ad
  have LP := Lib.hid hC.pd.len
  have LA := Lib.hid hC.ad.len
  have pcap := hC.pd.cap
  have acap := hC.ad.cap
  have HD := Lib.hid (show paramT C i = if isX i X.pn = true then (if okW (C.P.getD i.toNat fz).2 = true then (if (X.an : Int) ≤ i then .ok ((C.P.getD i.toNat fz).2, 0) else .ok ((C.P.getD i.toNat fz).2, redB (C.A.getD i.toNat 0) (C.P.getD i.toNat fz).2)) else .error 10) else .error 8 by unfold paramT; rw [LP.out, LA.out])
  have IX := Lib.hid (fun w => isx_any w i X.pn)
  unfold RetS at IX
  clear hB hC
  obtain ⟨W2, hW2⟩ : ∃ W2, W2 = (w.alloc (.cells #[.int .i64 0, .int .u32 0] 88)) := ⟨_, rfl⟩
  have G2 := Lib.hid (show w.grownBy W2 none from by rw [hW2]; exact gb_al (gb_refl _ _))
  obtain ⟨A, hA⟩ : ∃ A, A = w.heap.size := ⟨_, rfl⟩
  have HA := Lib.hid (show w.heap.size ≤ A by omega)
  have B0 := Lib.hid (show IsB W2 A 88 #[.int .i64 0, .int .u32 0] from by rw [hW2, hA]; exact isb1 _ _ _ )
  go_enter Try.func99, Try.ntmps99
  go_upto_region 1 with fail
  rw [← hW2, ← hA]
  clear hW2 hA
  have BW := Lib.hid (BK.out.keep0 G2.out)
  have wc11 : W2.cell? ⟨g, 11, none⟩ = some (.slice X.pa X.pn X.pc) := (BW.out).cell 11
  have wc16 : W2.cell? ⟨g, 16, none⟩ = some (.slice X.aa X.an X.ac) := (BW.out).cell 16
  have k00 := ((B0.out)).cell 0
  have k01 := ((B0.out)).cell 1
  simp at k00 k01
  have f00 := ((B0.out)).free 0
  have f01 := ((B0.out)).free 1
  cases hx : isX i X.pn with
  | false =>
    rw [hx] at IX HD
    rw [if_neg (by decide)] at HD
    clear hx
    go_wp2_with fail
    refine (IX.out _).mono ?_
    rintro e w3 ⟨rfl, rfl⟩
    go_wp2
    (try simp only [Exit.inBlock, Exit.then])
    refine bodyPost_ret (v := (.tuple #[.agg #[.int .i64 (0), .int .u32 (0)], .int .i64 (8)])) (by rw [results_cell_tmp rfl]; go_simp) rfl ⟨by rw [HD.out] <;> rfl, ?_⟩
    exact gb_put (gb_put (G2.out) (by have := HA.out; omega)) (by have := HA.out; omega)
  | true =>
    rw [hx] at IX HD
    rw [if_pos rfl] at HD
    obtain ⟨j, rfl, hj⟩ := isx_nat hx
    have hpa := PD.out.some (by omega)
    obtain ⟨ad, hpa⟩ := hpa
    obtain ⟨c0, c1⟩ := (PD.out.keep0 G2.out).cells ad hpa j hj
    rw [Int.toNat_natCast] at HD
    generalize (C.P.getD j fz).2 = wd at *
    have i1 : (j : Int) < X.pn := by omega
    have i0 : (0 : Int) ≤ (j : Int) := by omega
    have IW := Lib.hid (fun w => isw_any w wd)
    unfold RetV at IW
    rw [hpa] at wc11
    clear hx c0
    cases ho : okW wd with
    | false =>
      rw [ho] at IW HD
      rw [if_neg (by decide)] at HD
      clear ho
      go_wp2_with fail
      refine (IX.out _).mono ?_
      rintro e w3 ⟨rfl, rfl⟩
      go_wp2_with fail
      refine (IW.out _).mono ?_
      rintro e w4 ⟨rfl, g4⟩
      have G4 := Lib.hid (gb_trans G2.out g4)
      clear f00 f01 k00 k01
      have k00 := ((B0.out.keep0 g4)).cell 0
      have k01 := ((B0.out.keep0 g4)).cell 1
      simp at k00 k01
      have f00 := ((B0.out.keep0 g4)).free 0
      have f01 := ((B0.out.keep0 g4)).free 1
      clear g4
      go_wp2
      (try simp only [Exit.inBlock, Exit.then])
      refine bodyPost_ret (v := (.tuple #[.agg #[.int .i64 (0), .int .u32 (0)], .int .i64 (10)])) (by rw [results_cell_tmp rfl]; go_simp) rfl ⟨by rw [HD.out] <;> rfl, ?_⟩
      exact gb_put (gb_put (G4.out) (by have := HA.out; omega)) (by have := HA.out; omega)
    | true =>
      rw [ho] at IW HD
      rw [if_pos rfl] at HD
      clear ho
      by_cases hl : (X.an : Int) ≤ (j : Int)
      · rw [if_pos hl] at HD
        go_wp2_with fail
        refine (IX.out _).mono ?_
        rintro e w3 ⟨rfl, rfl⟩
        go_wp2_with fail
        refine (IW.out _).mono ?_
        rintro e w4 ⟨rfl, g4⟩
        have G4 := Lib.hid (gb_trans G2.out g4)
        clear f00 f01 k00 k01
        have wc16 : w4.cell? ⟨g, 16, none⟩ = some (.slice X.aa X.an X.ac) := (BW.out.keep0 g4).cell 16
        have k00 := ((B0.out.keep0 g4)).cell 0
        have k01 := ((B0.out.keep0 g4)).cell 1
        simp at k00 k01
        have f00 := ((B0.out.keep0 g4)).free 0
        have f01 := ((B0.out.keep0 g4)).free 1
        clear g4
        go_wp2
        (try simp only [Exit.inBlock, Exit.then])
        refine bodyPost_ret (v := (.tuple #[.agg #[.int .i64 (wd), .int .u32 (0)], .int .i64 (0)])) (by rw [results_cell_tmp rfl]; go_simp) rfl ⟨by rw [HD.out] <;> rfl, ?_⟩
        exact gb_put (gb_put (G4.out) (by have := HA.out; omega)) (by have := HA.out; omega)
      · rw [if_neg hl] at HD
        have hl2 : ¬ (X.an : Int) ≤ (j : Int) := hl
        have hja : j < X.an := by omega
        obtain ⟨aad, haa⟩ := AD.out.some (by omega)
        have CJ := Lib.hid (fun (w2 : World) (gk : w.grownBy w2 none) => (AD.out.keep0 gk).cells aad haa j hja)
        have ra := AD.out.at_ j
        generalize C.A.getD j 0 = b at *
        have ia : (j : Int) < X.an := by omega
        have AM := and_mask b wd ra.1 ra.2
        have MK := Lib.hid (fun W => mask_any wd W)
        unfold Ret at MK
        generalize redB b wd = r at *
        generalize mkB wd = mk at *
        go_wp2_with fail
        refine (IX.out _).mono ?_
        rintro e w3 ⟨rfl, rfl⟩
        go_wp2_with fail
        refine (IW.out _).mono ?_
        rintro e w4 ⟨rfl, g4⟩
        have G4 := Lib.hid (gb_trans G2.out g4)
        have BP4 := B0.out.keep0 g4
        clear f00 f01 k00 k01
        have wc16 : w4.cell? ⟨g, 16, none⟩ = some (.slice X.aa X.an X.ac) := (BW.out.keep0 g4).cell 16
        go_upto_region 8 with fail
        clear g4
        have KT := Lib.hid (fun (w' : World) (gk : w.grownBy w' none) => (⟨by rw [← haa]; exact (BK.out.keep0 gk).cell 16, CJ.out w' gk, trivial⟩ : (fun w' : World => w'.cell? ⟨g, 16, none⟩ = some (.slice (some aad) X.an X.ac) ∧ w'.cell? (aad.add j) = some (.int .u32 b) ∧ True) w'))
        refine wp_region_held_drew (S := (fun w' : World => w'.cell? ⟨g, 16, none⟩ = some (.slice (some aad) X.an X.ac) ∧ w'.cell? (aad.add j) = some (.int .u32 b) ∧ True)) (by kernel_rfl) (KT.out _ (gb_trans G4.out (gb_drew _ none))) (fun hH0 => ?_)
        refine wpAnyH_take (i := 0) (v := ?v1) rfl (by kernel_rfl) (by kernel_rfl) (by kernel_rfl) (fun _ _ _ h => h) (Or.inl ⟨by rfl, ?hy1⟩) (by assumption) ?rest1
        case hy1 => (intro wz hSw; (try dsimp only at hSw); first | (go_simp; done) | (go_simp; with_reducible rfl))
        try simp only [Act.put, List.getElem_toArray, List.getElem_cons_zero, List.setIfInBounds_toArray, List.set_cons_zero, List.set_cons_succ]
        refine wpAnyH_take (i := 1) (v := ?v2) rfl (by kernel_rfl) (by kernel_rfl) (by kernel_rfl) (fun _ _ _ h => h) (Or.inl ⟨by rfl, ?hy2⟩) (by assumption) ?rest2
        case hy2 => (intro wz hSw; (try dsimp only at hSw); first | (go_simp; done) | (go_simp; with_reducible rfl))
        try simp only [Act.put, List.getElem_toArray, List.getElem_cons_succ, List.getElem_cons_zero, List.setIfInBounds_toArray, List.set_cons_zero, List.set_cons_succ]
        refine wpAnyH_take (i := 2) (v := ?v3) rfl (by kernel_rfl) (by kernel_rfl) (by kernel_rfl) (fun _ _ _ h => h) (Or.inl ⟨by rfl, ?hy3⟩) (by assumption) ?rest3
        case hy3 => (intro wz hSw; (try dsimp only at hSw); first | (go_simp; done) | (go_simp; with_reducible rfl))
        try simp only [Act.put, List.getElem_toArray, List.getElem_cons_succ, List.getElem_cons_zero, List.setIfInBounds_toArray, List.set_cons_zero, List.set_cons_succ]
        refine wpAnyH_take (i := 3) (v := ?v4) rfl (by kernel_rfl) (by kernel_rfl) (by kernel_rfl) (fun _ _ _ h => h) (Or.inl ⟨by rfl, ?hy4⟩) (by assumption) ?rest4
        case hy4 => (intro wz hSw; (try dsimp only at hSw); first | (go_simp; done) | (go_simp; with_reducible rfl))
        try simp only [Act.put, List.getElem_toArray, List.getElem_cons_succ, List.getElem_cons_zero, List.setIfInBounds_toArray, List.set_cons_zero, List.set_cons_succ]
        refine wpAnyH_take (i := 4) (v := ?v5) rfl (by kernel_rfl) (by kernel_rfl) (by kernel_rfl) (fun _ _ _ h => h) (Or.inl ⟨by rfl, ?hy5⟩) (by assumption) ?rest5
        case hy5 => (intro wz hSw; (try dsimp only at hSw); first | (go_simp; done) | (go_simp; with_reducible rfl))
        try simp only [Act.put, List.getElem_toArray, List.getElem_cons_succ, List.getElem_cons_zero, List.setIfInBounds_toArray, List.set_cons_zero, List.set_cons_succ]
        refine wpAnyH_take (i := 5) (v := ?v6) rfl (by kernel_rfl) (by kernel_rfl) (by kernel_rfl) (fun _ _ _ h => h) (Or.inl ⟨by rfl, ?hy6⟩) (by assumption) ?rest6
        case hy6 => (intro wz hSw; (try dsimp only at hSw); first | (go_simp; done) | (go_simp; with_reducible rfl))
        try simp only [Act.put, List.getElem_toArray, List.getElem_cons_succ, List.getElem_cons_zero, List.setIfInBounds_toArray, List.set_cons_zero, List.set_cons_succ]
        refine wpAnyH_take (i := 6) (v := ?v7) rfl (by kernel_rfl) (by kernel_rfl) (by kernel_rfl) (fun _ _ _ h => h) (Or.inl ⟨by rfl, ?hy7⟩) (by assumption) ?rest7
        case hy7 => (intro wz hSw; (try dsimp only at hSw); first | (go_simp; done) | (go_simp; with_reducible rfl))
        try simp only [Act.put, List.getElem_toArray, List.getElem_cons_succ, List.getElem_cons_zero, List.setIfInBounds_toArray, List.set_cons_zero, List.set_cons_succ]
        refine wpAnyH_take (i := 7) (v := ?v8) rfl (by kernel_rfl) (by kernel_rfl) (by kernel_rfl) (fun _ _ _ h => h) (Or.inl ⟨by rfl, ?hy8⟩) (by assumption) ?rest8
        case hy8 => (intro wz hSw; (try dsimp only at hSw); first | (go_simp; done) | (go_simp; with_reducible rfl))
        try simp only [Act.put, List.getElem_toArray, List.getElem_cons_succ, List.getElem_cons_zero, List.setIfInBounds_toArray, List.set_cons_zero, List.set_cons_succ]
        refine wpAnyH_take (i := 8) (v := ?v9) rfl (by kernel_rfl) (by kernel_rfl) (by kernel_rfl) (fun _ _ _ h => h) (Or.inl ⟨by rfl, ?hy9⟩) (by assumption) ?rest9
        case hy9 => (intro wz hSw; (try dsimp only at hSw); first | (go_simp; done) | (go_simp; with_reducible rfl))
        try simp only [Act.put, List.getElem_toArray, List.getElem_cons_succ, List.getElem_cons_zero, List.setIfInBounds_toArray, List.set_cons_zero, List.set_cons_succ]
        refine wpAnyH_ready (rs := [9]) (by kernel_rfl) (by simp) ?_
        refine AllReadyH.cons (o := _) rfl (fun K hK => ?_) AllReadyH.nil
        go_simp
        refine (MK.out _).mono ?_
        rintro e w5 ⟨rfl, g⟩
        have GW0 := gb_trans (gb_trans G4.out (gb_drew _ none)) (gb_gr g none)
        have BP := BP4.keep0 (gb_trans (gb_drew _ none) (gb_gr g none))
        try dsimp only
        refine hK.out _ _ (KT.out _ GW0) (fun hH1 => ?_)
        clear hK K hH0
        try simp only [Act.put, List.getElem_toArray, List.getElem_cons_succ, List.getElem_cons_zero, List.setIfInBounds_toArray, List.set_cons_zero, List.set_cons_succ]
        refine wpAnyH_take (i := 10) (v := ?v10) rfl (by kernel_rfl) (by kernel_rfl) (by kernel_rfl) (fun _ _ _ h => h) (Or.inl ⟨by rfl, ?hy10⟩) (by assumption) ?rest10
        case hy10 => (intro wz hSw; (try dsimp only at hSw); first | (go_simp; done) | (go_simp; with_reducible rfl))
        try simp only [Act.put, List.getElem_toArray, List.getElem_cons_succ, List.getElem_cons_zero, List.setIfInBounds_toArray, List.set_cons_zero, List.set_cons_succ]
        refine wpAnyH_take (i := 11) (v := ?v11) rfl (by kernel_rfl) (by kernel_rfl) (by kernel_rfl) (fun _ _ _ h => h) (Or.inl ⟨by rfl, ?hy11⟩) (by assumption) ?rest11
        case hy11 => (intro wz hSw; (try dsimp only at hSw); first | (go_simp; done) | (go_simp; with_reducible rfl))
        try simp only [Act.put, List.getElem_toArray, List.getElem_cons_succ, List.getElem_cons_zero, List.setIfInBounds_toArray, List.set_cons_zero, List.set_cons_succ]
        refine wpAnyH_ready (rs := [12]) (by kernel_rfl) (by simp) ?_
        refine AllReadyH.cons (o := _) rfl (fun K hK => ?_) AllReadyH.nil
        have q0 := BP.cell 0
        have q1 := BP.cell 1
        have f0 := BP.free 0
        have f1 := BP.free 1
        simp at q0 q1
        go_simp
        try dsimp only
        refine hK.out _ _ (KT.out _ (gb_put (gb_put (GW0) (by have := HA.out; omega)) (by have := HA.out; omega))) (fun hH2 => ?_)
        clear hK K hH1
        try simp only [Act.put, List.getElem_toArray, List.getElem_cons_succ, List.getElem_cons_zero, List.setIfInBounds_toArray, List.set_cons_zero, List.set_cons_succ]
        refine wpAnyH_take (i := 13) (v := ?v12) rfl (by kernel_rfl) (by kernel_rfl) (by kernel_rfl) (fun _ _ _ h => h) (Or.inl ⟨by rfl, ?hy12⟩) (by assumption) ?rest12
        case hy12 => (intro wz hSw; (try dsimp only at hSw); first | (go_simp; done) | (go_simp; with_reducible rfl))
        try simp only [Act.put, List.getElem_toArray, List.getElem_cons_succ, List.getElem_cons_zero, List.setIfInBounds_toArray, List.set_cons_zero, List.set_cons_succ]
        refine wpAnyH_done (by kernel_rfl) ?_ _
        clear hH2 KT
        go_wp2
        (try simp only [Exit.inBlock, Exit.then])
        refine bodyPost_ret (v := (.tuple #[.agg #[.int .i64 (wd), .int .u32 (r)], .int .i64 (0)])) (by rw [results_cell_tmp rfl]; go_simp) rfl ⟨by rw [HD.out] <;> rfl, ?_⟩
        exact gb_put (gb_put (GW0) (by have := HA.out; omega)) (by have := HA.out; omega)
set_option maxRecDepth 100000 in
set_option maxHeartbeats 8000000 in
theorem kvalid_any (w : World) (g : Nat) (X : KX) (k : Nat) (C : Cx) (N : List Nd) (hB : IsB w g 85 (kc X k)) (hC : CR w X C N) (i : Int) :
    Calls Try.prog 100 #[.pointer (some ⟨g, 0, none⟩), .int .i64 i] w (RetT (validT C i) w) := by
  have BK := Lib.hid hB
  have HDD := Lib.hid hC.hd
  have VD := Lib.hid hC.vd
  have LH := Lib.hid hC.hd.len
  have LV := Lib.hid hC.vd.len
  have vcap := hC.vd.cap
  have HD := Lib.hid (show validT C i = if isX i X.hn = true then .ok (1, bitI (isX i X.vn && C.V.getD i.toNat false)) else .error 8 by unfold validT validB; rw [LH.out, LV.out])
  have IX := Lib.hid (fun w => isx_any w i X.hn)
  unfold RetS at IX
  clear hB hC
  obtain ⟨W2, hW2⟩ : ∃ W2, W2 = (w.alloc (.cells #[.int .i64 0, .int .u32 0] 88)) := ⟨_, rfl⟩
  have G2 := Lib.hid (show w.grownBy W2 none from by rw [hW2]; exact gb_al (gb_refl _ _))
  obtain ⟨A, hA⟩ : ∃ A, A = w.heap.size := ⟨_, rfl⟩
  have HA := Lib.hid (show w.heap.size ≤ A by omega)
  have B0 := Lib.hid (show IsB W2 A 88 #[.int .i64 0, .int .u32 0] from by rw [hW2, hA]; exact isb1 _ _ _ )
  go_enter Try.func100, Try.ntmps100
  go_upto_region 1 with fail
  rw [← hW2, ← hA]
  clear hW2 hA
  have BW := Lib.hid (BK.out.keep0 G2.out)
  have wc3 : W2.cell? ⟨g, 3, none⟩ = some (.slice X.ha X.hn X.hc) := (BW.out).cell 3
  have wc12 : W2.cell? ⟨g, 12, none⟩ = some (.slice X.va X.vn X.vc) := (BW.out).cell 12
  have k00 := ((B0.out)).cell 0
  have k01 := ((B0.out)).cell 1
  simp at k00 k01
  have f00 := ((B0.out)).free 0
  have f01 := ((B0.out)).free 1
  cases hx : isX i X.hn with
  | false =>
    rw [hx] at IX HD
    rw [if_neg (by decide)] at HD
    clear hx
    go_wp2_with fail
    refine (IX.out _).mono ?_
    rintro e w3 ⟨rfl, rfl⟩
    go_wp2
    (try simp only [Exit.inBlock, Exit.then])
    refine bodyPost_ret (v := (.tuple #[.agg #[.int .i64 (0), .int .u32 (0)], .int .i64 (8)])) (by rw [results_cell_tmp rfl]; go_simp) rfl ⟨by rw [HD.out] <;> rfl, ?_⟩
    exact gb_put (gb_put (G2.out) (by have := HA.out; omega)) (by have := HA.out; omega)
  | true =>
    rw [hx] at IX HD
    rw [if_pos rfl] at HD
    obtain ⟨j, rfl, hj⟩ := isx_nat hx
    rw [Int.toNat_natCast] at HD
    have i0 : (0 : Int) ≤ (j : Int) := by omega
    clear hx
    by_cases hv : j < X.vn
    · have xv : isX (j : Int) X.vn = true := (isX_iff _ _).2 ⟨by omega, by omega⟩
      rw [xv, Bool.true_and] at HD
      have i1 : (j : Int) < X.vn := by omega
      obtain ⟨vad, hva⟩ := VD.out.some (by omega)
      have c1 := (VD.out.keep0 G2.out).cells vad hva j hv
      rw [hva] at wc12
      generalize C.V.getD j false = b at *
      clear xv
      go_wp2_with fail
      refine (IX.out _).mono ?_
      rintro e w3 ⟨rfl, rfl⟩
      go_wp2_with fail
      refine (bit_any _ b).mono ?_
      rintro e w4 ⟨rfl, rfl⟩
      go_wp2
      (try simp only [Exit.inBlock, Exit.then])
      refine bodyPost_ret (v := (.tuple #[.agg #[.int .i64 (1), .int .u32 (bitI b)], .int .i64 (0)])) (by rw [results_cell_tmp rfl]; go_simp) rfl ⟨by rw [HD.out] <;> rfl, ?_⟩
      exact gb_put (gb_put (G2.out) (by have := HA.out; omega)) (by have := HA.out; omega)
    · have xv : isX (j : Int) X.vn = false := (isX_not _ _).2 (fun h => hv (by omega))
      rw [xv, Bool.false_and] at HD
      have i1 : ¬ (j : Int) < X.vn := by omega
      clear xv
      go_wp2_with fail
      refine (IX.out _).mono ?_
      rintro e w3 ⟨rfl, rfl⟩
      go_wp2_with fail
      refine (bit_any _ false).mono ?_
      rintro e w4 ⟨rfl, rfl⟩
      go_wp2
      (try simp only [Exit.inBlock, Exit.then])
      refine bodyPost_ret (v := (.tuple #[.agg #[.int .i64 (1), .int .u32 (bitI false)], .int .i64 (0)])) (by rw [results_cell_tmp rfl]; go_simp) rfl ⟨by rw [HD.out] <;> rfl, ?_⟩
      exact gb_put (gb_put (G2.out) (by have := HA.out; omega)) (by have := HA.out; omega)
end Go.Proofs.Ytfjeonoihdgdoaa
