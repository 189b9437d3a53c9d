/- Env: the laws Operations; no condition. -/
import Derived.Test.YtolifmpnhflegaaEwC
import Derived.Test.YtolifmpnhflegaaEvP
import Derived.Test.YtolifmpnhflegaaEvS
import Derived.Test.YtolifmpnhflegaaEvU
namespace Go.Proofs.Ytolifmpnhflegaa
open Go.RowKit
set_option linter.unusedVariables false
theorem sizeE_ch {L : EL} (h : sizeE L) (g : Int → Int → Int → Int) : sizeE (chE g L) := by
  obtain ⟨a, b, c, d, e⟩ := h
  refine ⟨a, by show (chF g L.F).length ≤ 16; rw [chF_len2]; exact b, by show (chL (g (-1)) L.T).length ≤ 16; rw [chL_len]; exact c, d, fun i hi => ?_⟩
  have hi : i < L.F.length := by rw [← chF_len2 g L.F]; exact hi
  show ((chF g L.F).getD i []).length ≤ 16
  rw [chF_gd, chL_len]; exact e i hi
theorem sizeE_set {L : EL} (h : sizeE L) (H : List (ByteArray × List Fld)) (M : List Fld) (rh rf v : Int) : sizeE (setE H M L rh rf v) := by
  unfold setE
  split
  · exact h
  · exact sizeE_ch h _
theorem sizeE_with {L : EL} (h : sizeE L) (j : Nat) (b : Bool) : sizeE (withE L j b) := by
  obtain ⟨a, q⟩ := sizeE_ch h (zerG j)
  exact ⟨by show (L.V.set j b).length ≤ 16; rw [List.length_set]; exact a, q⟩
theorem sizeE_if {L : EL} (h : sizeE L) (c : Bool) (j : Nat) (b : Bool) : sizeE (if c = true then withE L j b else L) := by
  split
  · exact sizeE_with h j b
  · exact h
set_option maxRecDepth 100000 in
set_option maxHeartbeats 4000000 in
theorem ops_walk (w : World) (nm v3 v4 v5 v6 v7 v8 : Value) (ha ma : Option Addr) (hn hc mn mc : Nat) (H : List (ByteArray × List Fld)) (M : List Fld) (hH : SH w ha hn hc H) (hM : SF w ma mn mc M) (X : EX) (L : EL) (he : ER w X L) (rh rf v hd : Int) (v0 : 0 ≤ v) (v1 : v < 4294967296) : Calls Try.prog 4 #[.agg #[nm, .slice ha hn hc, .slice ma mn mc, v3, v4, v5, v6, v7, v8], .agg #[.slice X.va X.vn X.vc, .slice X.fa X.fn X.fc, .slice X.ta X.tn X.tc, .slice X.pa X.pn X.pc], .agg #[.int .i64 rh, .int .i64 rf, .int .u32 v, .int .i64 hd]] w (RetV (.bool true) w) := by
  have GZ := Lib.hid (gb_trans (gb_trans (gb_alloc w (.cells #[nm, .slice ha hn hc, .slice ma mn mc, v3, v4, v5, v6, v7, v8] 31) none) (gb_alloc _ (.cells #[.slice X.va X.vn X.vc, .slice X.fa X.fn X.fc, .slice X.ta X.tn X.tc, .slice X.pa X.pn X.pc] 37) none)) (gb_alloc _ (.cells #[.int .i64 rh, .int .i64 rf, .int .u32 v, .int .i64 hd] 51) none))
  have BP := ((IsB.new w 31 #[nm, .slice ha hn hc, .slice ma mn mc, v3, v4, v5, v6, v7, v8]).alloc (.cells #[.slice X.va X.vn X.vc, .slice X.fa X.fn X.fc, .slice X.ta X.tn X.tc, .slice X.pa X.pn X.pc] 37)).alloc (.cells #[.int .i64 rh, .int .i64 rf, .int .u32 v, .int .i64 hd] 51)
  have BE := (IsB.new (w.alloc (.cells #[nm, .slice ha hn hc, .slice ma mn mc, v3, v4, v5, v6, v7, v8] 31)) 37 #[.slice X.va X.vn X.vc, .slice X.fa X.fn X.fc, .slice X.ta X.tn X.tc, .slice X.pa X.pn X.pc]).alloc (.cells #[.int .i64 rh, .int .i64 rf, .int .u32 v, .int .i64 hd] 51)
  have BR := IsB.new ((w.alloc (.cells #[nm, .slice ha hn hc, .slice ma mn mc, v3, v4, v5, v6, v7, v8] 31)).alloc (.cells #[.slice X.va X.vn X.vc, .slice X.fa X.fn X.fc, .slice X.ta X.tn X.tc, .slice X.pa X.pn X.pc] 37)) 51 #[.int .i64 rh, .int .i64 rf, .int .u32 v, .int .i64 hd]
  simp only [sz_al] at BE BR
  replace BP := Lib.hid BP
  replace BE := Lib.hid BE
  replace BR := Lib.hid BR
  have HD := Lib.hid (fun (W : World) (k : w.grownBy W none) => (⟨hH.keep0 k, hM.keep0 k⟩ : SH W ha hn hc H ∧ SF W ma mn mc M))
  have EA := Lib.hid (fun (W : World) (k : w.grownBy W none) => he.keep0 k)
  have HN := Lib.hid hH.len
  have V0 := Lib.hid v0
  have V1 := Lib.hid v1
  clear v0 v1
  clear hH hM he
  go_enter Try.func4, Try.ntmps4
  go_upto_region 1 with fail
  generalize ((w.alloc (.cells #[nm, .slice ha hn hc, .slice ma mn mc, v3, v4, v5, v6, v7, v8] 31)).alloc (.cells #[.slice X.va X.vn X.vc, .slice X.fa X.fn X.fc, .slice X.ta X.tn X.tc, .slice X.pa X.pn X.pc] 37)).alloc (.cells #[.int .i64 rh, .int .i64 rf, .int .u32 v, .int .i64 hd] 51) = w1 at *
  obtain ⟨bx, hbx⟩ : ∃ b, b = w.heap.size := ⟨_, rfl⟩
  have Lbx := Lib.hid (show w.heap.size ≤ bx by rw [hbx]; exact Nat.le_refl _)
  rw [← hbx] at BP BE BR ⊢
  clear hbx
  clear Lbx
  have KT := Lib.hid (fun (w' : World) (q : w1.grownBy w' none) => (⟨(BP.out.keep0 q).cell 0, (BP.out.keep0 q).cell 1, (BP.out.keep0 q).cell 2, (BP.out.keep0 q).cell 3, (BP.out.keep0 q).cell 4, (BP.out.keep0 q).cell 5, (BP.out.keep0 q).cell 6, (BP.out.keep0 q).cell 7, (BP.out.keep0 q).cell 8, (BE.out.keep0 q).cell 0, (BE.out.keep0 q).cell 1, (BE.out.keep0 q).cell 2, (BE.out.keep0 q).cell 3, (BR.out.keep0 q).cell 0, (BR.out.keep0 q).cell 1, (BR.out.keep0 q).cell 2, (BR.out.keep0 q).cell 3, trivial⟩ : (fun w' : World => w'.cell? ⟨bx, 0, none⟩ = some (nm) ∧ w'.cell? ⟨bx, 1, none⟩ = some (.slice ha hn hc) ∧ w'.cell? ⟨bx, 2, none⟩ = some (.slice ma mn mc) ∧ w'.cell? ⟨bx, 3, none⟩ = some (v3) ∧ w'.cell? ⟨bx, 4, none⟩ = some (v4) ∧ w'.cell? ⟨bx, 5, none⟩ = some (v5) ∧ w'.cell? ⟨bx, 6, none⟩ = some (v6) ∧ w'.cell? ⟨bx, 7, none⟩ = some (v7) ∧ w'.cell? ⟨bx, 8, none⟩ = some (v8) ∧ w'.cell? ⟨bx + 1, 0, none⟩ = some (.slice X.va X.vn X.vc) ∧ w'.cell? ⟨bx + 1, 1, none⟩ = some (.slice X.fa X.fn X.fc) ∧ w'.cell? ⟨bx + 1, 2, none⟩ = some (.slice X.ta X.tn X.tc) ∧ w'.cell? ⟨bx + 1, 3, none⟩ = some (.slice X.pa X.pn X.pc) ∧ w'.cell? ⟨bx + 1 + 1, 0, none⟩ = some (.int .i64 rh) ∧ w'.cell? ⟨bx + 1 + 1, 1, none⟩ = some (.int .i64 rf) ∧ w'.cell? ⟨bx + 1 + 1, 2, none⟩ = some (.int .u32 v) ∧ w'.cell? ⟨bx + 1 + 1, 3, none⟩ = some (.int .i64 hd) ∧ True) w'))
  replace EA := Lib.hid (fun (W : World) (k : w1.grownBy W none) => EA.out W (gb_trans GZ.out k))
  replace HD := Lib.hid (fun (W : World) (k : w1.grownBy W none) => HD.out W (gb_trans GZ.out k))
  have hS := KT.out w1 (gb_refl _ _)
  obtain ⟨c0, c1, c2, c3, c4, c5, c6, c7, c8, c9, c10, c11, c12, c13, c14, c15, c16, _⟩ := hS
  by_cases sP : sizeP H M
  · have LP := Lib.hid (large_any w1 nm v3 v4 v5 v6 v7 v8 ha ma hn hc mn mc H M (HD.out _ (gb_refl _ _)).1 (HD.out _ (gb_refl _ _)).2 false ⟨fun _ => sP, fun _ => rfl⟩)
    go_wp2_with fail
    refine LP.out.mono ?_
    rintro e w2 ⟨rfl, g⟩
    have G2 := Lib.hid g
    clear g LP c0 c1 c2 c3 c4 c5 c6 c7 c8 c9 c10 c11 c12 c13 c14 c15 c16
    have c0 := (BP.out.keep0 G2.out).cell 0
    have c1 := (BP.out.keep0 G2.out).cell 1
    have c2 := (BP.out.keep0 G2.out).cell 2
    have c3 := (BP.out.keep0 G2.out).cell 3
    have c4 := (BP.out.keep0 G2.out).cell 4
    have c5 := (BP.out.keep0 G2.out).cell 5
    have c6 := (BP.out.keep0 G2.out).cell 6
    have c7 := (BP.out.keep0 G2.out).cell 7
    have c8 := (BP.out.keep0 G2.out).cell 8
    have c9 := (BE.out.keep0 G2.out).cell 0
    have c10 := (BE.out.keep0 G2.out).cell 1
    have c11 := (BE.out.keep0 G2.out).cell 2
    have c12 := (BE.out.keep0 G2.out).cell 3
    have c13 := (BR.out.keep0 G2.out).cell 0
    have c14 := (BR.out.keep0 G2.out).cell 1
    have c15 := (BR.out.keep0 G2.out).cell 2
    have c16 := (BR.out.keep0 G2.out).cell 3
    by_cases sE : sizeE L
    · have LE := Lib.hid (long_any w2 X L (EA.out _ G2.out) false ⟨fun _ => sE, fun _ => rfl⟩)
      have SP := Lib.hid sP
      have SE := Lib.hid sE
      clear sP sE
      go_wp2_with fail
      refine LE.out.mono ?_
      rintro e w4 ⟨rfl, g⟩
      have G4 := Lib.hid (gb_trans G2.out g)
      replace GZ := Lib.hid (gb_trans GZ.out G4.out)
      replace KT := Lib.hid (fun (w' : World) (q : w4.grownBy w' none) => KT.out w' (gb_trans G4.out q))
      replace EA := Lib.hid (fun (W : World) (q : w4.grownBy W none) => EA.out W (gb_trans G4.out q))
      replace HD := Lib.hid (fun (W : World) (q : w4.grownBy W none) => HD.out W (gb_trans G4.out q))
      replace BP := Lib.hid (BP.out.keep0 G4.out)
      replace BE := Lib.hid (BE.out.keep0 G4.out)
      replace BR := Lib.hid (BR.out.keep0 G4.out)
      clear g G2 G4 LE c0 c1 c2 c3 c4 c5 c6 c7 c8 c9 c10 c11 c12 c13 c14 c15 c16
      have HB := Lib.hid (show hn ≤ 100000 by have := SP.out.1; have := HN.out; omega)
      have DB := Lib.hid (fun j => Nat.le_trans (dcl_bd SP.out j) (by decide : 16 ≤ 100000))
      obtain ⟨x, hx⟩ : ∃ x, x = getE L.V L.F L.T rh rf := ⟨_, rfl⟩
      have XW := Lib.hid hx
      have Z1 := Lib.hid (sizeE_set SE.out H M rh rf v)
      obtain ⟨L2, h2⟩ : ∃ L2, L2 = (if (isX hd hn && isX hd X.vn && !(validB L.V hd)) = true then withE L hd.toNat true else L) := ⟨_, rfl⟩
      have Z2 := Lib.hid (show sizeE L2 by rw [h2]; exact sizeE_if SE.out _ _ _)
      have H2 := Lib.hid h2
      obtain ⟨L3, h3⟩ : ∃ L3, L3 = (if (isX hd hn && isX hd X.vn) = true then withE L hd.toNat false else L) := ⟨_, rfl⟩
      have Z3 := Lib.hid (show sizeE L3 by rw [h3]; exact sizeE_if SE.out _ _ _)
      have H3 := Lib.hid h3
      clear hx h2 h3
      go_upto_region 3 with fail
      have G0 := Lib.hid (gb_drew w4 none)
      refine wp_region_held_drew (S := (fun w' : World => w'.cell? ⟨bx, 0, none⟩ = some (nm) ∧ w'.cell? ⟨bx, 1, none⟩ = some (.slice ha hn hc) ∧ w'.cell? ⟨bx, 2, none⟩ = some (.slice ma mn mc) ∧ w'.cell? ⟨bx, 3, none⟩ = some (v3) ∧ w'.cell? ⟨bx, 4, none⟩ = some (v4) ∧ w'.cell? ⟨bx, 5, none⟩ = some (v5) ∧ w'.cell? ⟨bx, 6, none⟩ = some (v6) ∧ w'.cell? ⟨bx, 7, none⟩ = some (v7) ∧ w'.cell? ⟨bx, 8, none⟩ = some (v8) ∧ w'.cell? ⟨bx + 1, 0, none⟩ = some (.slice X.va X.vn X.vc) ∧ w'.cell? ⟨bx + 1, 1, none⟩ = some (.slice X.fa X.fn X.fc) ∧ w'.cell? ⟨bx + 1, 2, none⟩ = some (.slice X.ta X.tn X.tc) ∧ w'.cell? ⟨bx + 1, 3, none⟩ = some (.slice X.pa X.pn X.pc) ∧ w'.cell? ⟨bx + 1 + 1, 0, none⟩ = some (.int .i64 rh) ∧ w'.cell? ⟨bx + 1 + 1, 1, none⟩ = some (.int .i64 rf) ∧ w'.cell? ⟨bx + 1 + 1, 2, none⟩ = some (.int .u32 v) ∧ w'.cell? ⟨bx + 1 + 1, 3, none⟩ = some (.int .i64 hd) ∧ True)) (by kernel_rfl) (KT.out _ G0.out) (fun hH0 => ?_)
      refine wpAnyH_take (i := 0) (v := ?v57) rfl (by kernel_rfl) (by kernel_rfl) (by kernel_rfl) (fun _ _ _ h => h) (Or.inl ⟨by rfl, ?hy57⟩) (by assumption) ?rest57
      case hy57 => (intro wz hSw; (try dsimp only at hSw); first | (go_simp; done) | (go_simp; with_reducible rfl))
      try simp only [Act.put, List.getElem_toArray, List.getElem_cons_zero, List.setIfInBounds_toArray, List.set_cons_zero, List.set_cons_succ]
      refine wpAnyH_take (i := 1) (v := ?v58) rfl (by kernel_rfl) (by kernel_rfl) (by kernel_rfl) (fun _ _ _ h => h) (Or.inl ⟨by rfl, ?hy58⟩) (by assumption) ?rest58
      case hy58 => (intro wz hSw; (try dsimp only at hSw); first | (go_simp; done) | (go_simp; with_reducible rfl))
      try simp only [Act.put, List.getElem_toArray, List.getElem_cons_succ, List.getElem_cons_zero, List.setIfInBounds_toArray, List.set_cons_zero, List.set_cons_succ]
      refine wpAnyH_take (i := 2) (v := ?v59) rfl (by kernel_rfl) (by kernel_rfl) (by kernel_rfl) (fun _ _ _ h => h) (Or.inl ⟨by rfl, ?hy59⟩) (by assumption) ?rest59
      case hy59 => (intro wz hSw; (try dsimp only at hSw); first | (go_simp; done) | (go_simp; with_reducible rfl))
      try simp only [Act.put, List.getElem_toArray, List.getElem_cons_succ, List.getElem_cons_zero, List.setIfInBounds_toArray, List.set_cons_zero, List.set_cons_succ]
      refine wpAnyH_take (i := 4) (v := ?v60) rfl (by kernel_rfl) (by kernel_rfl) (by kernel_rfl) (fun _ _ _ h => h) (Or.inl ⟨by rfl, ?hy60⟩) (by assumption) ?rest60
      case hy60 => (intro wz hSw; (try dsimp only at hSw); first | (go_simp; done) | (go_simp; with_reducible rfl))
      try simp only [Act.put, List.getElem_toArray, List.getElem_cons_succ, List.getElem_cons_zero, List.setIfInBounds_toArray, List.set_cons_zero, List.set_cons_succ]
      refine wpAnyH_take (i := 5) (v := ?v61) rfl (by kernel_rfl) (by kernel_rfl) (by kernel_rfl) (fun _ _ _ h => h) (Or.inl ⟨by rfl, ?hy61⟩) (by assumption) ?rest61
      case hy61 => (intro wz hSw; (try dsimp only at hSw); first | (go_simp; done) | (go_simp; with_reducible rfl))
      try simp only [Act.put, List.getElem_toArray, List.getElem_cons_succ, List.getElem_cons_zero, List.setIfInBounds_toArray, List.set_cons_zero, List.set_cons_succ]
      refine wpAnyH_take (i := 6) (v := ?v62) rfl (by kernel_rfl) (by kernel_rfl) (by kernel_rfl) (fun _ _ _ h => h) (Or.inl ⟨by rfl, ?hy62⟩) (by assumption) ?rest62
      case hy62 => (intro wz hSw; (try dsimp only at hSw); first | (go_simp; done) | (go_simp; with_reducible rfl))
      try simp only [Act.put, List.getElem_toArray, List.getElem_cons_succ, List.getElem_cons_zero, List.setIfInBounds_toArray, List.set_cons_zero, List.set_cons_succ]
      refine wpAnyH_ready (rs := [3]) (by kernel_rfl) (by simp) ?_
      refine AllReadyH.cons (o := _) rfl (fun K hK => ?_) AllReadyH.nil
      go_simp
      refine (eget_any _ (.slice X.pa X.pn X.pc) X.va X.fa X.ta X.vn X.vc X.fn X.fc X.tn X.tc L.V L.F L.T (EA.out _ G0.out).v (EA.out _ G0.out).f (EA.out _ G0.out).t rh rf).mono ?_
      rintro e wh1 ⟨rfl, g⟩
      rw [← XW.out]
      have G1 := Lib.hid (gb_trans G0.out g)
      clear g
      try dsimp only
      refine hK.out _ _ (KT.out _ G1.out) (fun hH1 => ?_)
      clear hK K hH0
      try simp only [Act.put, List.getElem_toArray, List.getElem_cons_succ, List.getElem_cons_zero, List.setIfInBounds_toArray, List.set_cons_zero, List.set_cons_succ]
      refine wpAnyH_ready (rs := [7]) (by kernel_rfl) (by simp) ?_
      refine AllReadyH.cons (o := _) rfl (fun K hK => ?_) AllReadyH.nil
      go_simp
      refine (rget_any _ X.va X.fa X.ta X.pa X.vn X.vc X.fn X.fc X.tn X.tc X.pn X.pc L (EA.out _ G1.out).v (EA.out _ G1.out).f (EA.out _ G1.out).t rh rf).mono ?_
      rintro e wh2 ⟨rfl, g⟩
      rw [← XW.out]
      have G2 := Lib.hid (gb_trans G1.out g)
      clear g
      try dsimp only
      refine hK.out _ _ (KT.out _ G2.out) (fun hH2 => ?_)
      clear hK K hH1
      try simp only [Act.put, List.getElem_toArray, List.getElem_cons_succ, List.getElem_cons_zero, List.setIfInBounds_toArray, List.set_cons_zero, List.set_cons_succ]
      refine wpAnyH_take (i := 8) (v := ?v63) rfl (by kernel_rfl) (by kernel_rfl) (by kernel_rfl) (fun _ _ _ h => h) (Or.inl ⟨by rfl, ?hy63⟩) (by assumption) ?rest63
      case hy63 => (intro wz hSw; (try dsimp only at hSw); first | (go_simp; done) | (go_simp; with_reducible rfl))
      try simp only [Act.put, List.getElem_toArray, List.getElem_cons_succ, List.getElem_cons_zero, List.setIfInBounds_toArray, List.set_cons_zero, List.set_cons_succ]
      refine wpAnyH_take (i := 9) (v := ?v64) rfl (by kernel_rfl) (by kernel_rfl) (by kernel_rfl) (fun _ _ _ h => h) (Or.inl ⟨by rfl, ?hy64⟩) (by assumption) ?rest64
      case hy64 => (intro wz hSw; (try dsimp only at hSw); first | (go_simp; done) | (go_simp; with_reducible rfl))
      try simp only [Act.put, List.getElem_toArray, List.getElem_cons_succ, List.getElem_cons_zero, List.setIfInBounds_toArray, List.set_cons_zero, List.set_cons_succ]
      refine wpAnyH_take (i := 10) (v := ?v65) rfl (by kernel_rfl) (by kernel_rfl) (by kernel_rfl) (fun _ _ _ h => h) (Or.inl ⟨by rfl, ?hy65⟩) (by assumption) ?rest65
      case hy65 => (intro wz hSw; (try dsimp only at hSw); first | (go_simp; done) | (go_simp; with_reducible rfl))
      try simp only [Act.put, List.getElem_toArray, List.getElem_cons_succ, List.getElem_cons_zero, List.setIfInBounds_toArray, List.set_cons_zero, List.set_cons_succ]
      refine wpAnyH_take (i := 11) (v := ?v66) rfl (by kernel_rfl) (by kernel_rfl) (by kernel_rfl) (fun _ _ _ h => h) (Or.inl ⟨by rfl, ?hy66⟩) (by assumption) ?rest66
      case hy66 => (intro wz hSw; (try dsimp only at hSw); first | (go_simp; done) | (go_simp; with_reducible rfl))
      try simp only [Act.put, List.getElem_toArray, List.getElem_cons_succ, List.getElem_cons_zero, List.setIfInBounds_toArray, List.set_cons_zero, List.set_cons_succ]
      refine wpAnyH_take (i := 12) (v := ?v67) rfl (by kernel_rfl) (by kernel_rfl) (by kernel_rfl) (fun _ _ _ h => h) (Or.inl ⟨by rfl, ?hy67⟩) (by assumption) ?rest67
      case hy67 => (intro wz hSw; (try dsimp only at hSw); first | (go_simp; done) | (go_simp; with_reducible rfl))
      try simp only [Act.put, List.getElem_toArray, List.getElem_cons_succ, List.getElem_cons_zero, List.setIfInBounds_toArray, List.set_cons_zero, List.set_cons_succ]
      refine wpAnyH_take (i := 13) (v := ?v68) rfl (by kernel_rfl) (by kernel_rfl) (by kernel_rfl) (fun _ _ _ h => h) (Or.inl ⟨by rfl, ?hy68⟩) (by assumption) ?rest68
      case hy68 => (intro wz hSw; (try dsimp only at hSw); first | (go_simp; done) | (go_simp; with_reducible rfl))
      try simp only [Act.put, List.getElem_toArray, List.getElem_cons_succ, List.getElem_cons_zero, List.setIfInBounds_toArray, List.set_cons_zero, List.set_cons_succ]
      refine wpAnyH_take (i := 14) (v := ?v69) rfl (by kernel_rfl) (by kernel_rfl) (by kernel_rfl) (fun _ _ _ h => h) (Or.inl ⟨by rfl, ?hy69⟩) (by assumption) ?rest69
      case hy69 => (intro wz hSw; (try dsimp only at hSw); first | (go_simp; done) | (go_simp; with_reducible rfl))
      try simp only [Act.put, List.getElem_toArray, List.getElem_cons_succ, List.getElem_cons_zero, List.setIfInBounds_toArray, List.set_cons_zero, List.set_cons_succ]
      refine wpAnyH_take (i := 15) (v := ?v70) rfl (by kernel_rfl) (by kernel_rfl) (by kernel_rfl) (fun _ _ _ h => h) (Or.inl ⟨by rfl, ?hy70⟩) (by assumption) ?rest70
      case hy70 => (intro wz hSw; (try dsimp only at hSw); first | (go_simp; done) | (go_simp; with_reducible rfl))
      try simp only [Act.put, List.getElem_toArray, List.getElem_cons_succ, List.getElem_cons_zero, List.setIfInBounds_toArray, List.set_cons_zero, List.set_cons_succ]
      refine wpAnyH_take (i := 17) (v := ?v71) rfl (by kernel_rfl) (by kernel_rfl) (by kernel_rfl) (fun _ _ _ h => h) (Or.inl ⟨by rfl, ?hy71⟩) (by assumption) ?rest71
      case hy71 => (intro wz hSw; (try dsimp only at hSw); first | (go_simp; done) | (go_simp; with_reducible rfl))
      try simp only [Act.put, List.getElem_toArray, List.getElem_cons_succ, List.getElem_cons_zero, List.setIfInBounds_toArray, List.set_cons_zero, List.set_cons_succ]
      refine wpAnyH_take (i := 18) (v := ?v72) rfl (by kernel_rfl) (by kernel_rfl) (by kernel_rfl) (fun _ _ _ h => h) (Or.inl ⟨by rfl, ?hy72⟩) (by assumption) ?rest72
      case hy72 => (intro wz hSw; (try dsimp only at hSw); first | (go_simp; done) | (go_simp; with_reducible rfl))
      try simp only [Act.put, List.getElem_toArray, List.getElem_cons_succ, List.getElem_cons_zero, List.setIfInBounds_toArray, List.set_cons_zero, List.set_cons_succ]
      refine wpAnyH_take (i := 19) (v := ?v73) rfl (by kernel_rfl) (by kernel_rfl) (by kernel_rfl) (fun _ _ _ h => h) (Or.inl ⟨by rfl, ?hy73⟩) (by assumption) ?rest73
      case hy73 => (intro wz hSw; (try dsimp only at hSw); first | (go_simp; done) | (go_simp; with_reducible rfl))
      try simp only [Act.put, List.getElem_toArray, List.getElem_cons_succ, List.getElem_cons_zero, List.setIfInBounds_toArray, List.set_cons_zero, List.set_cons_succ]
      refine wpAnyH_take (i := 20) (v := ?v74) rfl (by kernel_rfl) (by kernel_rfl) (by kernel_rfl) (fun _ _ _ h => h) (Or.inl ⟨by rfl, ?hy74⟩) (by assumption) ?rest74
      case hy74 => (intro wz hSw; (try dsimp only at hSw); first | (go_simp; done) | (go_simp; with_reducible rfl))
      try simp only [Act.put, List.getElem_toArray, List.getElem_cons_succ, List.getElem_cons_zero, List.setIfInBounds_toArray, List.set_cons_zero, List.set_cons_succ]
      refine wpAnyH_take (i := 21) (v := ?v75) rfl (by kernel_rfl) (by kernel_rfl) (by kernel_rfl) (fun _ _ _ h => h) (Or.inl ⟨by rfl, ?hy75⟩) (by assumption) ?rest75
      case hy75 => (intro wz hSw; (try dsimp only at hSw); first | (go_simp; done) | (go_simp; with_reducible rfl))
      try simp only [Act.put, List.getElem_toArray, List.getElem_cons_succ, List.getElem_cons_zero, List.setIfInBounds_toArray, List.set_cons_zero, List.set_cons_succ]
      refine wpAnyH_take (i := 22) (v := ?v76) rfl (by kernel_rfl) (by kernel_rfl) (by kernel_rfl) (fun _ _ _ h => h) (Or.inl ⟨by rfl, ?hy76⟩) (by assumption) ?rest76
      case hy76 => (intro wz hSw; (try dsimp only at hSw); first | (go_simp; done) | (go_simp; with_reducible rfl))
      try simp only [Act.put, List.getElem_toArray, List.getElem_cons_succ, List.getElem_cons_zero, List.setIfInBounds_toArray, List.set_cons_zero, List.set_cons_succ]
      refine wpAnyH_ready (rs := [16]) (by kernel_rfl) (by simp) ?_
      refine AllReadyH.cons (o := _) rfl (fun K hK => ?_) AllReadyH.nil
      go_simp
      refine (eset_any _ nm v3 v4 v5 v6 v7 v8 ha ma hn hc mn mc H M (HD.out _ G2.out).1 (HD.out _ G2.out).2 X L (EA.out _ G2.out) (ez_of (EA.out _ G2.out) SE.out) rh rf v V0.out V1.out).mono ?_
      rintro e wh3 ⟨XA, VA, rfl, o, g⟩
      have NA := Lib.hid o.er
      clear o VA
      have G3 := Lib.hid (gb_trans G2.out g)
      clear g
      try dsimp only
      refine hK.out _ _ (KT.out _ G3.out) (fun hH3 => ?_)
      clear hK K hH2
      try simp only [Act.put, List.getElem_toArray, List.getElem_cons_succ, List.getElem_cons_zero, List.setIfInBounds_toArray, List.set_cons_zero, List.set_cons_succ]
      refine wpAnyH_ready (rs := [23]) (by kernel_rfl) (by simp) ?_
      refine AllReadyH.cons (o := _) rfl (fun K hK => ?_) AllReadyH.nil
      go_simp
      refine (rset_any _ nm v3 v4 v5 v6 v7 v8 ha ma hn hc mn mc H M (HD.out _ G3.out).1 (HD.out _ G3.out).2 X L (EA.out _ G3.out) (ez_of (EA.out _ G3.out) SE.out) rh rf v V0.out V1.out).mono ?_
      rintro e wh4 ⟨XB, VB, rfl, o, g⟩
      replace NA := Lib.hid (NA.out.keep0 g)
      have NB2 := Lib.hid o.er
      clear o VB
      have G4 := Lib.hid (gb_trans G3.out g)
      clear g
      try dsimp only
      refine hK.out _ _ (KT.out _ G4.out) (fun hH4 => ?_)
      clear hK K hH3
      try simp only [Act.put, List.getElem_toArray, List.getElem_cons_succ, List.getElem_cons_zero, List.setIfInBounds_toArray, List.set_cons_zero, List.set_cons_succ]
      refine wpAnyH_ready (rs := [24]) (by kernel_rfl) (by simp) ?_
      refine AllReadyH.cons (o := _) rfl (fun K hK => ?_) AllReadyH.nil
      go_simp
      refine (requal_any _ XA XB _ _ NA.out NB2.out (ez_of NA.out Z1.out) (ez_of NB2.out Z1.out) true (by simp [sameE])).mono ?_
      rintro e wh5 ⟨rfl, g⟩
      clear NA NB2
      have G5 := Lib.hid (gb_trans G4.out g)
      clear g
      try dsimp only
      refine hK.out _ _ (KT.out _ G5.out) (fun hH5 => ?_)
      clear hK K hH4
      try simp only [Act.put, List.getElem_toArray, List.getElem_cons_succ, List.getElem_cons_zero, List.setIfInBounds_toArray, List.set_cons_zero, List.set_cons_succ]
      refine wpAnyH_take (i := 25) (v := ?v77) rfl (by kernel_rfl) (by kernel_rfl) (by kernel_rfl) (fun _ _ _ h => h) (Or.inl ⟨by rfl, ?hy77⟩) (by assumption) ?rest77
      case hy77 => (intro wz hSw; (try dsimp only at hSw); first | (go_simp; done) | (go_simp; with_reducible rfl))
      try simp only [Act.put, List.getElem_toArray, List.getElem_cons_succ, List.getElem_cons_zero, List.setIfInBounds_toArray, List.set_cons_zero, List.set_cons_succ]
      refine wpAnyH_take (i := 26) (v := ?v78) rfl (by kernel_rfl) (by kernel_rfl) (by kernel_rfl) (fun _ _ _ h => h) (Or.inl ⟨by rfl, ?hy78⟩) (by assumption) ?rest78
      case hy78 => (intro wz hSw; (try dsimp only at hSw); first | (go_simp; done) | (go_simp; with_reducible rfl))
      try simp only [Act.put, List.getElem_toArray, List.getElem_cons_succ, List.getElem_cons_zero, List.setIfInBounds_toArray, List.set_cons_zero, List.set_cons_succ]
      refine wpAnyH_take (i := 27) (v := ?v79) rfl (by kernel_rfl) (by kernel_rfl) (by kernel_rfl) (fun _ _ _ h => h) (Or.inl ⟨by rfl, ?hy79⟩) (by assumption) ?rest79
      case hy79 => (intro wz hSw; (try dsimp only at hSw); first | (go_simp; done) | (go_simp; with_reducible rfl))
      try simp only [Act.put, List.getElem_toArray, List.getElem_cons_succ, List.getElem_cons_zero, List.setIfInBounds_toArray, List.set_cons_zero, List.set_cons_succ]
      refine wpAnyH_take (i := 28) (v := ?v80) rfl (by kernel_rfl) (by kernel_rfl) (by kernel_rfl) (fun _ _ _ h => h) (Or.inl ⟨by rfl, ?hy80⟩) (by assumption) ?rest80
      case hy80 => (intro wz hSw; (try dsimp only at hSw); first | (go_simp; done) | (go_simp; with_reducible rfl))
      try simp only [Act.put, List.getElem_toArray, List.getElem_cons_succ, List.getElem_cons_zero, List.setIfInBounds_toArray, List.set_cons_zero, List.set_cons_succ]
      refine wpAnyH_take (i := 29) (v := ?v81) rfl (by kernel_rfl) (by kernel_rfl) (by kernel_rfl) (fun _ _ _ h => h) (Or.inl ⟨by rfl, ?hy81⟩) (by assumption) ?rest81
      case hy81 => (intro wz hSw; (try dsimp only at hSw); first | (go_simp; done) | (go_simp; with_reducible rfl))
      try simp only [Act.put, List.getElem_toArray, List.getElem_cons_succ, List.getElem_cons_zero, List.setIfInBounds_toArray, List.set_cons_zero, List.set_cons_succ]
      refine wpAnyH_take (i := 30) (v := ?v82) rfl (by kernel_rfl) (by kernel_rfl) (by kernel_rfl) (fun _ _ _ h => h) (Or.inl ⟨by rfl, ?hy82⟩) (by assumption) ?rest82
      case hy82 => (intro wz hSw; (try dsimp only at hSw); first | (go_simp; done) | (go_simp; with_reducible rfl))
      try simp only [Act.put, List.getElem_toArray, List.getElem_cons_succ, List.getElem_cons_zero, List.setIfInBounds_toArray, List.set_cons_zero, List.set_cons_succ]
      refine wpAnyH_take (i := 32) (v := ?v83) rfl (by kernel_rfl) (by kernel_rfl) (by kernel_rfl) (fun _ _ _ h => h) (Or.inl ⟨by rfl, ?hy83⟩) (by assumption) ?rest83
      case hy83 => (intro wz hSw; (try dsimp only at hSw); first | (go_simp; done) | (go_simp; with_reducible rfl))
      try simp only [Act.put, List.getElem_toArray, List.getElem_cons_succ, List.getElem_cons_zero, List.setIfInBounds_toArray, List.set_cons_zero, List.set_cons_succ]
      refine wpAnyH_take (i := 33) (v := ?v84) rfl (by kernel_rfl) (by kernel_rfl) (by kernel_rfl) (fun _ _ _ h => h) (Or.inl ⟨by rfl, ?hy84⟩) (by assumption) ?rest84
      case hy84 => (intro wz hSw; (try dsimp only at hSw); first | (go_simp; done) | (go_simp; with_reducible rfl))
      try simp only [Act.put, List.getElem_toArray, List.getElem_cons_succ, List.getElem_cons_zero, List.setIfInBounds_toArray, List.set_cons_zero, List.set_cons_succ]
      refine wpAnyH_take (i := 34) (v := ?v85) rfl (by kernel_rfl) (by kernel_rfl) (by kernel_rfl) (fun _ _ _ h => h) (Or.inl ⟨by rfl, ?hy85⟩) (by assumption) ?rest85
      case hy85 => (intro wz hSw; (try dsimp only at hSw); first | (go_simp; done) | (go_simp; with_reducible rfl))
      try simp only [Act.put, List.getElem_toArray, List.getElem_cons_succ, List.getElem_cons_zero, List.setIfInBounds_toArray, List.set_cons_zero, List.set_cons_succ]
      refine wpAnyH_take (i := 35) (v := ?v86) rfl (by kernel_rfl) (by kernel_rfl) (by kernel_rfl) (fun _ _ _ h => h) (Or.inl ⟨by rfl, ?hy86⟩) (by assumption) ?rest86
      case hy86 => (intro wz hSw; (try dsimp only at hSw); first | (go_simp; done) | (go_simp; with_reducible rfl))
      try simp only [Act.put, List.getElem_toArray, List.getElem_cons_succ, List.getElem_cons_zero, List.setIfInBounds_toArray, List.set_cons_zero, List.set_cons_succ]
      refine wpAnyH_ready (rs := [31]) (by kernel_rfl) (by simp) ?_
      refine AllReadyH.cons (o := _) rfl (fun K hK => ?_) AllReadyH.nil
      go_simp
      refine (eadd_any _ nm (.slice ma mn mc) v3 v4 v5 v6 v7 v8 ha hn hc X L (EA.out _ G5.out) (ez_of (EA.out _ G5.out) SE.out) hd).mono ?_
      rintro e wh6 ⟨XA, VA, rfl, o, g⟩
      rw [← H2.out] at o
      have NA := Lib.hid o.er
      clear o VA
      have G6 := Lib.hid (gb_trans G5.out g)
      clear g
      try dsimp only
      refine hK.out _ _ (KT.out _ G6.out) (fun hH6 => ?_)
      clear hK K hH5
      try simp only [Act.put, List.getElem_toArray, List.getElem_cons_succ, List.getElem_cons_zero, List.setIfInBounds_toArray, List.set_cons_zero, List.set_cons_succ]
      refine wpAnyH_ready (rs := [36]) (by kernel_rfl) (by simp) ?_
      refine AllReadyH.cons (o := _) rfl (fun K hK => ?_) AllReadyH.nil
      go_simp
      refine (radd_any _ nm (.slice ma mn mc) v3 v4 v5 v6 v7 v8 ha hn hc X L (EA.out _ G6.out) (ez_of (EA.out _ G6.out) SE.out) hd).mono ?_
      rintro e wh7 ⟨XB, VB, rfl, o, g⟩
      rw [← H2.out] at o
      replace NA := Lib.hid (NA.out.keep0 g)
      have NB2 := Lib.hid o.er
      clear o VB
      have G7 := Lib.hid (gb_trans G6.out g)
      clear g
      try dsimp only
      refine hK.out _ _ (KT.out _ G7.out) (fun hH7 => ?_)
      clear hK K hH6
      try simp only [Act.put, List.getElem_toArray, List.getElem_cons_succ, List.getElem_cons_zero, List.setIfInBounds_toArray, List.set_cons_zero, List.set_cons_succ]
      refine wpAnyH_ready (rs := [37]) (by kernel_rfl) (by simp) ?_
      refine AllReadyH.cons (o := _) rfl (fun K hK => ?_) AllReadyH.nil
      go_simp
      refine (requal_any _ XA XB _ _ NA.out NB2.out (ez_of NA.out Z2.out) (ez_of NB2.out Z2.out) true (by simp [sameE])).mono ?_
      rintro e wh8 ⟨rfl, g⟩
      clear NA NB2
      have G8 := Lib.hid (gb_trans G7.out g)
      clear g
      try dsimp only
      refine hK.out _ _ (KT.out _ G8.out) (fun hH8 => ?_)
      clear hK K hH7
      try simp only [Act.put, List.getElem_toArray, List.getElem_cons_succ, List.getElem_cons_zero, List.setIfInBounds_toArray, List.set_cons_zero, List.set_cons_succ]
      refine wpAnyH_take (i := 38) (v := ?v87) rfl (by kernel_rfl) (by kernel_rfl) (by kernel_rfl) (fun _ _ _ h => h) (Or.inl ⟨by rfl, ?hy87⟩) (by assumption) ?rest87
      case hy87 => (intro wz hSw; (try dsimp only at hSw); first | (go_simp; done) | (go_simp; with_reducible rfl))
      try simp only [Act.put, List.getElem_toArray, List.getElem_cons_succ, List.getElem_cons_zero, List.setIfInBounds_toArray, List.set_cons_zero, List.set_cons_succ]
      refine wpAnyH_take (i := 39) (v := ?v88) rfl (by kernel_rfl) (by kernel_rfl) (by kernel_rfl) (fun _ _ _ h => h) (Or.inl ⟨by rfl, ?hy88⟩) (by assumption) ?rest88
      case hy88 => (intro wz hSw; (try dsimp only at hSw); first | (go_simp; done) | (go_simp; with_reducible rfl))
      try simp only [Act.put, List.getElem_toArray, List.getElem_cons_succ, List.getElem_cons_zero, List.setIfInBounds_toArray, List.set_cons_zero, List.set_cons_succ]
      refine wpAnyH_take (i := 40) (v := ?v89) rfl (by kernel_rfl) (by kernel_rfl) (by kernel_rfl) (fun _ _ _ h => h) (Or.inl ⟨by rfl, ?hy89⟩) (by assumption) ?rest89
      case hy89 => (intro wz hSw; (try dsimp only at hSw); first | (go_simp; done) | (go_simp; with_reducible rfl))
      try simp only [Act.put, List.getElem_toArray, List.getElem_cons_succ, List.getElem_cons_zero, List.setIfInBounds_toArray, List.set_cons_zero, List.set_cons_succ]
      refine wpAnyH_take (i := 41) (v := ?v90) rfl (by kernel_rfl) (by kernel_rfl) (by kernel_rfl) (fun _ _ _ h => h) (Or.inl ⟨by rfl, ?hy90⟩) (by assumption) ?rest90
      case hy90 => (intro wz hSw; (try dsimp only at hSw); first | (go_simp; done) | (go_simp; with_reducible rfl))
      try simp only [Act.put, List.getElem_toArray, List.getElem_cons_succ, List.getElem_cons_zero, List.setIfInBounds_toArray, List.set_cons_zero, List.set_cons_succ]
      refine wpAnyH_take (i := 42) (v := ?v91) rfl (by kernel_rfl) (by kernel_rfl) (by kernel_rfl) (fun _ _ _ h => h) (Or.inl ⟨by rfl, ?hy91⟩) (by assumption) ?rest91
      case hy91 => (intro wz hSw; (try dsimp only at hSw); first | (go_simp; done) | (go_simp; with_reducible rfl))
      try simp only [Act.put, List.getElem_toArray, List.getElem_cons_succ, List.getElem_cons_zero, List.setIfInBounds_toArray, List.set_cons_zero, List.set_cons_succ]
      refine wpAnyH_take (i := 43) (v := ?v92) rfl (by kernel_rfl) (by kernel_rfl) (by kernel_rfl) (fun _ _ _ h => h) (Or.inl ⟨by rfl, ?hy92⟩) (by assumption) ?rest92
      case hy92 => (intro wz hSw; (try dsimp only at hSw); first | (go_simp; done) | (go_simp; with_reducible rfl))
      try simp only [Act.put, List.getElem_toArray, List.getElem_cons_succ, List.getElem_cons_zero, List.setIfInBounds_toArray, List.set_cons_zero, List.set_cons_succ]
      refine wpAnyH_take (i := 45) (v := ?v93) rfl (by kernel_rfl) (by kernel_rfl) (by kernel_rfl) (fun _ _ _ h => h) (Or.inl ⟨by rfl, ?hy93⟩) (by assumption) ?rest93
      case hy93 => (intro wz hSw; (try dsimp only at hSw); first | (go_simp; done) | (go_simp; with_reducible rfl))
      try simp only [Act.put, List.getElem_toArray, List.getElem_cons_succ, List.getElem_cons_zero, List.setIfInBounds_toArray, List.set_cons_zero, List.set_cons_succ]
      refine wpAnyH_take (i := 46) (v := ?v94) rfl (by kernel_rfl) (by kernel_rfl) (by kernel_rfl) (fun _ _ _ h => h) (Or.inl ⟨by rfl, ?hy94⟩) (by assumption) ?rest94
      case hy94 => (intro wz hSw; (try dsimp only at hSw); first | (go_simp; done) | (go_simp; with_reducible rfl))
      try simp only [Act.put, List.getElem_toArray, List.getElem_cons_succ, List.getElem_cons_zero, List.setIfInBounds_toArray, List.set_cons_zero, List.set_cons_succ]
      refine wpAnyH_take (i := 47) (v := ?v95) rfl (by kernel_rfl) (by kernel_rfl) (by kernel_rfl) (fun _ _ _ h => h) (Or.inl ⟨by rfl, ?hy95⟩) (by assumption) ?rest95
      case hy95 => (intro wz hSw; (try dsimp only at hSw); first | (go_simp; done) | (go_simp; with_reducible rfl))
      try simp only [Act.put, List.getElem_toArray, List.getElem_cons_succ, List.getElem_cons_zero, List.setIfInBounds_toArray, List.set_cons_zero, List.set_cons_succ]
      refine wpAnyH_take (i := 48) (v := ?v96) rfl (by kernel_rfl) (by kernel_rfl) (by kernel_rfl) (fun _ _ _ h => h) (Or.inl ⟨by rfl, ?hy96⟩) (by assumption) ?rest96
      case hy96 => (intro wz hSw; (try dsimp only at hSw); first | (go_simp; done) | (go_simp; with_reducible rfl))
      try simp only [Act.put, List.getElem_toArray, List.getElem_cons_succ, List.getElem_cons_zero, List.setIfInBounds_toArray, List.set_cons_zero, List.set_cons_succ]
      refine wpAnyH_ready (rs := [44]) (by kernel_rfl) (by simp) ?_
      refine AllReadyH.cons (o := _) rfl (fun K hK => ?_) AllReadyH.nil
      go_simp
      refine (erem_any _ nm (.slice ma mn mc) v3 v4 v5 v6 v7 v8 ha hn hc X L (EA.out _ G8.out) (ez_of (EA.out _ G8.out) SE.out) hd).mono ?_
      rintro e wh9 ⟨XA, VA, rfl, o, g⟩
      rw [← H3.out] at o
      have NA := Lib.hid o.er
      clear o VA
      have G9 := Lib.hid (gb_trans G8.out g)
      clear g
      try dsimp only
      refine hK.out _ _ (KT.out _ G9.out) (fun hH9 => ?_)
      clear hK K hH8
      try simp only [Act.put, List.getElem_toArray, List.getElem_cons_succ, List.getElem_cons_zero, List.setIfInBounds_toArray, List.set_cons_zero, List.set_cons_succ]
      refine wpAnyH_ready (rs := [49]) (by kernel_rfl) (by simp) ?_
      refine AllReadyH.cons (o := _) rfl (fun K hK => ?_) AllReadyH.nil
      go_simp
      refine (rrem_any _ nm (.slice ma mn mc) v3 v4 v5 v6 v7 v8 ha hn hc X L (EA.out _ G9.out) (ez_of (EA.out _ G9.out) SE.out) hd).mono ?_
      rintro e wh10 ⟨XB, VB, rfl, o, g⟩
      rw [← H3.out] at o
      replace NA := Lib.hid (NA.out.keep0 g)
      have NB2 := Lib.hid o.er
      clear o VB
      have G10 := Lib.hid (gb_trans G9.out g)
      clear g
      try dsimp only
      refine hK.out _ _ (KT.out _ G10.out) (fun hH10 => ?_)
      clear hK K hH9
      try simp only [Act.put, List.getElem_toArray, List.getElem_cons_succ, List.getElem_cons_zero, List.setIfInBounds_toArray, List.set_cons_zero, List.set_cons_succ]
      refine wpAnyH_ready (rs := [50]) (by kernel_rfl) (by simp) ?_
      refine AllReadyH.cons (o := _) rfl (fun K hK => ?_) AllReadyH.nil
      go_simp
      refine (requal_any _ XA XB _ _ NA.out NB2.out (ez_of NA.out Z3.out) (ez_of NB2.out Z3.out) true (by simp [sameE])).mono ?_
      rintro e wh11 ⟨rfl, g⟩
      clear NA NB2
      have G11 := Lib.hid (gb_trans G10.out g)
      clear g
      try dsimp only
      refine hK.out _ _ (KT.out _ G11.out) (fun hH11 => ?_)
      clear hK K hH10
      try simp only [Act.put, List.getElem_toArray, List.getElem_cons_succ, List.getElem_cons_zero, List.setIfInBounds_toArray, List.set_cons_zero, List.set_cons_succ]
      refine wpAnyH_take (i := 51) (v := ?v97) rfl (by kernel_rfl) (by kernel_rfl) (by kernel_rfl) (fun _ _ _ h => h) (Or.inl ⟨by rfl, ?hy97⟩) (by assumption) ?rest97
      case hy97 => (intro wz hSw; (try dsimp only at hSw); first | (go_simp; done) | (go_simp; with_reducible rfl))
      try simp only [Act.put, List.getElem_toArray, List.getElem_cons_succ, List.getElem_cons_zero, List.setIfInBounds_toArray, List.set_cons_zero, List.set_cons_succ]
      refine wpAnyH_take (i := 52) (v := ?v98) rfl (by kernel_rfl) (by kernel_rfl) (by kernel_rfl) (fun _ _ _ h => h) (Or.inl ⟨by rfl, ?hy98⟩) (by assumption) ?rest98
      case hy98 => (intro wz hSw; (try dsimp only at hSw); first | (go_simp; done) | (go_simp; with_reducible rfl))
      try simp only [Act.put, List.getElem_toArray, List.getElem_cons_succ, List.getElem_cons_zero, List.setIfInBounds_toArray, List.set_cons_zero, List.set_cons_succ]
      refine wpAnyH_ready (rs := [53]) (by kernel_rfl) (by simp) ?_
      refine AllReadyH.cons (o := _) rfl (fun K hK => ?_) AllReadyH.nil
      go_simp
      refine (works_any _).mono ?_
      rintro e wh12 ⟨rfl, g⟩
      have G12 := Lib.hid (gb_trans G11.out g)
      clear g
      try dsimp only
      refine hK.out _ _ (KT.out _ G12.out) (fun hH12 => ?_)
      clear hK K hH11
      try simp only [Act.put, List.getElem_toArray, List.getElem_cons_succ, List.getElem_cons_zero, List.setIfInBounds_toArray, List.set_cons_zero, List.set_cons_succ]
      refine wpAnyH_take (i := 54) (v := ?v99) rfl (by kernel_rfl) (by kernel_rfl) (by kernel_rfl) (fun _ _ _ h => h) (Or.inl ⟨by rfl, ?hy99⟩) (by assumption) ?rest99
      case hy99 => (intro wz hSw; (try dsimp only at hSw); first | (go_simp; done) | (go_simp; with_reducible rfl))
      try simp only [Act.put, List.getElem_toArray, List.getElem_cons_succ, List.getElem_cons_zero, List.setIfInBounds_toArray, List.set_cons_zero, List.set_cons_succ]
      refine wpAnyH_take (i := 55) (v := ?v100) rfl (by kernel_rfl) (by kernel_rfl) (by kernel_rfl) (fun _ _ _ h => h) (Or.inl ⟨by rfl, ?hy100⟩) (by assumption) ?rest100
      case hy100 => (intro wz hSw; (try dsimp only at hSw); first | (go_simp; done) | (go_simp; with_reducible rfl))
      try simp only [Act.put, List.getElem_toArray, List.getElem_cons_succ, List.getElem_cons_zero, List.setIfInBounds_toArray, List.set_cons_zero, List.set_cons_succ]
      refine wpAnyH_done (by kernel_rfl) ?_ _
      clear hH12
      go_wp2
      go_ret
      exact ⟨rfl, gb_trans GZ.out G12.out⟩
    · have LE := Lib.hid (long_any w2 X L (EA.out _ G2.out) true ⟨fun e => (by cases e), fun q => absurd q sE⟩)
      clear sP sE
      go_wp2_with fail
      refine LE.out.mono ?_
      rintro e w4 ⟨rfl, g⟩
      replace GZ := Lib.hid (gb_trans GZ.out (gb_trans G2.out g))
      clear g
      go_wp2_with fail
      refine (works_any _).mono ?_
      rintro e w3 ⟨rfl, g⟩
      have G3 := Lib.hid (gb_trans GZ.out g)
      clear g
      go_wp2
      go_ret
      exact ⟨rfl, G3.out⟩
  · have LP := Lib.hid (large_any w1 nm v3 v4 v5 v6 v7 v8 ha ma hn hc mn mc H M (HD.out _ (gb_refl _ _)).1 (HD.out _ (gb_refl _ _)).2 true ⟨fun e => (by cases e), fun q => absurd q sP⟩)
    clear sP
    go_wp2_with fail
    refine LP.out.mono ?_
    rintro e w2 ⟨rfl, g⟩
    replace GZ := Lib.hid (gb_trans GZ.out g)
    clear g
    go_wp2_with fail
    refine (works_any _).mono ?_
    rintro e w3 ⟨rfl, g⟩
    have G3 := Lib.hid (gb_trans GZ.out g)
    clear g
    go_wp2
    go_ret
    exact ⟨rfl, G3.out⟩
end Go.Proofs.Ytolifmpnhflegaa
