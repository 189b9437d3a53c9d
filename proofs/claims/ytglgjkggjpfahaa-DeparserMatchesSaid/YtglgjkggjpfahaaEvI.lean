/- Env: values that fit, values of invalid headers, Check; no condition but sizes. -/
import Derived.Test.YtglgjkggjpfahaaEvH
namespace Go.Proofs.Ytglgjkggjpfahaa
open Go.RowKit
set_option linter.unusedVariables false
def ftP (D : List (List Fld)) (R : List (List Int)) : Prop := ∀ i, i < D.length → ∀ j, j < (D.getD i []).length → (R.getD i []).getD j 0 ≤ mkB ((D.getD i []).getD j fz).2
def zrP (L : EL) : Prop := ∀ h, h < L.F.length → L.V.getD h false = true ∨ (L.F.getD h []).any (fun v => v != 0) = false
set_option maxRecDepth 100000 in
set_option maxHeartbeats 4000000 in
theorem efit_any (w : World) (nm v3 v4 v5 v6 v7 v8 : Value) (ha ma : Option Addr) (hn hc mn mc : Nat) (H : List (ByteArray × List Fld)) (M : List Fld) (hH : SH w ha hn hc H) (hM : SF w ma mn mc M) (X : EX) (L : EL) (he : ER w X L) (hz : EZ X L) (hb : hn ≤ 100000) (hm : ∀ j, ((dclL H M).getD j []).length ≤ 100000) (hsh : shP H M L) (bo : Bool) (hbo : bo = true ↔ ftP (dclL H M) (L.T :: L.F)) :
    Calls Try.prog 119 #[.agg #[nm, .slice ha hn hc, .slice ma mn mc, v3, v4, v5, v6, v7, v8], .agg #[.slice X.va X.vn X.vc, .slice X.fa X.fn X.fc, .slice X.ta X.tn X.tc, .slice X.pa X.pn X.pc]] w (RetV (.bool bo) w) := by
  have Q3 := Lib.hid (fun (w2 : World) (q : w.grownBy w2 none) => dcl_any w2 nm v3 v4 v5 v6 v7 v8 ha ma hn hc mn mc H M (hH.keep0 q) (hM.keep0 q) hb)
  have Q4 := Lib.hid (fun (w2 : World) (q : w.grownBy w2 none) => vals_any w2 X L (he.keep0 q) (by have := hz.f; omega))
  have LD := Lib.hid (show (dclL H M).length ≤ 100001 by have := hH.len; rw [dcl_len]; omega)
  have SL := Lib.hid hsh.2.1
  have SR_ := Lib.hid hsh.2.2
  have HM := Lib.hid hm
  have HBO := Lib.hid hbo
  have GB := Lib.hid (gb_trans (gb_alloc w (.cells #[nm, .slice ha hn hc, .slice ma mn mc, v3, v4, v5, v6, v7, v8] 31) none) (gb_alloc _ (.cells #[.slice X.va X.vn X.vc, .slice X.fa X.fn X.fc, .slice X.ta X.tn X.tc, .slice X.pa X.pn X.pc] 42) none))
  have B1 := (IsB.new w 31 #[nm, .slice ha hn hc, .slice ma mn mc, v3, v4, v5, v6, v7, v8]).alloc (.cells #[.slice X.va X.vn X.vc, .slice X.fa X.fn X.fc, .slice X.ta X.tn X.tc, .slice X.pa X.pn X.pc] 42)
  have B2 := IsB.new (w.alloc (.cells #[nm, .slice ha hn hc, .slice ma mn mc, v3, v4, v5, v6, v7, v8] 31)) 42 #[.slice X.va X.vn X.vc, .slice X.fa X.fn X.fc, .slice X.ta X.tn X.tc, .slice X.pa X.pn X.pc]
  simp only [sz_al] at B2
  replace B1 := Lib.hid B1
  replace B2 := Lib.hid B2
  generalize dclL H M = D at *
  generalize (L.T :: L.F) = R at *
  clear he hz hH hM hsh hbo hm
  go_enter Try.func119, Try.ntmps119
  go_upto_region 1 with fail
  generalize (w.alloc (.cells #[nm, .slice ha hn hc, .slice ma mn mc, v3, v4, v5, v6, v7, v8] 31)).alloc (.cells #[.slice X.va X.vn X.vc, .slice X.fa X.fn X.fc, .slice X.ta X.tn X.tc, .slice X.pa X.pn X.pc] 42) = w2 at *
  obtain ⟨bx, hbx⟩ : ∃ b, b = w.heap.size := ⟨_, rfl⟩
  have Lbx := Lib.hid (show w.heap.size ≤ bx by rw [hbx]; exact Nat.le_refl _)
  rw [← hbx] at B1 B2 ⊢
  clear hbx
  have c0 := B1.out.cell 0
  have c1 := B1.out.cell 1
  have c2 := B1.out.cell 2
  have c3 := B1.out.cell 3
  have c4 := B1.out.cell 4
  have c5 := B1.out.cell 5
  have c6 := B1.out.cell 6
  have c7 := B1.out.cell 7
  have c8 := B1.out.cell 8
  dsimp at c0 c1 c2 c3 c4 c5 c6 c7 c8
  have x0 := B2.out.cell 0
  have x1 := B2.out.cell 1
  have x2 := B2.out.cell 2
  have x3 := B2.out.cell 3
  dsimp at x0 x1 x2 x3
  go_upto_region 2 with (go_at_call 138; refine (Q4.out _ GB.out).mono ?_; clear Q4; rintro e w3 ⟨va, vc, rfl, sr, g3⟩)
  have RR := Lib.hid sr
  have G3 := Lib.hid (gb_trans GB.out g3)
  have B1 := Lib.hid (B1.out.keep0 g3)
  clear sr g3 c0 c1 c2 c3 c4 c5 c6 c7 c8 x0 x1 x2 x3
  have c0 := B1.out.cell 0
  have c1 := B1.out.cell 1
  have c2 := B1.out.cell 2
  have c3 := B1.out.cell 3
  have c4 := B1.out.cell 4
  have c5 := B1.out.cell 5
  have c6 := B1.out.cell 6
  have c7 := B1.out.cell 7
  have c8 := B1.out.cell 8
  dsimp at c0 c1 c2 c3 c4 c5 c6 c7 c8
  go_wp2_with (go_at_call 137; refine (Q3.out _ G3.out).mono ?_; clear Q3; rintro e w4 ⟨da, dc, rfl, sd, g4⟩)
  have DD := Lib.hid sd
  have RR := Lib.hid (RR.out.keep0 g4)
  have G4 := Lib.hid (gb_trans G3.out g4)
  clear sd g4 c0 c1 c2 c3 c4 c5 c6 c7 c8
  obtain ⟨n, hn'⟩ : ∃ n, n = D.length := ⟨_, rfl⟩
  have DN := Lib.hid hn'
  have LN := Lib.hid (show n ≤ 100001 by rw [hn']; exact LD.out)
  have RN := Lib.hid (show R.length = n by rw [hn']; exact SL.out.symm)
  rw [← hn'] at DD ⊢
  rw [RN.out] at RR ⊢
  clear hn' SL LD
  go_loopw [15] (fun i wr => ∃ k : Nat, k ≤ n ∧ i = .int .i64 k ∧ (∀ i, i < k → ∀ j, j < (D.getD i []).length → (R.getD i []).getD j 0 ≤ mkB ((D.getD i []).getD j fz).2) ∧ w4.grownBy wr none) (fun i _ => n - (intOf i).toNat)
  case atStart => exact ⟨0, Nat.zero_le _, rfl, (fun i hi => absurd hi (Nat.not_lt_zero _)), gb_refl _ _⟩
  case round =>
    obtain ⟨k, hk, rfl, ht, hg⟩ := hrel
    have HT := Lib.hid ht
    have HG := Lib.hid hg
    clear ht hg
    by_cases hlt : k < n
    · obtain ⟨ad, rfl⟩ := DD.out.some (by omega)
      obtain ⟨bd, rfl⟩ := RR.out.some (by omega)
      obtain ⟨fa, fn, fc, c1, s1⟩ := (DD.out.keep0 HG.out).cells ad rfl k hlt
      obtain ⟨ga, gn, gc, c2, s2⟩ := (RR.out.keep0 HG.out).cells bd rfl k hlt
      have S1 := Lib.hid s1
      have S2 := Lib.hid s2
      have FG := Lib.hid (show fn = gn by rw [← s1.len, ← s2.len]; exact SR_.out k (by rw [← DN.out]; exact hlt))
      have FB := Lib.hid (show fn ≤ 100000 by rw [← s1.len]; exact HM.out k)
      have C2 := Lib.hid c2
      have i1 : (k : Int) < n := by omega
      have i0 : (0 : Int) ≤ (k : Int) := by omega
      have hw : IntKind.i64.wrap ((k : Int) + 1) = ((k + 1 : Nat) : Int) := by have := LN.out; rw [IntKind.wrap_i64]; omega
      clear s1 s2 c2
      generalize wr = wA at *
      go_wp2
      go_loopw [22] (fun i wr => ∃ j : Nat, j ≤ fn ∧ i = .int .i64 j ∧ (∀ i, i < j → (R.getD k []).getD i 0 ≤ mkB ((D.getD k []).getD i fz).2) ∧ wA.grownBy wr none) (fun i _ => fn - (intOf i).toNat)
      case atStart => exact ⟨0, Nat.zero_le _, rfl, (fun i hi => absurd hi (Nat.not_lt_zero _)), gb_refl _ _⟩
      case round =>
        obtain ⟨j, hj, rfl, ht, hg⟩ := hrel
        have IT := Lib.hid ht
        have IG := Lib.hid hg
        clear ht hg c1
        by_cases hlt2 : j < fn
        · have lg : j < gn := by have := FG.out; omega
          obtain ⟨fd, hfd⟩ := S1.out.some (by omega)
          obtain ⟨gd, hgd⟩ := S2.out.some (by omega)
          obtain ⟨d0, d1⟩ := (S1.out.keep0 IG.out).cells fd hfd j hlt2
          have d2 := (S2.out.keep0 IG.out).cells gd hgd j lg
          have c2 := IG.out.cell C2.out (by simp)
          have i3 : (j : Int) < fn := by omega
          have i3' : (j : Int) < gn := by omega
          have i2 : (0 : Int) ≤ (j : Int) := by omega
          have hw2 : IntKind.i64.wrap ((j : Int) + 1) = ((j + 1 : Nat) : Int) := by have := FB.out; rw [IntKind.wrap_i64]; omega
          have HT2 := Lib.hid (show (R.getD k []).getD j 0 ≤ mkB ((D.getD k []).getD j fz).2 → ∀ i, i < j + 1 → (R.getD k []).getD i 0 ≤ mkB ((D.getD k []).getD i fz).2 from fun e i hi => by
            rcases (show i < j ∨ i = j by omega) with q | rfl
            · exact IT.out i q
            · exact e)
          have BF := Lib.hid (show ¬ (R.getD k []).getD j 0 ≤ mkB ((D.getD k []).getD j fz).2 → bo = false from fun e => bool_no HBO.out fun q => e (q k (by rw [← DN.out]; exact hlt) j (by have := S1.out.len; omega)))
          rw [hfd, hgd] at *
          generalize (R.getD k []).getD j 0 = x at *
          generalize ((D.getD k []).getD j fz).1 = s0 at *
          generalize ((D.getD k []).getD j fz).2 = wd at *
          have MK := Lib.hid (fun W => mask_any wd W)
          go_upto_region 8 with fail
          have NF := IsB.new wr 94 #[.string s0, .int .i64 wd]
          have GF := gb_alloc wr (.cells #[.string s0, .int .i64 wd] 94) none
          have a1 := GF.cell c2 (by simp)
          have a2 := GF.cell d2 (by simp)
          have IG2 := Lib.hid (gb_trans IG.out GF)
          generalize wr.alloc (.cells #[.string s0, .int .i64 wd] 94) = w5 at *
          generalize wr.heap.size = b5 at *
          have KT := Lib.hid (fun (w' : World) (q : w5.grownBy w' none) => (⟨q.cell a1 (by simp), q.cell a2 (by simp), (NF.keep0 q).cell 1⟩ : (fun w' : World => w'.cell? (bd.add k) = some (.slice (some gd) gn gc) ∧ w'.cell? (gd.add j) = some (.int .u32 x) ∧ w'.cell? ⟨b5, 1, none⟩ = some (.int .i64 wd)) w'))
          clear a1 a2 NF GF c2 d0 d1 d2
          by_cases hx : x ≤ mkB wd
          · have y1 : ¬ mkB wd < x := by omega
            have y2 : decide (mkB wd < x) = false := decide_eq_false y1
            have HT3 := Lib.hid (HT2.out hx)
            have G0 := Lib.hid (gb_drew w5 none)
            refine wp_region_held_drew (S := (fun w' : World => w'.cell? (bd.add k) = some (.slice (some gd) gn gc) ∧ w'.cell? (gd.add j) = some (.int .u32 x) ∧ w'.cell? ⟨b5, 1, none⟩ = some (.int .i64 wd))) (by kernel_rfl) (KT.out _ G0.out) (fun hH0 => ?_)
            refine wpAnyH_take (i := 0) (v := ?v85) rfl (by kernel_rfl) (by kernel_rfl) (by kernel_rfl) (fun _ _ _ h => h) (Or.inl ⟨by rfl, ?hy85⟩) (by assumption) ?rest85
            case hy85 => (intro wz hSw; (try dsimp only at hSw); first | (go_simp; done) | (go_simp; with_reducible rfl))
            try simp only [Act.put, List.getElem_toArray, List.getElem_cons_zero, List.setIfInBounds_toArray, List.set_cons_zero, List.set_cons_succ]
            refine wpAnyH_take (i := 1) (v := ?v86) rfl (by kernel_rfl) (by kernel_rfl) (by kernel_rfl) (fun _ _ _ h => h) (Or.inl ⟨by rfl, ?hy86⟩) (by assumption) ?rest86
            case hy86 => (intro wz hSw; (try dsimp only at hSw); first | (go_simp; done) | (go_simp; with_reducible rfl))
            try simp only [Act.put, List.getElem_toArray, List.getElem_cons_succ, List.getElem_cons_zero, List.setIfInBounds_toArray, List.set_cons_zero, List.set_cons_succ]
            refine wpAnyH_take (i := 2) (v := ?v87) rfl (by kernel_rfl) (by kernel_rfl) (by kernel_rfl) (fun _ _ _ h => h) (Or.inl ⟨by rfl, ?hy87⟩) (by assumption) ?rest87
            case hy87 => (intro wz hSw; (try dsimp only at hSw); first | (go_simp; done) | (go_simp; with_reducible rfl))
            try simp only [Act.put, List.getElem_toArray, List.getElem_cons_succ, List.getElem_cons_zero, List.setIfInBounds_toArray, List.set_cons_zero, List.set_cons_succ]
            refine wpAnyH_take (i := 3) (v := ?v88) rfl (by kernel_rfl) (by kernel_rfl) (by kernel_rfl) (fun _ _ _ h => h) (Or.inl ⟨by rfl, ?hy88⟩) (by assumption) ?rest88
            case hy88 => (intro wz hSw; (try dsimp only at hSw); first | (go_simp; done) | (go_simp; with_reducible rfl))
            try simp only [Act.put, List.getElem_toArray, List.getElem_cons_succ, List.getElem_cons_zero, List.setIfInBounds_toArray, List.set_cons_zero, List.set_cons_succ]
            refine wpAnyH_take (i := 4) (v := ?v89) rfl (by kernel_rfl) (by kernel_rfl) (by kernel_rfl) (fun _ _ _ h => h) (Or.inl ⟨by rfl, ?hy89⟩) (by assumption) ?rest89
            case hy89 => (intro wz hSw; (try dsimp only at hSw); first | (go_simp; done) | (go_simp; with_reducible rfl))
            try simp only [Act.put, List.getElem_toArray, List.getElem_cons_succ, List.getElem_cons_zero, List.setIfInBounds_toArray, List.set_cons_zero, List.set_cons_succ]
            refine wpAnyH_take (i := 5) (v := ?v90) rfl (by kernel_rfl) (by kernel_rfl) (by kernel_rfl) (fun _ _ _ h => h) (Or.inl ⟨by rfl, ?hy90⟩) (by assumption) ?rest90
            case hy90 => (intro wz hSw; (try dsimp only at hSw); first | (go_simp; done) | (go_simp; with_reducible rfl))
            try simp only [Act.put, List.getElem_toArray, List.getElem_cons_succ, List.getElem_cons_zero, List.setIfInBounds_toArray, List.set_cons_zero, List.set_cons_succ]
            refine wpAnyH_take (i := 6) (v := ?v91) rfl (by kernel_rfl) (by kernel_rfl) (by kernel_rfl) (fun _ _ _ h => h) (Or.inl ⟨by rfl, ?hy91⟩) (by assumption) ?rest91
            case hy91 => (intro wz hSw; (try dsimp only at hSw); first | (go_simp; done) | (go_simp; with_reducible rfl))
            try simp only [Act.put, List.getElem_toArray, List.getElem_cons_succ, List.getElem_cons_zero, List.setIfInBounds_toArray, List.set_cons_zero, List.set_cons_succ]
            refine wpAnyH_take (i := 7) (v := ?v92) rfl (by kernel_rfl) (by kernel_rfl) (by kernel_rfl) (fun _ _ _ h => h) (Or.inl ⟨by rfl, ?hy92⟩) (by assumption) ?rest92
            case hy92 => (intro wz hSw; (try dsimp only at hSw); first | (go_simp; done) | (go_simp; with_reducible rfl))
            try simp only [Act.put, List.getElem_toArray, List.getElem_cons_succ, List.getElem_cons_zero, List.setIfInBounds_toArray, List.set_cons_zero, List.set_cons_succ]
            refine wpAnyH_take (i := 8) (v := ?v93) rfl (by kernel_rfl) (by kernel_rfl) (by kernel_rfl) (fun _ _ _ h => h) (Or.inl ⟨by rfl, ?hy93⟩) (by assumption) ?rest93
            case hy93 => (intro wz hSw; (try dsimp only at hSw); first | (go_simp; done) | (go_simp; with_reducible rfl))
            try simp only [Act.put, List.getElem_toArray, List.getElem_cons_succ, List.getElem_cons_zero, List.setIfInBounds_toArray, List.set_cons_zero, List.set_cons_succ]
            refine wpAnyH_ready (rs := [9]) (by kernel_rfl) (by simp) ?_
            refine AllReadyH.cons (o := _) rfl (fun K hK => ?_) AllReadyH.nil
            go_simp
            refine ((MK.out _)).mono ?_
            rintro e wh1 ⟨rfl, g'⟩
            have g := gb_gr g' none
            clear g'
            have G1 := Lib.hid (gb_trans G0.out g)
            clear g
            try dsimp only
            refine hK.out _ _ (KT.out _ G1.out) (fun hH1 => ?_)
            clear hK K hH0
            try simp only [Act.put, List.getElem_toArray, List.getElem_cons_succ, List.getElem_cons_zero, List.setIfInBounds_toArray, List.set_cons_zero, List.set_cons_succ]
            refine wpAnyH_take (i := 10) (v := ?v94) rfl (by kernel_rfl) (by kernel_rfl) (by kernel_rfl) (fun _ _ _ h => h) (Or.inl ⟨by rfl, ?hy94⟩) (by assumption) ?rest94
            case hy94 => (intro wz hSw; (try dsimp only at hSw); first | (go_simp; done) | (go_simp; with_reducible rfl))
            try simp only [Act.put, List.getElem_toArray, List.getElem_cons_succ, List.getElem_cons_zero, List.setIfInBounds_toArray, List.set_cons_zero, List.set_cons_succ]
            refine wpAnyH_done (by kernel_rfl) ?_ _
            clear hH1
            go_wp2
            go_roundw
            case rel => exact ⟨j + 1, by omega, by first | rfl | (congr 1), HT3.out, gb_trans IG2.out G1.out⟩
            case measure => simp [intOf]; omega
          · have y1 : mkB wd < x := by omega
            have y2 : decide (mkB wd < x) = true := decide_eq_true y1
            have BB := Lib.hid (BF.out hx)
            have G0 := Lib.hid (gb_drew w5 none)
            refine wp_region_held_drew (S := (fun w' : World => w'.cell? (bd.add k) = some (.slice (some gd) gn gc) ∧ w'.cell? (gd.add j) = some (.int .u32 x) ∧ w'.cell? ⟨b5, 1, none⟩ = some (.int .i64 wd))) (by kernel_rfl) (KT.out _ G0.out) (fun hH0 => ?_)
            refine wpAnyH_take (i := 0) (v := ?v95) rfl (by kernel_rfl) (by kernel_rfl) (by kernel_rfl) (fun _ _ _ h => h) (Or.inl ⟨by rfl, ?hy95⟩) (by assumption) ?rest95
            case hy95 => (intro wz hSw; (try dsimp only at hSw); first | (go_simp; done) | (go_simp; with_reducible rfl))
            try simp only [Act.put, List.getElem_toArray, List.getElem_cons_zero, List.setIfInBounds_toArray, List.set_cons_zero, List.set_cons_succ]
            refine wpAnyH_take (i := 1) (v := ?v96) rfl (by kernel_rfl) (by kernel_rfl) (by kernel_rfl) (fun _ _ _ h => h) (Or.inl ⟨by rfl, ?hy96⟩) (by assumption) ?rest96
            case hy96 => (intro wz hSw; (try dsimp only at hSw); first | (go_simp; done) | (go_simp; with_reducible rfl))
            try simp only [Act.put, List.getElem_toArray, List.getElem_cons_succ, List.getElem_cons_zero, List.setIfInBounds_toArray, List.set_cons_zero, List.set_cons_succ]
            refine wpAnyH_take (i := 2) (v := ?v97) rfl (by kernel_rfl) (by kernel_rfl) (by kernel_rfl) (fun _ _ _ h => h) (Or.inl ⟨by rfl, ?hy97⟩) (by assumption) ?rest97
            case hy97 => (intro wz hSw; (try dsimp only at hSw); first | (go_simp; done) | (go_simp; with_reducible rfl))
            try simp only [Act.put, List.getElem_toArray, List.getElem_cons_succ, List.getElem_cons_zero, List.setIfInBounds_toArray, List.set_cons_zero, List.set_cons_succ]
            refine wpAnyH_take (i := 3) (v := ?v98) rfl (by kernel_rfl) (by kernel_rfl) (by kernel_rfl) (fun _ _ _ h => h) (Or.inl ⟨by rfl, ?hy98⟩) (by assumption) ?rest98
            case hy98 => (intro wz hSw; (try dsimp only at hSw); first | (go_simp; done) | (go_simp; with_reducible rfl))
            try simp only [Act.put, List.getElem_toArray, List.getElem_cons_succ, List.getElem_cons_zero, List.setIfInBounds_toArray, List.set_cons_zero, List.set_cons_succ]
            refine wpAnyH_take (i := 4) (v := ?v99) rfl (by kernel_rfl) (by kernel_rfl) (by kernel_rfl) (fun _ _ _ h => h) (Or.inl ⟨by rfl, ?hy99⟩) (by assumption) ?rest99
            case hy99 => (intro wz hSw; (try dsimp only at hSw); first | (go_simp; done) | (go_simp; with_reducible rfl))
            try simp only [Act.put, List.getElem_toArray, List.getElem_cons_succ, List.getElem_cons_zero, List.setIfInBounds_toArray, List.set_cons_zero, List.set_cons_succ]
            refine wpAnyH_take (i := 5) (v := ?v100) rfl (by kernel_rfl) (by kernel_rfl) (by kernel_rfl) (fun _ _ _ h => h) (Or.inl ⟨by rfl, ?hy100⟩) (by assumption) ?rest100
            case hy100 => (intro wz hSw; (try dsimp only at hSw); first | (go_simp; done) | (go_simp; with_reducible rfl))
            try simp only [Act.put, List.getElem_toArray, List.getElem_cons_succ, List.getElem_cons_zero, List.setIfInBounds_toArray, List.set_cons_zero, List.set_cons_succ]
            refine wpAnyH_take (i := 6) (v := ?v101) rfl (by kernel_rfl) (by kernel_rfl) (by kernel_rfl) (fun _ _ _ h => h) (Or.inl ⟨by rfl, ?hy101⟩) (by assumption) ?rest101
            case hy101 => (intro wz hSw; (try dsimp only at hSw); first | (go_simp; done) | (go_simp; with_reducible rfl))
            try simp only [Act.put, List.getElem_toArray, List.getElem_cons_succ, List.getElem_cons_zero, List.setIfInBounds_toArray, List.set_cons_zero, List.set_cons_succ]
            refine wpAnyH_take (i := 7) (v := ?v102) rfl (by kernel_rfl) (by kernel_rfl) (by kernel_rfl) (fun _ _ _ h => h) (Or.inl ⟨by rfl, ?hy102⟩) (by assumption) ?rest102
            case hy102 => (intro wz hSw; (try dsimp only at hSw); first | (go_simp; done) | (go_simp; with_reducible rfl))
            try simp only [Act.put, List.getElem_toArray, List.getElem_cons_succ, List.getElem_cons_zero, List.setIfInBounds_toArray, List.set_cons_zero, List.set_cons_succ]
            refine wpAnyH_take (i := 8) (v := ?v103) rfl (by kernel_rfl) (by kernel_rfl) (by kernel_rfl) (fun _ _ _ h => h) (Or.inl ⟨by rfl, ?hy103⟩) (by assumption) ?rest103
            case hy103 => (intro wz hSw; (try dsimp only at hSw); first | (go_simp; done) | (go_simp; with_reducible rfl))
            try simp only [Act.put, List.getElem_toArray, List.getElem_cons_succ, List.getElem_cons_zero, List.setIfInBounds_toArray, List.set_cons_zero, List.set_cons_succ]
            refine wpAnyH_ready (rs := [9]) (by kernel_rfl) (by simp) ?_
            refine AllReadyH.cons (o := _) rfl (fun K hK => ?_) AllReadyH.nil
            go_simp
            refine ((MK.out _)).mono ?_
            rintro e wh1 ⟨rfl, g'⟩
            have g := gb_gr g' none
            clear g'
            have G1 := Lib.hid (gb_trans G0.out g)
            clear g
            try dsimp only
            refine hK.out _ _ (KT.out _ G1.out) (fun hH1 => ?_)
            clear hK K hH0
            try simp only [Act.put, List.getElem_toArray, List.getElem_cons_succ, List.getElem_cons_zero, List.setIfInBounds_toArray, List.set_cons_zero, List.set_cons_succ]
            refine wpAnyH_take (i := 10) (v := ?v104) rfl (by kernel_rfl) (by kernel_rfl) (by kernel_rfl) (fun _ _ _ h => h) (Or.inl ⟨by rfl, ?hy104⟩) (by assumption) ?rest104
            case hy104 => (intro wz hSw; (try dsimp only at hSw); first | (go_simp; done) | (go_simp; with_reducible rfl))
            try simp only [Act.put, List.getElem_toArray, List.getElem_cons_succ, List.getElem_cons_zero, List.setIfInBounds_toArray, List.set_cons_zero, List.set_cons_succ]
            refine wpAnyH_done (by kernel_rfl) ?_ _
            clear hH1
            go_wp2
            go_ret
            exact ⟨by rw [BB.out] <;> rfl, gb_trans (gb_trans G4.out HG.out) (gb_trans IG2.out G1.out)⟩
        · have i3 : ¬ (j : Int) < fn := by omega
          obtain rfl : j = fn := by omega
          have HT3 := Lib.hid (show ∀ i, i < k + 1 → ∀ j, j < (D.getD i []).length → (R.getD i []).getD j 0 ≤ mkB ((D.getD i []).getD j fz).2 from fun i hi j hj => by
            rcases (show i < k ∨ i = k by omega) with q | rfl
            · exact HT.out i q j hj
            · exact IT.out j (by have := S1.out.len; omega))
          go_wp2
          go_roundw
          case rel => exact ⟨k + 1, by omega, by first | rfl | (congr 1), HT3.out, gb_trans HG.out IG.out⟩
          case measure => simp [intOf]; omega
    · have i1 : ¬ (k : Int) < n := by omega
      obtain rfl : k = n := by omega
      have BB := Lib.hid (show bo = true from HBO.out.2 fun i hi j hj => HT.out i (by rw [DN.out]; exact hi) j hj)
      go_wp2
      go_ret
      exact ⟨by rw [BB.out] <;> rfl, gb_trans G4.out HG.out⟩
end Go.Proofs.Ytglgjkggjpfahaa
