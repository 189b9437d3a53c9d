/- Table: the check of a call, on both sides; no condition but sizes. -/
import Derived.Test.YtgdefahnmgonlaaTbC
namespace Go.Proofs.Ytgdefahnmgonlaa
open Go.RowKit
set_option linter.unusedVariables false
def callE (A : List Actn) (da : Int) (ar : List Int) : Int := if isX da A.length = true then (if ar.length = (A.getD da.toNat anz).ps.length then (if (List.range (A.getD da.toNat anz).ps.length).all (fun i => fitsB (ar.getD i 0) ((A.getD da.toNat anz).ps.getD i fz).2) = true then 0 else 9) else 2) else 8
theorem all_yes {n : Nat} {p : Nat → Bool} (h : ∀ i, i < n → p i = true) : (List.range n).all p = true := by
  rw [List.all_eq_true]; intro i hi; exact h i (List.mem_range.1 hi)
theorem all_no {n : Nat} {p : Nat → Bool} (j : Nat) (hj : j < n) (h : p j = false) : (List.range n).all p = false := by
  rw [List.all_eq_false]; exact ⟨j, List.mem_range.2 hj, by simp [h]⟩
/-- The first place where g is not 0. -/
def fstE (g : Nat → Int) (n : Nat) : Option Nat := (List.range n).find? (fun j => g j != 0)
theorem fst_none {g : Nat → Int} {n : Nat} (h : ∀ i, i < n → g i = 0) : fstE g n = none := by
  unfold fstE
  rw [List.find?_eq_none]
  intro i hi
  simp [h i (List.mem_range.1 hi)]
theorem fst_some {g : Nat → Int} {n j : Nat} (hj : j < n) (h : g j ≠ 0) (b : ∀ i, i < j → g i = 0) : fstE g n = some j := by
  unfold fstE
  rw [List.find?_range_eq_some]
  refine ⟨by simpa using h, List.mem_range.2 hj, fun i hi => ?_⟩
  simp [b i hi]
set_option maxRecDepth 100000 in
set_option maxHeartbeats 4000000 in
theorem pcall_any (w : World) (X : PX) (P : Pg) (hp : SP w X P) (da : Int) (ra : Option Addr) (rn rc : Nat) (ar : List Int) (ha : SU w ra rn rc ar) (hn : rn ≤ 1000) : Calls Try.prog 30 #[.agg #[.string X.nm, .slice X.ha X.hn X.hc, .slice X.ma X.mn X.mc, .slice X.ra X.rn X.rc, .slice X.aa X.an X.ac, .slice X.ta X.tn X.tc, .slice X.sa X.sn X.sc, .slice X.ca X.cn X.cc, .slice X.da X.dn X.dc], .agg #[.int .i64 da, .slice ra rn rc]] w (RetV (.int .i64 (callE P.A da ar)) w) := by
  have HP := Lib.hid hp
  have HA := Lib.hid ha
  have HN := Lib.hid hn
  have AL := Lib.hid (show P.A.length = X.an from hp.a.len)
  have RL := Lib.hid (show ar.length = rn from ha.len)
  obtain ⟨CE, hce⟩ : ∃ d, d = callE P.A da ar := ⟨_, rfl⟩
  have HC := Lib.hid hce
  unfold callE at HC
  rw [← hce]
  have G2 := Lib.hid (gb_trans (gb_alloc w (.cells #[.string X.nm, .slice X.ha X.hn X.hc, .slice X.ma X.mn X.mc, .slice X.ra X.rn X.rc, .slice X.aa X.an X.ac, .slice X.ta X.tn X.tc, .slice X.sa X.sn X.sc, .slice X.ca X.cn X.cc, .slice X.da X.dn X.dc] 31) none) (gb_alloc _ (.cells #[.int .i64 da, .slice ra rn rc] 35) none))
  have B1 := (IsB.new w 31 #[.string X.nm, .slice X.ha X.hn X.hc, .slice X.ma X.mn X.mc, .slice X.ra X.rn X.rc, .slice X.aa X.an X.ac, .slice X.ta X.tn X.tc, .slice X.sa X.sn X.sc, .slice X.ca X.cn X.cc, .slice X.da X.dn X.dc]).alloc (.cells #[.int .i64 da, .slice ra rn rc] 35)
  have B2 := IsB.new (w.alloc (.cells #[.string X.nm, .slice X.ha X.hn X.hc, .slice X.ma X.mn X.mc, .slice X.ra X.rn X.rc, .slice X.aa X.an X.ac, .slice X.ta X.tn X.tc, .slice X.sa X.sn X.sc, .slice X.ca X.cn X.cc, .slice X.da X.dn X.dc] 31)) 35 #[.int .i64 da, .slice ra rn rc]
  simp only [sz_al] at B2
  replace B1 := Lib.hid B1
  replace B2 := Lib.hid B2
  clear hp ha hn hce
  go_enter Try.func30, Try.ntmps30
  go_upto_region 1 with fail
  generalize (w.alloc (.cells #[.string X.nm, .slice X.ha X.hn X.hc, .slice X.ma X.mn X.mc, .slice X.ra X.rn X.rc, .slice X.aa X.an X.ac, .slice X.ta X.tn X.tc, .slice X.sa X.sn X.sc, .slice X.ca X.cn X.cc, .slice X.da X.dn X.dc] 31)).alloc (.cells #[.int .i64 da, .slice ra rn rc] 35) = w2 at *
  obtain ⟨bx, hbx⟩ : ∃ b, b = w.heap.size := ⟨_, rfl⟩
  have Lbx := Lib.hid (show w.heap.size ≤ bx by rw [hbx]; exact Nat.le_refl _)
  rw [← hbx] at B1 B2 ⊢
  clear hbx
  replace HP := Lib.hid (HP.out.keep0 G2.out)
  replace HA := Lib.hid (HA.out.keep0 G2.out)
  have c0 := (B1.out.keep0 (gb_refl _ _)).cell 0
  have c1 := (B1.out.keep0 (gb_refl _ _)).cell 1
  have c2 := (B1.out.keep0 (gb_refl _ _)).cell 2
  have c3 := (B1.out.keep0 (gb_refl _ _)).cell 3
  have c4 := (B1.out.keep0 (gb_refl _ _)).cell 4
  have c5 := (B1.out.keep0 (gb_refl _ _)).cell 5
  have c6 := (B1.out.keep0 (gb_refl _ _)).cell 6
  have c7 := (B1.out.keep0 (gb_refl _ _)).cell 7
  have c8 := (B1.out.keep0 (gb_refl _ _)).cell 8
  dsimp at c0 c1 c2 c3 c4 c5 c6 c7 c8
  have r0 := B2.out.cell 0
  have r1 := B2.out.cell 1
  dsimp at r0 r1
  by_cases hx : 0 ≤ da ∧ da < (X.an : Int)
  · obtain ⟨k, rfl⟩ : ∃ k : Nat, da = (k : Int) := ⟨da.toNat, by omega⟩
    have hk : k < X.an := by omega
    have k0 : (0 : Int) ≤ (k : Int) := by omega
    have k1 : (k : Int) < X.an := by omega
    have k2 : ¬ X.an ≤ k := by omega
    have k3 : ¬ (k : Int) < 0 := by omega
    have HX := Lib.hid (show isX (k : Int) X.an = true from (isX_iff _ _).2 hx)
    rw [if_pos (by rw [AL.out]; exact HX.out), Int.toNat_natCast] at HC
    obtain ⟨aad, haa⟩ := HP.out.a.some (by omega)
    obtain ⟨_, ⟨pa, pn, pc, q1, sp⟩, _⟩ := HP.out.a.cells aad haa k hk
    generalize (P.A.getD k anz).ps = ps at *
    have SPs := Lib.hid sp
    have PL := Lib.hid (show ps.length = pn from sp.len)
    rw [RL.out, PL.out] at HC
    have HAA := Lib.hid haa
    clear sp hx haa
    by_cases hl : rn = pn
    · rw [if_pos hl] at HC
      subst hl
      have hl2 : ((rn : Int) != rn) = false := by simp
      go_upto_region 3 with (go_at_call 53; refine (hasact_any w2 X _).mono ?_; rw [HX.out]; rintro e w3 ⟨rfl, g⟩; have G3 := Lib.hid g; have c4 := (B1.out.keep0 g).cell 4; have r0 := (B2.out.keep0 g).cell 0; have r1 := (B2.out.keep0 g).cell 1; dsimp at c4 r0 r1; replace q1 := (show w3.cell? _ = _ from g.cell q1 (by simp)); clear g)
      rw [HAA.out] at c4 ⊢
      go_upto_region 6 with fail
      go_wp2
      go_loopw [28] (fun i wr => ∃ j : Nat, j ≤ rn ∧ i = .int .i64 j ∧ (∀ x, x < j → fitsB (ar.getD x 0) (ps.getD x fz).2 = true) ∧ w2.grownBy wr none) (fun i _ => rn - (intOf i).toNat)
      case atStart => exact ⟨0, Nat.zero_le _, rfl, (fun x hx => absurd hx (Nat.not_lt_zero _)), G3.out⟩
      case round =>
        obtain ⟨j, hj, rfl, hb, hg⟩ := hrel
        have HB := Lib.hid hb
        have G := Lib.hid hg
        clear hb hg
        by_cases hlt : j < rn
        · have i1 : (j : Int) < rn := by omega
          have i0 : (0 : Int) ≤ (j : Int) := by omega
          have hw : IntKind.i64.wrap ((j : Int) + 1) = ((j + 1 : Nat) : Int) := by have := HN.out; rw [IntKind.wrap_i64]; omega
          obtain ⟨rad, hra⟩ := HA.out.some (by omega)
          have x0 := (HA.out.keep0 G.out).cells rad hra j hlt
          have XR := Lib.hid (HA.out.at_ j)
          obtain ⟨pad, hpa⟩ := SPs.out.some (by omega)
          obtain ⟨y0, y1⟩ := (SPs.out.keep0 G.out).cells pad hpa j hlt
          have AN := Lib.hid (fun (q : fitsB (ar.getD j 0) (ps.getD j fz).2 = false) => show CE = 9 by rw [HC.out, if_neg (by rw [all_no (p := fun i => fitsB (ar.getD i 0) (ps.getD i fz).2) j hlt q]; simp)])
          have NX := Lib.hid (fun (q : fitsB (ar.getD j 0) (ps.getD j fz).2 = true) => (fun x hx => by rcases (show x < j ∨ x = j by omega) with r | rfl; exact HB.out x r; exact q : ∀ x, x < j + 1 → fitsB (ar.getD x 0) (ps.getD x fz).2 = true))
          generalize ar.getD j 0 = xv at *
          generalize (ps.getD j fz).1 = yn at *
          generalize (ps.getD j fz).2 = yw at *
          have b1 := (B2.out.keep0 G.out).cell 1
          dsimp at b1
          rw [hra] at b1 ⊢
          rw [hpa]
          have GK := Lib.hid (gb_alloc wr (.cells #[.string yn, .int .i64 yw] 94) none)
          have BK := IsB.new wr 94 #[.string yn, .int .i64 yw]
          replace BK := Lib.hid BK
          go_upto_region 9 with fail
          generalize wr.alloc (.cells #[.string yn, .int .i64 yw] 94) = w5 at *
          obtain ⟨bk, hbk⟩ : ∃ b, b = wr.heap.size := ⟨_, rfl⟩
          have Lbk := Lib.hid (show wr.heap.size ≤ bk by rw [hbk]; exact Nat.le_refl _)
          rw [← hbk] at BK ⊢
          clear hbk
          have G5 := Lib.hid (gb_trans G.out GK.out)
          have X5 := Lib.hid (GK.out.cell x0 (by simp))
          have KT := Lib.hid (fun (w' : World) (q : w5.grownBy w' none) => (⟨by have := (B2.out.keep0 (gb_trans G5.out q)).cell 1; rw [hra] at this; exact this, q.cell X5.out (by simp), (BK.out.keep0 q).cell 1, trivial⟩ : (fun w' : World => w'.cell? ⟨bx + 1, 1, none⟩ = some (.slice (some rad) rn rc) ∧ w'.cell? (rad.add j) = some (.int .u32 xv) ∧ w'.cell? ⟨bk, 1, none⟩ = some (.int .i64 yw) ∧ True) w'))
          clear x0 y0 y1 b1
          cases fb : fitsB xv yw
          · have G0 := Lib.hid (gb_drew w5 none)
            refine wp_region_held_drew (S := (fun w' : World => w'.cell? ⟨bx + 1, 1, none⟩ = some (.slice (some rad) rn rc) ∧ w'.cell? (rad.add j) = some (.int .u32 xv) ∧ w'.cell? ⟨bk, 1, none⟩ = some (.int .i64 yw) ∧ True)) (by kernel_rfl) (KT.out _ G0.out) (fun hH0 => ?_)
            refine wpAnyH_take (i := 0) (v := ?v1) rfl (by kernel_rfl) (by kernel_rfl) (by kernel_rfl) (fun _ _ _ h => h) (Or.inl ⟨by rfl, ?hy1⟩) (by assumption) ?rest1
            case hy1 => (intro wz hSw; (try dsimp only at hSw); first | (go_simp; done) | (go_simp; with_reducible rfl))
            try simp only [Act.put, List.getElem_toArray, List.getElem_cons_zero, List.setIfInBounds_toArray, List.set_cons_zero, List.set_cons_succ]
            refine wpAnyH_take (i := 1) (v := ?v2) rfl (by kernel_rfl) (by kernel_rfl) (by kernel_rfl) (fun _ _ _ h => h) (Or.inl ⟨by rfl, ?hy2⟩) (by assumption) ?rest2
            case hy2 => (intro wz hSw; (try dsimp only at hSw); first | (go_simp; done) | (go_simp; with_reducible rfl))
            try simp only [Act.put, List.getElem_toArray, List.getElem_cons_succ, List.getElem_cons_zero, List.setIfInBounds_toArray, List.set_cons_zero, List.set_cons_succ]
            refine wpAnyH_take (i := 2) (v := ?v3) rfl (by kernel_rfl) (by kernel_rfl) (by kernel_rfl) (fun _ _ _ h => h) (Or.inl ⟨by rfl, ?hy3⟩) (by assumption) ?rest3
            case hy3 => (intro wz hSw; (try dsimp only at hSw); first | (go_simp; done) | (go_simp; with_reducible rfl))
            try simp only [Act.put, List.getElem_toArray, List.getElem_cons_succ, List.getElem_cons_zero, List.setIfInBounds_toArray, List.set_cons_zero, List.set_cons_succ]
            refine wpAnyH_take (i := 3) (v := ?v4) rfl (by kernel_rfl) (by kernel_rfl) (by kernel_rfl) (fun _ _ _ h => h) (Or.inl ⟨by rfl, ?hy4⟩) (by assumption) ?rest4
            case hy4 => (intro wz hSw; (try dsimp only at hSw); first | (go_simp; done) | (go_simp; with_reducible rfl))
            try simp only [Act.put, List.getElem_toArray, List.getElem_cons_succ, List.getElem_cons_zero, List.setIfInBounds_toArray, List.set_cons_zero, List.set_cons_succ]
            refine wpAnyH_take (i := 4) (v := ?v5) rfl (by kernel_rfl) (by kernel_rfl) (by kernel_rfl) (fun _ _ _ h => h) (Or.inl ⟨by rfl, ?hy5⟩) (by assumption) ?rest5
            case hy5 => (intro wz hSw; (try dsimp only at hSw); first | (go_simp; done) | (go_simp; with_reducible rfl))
            try simp only [Act.put, List.getElem_toArray, List.getElem_cons_succ, List.getElem_cons_zero, List.setIfInBounds_toArray, List.set_cons_zero, List.set_cons_succ]
            refine wpAnyH_take (i := 5) (v := ?v6) rfl (by kernel_rfl) (by kernel_rfl) (by kernel_rfl) (fun _ _ _ h => h) (Or.inl ⟨by rfl, ?hy6⟩) (by assumption) ?rest6
            case hy6 => (intro wz hSw; (try dsimp only at hSw); first | (go_simp; done) | (go_simp; with_reducible rfl))
            try simp only [Act.put, List.getElem_toArray, List.getElem_cons_succ, List.getElem_cons_zero, List.setIfInBounds_toArray, List.set_cons_zero, List.set_cons_succ]
            refine wpAnyH_take (i := 6) (v := ?v7) rfl (by kernel_rfl) (by kernel_rfl) (by kernel_rfl) (fun _ _ _ h => h) (Or.inl ⟨by rfl, ?hy7⟩) (by assumption) ?rest7
            case hy7 => (intro wz hSw; (try dsimp only at hSw); first | (go_simp; done) | (go_simp; with_reducible rfl))
            try simp only [Act.put, List.getElem_toArray, List.getElem_cons_succ, List.getElem_cons_zero, List.setIfInBounds_toArray, List.set_cons_zero, List.set_cons_succ]
            refine wpAnyH_ready (rs := [7]) (by kernel_rfl) (by simp) ?_
            refine AllReadyH.cons (o := _) rfl (fun K hK => ?_) AllReadyH.nil
            go_simp
            refine (fits_any xv yw _).mono ?_
            rw [fb]
            rintro e wh1 ⟨rfl, g⟩
            have g := gb_gr g none
            have G1 := Lib.hid (gb_trans G0.out g)
            clear g
            try dsimp only
            refine hK.out _ _ (KT.out _ G1.out) (fun hH1 => ?_)
            clear hK K hH0
            try simp only [Act.put, List.getElem_toArray, List.getElem_cons_succ, List.getElem_cons_zero, List.setIfInBounds_toArray, List.set_cons_zero, List.set_cons_succ]
            refine wpAnyH_take (i := 8) (v := ?v8) rfl (by kernel_rfl) (by kernel_rfl) (by kernel_rfl) (fun _ _ _ h => h) (Or.inl ⟨by rfl, ?hy8⟩) (by assumption) ?rest8
            case hy8 => (intro wz hSw; (try dsimp only at hSw); first | (go_simp; done) | (go_simp; with_reducible rfl))
            try simp only [Act.put, List.getElem_toArray, List.getElem_cons_succ, List.getElem_cons_zero, List.setIfInBounds_toArray, List.set_cons_zero, List.set_cons_succ]
            refine wpAnyH_done (by kernel_rfl) ?_ _
            clear hH1
            have E := Lib.hid (AN.out fb)
            go_wp2
            go_ret
            exact ⟨by rw [E.out] <;> rfl, (gb_trans G2.out (gb_trans G5.out G1.out))⟩
          · have G0 := Lib.hid (gb_drew w5 none)
            refine wp_region_held_drew (S := (fun w' : World => w'.cell? ⟨bx + 1, 1, none⟩ = some (.slice (some rad) rn rc) ∧ w'.cell? (rad.add j) = some (.int .u32 xv) ∧ w'.cell? ⟨bk, 1, none⟩ = some (.int .i64 yw) ∧ True)) (by kernel_rfl) (KT.out _ G0.out) (fun hH0 => ?_)
            refine wpAnyH_take (i := 0) (v := ?v9) rfl (by kernel_rfl) (by kernel_rfl) (by kernel_rfl) (fun _ _ _ h => h) (Or.inl ⟨by rfl, ?hy9⟩) (by assumption) ?rest9
            case hy9 => (intro wz hSw; (try dsimp only at hSw); first | (go_simp; done) | (go_simp; with_reducible rfl))
            try simp only [Act.put, List.getElem_toArray, List.getElem_cons_zero, List.setIfInBounds_toArray, List.set_cons_zero, List.set_cons_succ]
            refine wpAnyH_take (i := 1) (v := ?v10) rfl (by kernel_rfl) (by kernel_rfl) (by kernel_rfl) (fun _ _ _ h => h) (Or.inl ⟨by rfl, ?hy10⟩) (by assumption) ?rest10
            case hy10 => (intro wz hSw; (try dsimp only at hSw); first | (go_simp; done) | (go_simp; with_reducible rfl))
            try simp only [Act.put, List.getElem_toArray, List.getElem_cons_succ, List.getElem_cons_zero, List.setIfInBounds_toArray, List.set_cons_zero, List.set_cons_succ]
            refine wpAnyH_take (i := 2) (v := ?v11) rfl (by kernel_rfl) (by kernel_rfl) (by kernel_rfl) (fun _ _ _ h => h) (Or.inl ⟨by rfl, ?hy11⟩) (by assumption) ?rest11
            case hy11 => (intro wz hSw; (try dsimp only at hSw); first | (go_simp; done) | (go_simp; with_reducible rfl))
            try simp only [Act.put, List.getElem_toArray, List.getElem_cons_succ, List.getElem_cons_zero, List.setIfInBounds_toArray, List.set_cons_zero, List.set_cons_succ]
            refine wpAnyH_take (i := 3) (v := ?v12) rfl (by kernel_rfl) (by kernel_rfl) (by kernel_rfl) (fun _ _ _ h => h) (Or.inl ⟨by rfl, ?hy12⟩) (by assumption) ?rest12
            case hy12 => (intro wz hSw; (try dsimp only at hSw); first | (go_simp; done) | (go_simp; with_reducible rfl))
            try simp only [Act.put, List.getElem_toArray, List.getElem_cons_succ, List.getElem_cons_zero, List.setIfInBounds_toArray, List.set_cons_zero, List.set_cons_succ]
            refine wpAnyH_take (i := 4) (v := ?v13) rfl (by kernel_rfl) (by kernel_rfl) (by kernel_rfl) (fun _ _ _ h => h) (Or.inl ⟨by rfl, ?hy13⟩) (by assumption) ?rest13
            case hy13 => (intro wz hSw; (try dsimp only at hSw); first | (go_simp; done) | (go_simp; with_reducible rfl))
            try simp only [Act.put, List.getElem_toArray, List.getElem_cons_succ, List.getElem_cons_zero, List.setIfInBounds_toArray, List.set_cons_zero, List.set_cons_succ]
            refine wpAnyH_take (i := 5) (v := ?v14) rfl (by kernel_rfl) (by kernel_rfl) (by kernel_rfl) (fun _ _ _ h => h) (Or.inl ⟨by rfl, ?hy14⟩) (by assumption) ?rest14
            case hy14 => (intro wz hSw; (try dsimp only at hSw); first | (go_simp; done) | (go_simp; with_reducible rfl))
            try simp only [Act.put, List.getElem_toArray, List.getElem_cons_succ, List.getElem_cons_zero, List.setIfInBounds_toArray, List.set_cons_zero, List.set_cons_succ]
            refine wpAnyH_take (i := 6) (v := ?v15) rfl (by kernel_rfl) (by kernel_rfl) (by kernel_rfl) (fun _ _ _ h => h) (Or.inl ⟨by rfl, ?hy15⟩) (by assumption) ?rest15
            case hy15 => (intro wz hSw; (try dsimp only at hSw); first | (go_simp; done) | (go_simp; with_reducible rfl))
            try simp only [Act.put, List.getElem_toArray, List.getElem_cons_succ, List.getElem_cons_zero, List.setIfInBounds_toArray, List.set_cons_zero, List.set_cons_succ]
            refine wpAnyH_ready (rs := [7]) (by kernel_rfl) (by simp) ?_
            refine AllReadyH.cons (o := _) rfl (fun K hK => ?_) AllReadyH.nil
            go_simp
            refine (fits_any xv yw _).mono ?_
            rw [fb]
            rintro e wh1 ⟨rfl, g⟩
            have g := gb_gr g none
            have G1 := Lib.hid (gb_trans G0.out g)
            clear g
            try dsimp only
            refine hK.out _ _ (KT.out _ G1.out) (fun hH1 => ?_)
            clear hK K hH0
            try simp only [Act.put, List.getElem_toArray, List.getElem_cons_succ, List.getElem_cons_zero, List.setIfInBounds_toArray, List.set_cons_zero, List.set_cons_succ]
            refine wpAnyH_take (i := 8) (v := ?v16) rfl (by kernel_rfl) (by kernel_rfl) (by kernel_rfl) (fun _ _ _ h => h) (Or.inl ⟨by rfl, ?hy16⟩) (by assumption) ?rest16
            case hy16 => (intro wz hSw; (try dsimp only at hSw); first | (go_simp; done) | (go_simp; with_reducible rfl))
            try simp only [Act.put, List.getElem_toArray, List.getElem_cons_succ, List.getElem_cons_zero, List.setIfInBounds_toArray, List.set_cons_zero, List.set_cons_succ]
            refine wpAnyH_done (by kernel_rfl) ?_ _
            clear hH1
            have N2 := Lib.hid (NX.out fb)
            go_wp2
            go_roundw
            case rel => exact ⟨j + 1, by omega, by first | rfl | (congr 1), N2.out, gb_trans G5.out G1.out⟩
            case measure => simp [intOf]; omega
        · have i1 : ¬ (j : Int) < rn := by omega
          have E := Lib.hid (show CE = 0 by rw [HC.out, if_pos (all_yes (fun i hi => HB.out i (by omega)))])
          go_wp2
          go_ret
          exact ⟨by rw [E.out] <;> rfl, (gb_trans G2.out G.out)⟩
    · have hl2 : ((rn : Int) != pn) = true := by simp; omega
      have E := Lib.hid (show CE = 2 by rw [HC.out, if_neg hl])
      go_upto_region 3 with (go_at_call 53; refine (hasact_any w2 X _).mono ?_; rw [HX.out]; rintro e w3 ⟨rfl, g⟩; have G3 := Lib.hid g; have c4 := (B1.out.keep0 g).cell 4; have r0 := (B2.out.keep0 g).cell 0; have r1 := (B2.out.keep0 g).cell 1; dsimp at c4 r0 r1; replace q1 := (show w3.cell? _ = _ from g.cell q1 (by simp)); clear g)
      rw [HAA.out] at c4 ⊢
      go_wp2
      go_ret
      exact ⟨by rw [E.out] <;> rfl, gb_trans G2.out G3.out⟩
  · have HX := Lib.hid (isX_no (n := X.an) hx)
    have E := Lib.hid (show CE = 8 by rw [HC.out, if_neg (by rw [AL.out, HX.out]; simp)])
    go_wp2_with (go_at_call 53; refine (hasact_any w2 X _).mono ?_; rw [HX.out]; rintro e w3 ⟨rfl, g⟩; have G3 := Lib.hid g; have c4 := (B1.out.keep0 g).cell 4; have r0 := (B2.out.keep0 g).cell 0; have r1 := (B2.out.keep0 g).cell 1; dsimp at c4 r0 r1; clear g)
    go_ret
    exact ⟨by rw [E.out] <;> rfl, gb_trans G2.out G3.out⟩
set_option maxRecDepth 100000 in
set_option maxHeartbeats 4000000 in
theorem rcall_any (w : World) (X : PX) (P : Pg) (hp : SP w X P) (da : Int) (ra : Option Addr) (rn rc : Nat) (ar : List Int) (ha : SU w ra rn rc ar) (hn : rn ≤ 1000) : Calls Try.prog 36 #[.agg #[.string X.nm, .slice X.ha X.hn X.hc, .slice X.ma X.mn X.mc, .slice X.ra X.rn X.rc, .slice X.aa X.an X.ac, .slice X.ta X.tn X.tc, .slice X.sa X.sn X.sc, .slice X.ca X.cn X.cc, .slice X.da X.dn X.dc], .agg #[.int .i64 da, .slice ra rn rc]] w (RetV (.int .i64 (callE P.A da ar)) w) := by
  have HP := Lib.hid hp
  have HA := Lib.hid ha
  have HN := Lib.hid hn
  have AL := Lib.hid (show P.A.length = X.an from hp.a.len)
  have RL := Lib.hid (show ar.length = rn from ha.len)
  obtain ⟨CE, hce⟩ : ∃ d, d = callE P.A da ar := ⟨_, rfl⟩
  have HC := Lib.hid hce
  unfold callE at HC
  rw [← hce]
  have G2 := Lib.hid (gb_trans (gb_alloc w (.cells #[.string X.nm, .slice X.ha X.hn X.hc, .slice X.ma X.mn X.mc, .slice X.ra X.rn X.rc, .slice X.aa X.an X.ac, .slice X.ta X.tn X.tc, .slice X.sa X.sn X.sc, .slice X.ca X.cn X.cc, .slice X.da X.dn X.dc] 31) none) (gb_alloc _ (.cells #[.int .i64 da, .slice ra rn rc] 35) none))
  have B1 := (IsB.new w 31 #[.string X.nm, .slice X.ha X.hn X.hc, .slice X.ma X.mn X.mc, .slice X.ra X.rn X.rc, .slice X.aa X.an X.ac, .slice X.ta X.tn X.tc, .slice X.sa X.sn X.sc, .slice X.ca X.cn X.cc, .slice X.da X.dn X.dc]).alloc (.cells #[.int .i64 da, .slice ra rn rc] 35)
  have B2 := IsB.new (w.alloc (.cells #[.string X.nm, .slice X.ha X.hn X.hc, .slice X.ma X.mn X.mc, .slice X.ra X.rn X.rc, .slice X.aa X.an X.ac, .slice X.ta X.tn X.tc, .slice X.sa X.sn X.sc, .slice X.ca X.cn X.cc, .slice X.da X.dn X.dc] 31)) 35 #[.int .i64 da, .slice ra rn rc]
  simp only [sz_al] at B2
  replace B1 := Lib.hid B1
  replace B2 := Lib.hid B2
  clear hp ha hn hce
  go_enter Try.func36, Try.ntmps36
  go_upto_region 1 with fail
  generalize (w.alloc (.cells #[.string X.nm, .slice X.ha X.hn X.hc, .slice X.ma X.mn X.mc, .slice X.ra X.rn X.rc, .slice X.aa X.an X.ac, .slice X.ta X.tn X.tc, .slice X.sa X.sn X.sc, .slice X.ca X.cn X.cc, .slice X.da X.dn X.dc] 31)).alloc (.cells #[.int .i64 da, .slice ra rn rc] 35) = w2 at *
  obtain ⟨bx, hbx⟩ : ∃ b, b = w.heap.size := ⟨_, rfl⟩
  have Lbx := Lib.hid (show w.heap.size ≤ bx by rw [hbx]; exact Nat.le_refl _)
  rw [← hbx] at B1 B2 ⊢
  clear hbx
  replace HP := Lib.hid (HP.out.keep0 G2.out)
  replace HA := Lib.hid (HA.out.keep0 G2.out)
  have c0 := (B1.out.keep0 (gb_refl _ _)).cell 0
  have c1 := (B1.out.keep0 (gb_refl _ _)).cell 1
  have c2 := (B1.out.keep0 (gb_refl _ _)).cell 2
  have c3 := (B1.out.keep0 (gb_refl _ _)).cell 3
  have c4 := (B1.out.keep0 (gb_refl _ _)).cell 4
  have c5 := (B1.out.keep0 (gb_refl _ _)).cell 5
  have c6 := (B1.out.keep0 (gb_refl _ _)).cell 6
  have c7 := (B1.out.keep0 (gb_refl _ _)).cell 7
  have c8 := (B1.out.keep0 (gb_refl _ _)).cell 8
  dsimp at c0 c1 c2 c3 c4 c5 c6 c7 c8
  have r0 := B2.out.cell 0
  have r1 := B2.out.cell 1
  dsimp at r0 r1
  by_cases hx : 0 ≤ da ∧ da < (X.an : Int)
  · obtain ⟨k, rfl⟩ : ∃ k : Nat, da = (k : Int) := ⟨da.toNat, by omega⟩
    have hk : k < X.an := by omega
    have k0 : (0 : Int) ≤ (k : Int) := by omega
    have k1 : (k : Int) < X.an := by omega
    have k2 : ¬ X.an ≤ k := by omega
    have k3 : ¬ (k : Int) < 0 := by omega
    have HX := Lib.hid (show isX (k : Int) X.an = true from (isX_iff _ _).2 hx)
    rw [if_pos (by rw [AL.out]; exact HX.out), Int.toNat_natCast] at HC
    obtain ⟨aad, haa⟩ := HP.out.a.some (by omega)
    obtain ⟨_, ⟨pa, pn, pc, q1, sp⟩, _⟩ := HP.out.a.cells aad haa k hk
    generalize (P.A.getD k anz).ps = ps at *
    have SPs := Lib.hid sp
    have PL := Lib.hid (show ps.length = pn from sp.len)
    rw [RL.out, PL.out] at HC
    have HAA := Lib.hid haa
    clear sp hx haa
    rw [HAA.out] at c4 ⊢
    by_cases hl : rn = pn
    · rw [if_pos hl] at HC
      subst hl
      have hl2 : ((rn : Int) != rn) = false := by simp
      go_upto_region 6 with fail
      go_wp2
      go_loopw [6] (fun i wr => ∃ j : Nat, j ≤ rn ∧ i = .int .i64 j ∧ (∀ x, x < j → fitsB (ar.getD x 0) (ps.getD x fz).2 = true) ∧ w2.grownBy wr none) (fun i _ => rn - (intOf i).toNat)
      case atStart => exact ⟨0, Nat.zero_le _, rfl, (fun x hx => absurd hx (Nat.not_lt_zero _)), gb_refl _ _⟩
      case round =>
        obtain ⟨j, hj, rfl, hb, hg⟩ := hrel
        have HB := Lib.hid hb
        have G := Lib.hid hg
        clear hb hg
        by_cases hlt : j < rn
        · have i1 : (j : Int) < rn := by omega
          have i0 : (0 : Int) ≤ (j : Int) := by omega
          have hw : IntKind.i64.wrap ((j : Int) + 1) = ((j + 1 : Nat) : Int) := by have := HN.out; rw [IntKind.wrap_i64]; omega
          obtain ⟨rad, hra⟩ := HA.out.some (by omega)
          have x0 := (HA.out.keep0 G.out).cells rad hra j hlt
          have XR := Lib.hid (HA.out.at_ j)
          obtain ⟨pad, hpa⟩ := SPs.out.some (by omega)
          obtain ⟨y0, y1⟩ := (SPs.out.keep0 G.out).cells pad hpa j hlt
          have AN := Lib.hid (fun (q : fitsB (ar.getD j 0) (ps.getD j fz).2 = false) => show CE = 9 by rw [HC.out, if_neg (by rw [all_no (p := fun i => fitsB (ar.getD i 0) (ps.getD i fz).2) j hlt q]; simp)])
          have NX := Lib.hid (fun (q : fitsB (ar.getD j 0) (ps.getD j fz).2 = true) => (fun x hx => by rcases (show x < j ∨ x = j by omega) with r | rfl; exact HB.out x r; exact q : ∀ x, x < j + 1 → fitsB (ar.getD x 0) (ps.getD x fz).2 = true))
          generalize ar.getD j 0 = xv at *
          generalize (ps.getD j fz).1 = yn at *
          generalize (ps.getD j fz).2 = yw at *
          have b1 := (B2.out.keep0 G.out).cell 1
          dsimp at b1
          rw [hra] at b1 ⊢
          rw [hpa]
          go_upto_region 9 with fail
          have X5 := Lib.hid x0
          have Y5 := Lib.hid y1
          have KT := Lib.hid (fun (w' : World) (q : wr.grownBy w' none) => (⟨by have := (B2.out.keep0 (gb_trans G.out q)).cell 1; rw [hra] at this; exact this, q.cell X5.out (by simp), q.cell Y5.out (by simp), trivial⟩ : (fun w' : World => w'.cell? ⟨bx + 1, 1, none⟩ = some (.slice (some rad) rn rc) ∧ w'.cell? (rad.add j) = some (.int .u32 xv) ∧ w'.cell? ⟨(pad.add (j * 2)).block, (pad.add (j * 2)).off + 1, none⟩ = some (.int .i64 yw) ∧ True) w'))
          clear x0 y0 y1 b1
          cases fb : fitsB xv yw
          · have G0 := Lib.hid (gb_drew wr none)
            refine wp_region_held_drew (S := (fun w' : World => w'.cell? ⟨bx + 1, 1, none⟩ = some (.slice (some rad) rn rc) ∧ w'.cell? (rad.add j) = some (.int .u32 xv) ∧ w'.cell? ⟨(pad.add (j * 2)).block, (pad.add (j * 2)).off + 1, none⟩ = some (.int .i64 yw) ∧ True)) (by kernel_rfl) (KT.out _ G0.out) (fun hH0 => ?_)
            refine wpAnyH_take (i := 0) (v := ?v17) rfl (by kernel_rfl) (by kernel_rfl) (by kernel_rfl) (fun _ _ _ h => h) (Or.inl ⟨by rfl, ?hy17⟩) (by assumption) ?rest17
            case hy17 => (intro wz hSw; (try dsimp only at hSw); first | (go_simp; done) | (go_simp; with_reducible rfl))
            try simp only [Act.put, List.getElem_toArray, List.getElem_cons_zero, List.setIfInBounds_toArray, List.set_cons_zero, List.set_cons_succ]
            refine wpAnyH_take (i := 1) (v := ?v18) rfl (by kernel_rfl) (by kernel_rfl) (by kernel_rfl) (fun _ _ _ h => h) (Or.inl ⟨by rfl, ?hy18⟩) (by assumption) ?rest18
            case hy18 => (intro wz hSw; (try dsimp only at hSw); first | (go_simp; done) | (go_simp; with_reducible rfl))
            try simp only [Act.put, List.getElem_toArray, List.getElem_cons_succ, List.getElem_cons_zero, List.setIfInBounds_toArray, List.set_cons_zero, List.set_cons_succ]
            refine wpAnyH_take (i := 2) (v := ?v19) rfl (by kernel_rfl) (by kernel_rfl) (by kernel_rfl) (fun _ _ _ h => h) (Or.inl ⟨by rfl, ?hy19⟩) (by assumption) ?rest19
            case hy19 => (intro wz hSw; (try dsimp only at hSw); first | (go_simp; done) | (go_simp; with_reducible rfl))
            try simp only [Act.put, List.getElem_toArray, List.getElem_cons_succ, List.getElem_cons_zero, List.setIfInBounds_toArray, List.set_cons_zero, List.set_cons_succ]
            refine wpAnyH_take (i := 3) (v := ?v20) rfl (by kernel_rfl) (by kernel_rfl) (by kernel_rfl) (fun _ _ _ h => h) (Or.inl ⟨by rfl, ?hy20⟩) (by assumption) ?rest20
            case hy20 => (intro wz hSw; (try dsimp only at hSw); first | (go_simp; done) | (go_simp; with_reducible rfl))
            try simp only [Act.put, List.getElem_toArray, List.getElem_cons_succ, List.getElem_cons_zero, List.setIfInBounds_toArray, List.set_cons_zero, List.set_cons_succ]
            refine wpAnyH_take (i := 4) (v := ?v21) rfl (by kernel_rfl) (by kernel_rfl) (by kernel_rfl) (fun _ _ _ h => h) (Or.inl ⟨by rfl, ?hy21⟩) (by assumption) ?rest21
            case hy21 => (intro wz hSw; (try dsimp only at hSw); first | (go_simp; done) | (go_simp; with_reducible rfl))
            try simp only [Act.put, List.getElem_toArray, List.getElem_cons_succ, List.getElem_cons_zero, List.setIfInBounds_toArray, List.set_cons_zero, List.set_cons_succ]
            refine wpAnyH_take (i := 5) (v := ?v22) rfl (by kernel_rfl) (by kernel_rfl) (by kernel_rfl) (fun _ _ _ h => h) (Or.inl ⟨by rfl, ?hy22⟩) (by assumption) ?rest22
            case hy22 => (intro wz hSw; (try dsimp only at hSw); first | (go_simp; done) | (go_simp; with_reducible rfl))
            try simp only [Act.put, List.getElem_toArray, List.getElem_cons_succ, List.getElem_cons_zero, List.setIfInBounds_toArray, List.set_cons_zero, List.set_cons_succ]
            refine wpAnyH_take (i := 6) (v := ?v23) rfl (by kernel_rfl) (by kernel_rfl) (by kernel_rfl) (fun _ _ _ h => h) (Or.inl ⟨by rfl, ?hy23⟩) (by assumption) ?rest23
            case hy23 => (intro wz hSw; (try dsimp only at hSw); first | (go_simp; done) | (go_simp; with_reducible rfl))
            try simp only [Act.put, List.getElem_toArray, List.getElem_cons_succ, List.getElem_cons_zero, List.setIfInBounds_toArray, List.set_cons_zero, List.set_cons_succ]
            refine wpAnyH_take (i := 7) (v := ?v24) rfl (by kernel_rfl) (by kernel_rfl) (by kernel_rfl) (fun _ _ _ h => h) (Or.inl ⟨by rfl, ?hy24⟩) (by assumption) ?rest24
            case hy24 => (intro wz hSw; (try dsimp only at hSw); first | (go_simp; done) | (go_simp; with_reducible rfl))
            try simp only [Act.put, List.getElem_toArray, List.getElem_cons_succ, List.getElem_cons_zero, List.setIfInBounds_toArray, List.set_cons_zero, List.set_cons_succ]
            refine wpAnyH_take (i := 8) (v := ?v25) rfl (by kernel_rfl) (by kernel_rfl) (by kernel_rfl) (fun _ _ _ h => h) (Or.inl ⟨by rfl, ?hy25⟩) (by assumption) ?rest25
            case hy25 => (intro wz hSw; (try dsimp only at hSw); first | (go_simp; done) | (go_simp; with_reducible rfl))
            try simp only [Act.put, List.getElem_toArray, List.getElem_cons_succ, List.getElem_cons_zero, List.setIfInBounds_toArray, List.set_cons_zero, List.set_cons_succ]
            refine wpAnyH_take (i := 9) (v := ?v26) rfl (by kernel_rfl) (by kernel_rfl) (by kernel_rfl) (fun _ _ _ h => h) (Or.inl ⟨by rfl, ?hy26⟩) (by assumption) ?rest26
            case hy26 => (intro wz hSw; (try dsimp only at hSw); first | (go_simp; done) | (go_simp; with_reducible rfl))
            try simp only [Act.put, List.getElem_toArray, List.getElem_cons_succ, List.getElem_cons_zero, List.setIfInBounds_toArray, List.set_cons_zero, List.set_cons_succ]
            refine wpAnyH_ready (rs := [10]) (by kernel_rfl) (by simp) ?_
            refine AllReadyH.cons (o := _) rfl (fun K hK => ?_) AllReadyH.nil
            go_simp
            refine (rfits_any xv yw _ XR.out.1 XR.out.2).mono ?_
            rw [fb]
            rintro e wh1 ⟨rfl, rfl⟩
            have g := gb_refl wr.drew none
            have G1 := Lib.hid (gb_trans G0.out g)
            clear g
            try dsimp only
            refine hK.out _ _ (KT.out _ G1.out) (fun hH1 => ?_)
            clear hK K hH0
            try simp only [Act.put, List.getElem_toArray, List.getElem_cons_succ, List.getElem_cons_zero, List.setIfInBounds_toArray, List.set_cons_zero, List.set_cons_succ]
            refine wpAnyH_take (i := 11) (v := ?v27) rfl (by kernel_rfl) (by kernel_rfl) (by kernel_rfl) (fun _ _ _ h => h) (Or.inl ⟨by rfl, ?hy27⟩) (by assumption) ?rest27
            case hy27 => (intro wz hSw; (try dsimp only at hSw); first | (go_simp; done) | (go_simp; with_reducible rfl))
            try simp only [Act.put, List.getElem_toArray, List.getElem_cons_succ, List.getElem_cons_zero, List.setIfInBounds_toArray, List.set_cons_zero, List.set_cons_succ]
            refine wpAnyH_done (by kernel_rfl) ?_ _
            clear hH1
            have E := Lib.hid (AN.out fb)
            go_wp2
            go_ret
            exact ⟨by rw [E.out] <;> rfl, (gb_trans G2.out (gb_trans G.out G1.out))⟩
          · have G0 := Lib.hid (gb_drew wr none)
            refine wp_region_held_drew (S := (fun w' : World => w'.cell? ⟨bx + 1, 1, none⟩ = some (.slice (some rad) rn rc) ∧ w'.cell? (rad.add j) = some (.int .u32 xv) ∧ w'.cell? ⟨(pad.add (j * 2)).block, (pad.add (j * 2)).off + 1, none⟩ = some (.int .i64 yw) ∧ True)) (by kernel_rfl) (KT.out _ G0.out) (fun hH0 => ?_)
            refine wpAnyH_take (i := 0) (v := ?v28) rfl (by kernel_rfl) (by kernel_rfl) (by kernel_rfl) (fun _ _ _ h => h) (Or.inl ⟨by rfl, ?hy28⟩) (by assumption) ?rest28
            case hy28 => (intro wz hSw; (try dsimp only at hSw); first | (go_simp; done) | (go_simp; with_reducible rfl))
            try simp only [Act.put, List.getElem_toArray, List.getElem_cons_zero, List.setIfInBounds_toArray, List.set_cons_zero, List.set_cons_succ]
            refine wpAnyH_take (i := 1) (v := ?v29) rfl (by kernel_rfl) (by kernel_rfl) (by kernel_rfl) (fun _ _ _ h => h) (Or.inl ⟨by rfl, ?hy29⟩) (by assumption) ?rest29
            case hy29 => (intro wz hSw; (try dsimp only at hSw); first | (go_simp; done) | (go_simp; with_reducible rfl))
            try simp only [Act.put, List.getElem_toArray, List.getElem_cons_succ, List.getElem_cons_zero, List.setIfInBounds_toArray, List.set_cons_zero, List.set_cons_succ]
            refine wpAnyH_take (i := 2) (v := ?v30) rfl (by kernel_rfl) (by kernel_rfl) (by kernel_rfl) (fun _ _ _ h => h) (Or.inl ⟨by rfl, ?hy30⟩) (by assumption) ?rest30
            case hy30 => (intro wz hSw; (try dsimp only at hSw); first | (go_simp; done) | (go_simp; with_reducible rfl))
            try simp only [Act.put, List.getElem_toArray, List.getElem_cons_succ, List.getElem_cons_zero, List.setIfInBounds_toArray, List.set_cons_zero, List.set_cons_succ]
            refine wpAnyH_take (i := 3) (v := ?v31) rfl (by kernel_rfl) (by kernel_rfl) (by kernel_rfl) (fun _ _ _ h => h) (Or.inl ⟨by rfl, ?hy31⟩) (by assumption) ?rest31
            case hy31 => (intro wz hSw; (try dsimp only at hSw); first | (go_simp; done) | (go_simp; with_reducible rfl))
            try simp only [Act.put, List.getElem_toArray, List.getElem_cons_succ, List.getElem_cons_zero, List.setIfInBounds_toArray, List.set_cons_zero, List.set_cons_succ]
            refine wpAnyH_take (i := 4) (v := ?v32) rfl (by kernel_rfl) (by kernel_rfl) (by kernel_rfl) (fun _ _ _ h => h) (Or.inl ⟨by rfl, ?hy32⟩) (by assumption) ?rest32
            case hy32 => (intro wz hSw; (try dsimp only at hSw); first | (go_simp; done) | (go_simp; with_reducible rfl))
            try simp only [Act.put, List.getElem_toArray, List.getElem_cons_succ, List.getElem_cons_zero, List.setIfInBounds_toArray, List.set_cons_zero, List.set_cons_succ]
            refine wpAnyH_take (i := 5) (v := ?v33) rfl (by kernel_rfl) (by kernel_rfl) (by kernel_rfl) (fun _ _ _ h => h) (Or.inl ⟨by rfl, ?hy33⟩) (by assumption) ?rest33
            case hy33 => (intro wz hSw; (try dsimp only at hSw); first | (go_simp; done) | (go_simp; with_reducible rfl))
            try simp only [Act.put, List.getElem_toArray, List.getElem_cons_succ, List.getElem_cons_zero, List.setIfInBounds_toArray, List.set_cons_zero, List.set_cons_succ]
            refine wpAnyH_take (i := 6) (v := ?v34) rfl (by kernel_rfl) (by kernel_rfl) (by kernel_rfl) (fun _ _ _ h => h) (Or.inl ⟨by rfl, ?hy34⟩) (by assumption) ?rest34
            case hy34 => (intro wz hSw; (try dsimp only at hSw); first | (go_simp; done) | (go_simp; with_reducible rfl))
            try simp only [Act.put, List.getElem_toArray, List.getElem_cons_succ, List.getElem_cons_zero, List.setIfInBounds_toArray, List.set_cons_zero, List.set_cons_succ]
            refine wpAnyH_take (i := 7) (v := ?v35) rfl (by kernel_rfl) (by kernel_rfl) (by kernel_rfl) (fun _ _ _ h => h) (Or.inl ⟨by rfl, ?hy35⟩) (by assumption) ?rest35
            case hy35 => (intro wz hSw; (try dsimp only at hSw); first | (go_simp; done) | (go_simp; with_reducible rfl))
            try simp only [Act.put, List.getElem_toArray, List.getElem_cons_succ, List.getElem_cons_zero, List.setIfInBounds_toArray, List.set_cons_zero, List.set_cons_succ]
            refine wpAnyH_take (i := 8) (v := ?v36) rfl (by kernel_rfl) (by kernel_rfl) (by kernel_rfl) (fun _ _ _ h => h) (Or.inl ⟨by rfl, ?hy36⟩) (by assumption) ?rest36
            case hy36 => (intro wz hSw; (try dsimp only at hSw); first | (go_simp; done) | (go_simp; with_reducible rfl))
            try simp only [Act.put, List.getElem_toArray, List.getElem_cons_succ, List.getElem_cons_zero, List.setIfInBounds_toArray, List.set_cons_zero, List.set_cons_succ]
            refine wpAnyH_take (i := 9) (v := ?v37) rfl (by kernel_rfl) (by kernel_rfl) (by kernel_rfl) (fun _ _ _ h => h) (Or.inl ⟨by rfl, ?hy37⟩) (by assumption) ?rest37
            case hy37 => (intro wz hSw; (try dsimp only at hSw); first | (go_simp; done) | (go_simp; with_reducible rfl))
            try simp only [Act.put, List.getElem_toArray, List.getElem_cons_succ, List.getElem_cons_zero, List.setIfInBounds_toArray, List.set_cons_zero, List.set_cons_succ]
            refine wpAnyH_ready (rs := [10]) (by kernel_rfl) (by simp) ?_
            refine AllReadyH.cons (o := _) rfl (fun K hK => ?_) AllReadyH.nil
            go_simp
            refine (rfits_any xv yw _ XR.out.1 XR.out.2).mono ?_
            rw [fb]
            rintro e wh1 ⟨rfl, rfl⟩
            have g := gb_refl wr.drew none
            have G1 := Lib.hid (gb_trans G0.out g)
            clear g
            try dsimp only
            refine hK.out _ _ (KT.out _ G1.out) (fun hH1 => ?_)
            clear hK K hH0
            try simp only [Act.put, List.getElem_toArray, List.getElem_cons_succ, List.getElem_cons_zero, List.setIfInBounds_toArray, List.set_cons_zero, List.set_cons_succ]
            refine wpAnyH_take (i := 11) (v := ?v38) rfl (by kernel_rfl) (by kernel_rfl) (by kernel_rfl) (fun _ _ _ h => h) (Or.inl ⟨by rfl, ?hy38⟩) (by assumption) ?rest38
            case hy38 => (intro wz hSw; (try dsimp only at hSw); first | (go_simp; done) | (go_simp; with_reducible rfl))
            try simp only [Act.put, List.getElem_toArray, List.getElem_cons_succ, List.getElem_cons_zero, List.setIfInBounds_toArray, List.set_cons_zero, List.set_cons_succ]
            refine wpAnyH_done (by kernel_rfl) ?_ _
            clear hH1
            have N2 := Lib.hid (NX.out fb)
            go_wp2
            go_roundw
            case rel => exact ⟨j + 1, by omega, by first | rfl | (congr 1), N2.out, gb_trans G.out G1.out⟩
            case measure => simp [intOf]; omega
        · have i1 : ¬ (j : Int) < rn := by omega
          have E := Lib.hid (show CE = 0 by rw [HC.out, if_pos (all_yes (fun i hi => HB.out i (by omega)))])
          go_wp2
          go_ret
          exact ⟨by rw [E.out] <;> rfl, (gb_trans G2.out G.out)⟩
    · have hl2 : ((rn : Int) != pn) = true := by simp; omega
      have E := Lib.hid (show CE = 2 by rw [HC.out, if_neg hl])
      go_wp2
      go_ret
      exact ⟨by rw [E.out] <;> rfl, G2.out⟩
  · have HX := Lib.hid (isX_no (n := X.an) hx)
    have E := Lib.hid (show CE = 8 by rw [HC.out, if_neg (by rw [AL.out, HX.out]; simp)])
    by_cases h0 : da < 0
    · go_wp2
      go_ret
      exact ⟨by rw [E.out] <;> rfl, G2.out⟩
    · have h1 : (X.an : Int) ≤ da := by omega
      have h2 : ¬ da < (X.an : Int) := by omega
      go_wp2
      go_ret
      exact ⟨by rw [E.out] <;> rfl, G2.out⟩
end Go.Proofs.Ytgdefahnmgonlaa
