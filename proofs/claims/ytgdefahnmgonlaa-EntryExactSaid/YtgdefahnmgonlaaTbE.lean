/- Table: the reference's check of the keys; no condition but sizes. -/
import Derived.Test.YtgdefahnmgonlaaTbD
namespace Go.Proofs.Ytgdefahnmgonlaa
open Go.RowKit
set_option linter.unusedVariables false
/-- What the check of the keys answers: the place and the number of the first fault. -/
def keysR (H : List (ByteArray × List Fld)) (M : List Fld) (ks : List TKy) : Int × Int := match fstE (fun j => keyE H M (ks.getD j tkz)) ks.length with
  | some j => ((j : Int), keyE H M (ks.getD j tkz))
  | none => if keysE H M ks = 0 then (0, 0) else (-2, keysE H M ks)
theorem keysR_bad {H : List (ByteArray × List Fld)} {M : List Fld} {ks : List TKy} {j : Nat} (hj : j < ks.length) (b : ∀ i, i < j → keyE H M (ks.getD i tkz) = 0) (h : keyE H M (ks.getD j tkz) ≠ 0) : keysR H M ks = ((j : Int), keyE H M (ks.getD j tkz)) := by
  unfold keysR
  rw [fst_some (g := fun j => keyE H M (ks.getD j tkz)) hj h b]
theorem keysR_ok {H : List (ByteArray × List Fld)} {M : List Fld} {ks : List TKy} (b : ∀ i, i < ks.length → keyE H M (ks.getD i tkz) = 0) : keysR H M ks = if keysE H M ks = 0 then (0, 0) else (-2, keysE H M ks) := by
  unfold keysR
  rw [fst_none (g := fun j => keyE H M (ks.getD j tkz)) b]
theorem next_all {p : Nat → Prop} {j : Nat} (b : ∀ i, i < j → p i) (h : p j) : ∀ i, i < j + 1 → p i := fun i hi => by
  rcases (show i < j ∨ i = j by omega) with r | rfl
  · exact b i r
  · exact h
set_option maxRecDepth 100000 in
set_option maxHeartbeats 4000000 in
theorem rkeys_any (w : World) (X : PX) (P : Pg) (hp : SP w X P) (Y : TX) (tb : Tbl) (h : ST w Y tb) (hn : Y.kn ≤ 1000) : Calls Try.prog 56 #[.agg #[.string X.nm, .slice X.ha X.hn X.hc, .slice X.ma X.mn X.mc, .slice X.ra X.rn X.rc, .slice X.aa X.an X.ac, .slice X.ta X.tn X.tc, .slice X.sa X.sn X.sc, .slice X.ca X.cn X.cc, .slice X.da X.dn X.dc], .agg #[.string tb.nm, .slice Y.ka Y.kn Y.kc, .slice Y.ca Y.cn Y.cc, .int .i64 tb.da, .slice Y.ra Y.rn Y.rc, .int .i64 tb.sz]] w (RetV (.tuple #[.int .i64 (keysR P.H P.M tb.ks).1, .int .i64 (keysR P.H P.M tb.ks).2]) w) := by
  have WD := Lib.hid (fun (W : World) (q : w.grownBy W none) => rwid17_any W X P (hp.keep0 q))
  have HS := Lib.hid h
  have HN := Lib.hid hn
  have HL := Lib.hid (show tb.ks.length = Y.kn from h.k.len)
  have KB := Lib.hid (fun (j : Nat) (hj : j < Y.kn) => keysR_bad (H := P.H) (M := P.M) (ks := tb.ks) (j := j) (by rw [HL.out]; exact hj))
  have KO := Lib.hid (keysR_ok (H := P.H) (M := P.M) (ks := tb.ks))
  obtain ⟨KR, hkr⟩ : ∃ d, d = keysR P.H P.M tb.ks := ⟨_, rfl⟩
  obtain ⟨WS, hws⟩ : ∃ s, s = wsT P.H P.M tb.ks := ⟨_, rfl⟩
  have WL := Lib.hid (show WS.length = Y.kn by rw [hws, ws_len]; exact HL.out)
  have WA := Lib.hid (show ∀ j, j < Y.kn → WS.getD j 0 = widE P.H P.M (tb.ks.getD j tkz).h (tb.ks.getD j tkz).f from fun j hj => by rw [hws]; exact ws_at _ _ _ j (by rw [HL.out]; exact hj))
  have WR := Lib.hid (show ∀ x ∈ WS, 0 ≤ x ∧ x ≤ 32 by rw [hws]; exact ws_rng _ _ _)
  have KE := Lib.hid (show ∀ ks, ks = tb.ks → keysE P.H P.M ks = if 1 < cntK 2 tb.ks then 7 else if 64 < sumI WS then 10 else 0 from fun ks e => by rw [e, hws]; rfl)
  rw [← hkr] at KB KO ⊢
  have G2 := Lib.hid (gb_trans (gb_alloc w (.cells #[.string X.nm, .slice X.ha X.hn X.hc, .slice X.ma X.mn X.mc, .slice X.ra X.rn X.rc, .slice X.aa X.an X.ac, .slice X.ta X.tn X.tc, .slice X.sa X.sn X.sc, .slice X.ca X.cn X.cc, .slice X.da X.dn X.dc] 31) none) (gb_alloc _ (.cells #[.string tb.nm, .slice Y.ka Y.kn Y.kc, .slice Y.ca Y.cn Y.cc, .int .i64 tb.da, .slice Y.ra Y.rn Y.rc, .int .i64 tb.sz] 60) none))
  have B1 := (IsB.new w 31 #[.string X.nm, .slice X.ha X.hn X.hc, .slice X.ma X.mn X.mc, .slice X.ra X.rn X.rc, .slice X.aa X.an X.ac, .slice X.ta X.tn X.tc, .slice X.sa X.sn X.sc, .slice X.ca X.cn X.cc, .slice X.da X.dn X.dc]).alloc (.cells #[.string tb.nm, .slice Y.ka Y.kn Y.kc, .slice Y.ca Y.cn Y.cc, .int .i64 tb.da, .slice Y.ra Y.rn Y.rc, .int .i64 tb.sz] 60)
  have B2 := IsB.new (w.alloc (.cells #[.string X.nm, .slice X.ha X.hn X.hc, .slice X.ma X.mn X.mc, .slice X.ra X.rn X.rc, .slice X.aa X.an X.ac, .slice X.ta X.tn X.tc, .slice X.sa X.sn X.sc, .slice X.ca X.cn X.cc, .slice X.da X.dn X.dc] 31)) 60 #[.string tb.nm, .slice Y.ka Y.kn Y.kc, .slice Y.ca Y.cn Y.cc, .int .i64 tb.da, .slice Y.ra Y.rn Y.rc, .int .i64 tb.sz]
  simp only [sz_al] at B2
  replace B1 := Lib.hid B1
  replace B2 := Lib.hid B2
  clear h hp hn hkr hws
  go_enter Try.func56, Try.ntmps56
  go_upto_region 1 with fail
  generalize (w.alloc (.cells #[.string X.nm, .slice X.ha X.hn X.hc, .slice X.ma X.mn X.mc, .slice X.ra X.rn X.rc, .slice X.aa X.an X.ac, .slice X.ta X.tn X.tc, .slice X.sa X.sn X.sc, .slice X.ca X.cn X.cc, .slice X.da X.dn X.dc] 31)).alloc (.cells #[.string tb.nm, .slice Y.ka Y.kn Y.kc, .slice Y.ca Y.cn Y.cc, .int .i64 tb.da, .slice Y.ra Y.rn Y.rc, .int .i64 tb.sz] 60) = w2 at *
  obtain ⟨bx, hbx⟩ : ∃ b, b = w.heap.size := ⟨_, rfl⟩
  have Lbx := Lib.hid (show w.heap.size ≤ bx by rw [hbx]; exact Nat.le_refl _)
  rw [← hbx] at B1 B2 ⊢
  clear hbx
  replace WD := Lib.hid (fun (W : World) (q : w2.grownBy W none) => WD.out W (gb_trans G2.out q))
  unfold RetV at WD
  replace HS := Lib.hid (HS.out.keep0 G2.out)
  go_wp2
  go_loopw [6, 7, 8] (fun s m i wr => ∃ j : Nat, j ≤ Y.kn ∧ i = .int .i64 j ∧ s = .int .i64 (sumI (WS.take j)) ∧ m = .int .i64 (cntK 2 (tb.ks.take j) : Nat) ∧ (∀ x, x < j → keyE P.H P.M (tb.ks.getD x tkz) = 0) ∧ w2.grownBy wr none) (fun _ _ i _ => Y.kn - (intOf i).toNat)
  case atStart => exact ⟨0, Nat.zero_le _, rfl, rfl, rfl, (fun x hx => absurd hx (Nat.not_lt_zero _)), gb_refl _ _⟩
  case round =>
    obtain ⟨j, hj, rfl, rfl, rfl, hb, hg⟩ := hrel
    have HB := Lib.hid hb
    have G := Lib.hid hg
    clear hb hg
    have d1 := (B2.out.keep0 G.out).cell 1
    dsimp at d1
    by_cases hlt : j < Y.kn
    · obtain ⟨ad, had⟩ := HS.out.k.some (by omega)
      obtain ⟨e0, e1, e2⟩ := (HS.out.k.keep0SKy G.out).cells ad had j hlt
      have SJ := Lib.hid (sum_take WS j (by rw [WL.out]; exact hlt))
      have R1 := Lib.hid (sum_rng (WS.take (j + 1)) (fun x hx => WR.out x (List.mem_of_mem_take hx)))
      have L1 := Lib.hid (show (WS.take (j + 1)).length ≤ 1000 by rw [List.length_take]; have := HN.out; have := WL.out; omega)
      have CT := Lib.hid (cnt_take 2 tb.ks j (by rw [HL.out]; exact hlt))
      have CL := Lib.hid (cnt_le 2 tb.ks j)
      have WJ := Lib.hid (WA.out j hlt)
      have KJ := Lib.hid (KB.out j hlt HB.out)
      have NX := Lib.hid (fun (q : keyE P.H P.M (tb.ks.getD j tkz) = 0) => next_all HB.out q)
      obtain ⟨KV, hkv⟩ : ∃ k, k = keyE P.H P.M (tb.ks.getD j tkz) := ⟨_, rfl⟩
      rw [← hkv] at KJ NX
      have KD := Lib.hid hkv
      unfold keyE at KD
      rw [← WJ.out] at KD
      rw [SJ.out] at R1
      generalize WS.getD j 0 = wj at *
      obtain ⟨s, hs⟩ : ∃ s, s = sumI (WS.take j) := ⟨_, rfl⟩
      obtain ⟨cn, hcn⟩ : ∃ c, c = cntK 2 (tb.ks.take j) := ⟨_, rfl⟩
      rw [← hs] at R1 SJ ⊢
      rw [← hcn] at CT CL ⊢
      clear hkv hs hcn
      have WDx := Lib.hid (fun (W : World) (q : w2.grownBy W none) => show Calls Try.prog 59 #[.agg #[.string X.nm, .slice X.ha X.hn X.hc, .slice X.ma X.mn X.mc, .slice X.ra X.rn X.rc, .slice X.aa X.an X.ac, .slice X.ta X.tn X.tc, .slice X.sa X.sn X.sc, .slice X.ca X.cn X.cc, .slice X.da X.dn X.dc], .agg #[.int .i64 (tb.ks.getD j tkz).h, .int .i64 (tb.ks.getD j tkz).f]] W (fun e w' => e = .returned (.int .i64 wj) ∧ W.grownBy w' none) by rw [WJ.out]; exact WD.out W q _ _)
      clear WJ
      generalize (tb.ks.getD j tkz).h = xh at *
      generalize (tb.ks.getD j tkz).f = xf at *
      generalize (tb.ks.getD j tkz).k = xk at *
      have i1 : (j : Int) < Y.kn := by omega
      have i0 : (0 : Int) ≤ (j : Int) := by omega
      have hw : IntKind.i64.wrap ((j : Int) + 1) = ((j + 1 : Nat) : Int) := by have := HN.out; rw [IntKind.wrap_i64]; omega
      have hw2 : IntKind.i64.wrap (s + wj) = s + wj := by have := R1.out; have := L1.out; rw [IntKind.wrap_i64]; omega
      have hw3 : IntKind.i64.wrap ((cn : Int) + 1) = ((cn + 1 : Nat) : Int) := by have := HN.out; have := CL.out; have := HL.out; rw [IntKind.wrap_i64]; omega
      have D1 := Lib.hid (fun (W : World) (q : w2.grownBy W none) => show W.cell? ⟨bx + 1, 1, none⟩ = some (.slice (some ad) Y.kn Y.kc) by have := (B2.out.keep0 q).cell 1; rw [had] at this; exact this)
      have E0 := Lib.hid (fun (W : World) (q : wr.grownBy W none) => (⟨q.cell e0 (by simp), q.cell e1 (by simp), q.cell e2 (by simp)⟩ : W.cell? (ad.add (j * 3)) = some (.int .i64 xh) ∧ W.cell? ⟨(ad.add (j * 3)).block, (ad.add (j * 3)).off + 1, none⟩ = some (.int .i64 xf) ∧ W.cell? ⟨(ad.add (j * 3)).block, (ad.add (j * 3)).off + 2, none⟩ = some (.int .i64 xk)))
      have KT := Lib.hid (fun (w' : World) (q : wr.grownBy w' none) => (⟨(B1.out.keep0 (gb_trans G.out q)).cell 0, (B1.out.keep0 (gb_trans G.out q)).cell 1, (B1.out.keep0 (gb_trans G.out q)).cell 2, (B1.out.keep0 (gb_trans G.out q)).cell 3, (B1.out.keep0 (gb_trans G.out q)).cell 4, (B1.out.keep0 (gb_trans G.out q)).cell 5, (B1.out.keep0 (gb_trans G.out q)).cell 6, (B1.out.keep0 (gb_trans G.out q)).cell 7, (B1.out.keep0 (gb_trans G.out q)).cell 8, D1.out w' (gb_trans G.out q), (E0.out w' q).1, (E0.out w' q).2.1, trivial⟩ : (fun w' : World => w'.cell? ⟨bx, 0, none⟩ = some (.string X.nm) ∧ w'.cell? ⟨bx, 1, none⟩ = some (.slice X.ha X.hn X.hc) ∧ w'.cell? ⟨bx, 2, none⟩ = some (.slice X.ma X.mn X.mc) ∧ w'.cell? ⟨bx, 3, none⟩ = some (.slice X.ra X.rn X.rc) ∧ w'.cell? ⟨bx, 4, none⟩ = some (.slice X.aa X.an X.ac) ∧ w'.cell? ⟨bx, 5, none⟩ = some (.slice X.ta X.tn X.tc) ∧ w'.cell? ⟨bx, 6, none⟩ = some (.slice X.sa X.sn X.sc) ∧ w'.cell? ⟨bx, 7, none⟩ = some (.slice X.ca X.cn X.cc) ∧ w'.cell? ⟨bx, 8, none⟩ = some (.slice X.da X.dn X.dc) ∧ w'.cell? ⟨bx + 1, 1, none⟩ = some (.slice (some ad) Y.kn Y.kc) ∧ w'.cell? (ad.add (j * 3)) = some (.int .i64 xh) ∧ w'.cell? ⟨(ad.add (j * 3)).block, (ad.add (j * 3)).off + 1, none⟩ = some (.int .i64 xf) ∧ True) w'))
      have AD := Lib.hid had
      rw [had] at d1
      rw [AD.out]
      clear had e0 e1 e2
      go_upto_region 6 with fail
      clear d1 hlt
      have G0 := Lib.hid (gb_drew wr none)
      refine wp_region_held_drew (S := (fun w' : World => w'.cell? ⟨bx, 0, none⟩ = some (.string X.nm) ∧ w'.cell? ⟨bx, 1, none⟩ = some (.slice X.ha X.hn X.hc) ∧ w'.cell? ⟨bx, 2, none⟩ = some (.slice X.ma X.mn X.mc) ∧ w'.cell? ⟨bx, 3, none⟩ = some (.slice X.ra X.rn X.rc) ∧ w'.cell? ⟨bx, 4, none⟩ = some (.slice X.aa X.an X.ac) ∧ w'.cell? ⟨bx, 5, none⟩ = some (.slice X.ta X.tn X.tc) ∧ w'.cell? ⟨bx, 6, none⟩ = some (.slice X.sa X.sn X.sc) ∧ w'.cell? ⟨bx, 7, none⟩ = some (.slice X.ca X.cn X.cc) ∧ w'.cell? ⟨bx, 8, none⟩ = some (.slice X.da X.dn X.dc) ∧ w'.cell? ⟨bx + 1, 1, none⟩ = some (.slice (some ad) Y.kn Y.kc) ∧ w'.cell? (ad.add (j * 3)) = some (.int .i64 xh) ∧ w'.cell? ⟨(ad.add (j * 3)).block, (ad.add (j * 3)).off + 1, none⟩ = some (.int .i64 xf) ∧ True)) (by kernel_rfl) (KT.out _ G0.out) (fun hH0 => ?_)
      refine wpAnyH_take (i := 0) (v := ?v1) rfl (by kernel_rfl) (by kernel_rfl) (by kernel_rfl) (fun _ _ _ h => h) (Or.inl ⟨by rfl, ?hy1⟩) (by assumption) ?rest1
      case hy1 => (intro wz hSw; (try dsimp only at hSw); first | (go_simp; done) | (go_simp; with_reducible rfl))
      try simp only [Act.put, List.getElem_toArray, List.getElem_cons_zero, List.setIfInBounds_toArray, List.set_cons_zero, List.set_cons_succ]
      refine wpAnyH_take (i := 1) (v := ?v2) rfl (by kernel_rfl) (by kernel_rfl) (by kernel_rfl) (fun _ _ _ h => h) (Or.inl ⟨by rfl, ?hy2⟩) (by assumption) ?rest2
      case hy2 => (intro wz hSw; (try dsimp only at hSw); first | (go_simp; done) | (go_simp; with_reducible rfl))
      try simp only [Act.put, List.getElem_toArray, List.getElem_cons_succ, List.getElem_cons_zero, List.setIfInBounds_toArray, List.set_cons_zero, List.set_cons_succ]
      refine wpAnyH_take (i := 2) (v := ?v3) rfl (by kernel_rfl) (by kernel_rfl) (by kernel_rfl) (fun _ _ _ h => h) (Or.inl ⟨by rfl, ?hy3⟩) (by assumption) ?rest3
      case hy3 => (intro wz hSw; (try dsimp only at hSw); first | (go_simp; done) | (go_simp; with_reducible rfl))
      try simp only [Act.put, List.getElem_toArray, List.getElem_cons_succ, List.getElem_cons_zero, List.setIfInBounds_toArray, List.set_cons_zero, List.set_cons_succ]
      refine wpAnyH_take (i := 3) (v := ?v4) rfl (by kernel_rfl) (by kernel_rfl) (by kernel_rfl) (fun _ _ _ h => h) (Or.inl ⟨by rfl, ?hy4⟩) (by assumption) ?rest4
      case hy4 => (intro wz hSw; (try dsimp only at hSw); first | (go_simp; done) | (go_simp; with_reducible rfl))
      try simp only [Act.put, List.getElem_toArray, List.getElem_cons_succ, List.getElem_cons_zero, List.setIfInBounds_toArray, List.set_cons_zero, List.set_cons_succ]
      refine wpAnyH_take (i := 4) (v := ?v5) rfl (by kernel_rfl) (by kernel_rfl) (by kernel_rfl) (fun _ _ _ h => h) (Or.inl ⟨by rfl, ?hy5⟩) (by assumption) ?rest5
      case hy5 => (intro wz hSw; (try dsimp only at hSw); first | (go_simp; done) | (go_simp; with_reducible rfl))
      try simp only [Act.put, List.getElem_toArray, List.getElem_cons_succ, List.getElem_cons_zero, List.setIfInBounds_toArray, List.set_cons_zero, List.set_cons_succ]
      refine wpAnyH_take (i := 5) (v := ?v6) rfl (by kernel_rfl) (by kernel_rfl) (by kernel_rfl) (fun _ _ _ h => h) (Or.inl ⟨by rfl, ?hy6⟩) (by assumption) ?rest6
      case hy6 => (intro wz hSw; (try dsimp only at hSw); first | (go_simp; done) | (go_simp; with_reducible rfl))
      try simp only [Act.put, List.getElem_toArray, List.getElem_cons_succ, List.getElem_cons_zero, List.setIfInBounds_toArray, List.set_cons_zero, List.set_cons_succ]
      refine wpAnyH_take (i := 6) (v := ?v7) rfl (by kernel_rfl) (by kernel_rfl) (by kernel_rfl) (fun _ _ _ h => h) (Or.inl ⟨by rfl, ?hy7⟩) (by assumption) ?rest7
      case hy7 => (intro wz hSw; (try dsimp only at hSw); first | (go_simp; done) | (go_simp; with_reducible rfl))
      try simp only [Act.put, List.getElem_toArray, List.getElem_cons_succ, List.getElem_cons_zero, List.setIfInBounds_toArray, List.set_cons_zero, List.set_cons_succ]
      refine wpAnyH_ready (rs := [7]) (by kernel_rfl) (by simp) ?_
      refine AllReadyH.cons (o := _) rfl (fun K hK => ?_) AllReadyH.nil
      go_simp
      refine (WDx.out _ (gb_trans G.out G0.out)).mono ?_
      rintro e wh1 ⟨rfl, g⟩
      have G1 := Lib.hid (gb_trans G0.out g)
      clear g
      try dsimp only
      refine hK.out _ _ (KT.out _ G1.out) (fun hH1 => ?_)
      clear hK K hH0
      try simp only [Act.put, List.getElem_toArray, List.getElem_cons_succ, List.getElem_cons_zero, List.setIfInBounds_toArray, List.set_cons_zero, List.set_cons_succ]
      refine wpAnyH_take (i := 8) (v := ?v8) rfl (by kernel_rfl) (by kernel_rfl) (by kernel_rfl) (fun _ _ _ h => h) (Or.inl ⟨by rfl, ?hy8⟩) (by assumption) ?rest8
      case hy8 => (intro wz hSw; (try dsimp only at hSw); first | (go_simp; done) | (go_simp; with_reducible rfl))
      try simp only [Act.put, List.getElem_toArray, List.getElem_cons_succ, List.getElem_cons_zero, List.setIfInBounds_toArray, List.set_cons_zero, List.set_cons_succ]
      refine wpAnyH_done (by kernel_rfl) ?_ _
      clear hH1
      have D := D1.out wh1 (gb_trans G.out G1.out)
      have E2 := (E0.out wh1 G1.out).2.2
      clear KT
      by_cases h0 : wj = 0
      · have K := Lib.hid (show KR = ((j : Int), 8) by rw [KJ.out (by rw [KD.out, if_pos h0]; decide), KD.out, if_pos h0])
        subst h0
        go_wp2
        go_ret2
        exact ⟨by rw [K.out] <;> rfl, gb_trans G2.out (gb_trans G.out G1.out)⟩
      · rw [if_neg h0] at KD
        have h1 : (wj == 0) = false := by simp [h0]
        by_cases n1 : xk = 1
        · subst n1
          have K0 := Lib.hid (NX.out (by rw [KD.out, if_pos (by simp)]))
          have C2 := Lib.hid (show cntK 2 (tb.ks.take (j + 1)) = cn by rw [CT.out, if_neg (by decide)]; rfl)
          go_wp2
          go_roundw
          case rel => exact ⟨j + 1, by omega, by first | rfl | (congr 1), by rw [SJ.out], by rw [C2.out], K0.out, gb_trans G.out G1.out⟩
          case measure => simp [intOf]; omega
        · by_cases n2 : xk = 2
          · subst n2
            have K0 := Lib.hid (NX.out (by rw [KD.out, if_pos (by simp)]))
            have C2 := Lib.hid (show cntK 2 (tb.ks.take (j + 1)) = cn + 1 by rw [CT.out, if_pos rfl])
            go_wp2
            go_roundw
            case rel => exact ⟨j + 1, by omega, by first | rfl | (congr 1), by rw [SJ.out], by rw [C2.out]; simp, K0.out, gb_trans G.out G1.out⟩
            case measure => simp [intOf]; omega
          · by_cases n3 : xk = 3
            · subst n3
              have K0 := Lib.hid (NX.out (by rw [KD.out, if_pos (by simp)]))
              have C2 := Lib.hid (show cntK 2 (tb.ks.take (j + 1)) = cn by rw [CT.out, if_neg (by decide)]; rfl)
              go_wp2
              go_roundw
              case rel => exact ⟨j + 1, by omega, by first | rfl | (congr 1), by rw [SJ.out], by rw [C2.out], K0.out, gb_trans G.out G1.out⟩
              case measure => simp [intOf]; omega
            · have m1 : (xk != 1) = true := by simp [n1]
              have m2 : (xk != 2) = true := by simp [n2]
              have m3 : (xk != 3) = true := by simp [n3]
              have e : ¬ (xk = 1 ∨ xk = 2 ∨ xk = 3) := by rintro (q | q | q); exact n1 q; exact n2 q; exact n3 q
              have K := Lib.hid (show KR = ((j : Int), 11) by rw [KJ.out (by rw [KD.out, if_neg e]; decide), KD.out, if_neg e])
              clear e n1 n2 n3
              go_wp2
              go_ret2
              exact ⟨by rw [K.out] <;> rfl, gb_trans G2.out (gb_trans G.out G1.out)⟩
    · have i1 : ¬ (j : Int) < Y.kn := by omega
      have CE := Lib.hid (show WS.take j = WS by rw [List.take_of_length_le]; rw [WL.out]; omega)
      have CK := Lib.hid (show tb.ks.take j = tb.ks by rw [List.take_of_length_le]; rw [HL.out]; omega)
      have K := Lib.hid (show KR = _ from KO.out (fun i hi => HB.out i (by rw [HL.out] at hi; omega)))
      rw [KE.out tb.ks rfl] at K
      rw [CE.out, CK.out]
      generalize sumI WS = s at *
      generalize cntK 2 tb.ks = cn at *
      by_cases c1 : 1 < cn
      · have c2 : (1 : Int) < cn := by omega
        have E := Lib.hid (show KR = (-2, 7) by rw [K.out, if_pos c1]; rfl)
        go_wp2
        go_ret2
        exact ⟨by rw [E.out] <;> rfl, gb_trans G2.out G.out⟩
      · have c2 : ¬ (1 : Int) < cn := by omega
        by_cases c3 : 64 < s
        · have E := Lib.hid (show KR = (-2, 10) by rw [K.out, if_neg c1, if_pos c3]; rfl)
          go_wp2
          go_ret2
          exact ⟨by rw [E.out] <;> rfl, gb_trans G2.out G.out⟩
        · have E := Lib.hid (show KR = (0, 0) by rw [K.out, if_neg c1, if_neg c3]; rfl)
          go_wp2
          go_ret2
          exact ⟨by rw [E.out] <;> rfl, gb_trans G2.out G.out⟩
end Go.Proofs.Ytgdefahnmgonlaa
