/- Table: Widths of the reference; no condition but sizes. -/
import Derived.Test.YtgdefahnmgonlaaTbJ
namespace Go.Proofs.Ytgdefahnmgonlaa
open Go.RowKit
set_option linter.unusedVariables false
set_option maxRecDepth 100000 in
set_option maxHeartbeats 4000000 in
theorem rwidths_any (w : World) (X : PX) (P : Pg) (hp : SP w X P) (hz : szT P) (t : Int) : Calls Try.prog 32 #[.agg #[.string X.nm, .slice X.ha X.hn X.hc, .slice X.ma X.mn X.mc, .slice X.ra X.rn X.rc, .slice X.aa X.an X.ac, .slice X.ta X.tn X.tc, .slice X.sa X.sn X.sc, .slice X.ca X.cn X.cc, .slice X.da X.dn X.dc], .int .i64 t] w (RetI (wsT P.H P.M (tabV P t).ks) w) := by
  have VD := Lib.hid (fun (W : World) (q : w.grownBy W none) => rvalid17_any W X P (hp.keep0 q) hz t)
  have HP := Lib.hid hp
  have TL := Lib.hid (show P.T.length = X.tn from hp.t.len)
  have OI := Lib.hid (fun q => ok_in (P := P) (t := t) q)
  have TS := Lib.hid (tabV_sz hz t)
  have TVd := Lib.hid (show tabV P t = if okT P t = true then P.T.getD t.toNat tbz else tbz from rfl)
  unfold RetV at VD
  generalize tabV P t = tv at *
  generalize okT P t = ok at *
  have G2 := Lib.hid (gb_alloc w (.cells #[.string X.nm, .slice X.ha X.hn X.hc, .slice X.ma X.mn X.mc, .slice X.ra X.rn X.rc, .slice X.aa X.an X.ac, .slice X.ta X.tn X.tc, .slice X.sa X.sn X.sc, .slice X.ca X.cn X.cc, .slice X.da X.dn X.dc] 31) none)
  have B1 := IsB.new w 31 #[.string X.nm, .slice X.ha X.hn X.hc, .slice X.ma X.mn X.mc, .slice X.ra X.rn X.rc, .slice X.aa X.an X.ac, .slice X.ta X.tn X.tc, .slice X.sa X.sn X.sc, .slice X.ca X.cn X.cc, .slice X.da X.dn X.dc]
  replace B1 := Lib.hid B1
  clear hp hz
  go_enter Try.func32, Try.ntmps32
  go_upto_region 1 with fail
  generalize w.alloc (.cells #[.string X.nm, .slice X.ha X.hn X.hc, .slice X.ma X.mn X.mc, .slice X.ra X.rn X.rc, .slice X.aa X.an X.ac, .slice X.ta X.tn X.tc, .slice X.sa X.sn X.sc, .slice X.ca X.cn X.cc, .slice X.da X.dn X.dc] 31) = w2 at *
  obtain ⟨bx, hbx⟩ : ∃ b, b = w.heap.size := ⟨_, rfl⟩
  have Lbx := Lib.hid (show w.heap.size ≤ bx by rw [hbx]; exact Nat.le_refl _)
  rw [← hbx] at B1 ⊢
  clear hbx
  replace HP := Lib.hid (HP.out.keep0 G2.out)
  have c0 := (B1.out.keep0 (gb_refl _ _)).cell 0
  have c1 := (B1.out.keep0 (gb_refl _ _)).cell 1
  have c2 := (B1.out.keep0 (gb_refl _ _)).cell 2
  have c3 := (B1.out.keep0 (gb_refl _ _)).cell 3
  have c4 := (B1.out.keep0 (gb_refl _ _)).cell 4
  have c5 := (B1.out.keep0 (gb_refl _ _)).cell 5
  have c6 := (B1.out.keep0 (gb_refl _ _)).cell 6
  have c7 := (B1.out.keep0 (gb_refl _ _)).cell 7
  have c8 := (B1.out.keep0 (gb_refl _ _)).cell 8
  dsimp at c0 c1 c2 c3 c4 c5 c6 c7 c8
  go_wp2_with fail
  refine (VD.out w2 G2.out).mono ?_
  rintro e w3 ⟨rfl, g⟩
  have G3 := Lib.hid g
  clear g c0 c1 c2 c3 c4 c5 c6 c7 c8
  cases ok
  · have E := Lib.hid (show tv.ks = [] by rw [TVd.out, if_neg (by decide)]; rfl)
    go_wp2
    go_ret
    exact ⟨none, 0, by rw [E.out] <;> rfl, by rw [E.out]; exact NL.nil _ _, gb_trans G2.out G3.out⟩
  · skip
    obtain ⟨k, rfl, hk⟩ := OI.out rfl
    rw [TL.out] at hk
    have k0 : (0 : Int) ≤ (k : Int) := by omega
    have k1 : (k : Int) < X.tn := by omega
    rw [if_pos rfl, Int.toNat_natCast] at TVd
    obtain ⟨tad, hta⟩ := HP.out.t.some (by omega)
    obtain ⟨Y, st, e0, e1, e2, e3, e4, e5⟩ := HP.out.tab hk hta
    rw [← TVd.out] at st e0 e3 e5
    have HS := Lib.hid st
    have HL := Lib.hid (show tv.ks.length = Y.kn from st.k.len)
    have HTA := Lib.hid hta
    have E1 := Lib.hid e1
    have E2 := Lib.hid e2
    clear st hta hk e0 e1 e2 e3 e4 e5
    obtain ⟨WS, hws⟩ : ∃ s, s = wsT P.H P.M tv.ks := ⟨_, rfl⟩
    have WL := Lib.hid (show WS.length = Y.kn by rw [hws, ws_len]; exact HL.out)
    have WA := Lib.hid (show ∀ j, j < Y.kn → WS.getD j 0 = widE P.H P.M (tv.ks.getD j tkz).h (tv.ks.getD j tkz).f from fun j hj => by rw [hws]; exact ws_at _ _ _ j (by rw [HL.out]; exact hj))
    have HWS := Lib.hid hws
    have LW := Lib.hid (show w.heap.size ≤ w3.heap.size from Nat.le_trans G2.out.size G3.out.size)
    clear hws
    go_wp2
    go_loopw [5, 6] (fun o i wr => ∃ j : Nat, j ≤ Y.kn ∧ i = .int .i64 j ∧ NL wr w3.heap.size o (WS.take j) ∧ w3.grownBy wr none) (fun _ i _ => Y.kn - (intOf i).toNat)
    case atStart => exact ⟨0, Nat.zero_le _, rfl, NL.nil _ _, gb_refl _ _⟩
    case round =>
      obtain ⟨j, hj, rfl, ho, hg⟩ := hrel
      have G := Lib.hid hg
      have O := Lib.hid ho
      obtain ⟨oa, oc, hov⟩ := ho.shape
      rw [List.length_take, WL.out, Nat.min_eq_left hj] at hov
      subst hov
      clear hg ho
      have c5 : wr.cell? ⟨bx, 5, none⟩ = some (Value.slice (some tad) X.tn X.tc) := by have := (B1.out.keep0 (gb_trans G3.out G.out)).cell 5; rw [HTA.out] at this; exact this
      have x1 := (gb_trans G3.out G.out).cell E1.out (by simp)
      by_cases hlt : j < Y.kn
      · obtain ⟨ad, had⟩ := HS.out.k.some (by omega)
        obtain ⟨e0, e1, e2⟩ := (HS.out.k.keep0SKy G3.out).cells ad had j hlt
        have WJ := Lib.hid (WA.out j hlt)
        have WT := Lib.hid (take_one 0 WS j (by rw [WL.out]; exact hlt))
        have WDx := Lib.hid (fun (W : World) (q : w2.grownBy W none) => rwid17_any W X P (HP.out.keep0 q) (tv.ks.getD j tkz).h (tv.ks.getD j tkz).f)
        rw [← WJ.out, HTA.out] at WDx
        unfold RetV at WDx
        generalize (tv.ks.getD j tkz).h = xh at *
        generalize (tv.ks.getD j tkz).f = xf at *
        generalize WS.getD j 0 = wj at *
        have i1 : (j : Int) < Y.kn := by omega
        have i0 : (0 : Int) ≤ (j : Int) := by omega
        have hw : IntKind.i64.wrap ((j : Int) + 1) = ((j + 1 : Nat) : Int) := by have := TS.out.2.1; have := HL.out; rw [IntKind.wrap_i64]; omega
        have E0 := Lib.hid e0
        have E3 := Lib.hid e1
        have KT := Lib.hid (fun (w' : World) (q : w3.grownBy w' none) => (⟨(B1.out.keep0 (gb_trans G3.out q)).cell 0, (B1.out.keep0 (gb_trans G3.out q)).cell 1, (B1.out.keep0 (gb_trans G3.out q)).cell 2, (B1.out.keep0 (gb_trans G3.out q)).cell 3, (B1.out.keep0 (gb_trans G3.out q)).cell 4, (by have := (B1.out.keep0 (gb_trans G3.out q)).cell 5; rw [HTA.out] at this; exact this), (B1.out.keep0 (gb_trans G3.out q)).cell 6, (B1.out.keep0 (gb_trans G3.out q)).cell 7, (B1.out.keep0 (gb_trans G3.out q)).cell 8, by have := (gb_trans G3.out q).cell E1.out (by simp); rw [had] at this; exact this, q.cell E0.out (by simp), q.cell E3.out (by simp), trivial⟩ : (fun w' : World => w'.cell? ⟨bx, 0, none⟩ = some (.string X.nm) ∧ w'.cell? ⟨bx, 1, none⟩ = some (.slice X.ha X.hn X.hc) ∧ w'.cell? ⟨bx, 2, none⟩ = some (.slice X.ma X.mn X.mc) ∧ w'.cell? ⟨bx, 3, none⟩ = some (.slice X.ra X.rn X.rc) ∧ w'.cell? ⟨bx, 4, none⟩ = some (.slice X.aa X.an X.ac) ∧ w'.cell? ⟨bx, 5, none⟩ = some (.slice (some tad) X.tn X.tc) ∧ w'.cell? ⟨bx, 6, none⟩ = some (.slice X.sa X.sn X.sc) ∧ w'.cell? ⟨bx, 7, none⟩ = some (.slice X.ca X.cn X.cc) ∧ w'.cell? ⟨bx, 8, none⟩ = some (.slice X.da X.dn X.dc) ∧ w'.cell? ⟨(tad.add (k * 6)).block, (tad.add (k * 6)).off + 1, none⟩ = some (.slice (some ad) Y.kn Y.kc) ∧ w'.cell? (ad.add (j * 3)) = some (.int .i64 xh) ∧ w'.cell? ⟨(ad.add (j * 3)).block, (ad.add (j * 3)).off + 1, none⟩ = some (.int .i64 xf) ∧ True) w'))
        have LN := Lib.hid (show (WS.take j).length + 1 ≤ 1000000 by rw [List.length_take]; have := TS.out.2.1; have := HL.out; have := WL.out; omega)
        go_upto_region 7 with fail
        clear c5 x1 e0 e1 e2
        have GA := Lib.hid (gb_trans G.out (gb_drew wr none))
        refine wp_region_held_drew (S := (fun w' : World => w'.cell? ⟨bx, 0, none⟩ = some (.string X.nm) ∧ w'.cell? ⟨bx, 1, none⟩ = some (.slice X.ha X.hn X.hc) ∧ w'.cell? ⟨bx, 2, none⟩ = some (.slice X.ma X.mn X.mc) ∧ w'.cell? ⟨bx, 3, none⟩ = some (.slice X.ra X.rn X.rc) ∧ w'.cell? ⟨bx, 4, none⟩ = some (.slice X.aa X.an X.ac) ∧ w'.cell? ⟨bx, 5, none⟩ = some (.slice (some tad) X.tn X.tc) ∧ w'.cell? ⟨bx, 6, none⟩ = some (.slice X.sa X.sn X.sc) ∧ w'.cell? ⟨bx, 7, none⟩ = some (.slice X.ca X.cn X.cc) ∧ w'.cell? ⟨bx, 8, none⟩ = some (.slice X.da X.dn X.dc) ∧ w'.cell? ⟨(tad.add (k * 6)).block, (tad.add (k * 6)).off + 1, none⟩ = some (.slice (some ad) Y.kn Y.kc) ∧ w'.cell? (ad.add (j * 3)) = some (.int .i64 xh) ∧ w'.cell? ⟨(ad.add (j * 3)).block, (ad.add (j * 3)).off + 1, none⟩ = some (.int .i64 xf) ∧ True)) (by kernel_rfl) (KT.out _ GA.out) (fun hH0 => ?_)
        replace O := Lib.hid (O.out.keep0 (gb_drew wr none))
        refine wpAnyH_take (i := 0) (v := ?v75) rfl (by kernel_rfl) (by kernel_rfl) (by kernel_rfl) (fun _ _ _ h => h) (Or.inl ⟨by rfl, ?hy75⟩) (by assumption) ?rest75
        case hy75 => (intro wz hSw; (try dsimp only at hSw); first | (go_simp; done) | (go_simp; with_reducible rfl))
        try simp only [Act.put, List.getElem_toArray, List.getElem_cons_zero, List.setIfInBounds_toArray, List.set_cons_zero, List.set_cons_succ]
        refine wpAnyH_take (i := 1) (v := ?v76) rfl (by kernel_rfl) (by kernel_rfl) (by kernel_rfl) (fun _ _ _ h => h) (Or.inl ⟨by rfl, ?hy76⟩) (by assumption) ?rest76
        case hy76 => (intro wz hSw; (try dsimp only at hSw); first | (go_simp; done) | (go_simp; with_reducible rfl))
        try simp only [Act.put, List.getElem_toArray, List.getElem_cons_succ, List.getElem_cons_zero, List.setIfInBounds_toArray, List.set_cons_zero, List.set_cons_succ]
        refine wpAnyH_take (i := 2) (v := ?v77) rfl (by kernel_rfl) (by kernel_rfl) (by kernel_rfl) (fun _ _ _ h => h) (Or.inl ⟨by rfl, ?hy77⟩) (by assumption) ?rest77
        case hy77 => (intro wz hSw; (try dsimp only at hSw); first | (go_simp; done) | (go_simp; with_reducible rfl))
        try simp only [Act.put, List.getElem_toArray, List.getElem_cons_succ, List.getElem_cons_zero, List.setIfInBounds_toArray, List.set_cons_zero, List.set_cons_succ]
        refine wpAnyH_take (i := 3) (v := ?v78) rfl (by kernel_rfl) (by kernel_rfl) (by kernel_rfl) (fun _ _ _ h => h) (Or.inl ⟨by rfl, ?hy78⟩) (by assumption) ?rest78
        case hy78 => (intro wz hSw; (try dsimp only at hSw); first | (go_simp; done) | (go_simp; with_reducible rfl))
        try simp only [Act.put, List.getElem_toArray, List.getElem_cons_succ, List.getElem_cons_zero, List.setIfInBounds_toArray, List.set_cons_zero, List.set_cons_succ]
        refine wpAnyH_take (i := 4) (v := ?v79) rfl (by kernel_rfl) (by kernel_rfl) (by kernel_rfl) (fun _ _ _ h => h) (Or.inl ⟨by rfl, ?hy79⟩) (by assumption) ?rest79
        case hy79 => (intro wz hSw; (try dsimp only at hSw); first | (go_simp; done) | (go_simp; with_reducible rfl))
        try simp only [Act.put, List.getElem_toArray, List.getElem_cons_succ, List.getElem_cons_zero, List.setIfInBounds_toArray, List.set_cons_zero, List.set_cons_succ]
        refine wpAnyH_take (i := 5) (v := ?v80) rfl (by kernel_rfl) (by kernel_rfl) (by kernel_rfl) (fun _ _ _ h => h) (Or.inl ⟨by rfl, ?hy80⟩) (by assumption) ?rest80
        case hy80 => (intro wz hSw; (try dsimp only at hSw); first | (go_simp; done) | (go_simp; with_reducible rfl))
        try simp only [Act.put, List.getElem_toArray, List.getElem_cons_succ, List.getElem_cons_zero, List.setIfInBounds_toArray, List.set_cons_zero, List.set_cons_succ]
        refine wpAnyH_take (i := 6) (v := ?v81) rfl (by kernel_rfl) (by kernel_rfl) (by kernel_rfl) (fun _ _ _ h => h) (Or.inl ⟨by rfl, ?hy81⟩) (by assumption) ?rest81
        case hy81 => (intro wz hSw; (try dsimp only at hSw); first | (go_simp; done) | (go_simp; with_reducible rfl))
        try simp only [Act.put, List.getElem_toArray, List.getElem_cons_succ, List.getElem_cons_zero, List.setIfInBounds_toArray, List.set_cons_zero, List.set_cons_succ]
        refine wpAnyH_take (i := 7) (v := ?v82) rfl (by kernel_rfl) (by kernel_rfl) (by kernel_rfl) (fun _ _ _ h => h) (Or.inl ⟨by rfl, ?hy82⟩) (by assumption) ?rest82
        case hy82 => (intro wz hSw; (try dsimp only at hSw); first | (go_simp; done) | (go_simp; with_reducible rfl))
        try simp only [Act.put, List.getElem_toArray, List.getElem_cons_succ, List.getElem_cons_zero, List.setIfInBounds_toArray, List.set_cons_zero, List.set_cons_succ]
        refine wpAnyH_take (i := 8) (v := ?v83) rfl (by kernel_rfl) (by kernel_rfl) (by kernel_rfl) (fun _ _ _ h => h) (Or.inl ⟨by rfl, ?hy83⟩) (by assumption) ?rest83
        case hy83 => (intro wz hSw; (try dsimp only at hSw); first | (go_simp; done) | (go_simp; with_reducible rfl))
        try simp only [Act.put, List.getElem_toArray, List.getElem_cons_succ, List.getElem_cons_zero, List.setIfInBounds_toArray, List.set_cons_zero, List.set_cons_succ]
        refine wpAnyH_take (i := 9) (v := ?v84) rfl (by kernel_rfl) (by kernel_rfl) (by kernel_rfl) (fun _ _ _ h => h) (Or.inl ⟨by rfl, ?hy84⟩) (by assumption) ?rest84
        case hy84 => (intro wz hSw; (try dsimp only at hSw); first | (go_simp; done) | (go_simp; with_reducible rfl))
        try simp only [Act.put, List.getElem_toArray, List.getElem_cons_succ, List.getElem_cons_zero, List.setIfInBounds_toArray, List.set_cons_zero, List.set_cons_succ]
        refine wpAnyH_take (i := 10) (v := ?v85) rfl (by kernel_rfl) (by kernel_rfl) (by kernel_rfl) (fun _ _ _ h => h) (Or.inl ⟨by rfl, ?hy85⟩) (by assumption) ?rest85
        case hy85 => (intro wz hSw; (try dsimp only at hSw); first | (go_simp; done) | (go_simp; with_reducible rfl))
        try simp only [Act.put, List.getElem_toArray, List.getElem_cons_succ, List.getElem_cons_zero, List.setIfInBounds_toArray, List.set_cons_zero, List.set_cons_succ]
        refine wpAnyH_take (i := 11) (v := ?v86) rfl (by kernel_rfl) (by kernel_rfl) (by kernel_rfl) (fun _ _ _ h => h) (Or.inl ⟨by rfl, ?hy86⟩) (by assumption) ?rest86
        case hy86 => (intro wz hSw; (try dsimp only at hSw); first | (go_simp; done) | (go_simp; with_reducible rfl))
        try simp only [Act.put, List.getElem_toArray, List.getElem_cons_succ, List.getElem_cons_zero, List.setIfInBounds_toArray, List.set_cons_zero, List.set_cons_succ]
        refine wpAnyH_ready (rs := [12]) (by kernel_rfl) (by simp) ?_
        refine AllReadyH.cons (o := _) rfl (fun K hK => ?_) AllReadyH.nil
        go_simp
        refine (WDx.out _ (gb_trans G3.out GA.out)).mono ?_
        rintro e wh1 ⟨rfl, g⟩
        replace GA := Lib.hid (gb_trans GA.out g)
        replace O := Lib.hid (O.out.keep0 g)
        clear g
        try dsimp only
        refine hK.out _ _ (KT.out _ GA.out) (fun hH1 => ?_)
        clear hK K hH0
        try simp only [Act.put, List.getElem_toArray, List.getElem_cons_succ, List.getElem_cons_zero, List.setIfInBounds_toArray, List.set_cons_zero, List.set_cons_succ]
        refine wpAnyH_ready (rs := [13]) (by kernel_rfl) (by simp) ?_
        refine AllReadyH.cons (o := _) rfl (fun K hK => ?_) AllReadyH.nil
        go_simp
        have g := gb_alloc wh1 (.cells #[.int .i64 wj] 3) none
        have nb := IsB.new wh1 3 #[.int .i64 wj]
        replace GA := Lib.hid (gb_trans GA.out g)
        replace O := Lib.hid (O.out.keep0 g)
        have NB := Lib.hid nb
        refine hK.out _ _ (KT.out _ GA.out) (fun hHb => ?_)
        clear hK K hH1 g nb
        obtain ⟨b5, hb5⟩ : ∃ b, b = wh1.heap.size := ⟨_, rfl⟩
        rw [← hb5] at NB ⊢
        clear hb5
        generalize wh1.alloc (.cells #[.int .i64 wj] 3) = wb at *
        try simp only [Act.put, List.getElem_toArray, List.getElem_cons_succ, List.getElem_cons_zero, List.setIfInBounds_toArray, List.set_cons_zero, List.set_cons_succ]
        refine wpAnyH_ready (rs := [14]) (by kernel_rfl) (by simp) ?_
        refine AllReadyH.cons (o := _) rfl (fun K hK => ?_) AllReadyH.nil
        refine nstep_any rfl _ _ rfl w3.heap.size _ (WS.take j) rfl O.out ⟨b5, 0, none⟩ _ wj rfl (isb_one NB.out) LN.out GA.out.size ?_
        intro V2 wc o3 g3
        have O3 := Lib.hid o3
        have GC := Lib.hid (gb_own GA.out O.out (Nat.le_refl _) g3)
        obtain ⟨a7, c7, h7⟩ := own_shape o3
        refine hK.out _ _ (KT.out _ GC.out) (fun hHc => ?_)
        clear hK K hHb o3 g3
        obtain ⟨n7, hn7⟩ : ∃ n, n = (WS.take j ++ [wj]).length := ⟨_, rfl⟩
        rw [← hn7] at h7
        subst h7
        clear hn7
        try simp only [Act.put, List.getElem_toArray, List.getElem_cons_succ, List.getElem_cons_zero, List.setIfInBounds_toArray, List.set_cons_zero, List.set_cons_succ]
        refine wpAnyH_take (i := 15) (v := ?v87) rfl (by kernel_rfl) (by kernel_rfl) (by kernel_rfl) (fun _ _ _ h => h) (Or.inl ⟨by rfl, ?hy87⟩) (by assumption) ?rest87
        case hy87 => (intro wz hSw; (try dsimp only at hSw); first | (go_simp; done) | (go_simp; with_reducible rfl))
        try simp only [Act.put, List.getElem_toArray, List.getElem_cons_succ, List.getElem_cons_zero, List.setIfInBounds_toArray, List.set_cons_zero, List.set_cons_succ]
        refine wpAnyH_done (by kernel_rfl) ?_ _
        go_wp2
        go_roundw
        case rel => exact ⟨j + 1, by omega, by first | rfl | (congr 1), by rw [WT.out]; exact O3.out, GC.out⟩
        case measure => simp [intOf]; omega
      · have i1 : ¬ (j : Int) < Y.kn := by omega
        have CE := Lib.hid (show WS.take j = WS by rw [List.take_of_length_le]; rw [WL.out]; omega)
        have JK := Lib.hid (show j = WS.length by rw [WL.out]; omega)
        go_wp2
        go_ret
        exact ⟨oa, oc, by rw [← HWS.out, JK.out] <;> rfl, by have q := O.out; rw [CE.out, JK.out] at q; rw [← HWS.out]; exact own_low q LW.out, gb_trans G2.out (gb_trans G3.out G.out)⟩
end Go.Proofs.Ytgdefahnmgonlaa
