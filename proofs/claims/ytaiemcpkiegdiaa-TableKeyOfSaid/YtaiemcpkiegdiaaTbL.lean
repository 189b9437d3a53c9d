/- Table: Bits and Key of the reference; no condition but sizes. -/
import Derived.Test.YtaiemcpkiegdiaaTbK
import Derived.Test.YtaiemcpkiegdiaaBvR
namespace Go.Proofs.Ytaiemcpkiegdiaa
open Go.RowKit
set_option linter.unusedVariables false
theorem su_rng {l : List Int} (h : ∀ x ∈ l, 0 ≤ x ∧ x ≤ 32) : ∀ x ∈ l, -9223372036854775808 ≤ x ∧ x ≤ 9223372036854775807 := fun x hx => by have := h x hx; omega
theorem ws_small {P : Pg} (z : szT P) (t : Int) : (wsT P.H P.M (tabV P t).ks).length ≤ 1000 := by rw [ws_len]; exact (tabV_sz z t).2.1
set_option maxRecDepth 100000 in
set_option maxHeartbeats 4000000 in
theorem rbits_any (w : World) (X : PX) (P : Pg) (hp : SP w X P) (hz : szT P) (t : Int) : Calls Try.prog 18 #[.agg #[.string X.nm, .slice X.ha X.hn X.hc, .slice X.ma X.mn X.mc, .slice X.ra X.rn X.rc, .slice X.aa X.an X.ac, .slice X.ta X.tn X.tc, .slice X.sa X.sn X.sc, .slice X.ca X.cn X.cc, .slice X.da X.dn X.dc], .int .i64 t] w (RetV (.int .i64 (sumI (wsT P.H P.M (tabV P t).ks))) w) := by
  have WD := Lib.hid (fun (W : World) (q : w.grownBy W none) => rwidths_any W X P (hp.keep0 q) hz t)
  have WL := Lib.hid (ws_small hz t)
  have WR := Lib.hid (ws_rng P.H P.M (tabV P t).ks)
  generalize wsT P.H P.M (tabV P t).ks = WS at *
  have G2 := Lib.hid (gb_alloc w (.cells #[.string X.nm, .slice X.ha X.hn X.hc, .slice X.ma X.mn X.mc, .slice X.ra X.rn X.rc, .slice X.aa X.an X.ac, .slice X.ta X.tn X.tc, .slice X.sa X.sn X.sc, .slice X.ca X.cn X.cc, .slice X.da X.dn X.dc] 31) none)
  have B1 := IsB.new w 31 #[.string X.nm, .slice X.ha X.hn X.hc, .slice X.ma X.mn X.mc, .slice X.ra X.rn X.rc, .slice X.aa X.an X.ac, .slice X.ta X.tn X.tc, .slice X.sa X.sn X.sc, .slice X.ca X.cn X.cc, .slice X.da X.dn X.dc]
  replace B1 := Lib.hid B1
  clear hp hz
  go_enter Try.func18, Try.ntmps18
  go_upto_region 1 with fail
  generalize w.alloc (.cells #[.string X.nm, .slice X.ha X.hn X.hc, .slice X.ma X.mn X.mc, .slice X.ra X.rn X.rc, .slice X.aa X.an X.ac, .slice X.ta X.tn X.tc, .slice X.sa X.sn X.sc, .slice X.ca X.cn X.cc, .slice X.da X.dn X.dc] 31) = w2 at *
  obtain ⟨bx, hbx⟩ : ∃ b, b = w.heap.size := ⟨_, rfl⟩
  have Lbx := Lib.hid (show w.heap.size ≤ bx by rw [hbx]; exact Nat.le_refl _)
  rw [← hbx] at B1 ⊢
  clear hbx
  have c0 := (B1.out.keep0 (gb_refl _ _)).cell 0
  have c1 := (B1.out.keep0 (gb_refl _ _)).cell 1
  have c2 := (B1.out.keep0 (gb_refl _ _)).cell 2
  have c3 := (B1.out.keep0 (gb_refl _ _)).cell 3
  have c4 := (B1.out.keep0 (gb_refl _ _)).cell 4
  have c5 := (B1.out.keep0 (gb_refl _ _)).cell 5
  have c6 := (B1.out.keep0 (gb_refl _ _)).cell 6
  have c7 := (B1.out.keep0 (gb_refl _ _)).cell 7
  have c8 := (B1.out.keep0 (gb_refl _ _)).cell 8
  dsimp at c0 c1 c2 c3 c4 c5 c6 c7 c8
  go_upto_region 2 with fail
  refine (WD.out w2 G2.out).mono ?_
  rintro e w3 ⟨a, c, rfl, o3, g3⟩
  have S3 := Lib.hid (o3.si rfl (su_rng WR.out))
  have G3 := Lib.hid g3
  obtain ⟨n, hn⟩ : ∃ n, n = WS.length := ⟨_, rfl⟩
  rw [← hn] at S3 WL ⊢
  have HN := Lib.hid hn
  clear o3 g3 c0 c1 c2 c3 c4 c5 c6 c7 c8 hn
  go_wp2
  go_loopw [6, 7] (fun s i wr => ∃ j : Nat, j ≤ n ∧ i = .int .i64 j ∧ s = .int .i64 (sumI (WS.take j)) ∧ w3.grownBy wr none) (fun _ i _ => n - (intOf i).toNat)
  case atStart => exact ⟨0, Nat.zero_le _, rfl, rfl, gb_refl _ _⟩
  case round =>
    obtain ⟨j, hj, rfl, rfl, hg⟩ := hrel
    have G := Lib.hid hg
    clear hg
    by_cases hlt : j < n
    · obtain ⟨ad, had⟩ := S3.out.some (by omega)
      have e0 := (S3.out.keep0 G.out).cells ad had j hlt
      have SJ := Lib.hid (sum_take WS j (by rw [← HN.out]; exact hlt))
      have R1 := Lib.hid (sum_rng (WS.take (j + 1)) (fun x hx => WR.out x (List.mem_of_mem_take hx)))
      have L1 := Lib.hid (show (WS.take (j + 1)).length ≤ 1000 by rw [List.length_take]; have := WL.out; have := HN.out; omega)
      rw [SJ.out] at R1
      generalize WS.getD j 0 = wj at *
      obtain ⟨s, hs⟩ : ∃ s, s = sumI (WS.take j) := ⟨_, rfl⟩
      rw [← hs] at R1 SJ ⊢
      have i1 : (j : Int) < n := by omega
      have i0 : (0 : Int) ≤ (j : Int) := by omega
      have hw : IntKind.i64.wrap ((j : Int) + 1) = ((j + 1 : Nat) : Int) := by have := WL.out; rw [IntKind.wrap_i64]; omega
      have hw2 : IntKind.i64.wrap (s + wj) = s + wj := by have := R1.out; have := L1.out; rw [IntKind.wrap_i64]; omega
      rw [had]
      clear hs
      go_wp2
      go_roundw
      case rel => exact ⟨j + 1, by omega, by first | rfl | (congr 1), by rw [SJ.out], G.out⟩
      case measure => simp [intOf]; omega
    · have i1 : ¬ (j : Int) < n := by omega
      have CE := Lib.hid (show WS.take j = WS by rw [List.take_of_length_le]; have := HN.out; omega)
      go_wp2
      go_ret
      exact ⟨by rw [CE.out] <;> rfl, gb_trans G2.out (gb_trans G3.out G.out)⟩
set_option maxRecDepth 100000 in
set_option maxHeartbeats 4000000 in
theorem rkey_any (w : World) (X : PX) (P : Pg) (hp : SP w X P) (hz : szT P) (t : Int) (va fa ta pa : Option Addr) (vn vc fn fc tn tc pn pc : Nat) (L : EL) (hV : SB w va vn vc L.V) (hF : SR w fa fn fc L.F) (hT : SU w ta tn tc L.T) : Calls Try.prog 24 #[.agg #[.string X.nm, .slice X.ha X.hn X.hc, .slice X.ma X.mn X.mc, .slice X.ra X.rn X.rc, .slice X.aa X.an X.ac, .slice X.ta X.tn X.tc, .slice X.sa X.sn X.sc, .slice X.ca X.cn X.cc, .slice X.da X.dn X.dc], .int .i64 t, .agg #[.slice va vn vc, .slice fa fn fc, .slice ta tn tc, .slice pa pn pc]] w (RetU (keyV P.H P.M L.V L.F L.T (tabV P t).ks) w) := by
  have WD := Lib.hid (fun (W : World) (q : w.grownBy W none) => rwidths_any W X P (hp.keep0 q) hz t)
  have GE := Lib.hid (fun (W : World) (q : w.grownBy W none) => rget_any W va fa ta pa vn vc fn fc tn tc pn pc L (hV.keep0 q) (hF.keep0 q) (hT.keep0 q))
  have HP := Lib.hid hp
  have TL := Lib.hid (show P.T.length = X.tn from hp.t.len)
  have OI := Lib.hid (fun q => ok_in (P := P) (t := t) q)
  have TS := Lib.hid (tabV_sz hz t)
  have TVd := Lib.hid (show tabV P t = if okT P t = true then P.T.getD t.toNat tbz else tbz from rfl)
  unfold RetV at GE
  generalize tabV P t = tv at *
  generalize okT P t = ok at *
  obtain ⟨KS, hks⟩ : ∃ s, s = keyV P.H P.M L.V L.F L.T tv.ks := ⟨_, rfl⟩
  have KL := Lib.hid (show KS.length = tv.ks.length by rw [hks, keyV_len])
  have KA := Lib.hid (show ∀ j, j < tv.ks.length → KS.getD j 0 = bits .and .u32 (getE L.V L.F L.T (tv.ks.getD j tkz).h (tv.ks.getD j tkz).f) (mkB (widE P.H P.M (tv.ks.getD j tkz).h (tv.ks.getD j tkz).f)) from fun j hj => by rw [hks]; exact keyV_at _ _ _ _ _ _ j hj)
  obtain ⟨WS, hws⟩ : ∃ s, s = wsT P.H P.M tv.ks := ⟨_, rfl⟩
  have WL := Lib.hid (show WS.length = tv.ks.length by rw [hws, ws_len])
  have WA := Lib.hid (show ∀ j, j < tv.ks.length → WS.getD j 0 = widE P.H P.M (tv.ks.getD j tkz).h (tv.ks.getD j tkz).f from fun j hj => by rw [hws]; exact ws_at _ _ _ j hj)
  have WR := Lib.hid (show ∀ x ∈ WS, 0 ≤ x ∧ x ≤ 32 by rw [hws]; exact ws_rng _ _ _)
  rw [← hks]
  rw [← hws] at WD
  have G2 := Lib.hid (gb_trans (gb_alloc w (.cells #[.string X.nm, .slice X.ha X.hn X.hc, .slice X.ma X.mn X.mc, .slice X.ra X.rn X.rc, .slice X.aa X.an X.ac, .slice X.ta X.tn X.tc, .slice X.sa X.sn X.sc, .slice X.ca X.cn X.cc, .slice X.da X.dn X.dc] 31) none) (gb_alloc _ (.cells #[.slice va vn vc, .slice fa fn fc, .slice ta tn tc, .slice pa pn pc] 47) none))
  have B1 := (IsB.new w 31 #[.string X.nm, .slice X.ha X.hn X.hc, .slice X.ma X.mn X.mc, .slice X.ra X.rn X.rc, .slice X.aa X.an X.ac, .slice X.ta X.tn X.tc, .slice X.sa X.sn X.sc, .slice X.ca X.cn X.cc, .slice X.da X.dn X.dc]).alloc (.cells #[.slice va vn vc, .slice fa fn fc, .slice ta tn tc, .slice pa pn pc] 47)
  have BE := IsB.new (w.alloc (.cells #[.string X.nm, .slice X.ha X.hn X.hc, .slice X.ma X.mn X.mc, .slice X.ra X.rn X.rc, .slice X.aa X.an X.ac, .slice X.ta X.tn X.tc, .slice X.sa X.sn X.sc, .slice X.ca X.cn X.cc, .slice X.da X.dn X.dc] 31)) 47 #[.slice va vn vc, .slice fa fn fc, .slice ta tn tc, .slice pa pn pc]
  simp only [sz_al] at BE
  replace B1 := Lib.hid B1
  replace BE := Lib.hid BE
  clear hp hz hV hF hT hks hws
  go_enter Try.func24, Try.ntmps24
  go_upto_region 1 with fail
  generalize (w.alloc (.cells #[.string X.nm, .slice X.ha X.hn X.hc, .slice X.ma X.mn X.mc, .slice X.ra X.rn X.rc, .slice X.aa X.an X.ac, .slice X.ta X.tn X.tc, .slice X.sa X.sn X.sc, .slice X.ca X.cn X.cc, .slice X.da X.dn X.dc] 31)).alloc (.cells #[.slice va vn vc, .slice fa fn fc, .slice ta tn tc, .slice pa pn pc] 47) = w2 at *
  obtain ⟨bx, hbx⟩ : ∃ b, b = w.heap.size := ⟨_, rfl⟩
  have Lbx := Lib.hid (show w.heap.size ≤ bx by rw [hbx]; exact Nat.le_refl _)
  rw [← hbx] at B1 BE ⊢
  clear hbx
  replace HP := Lib.hid (HP.out.keep0 G2.out)
  have c0 := (B1.out.keep0 (gb_refl _ _)).cell 0
  have c1 := (B1.out.keep0 (gb_refl _ _)).cell 1
  have c2 := (B1.out.keep0 (gb_refl _ _)).cell 2
  have c3 := (B1.out.keep0 (gb_refl _ _)).cell 3
  have c4 := (B1.out.keep0 (gb_refl _ _)).cell 4
  have c5 := (B1.out.keep0 (gb_refl _ _)).cell 5
  have c6 := (B1.out.keep0 (gb_refl _ _)).cell 6
  have c7 := (B1.out.keep0 (gb_refl _ _)).cell 7
  have c8 := (B1.out.keep0 (gb_refl _ _)).cell 8
  dsimp at c0 c1 c2 c3 c4 c5 c6 c7 c8
  go_upto_region 2 with fail
  refine (WD.out w2 G2.out).mono ?_
  rintro e w3 ⟨la, lc, rfl, o3, g3⟩
  have S3 := Lib.hid (o3.si rfl (su_rng WR.out))
  have G3 := Lib.hid g3
  obtain ⟨n, hn⟩ : ∃ n, n = WS.length := ⟨_, rfl⟩
  rw [← hn] at S3 ⊢
  have HN := Lib.hid hn
  have NK := Lib.hid (show n = tv.ks.length by rw [hn, WL.out])
  have LW := Lib.hid (show w.heap.size ≤ w3.heap.size from Nat.le_trans G2.out.size G3.out.size)
  clear o3 g3 c0 c1 c2 c3 c4 c5 c6 c7 c8 hn
  go_wp2
  go_loopw [8, 9] (fun o i wr => ∃ j : Nat, j ≤ n ∧ i = .int .i64 j ∧ NU wr w3.heap.size o (KS.take j) ∧ w3.grownBy wr none) (fun _ i _ => n - (intOf i).toNat)
  case atStart => exact ⟨0, Nat.zero_le _, rfl, World.ownsRow_nil _ _ _ _, gb_refl _ _⟩
  case round =>
    obtain ⟨j, hj, rfl, ho, hg⟩ := hrel
    have G := Lib.hid hg
    have O := Lib.hid ho
    obtain ⟨oa, oc, hov⟩ := nu_shape ho
    rw [List.length_take, KL.out, ← NK.out, Nat.min_eq_left hj] at hov
    subst hov
    clear hg ho
    by_cases hlt : j < n
    · have okt : ok = true := by
        cases ok
        · have e := TVd.out
          rw [if_neg (by decide)] at e
          have h := NK.out
          rw [e] at h
          have : n = 0 := h
          omega
        · rfl
      subst okt
      obtain ⟨k, rfl, hk⟩ := OI.out rfl
      rw [TL.out] at hk
      have k0 : (0 : Int) ≤ (k : Int) := by omega
      have k1 : (k : Int) < X.tn := by omega
      rw [if_pos rfl, Int.toNat_natCast] at TVd
      obtain ⟨tad, hta⟩ := HP.out.t.some (by omega)
      obtain ⟨Y, st, _, t1, _, _, _, _⟩ := HP.out.tab hk hta
      rw [← TVd.out] at st
      have HS := Lib.hid st
      have HL := Lib.hid (show tv.ks.length = Y.kn from st.k.len)
      have HTA := Lib.hid hta
      have E1 := Lib.hid t1
      have jk : j < Y.kn := by have := NK.out; have := HL.out; omega
      clear st hta hk t1 OI
      obtain ⟨ad, had⟩ := HS.out.k.some (by omega)
      obtain ⟨e0, e1, e2⟩ := (HS.out.k.keep0SKy G3.out).cells ad had j jk
      obtain ⟨lad, hlad⟩ := S3.out.some (by omega)
      have l0 := S3.out.cells lad hlad j hlt
      have KJ := Lib.hid (KA.out j (by rw [HL.out]; exact jk))
      rw [← WA.out j (by rw [HL.out]; exact jk)] at KJ
      have KTk := Lib.hid (take_one 0 KS j (by rw [KL.out, HL.out]; exact jk))
      have GEx := Lib.hid (fun (W : World) (q : w.grownBy W none) => GE.out W q (tv.ks.getD j tkz).h (tv.ks.getD j tkz).f)
      generalize getE L.V L.F L.T (tv.ks.getD j tkz).h (tv.ks.getD j tkz).f = gv at *
      generalize (tv.ks.getD j tkz).h = xh at *
      generalize (tv.ks.getD j tkz).f = xf at *
      generalize WS.getD j 0 = wj at *
      have i1 : (j : Int) < n := by omega
      have i2 : (j : Int) < Y.kn := by omega
      have i0 : (0 : Int) ≤ (j : Int) := by omega
      have hw : IntKind.i64.wrap ((j : Int) + 1) = ((j + 1 : Nat) : Int) := by have := TS.out.2.1; have := NK.out; rw [IntKind.wrap_i64]; omega
      have E0 := Lib.hid e0
      have E3 := Lib.hid e1
      have L0 := Lib.hid l0
      have AD := Lib.hid had
      have KT := Lib.hid (fun (w' : World) (q : w3.grownBy w' none) => (⟨(BE.out.keep0 (gb_trans G3.out q)).cell 0, (BE.out.keep0 (gb_trans G3.out q)).cell 1, (BE.out.keep0 (gb_trans G3.out q)).cell 2, (BE.out.keep0 (gb_trans G3.out q)).cell 3, by have := (B1.out.keep0 (gb_trans G3.out q)).cell 5; rw [HTA.out] at this; exact this, by have := (gb_trans G3.out q).cell E1.out (by simp); rw [AD.out] at this; exact this, q.cell E0.out (by simp), q.cell E3.out (by simp), q.cell L0.out (by simp), trivial⟩ : (fun w' : World => w'.cell? ⟨bx + 1, 0, none⟩ = some (.slice va vn vc) ∧ w'.cell? ⟨bx + 1, 1, none⟩ = some (.slice fa fn fc) ∧ w'.cell? ⟨bx + 1, 2, none⟩ = some (.slice ta tn tc) ∧ w'.cell? ⟨bx + 1, 3, none⟩ = some (.slice pa pn pc) ∧ w'.cell? ⟨bx, 5, none⟩ = some (.slice (some tad) X.tn X.tc) ∧ w'.cell? ⟨(tad.add (k * 6)).block, (tad.add (k * 6)).off + 1, none⟩ = some (.slice (some ad) Y.kn Y.kc) ∧ w'.cell? (ad.add (j * 3)) = some (.int .i64 xh) ∧ w'.cell? ⟨(ad.add (j * 3)).block, (ad.add (j * 3)).off + 1, none⟩ = some (.int .i64 xf) ∧ w'.cell? (lad.add j) = some (.int .i64 wj) ∧ True) w'))
      have LN := Lib.hid (show (KS.take j).length + 1 ≤ 1000000 by rw [List.length_take]; have := TS.out.2.1; have := KL.out; omega)
      rw [hlad]
      clear had e0 e1 e2 l0 hlad
      go_upto_region 6 with fail
      have GA := Lib.hid (gb_trans G.out (gb_drew wr none))
      refine wp_region_held_drew (S := (fun w' : World => w'.cell? ⟨bx + 1, 0, none⟩ = some (.slice va vn vc) ∧ w'.cell? ⟨bx + 1, 1, none⟩ = some (.slice fa fn fc) ∧ w'.cell? ⟨bx + 1, 2, none⟩ = some (.slice ta tn tc) ∧ w'.cell? ⟨bx + 1, 3, none⟩ = some (.slice pa pn pc) ∧ w'.cell? ⟨bx, 5, none⟩ = some (.slice (some tad) X.tn X.tc) ∧ w'.cell? ⟨(tad.add (k * 6)).block, (tad.add (k * 6)).off + 1, none⟩ = some (.slice (some ad) Y.kn Y.kc) ∧ w'.cell? (ad.add (j * 3)) = some (.int .i64 xh) ∧ w'.cell? ⟨(ad.add (j * 3)).block, (ad.add (j * 3)).off + 1, none⟩ = some (.int .i64 xf) ∧ w'.cell? (lad.add j) = some (.int .i64 wj) ∧ True)) (by kernel_rfl) (KT.out _ GA.out) (fun hH0 => ?_)
      replace O := Lib.hid (O.out.keep0 (gb_drew wr none))
      refine wpAnyH_take (i := 0) (v := ?v90) rfl (by kernel_rfl) (by kernel_rfl) (by kernel_rfl) (fun _ _ _ h => h) (Or.inl ⟨by rfl, ?hy90⟩) (by assumption) ?rest90
      case hy90 => (intro wz hSw; (try dsimp only at hSw); first | (go_simp; done) | (go_simp; with_reducible rfl))
      try simp only [Act.put, List.getElem_toArray, List.getElem_cons_zero, List.setIfInBounds_toArray, List.set_cons_zero, List.set_cons_succ]
      refine wpAnyH_take (i := 1) (v := ?v91) rfl (by kernel_rfl) (by kernel_rfl) (by kernel_rfl) (fun _ _ _ h => h) (Or.inl ⟨by rfl, ?hy91⟩) (by assumption) ?rest91
      case hy91 => (intro wz hSw; (try dsimp only at hSw); first | (go_simp; done) | (go_simp; with_reducible rfl))
      try simp only [Act.put, List.getElem_toArray, List.getElem_cons_succ, List.getElem_cons_zero, List.setIfInBounds_toArray, List.set_cons_zero, List.set_cons_succ]
      refine wpAnyH_take (i := 2) (v := ?v92) rfl (by kernel_rfl) (by kernel_rfl) (by kernel_rfl) (fun _ _ _ h => h) (Or.inl ⟨by rfl, ?hy92⟩) (by assumption) ?rest92
      case hy92 => (intro wz hSw; (try dsimp only at hSw); first | (go_simp; done) | (go_simp; with_reducible rfl))
      try simp only [Act.put, List.getElem_toArray, List.getElem_cons_succ, List.getElem_cons_zero, List.setIfInBounds_toArray, List.set_cons_zero, List.set_cons_succ]
      refine wpAnyH_take (i := 3) (v := ?v93) rfl (by kernel_rfl) (by kernel_rfl) (by kernel_rfl) (fun _ _ _ h => h) (Or.inl ⟨by rfl, ?hy93⟩) (by assumption) ?rest93
      case hy93 => (intro wz hSw; (try dsimp only at hSw); first | (go_simp; done) | (go_simp; with_reducible rfl))
      try simp only [Act.put, List.getElem_toArray, List.getElem_cons_succ, List.getElem_cons_zero, List.setIfInBounds_toArray, List.set_cons_zero, List.set_cons_succ]
      refine wpAnyH_take (i := 4) (v := ?v94) rfl (by kernel_rfl) (by kernel_rfl) (by kernel_rfl) (fun _ _ _ h => h) (Or.inl ⟨by rfl, ?hy94⟩) (by assumption) ?rest94
      case hy94 => (intro wz hSw; (try dsimp only at hSw); first | (go_simp; done) | (go_simp; with_reducible rfl))
      try simp only [Act.put, List.getElem_toArray, List.getElem_cons_succ, List.getElem_cons_zero, List.setIfInBounds_toArray, List.set_cons_zero, List.set_cons_succ]
      refine wpAnyH_take (i := 5) (v := ?v95) rfl (by kernel_rfl) (by kernel_rfl) (by kernel_rfl) (fun _ _ _ h => h) (Or.inl ⟨by rfl, ?hy95⟩) (by assumption) ?rest95
      case hy95 => (intro wz hSw; (try dsimp only at hSw); first | (go_simp; done) | (go_simp; with_reducible rfl))
      try simp only [Act.put, List.getElem_toArray, List.getElem_cons_succ, List.getElem_cons_zero, List.setIfInBounds_toArray, List.set_cons_zero, List.set_cons_succ]
      refine wpAnyH_take (i := 6) (v := ?v96) rfl (by kernel_rfl) (by kernel_rfl) (by kernel_rfl) (fun _ _ _ h => h) (Or.inl ⟨by rfl, ?hy96⟩) (by assumption) ?rest96
      case hy96 => (intro wz hSw; (try dsimp only at hSw); first | (go_simp; done) | (go_simp; with_reducible rfl))
      try simp only [Act.put, List.getElem_toArray, List.getElem_cons_succ, List.getElem_cons_zero, List.setIfInBounds_toArray, List.set_cons_zero, List.set_cons_succ]
      refine wpAnyH_take (i := 7) (v := ?v97) rfl (by kernel_rfl) (by kernel_rfl) (by kernel_rfl) (fun _ _ _ h => h) (Or.inl ⟨by rfl, ?hy97⟩) (by assumption) ?rest97
      case hy97 => (intro wz hSw; (try dsimp only at hSw); first | (go_simp; done) | (go_simp; with_reducible rfl))
      try simp only [Act.put, List.getElem_toArray, List.getElem_cons_succ, List.getElem_cons_zero, List.setIfInBounds_toArray, List.set_cons_zero, List.set_cons_succ]
      refine wpAnyH_take (i := 8) (v := ?v98) rfl (by kernel_rfl) (by kernel_rfl) (by kernel_rfl) (fun _ _ _ h => h) (Or.inl ⟨by rfl, ?hy98⟩) (by assumption) ?rest98
      case hy98 => (intro wz hSw; (try dsimp only at hSw); first | (go_simp; done) | (go_simp; with_reducible rfl))
      try simp only [Act.put, List.getElem_toArray, List.getElem_cons_succ, List.getElem_cons_zero, List.setIfInBounds_toArray, List.set_cons_zero, List.set_cons_succ]
      refine wpAnyH_take (i := 9) (v := ?v99) rfl (by kernel_rfl) (by kernel_rfl) (by kernel_rfl) (fun _ _ _ h => h) (Or.inl ⟨by rfl, ?hy99⟩) (by assumption) ?rest99
      case hy99 => (intro wz hSw; (try dsimp only at hSw); first | (go_simp; done) | (go_simp; with_reducible rfl))
      try simp only [Act.put, List.getElem_toArray, List.getElem_cons_succ, List.getElem_cons_zero, List.setIfInBounds_toArray, List.set_cons_zero, List.set_cons_succ]
      refine wpAnyH_take (i := 10) (v := ?v100) rfl (by kernel_rfl) (by kernel_rfl) (by kernel_rfl) (fun _ _ _ h => h) (Or.inl ⟨by rfl, ?hy100⟩) (by assumption) ?rest100
      case hy100 => (intro wz hSw; (try dsimp only at hSw); first | (go_simp; done) | (go_simp; with_reducible rfl))
      try simp only [Act.put, List.getElem_toArray, List.getElem_cons_succ, List.getElem_cons_zero, List.setIfInBounds_toArray, List.set_cons_zero, List.set_cons_succ]
      refine wpAnyH_take (i := 11) (v := ?v101) rfl (by kernel_rfl) (by kernel_rfl) (by kernel_rfl) (fun _ _ _ h => h) (Or.inl ⟨by rfl, ?hy101⟩) (by assumption) ?rest101
      case hy101 => (intro wz hSw; (try dsimp only at hSw); first | (go_simp; done) | (go_simp; with_reducible rfl))
      try simp only [Act.put, List.getElem_toArray, List.getElem_cons_succ, List.getElem_cons_zero, List.setIfInBounds_toArray, List.set_cons_zero, List.set_cons_succ]
      refine wpAnyH_take (i := 13) (v := ?v102) rfl (by kernel_rfl) (by kernel_rfl) (by kernel_rfl) (fun _ _ _ h => h) (Or.inl ⟨by rfl, ?hy102⟩) (by assumption) ?rest102
      case hy102 => (intro wz hSw; (try dsimp only at hSw); first | (go_simp; done) | (go_simp; with_reducible rfl))
      try simp only [Act.put, List.getElem_toArray, List.getElem_cons_succ, List.getElem_cons_zero, List.setIfInBounds_toArray, List.set_cons_zero, List.set_cons_succ]
      refine wpAnyH_take (i := 14) (v := ?v103) rfl (by kernel_rfl) (by kernel_rfl) (by kernel_rfl) (fun _ _ _ h => h) (Or.inl ⟨by rfl, ?hy103⟩) (by assumption) ?rest103
      case hy103 => (intro wz hSw; (try dsimp only at hSw); first | (go_simp; done) | (go_simp; with_reducible rfl))
      try simp only [Act.put, List.getElem_toArray, List.getElem_cons_succ, List.getElem_cons_zero, List.setIfInBounds_toArray, List.set_cons_zero, List.set_cons_succ]
      refine wpAnyH_take (i := 15) (v := ?v104) rfl (by kernel_rfl) (by kernel_rfl) (by kernel_rfl) (fun _ _ _ h => h) (Or.inl ⟨by rfl, ?hy104⟩) (by assumption) ?rest104
      case hy104 => (intro wz hSw; (try dsimp only at hSw); first | (go_simp; done) | (go_simp; with_reducible rfl))
      try simp only [Act.put, List.getElem_toArray, List.getElem_cons_succ, List.getElem_cons_zero, List.setIfInBounds_toArray, List.set_cons_zero, List.set_cons_succ]
      refine wpAnyH_take (i := 16) (v := ?v105) rfl (by kernel_rfl) (by kernel_rfl) (by kernel_rfl) (fun _ _ _ h => h) (Or.inl ⟨by rfl, ?hy105⟩) (by assumption) ?rest105
      case hy105 => (intro wz hSw; (try dsimp only at hSw); first | (go_simp; done) | (go_simp; with_reducible rfl))
      try simp only [Act.put, List.getElem_toArray, List.getElem_cons_succ, List.getElem_cons_zero, List.setIfInBounds_toArray, List.set_cons_zero, List.set_cons_succ]
      refine wpAnyH_ready (rs := [12]) (by kernel_rfl) (by simp) ?_
      refine AllReadyH.cons (o := _) rfl (fun K hK => ?_) AllReadyH.nil
      go_simp
      refine (GEx.out _ (gb_trans G2.out (gb_trans G3.out GA.out))).mono ?_
      rintro e wh1 ⟨rfl, g⟩
      replace GA := Lib.hid (gb_trans GA.out g)
      replace O := Lib.hid (O.out.keep0 g)
      clear g
      try dsimp only
      refine hK.out _ _ (KT.out _ GA.out) (fun hH1 => ?_)
      clear hK K hH0
      try simp only [Act.put, List.getElem_toArray, List.getElem_cons_succ, List.getElem_cons_zero, List.setIfInBounds_toArray, List.set_cons_zero, List.set_cons_succ]
      refine wpAnyH_ready (rs := [17]) (by kernel_rfl) (by simp) ?_
      refine AllReadyH.cons (o := _) rfl (fun K hK => ?_) AllReadyH.nil
      go_simp
      refine (rmask_any wj _).mono ?_
      rintro e wh2 ⟨rfl, he⟩
      obtain rfl := he.symm
      have g := gb_refl wh2 none
      replace GA := Lib.hid (gb_trans GA.out g)
      replace O := Lib.hid (O.out.keep0 g)
      clear g
      try dsimp only
      refine hK.out _ _ (KT.out _ GA.out) (fun hH2 => ?_)
      clear hK K hH1
      try simp only [Act.put, List.getElem_toArray, List.getElem_cons_succ, List.getElem_cons_zero, List.setIfInBounds_toArray, List.set_cons_zero, List.set_cons_succ]
      refine wpAnyH_take (i := 18) (v := ?v106) rfl (by kernel_rfl) (by kernel_rfl) (by kernel_rfl) (fun _ _ _ h => h) (Or.inl ⟨by rfl, ?hy106⟩) (by assumption) ?rest106
      case hy106 => (intro wz hSw; (try dsimp only at hSw); first | (go_simp; done) | (go_simp; with_reducible rfl))
      try simp only [Act.put, List.getElem_toArray, List.getElem_cons_succ, List.getElem_cons_zero, List.setIfInBounds_toArray, List.set_cons_zero, List.set_cons_succ]
      refine wpAnyH_ready (rs := [19]) (by kernel_rfl) (by simp) ?_
      refine AllReadyH.cons (o := _) rfl (fun K hK => ?_) AllReadyH.nil
      go_simp
      have g := gb_alloc wh2 (.cells #[.int .u32 (bits .and .u32 gv (mkB wj))] 57) none
      have nb := IsB.new wh2 57 #[.int .u32 (bits .and .u32 gv (mkB wj))]
      replace GA := Lib.hid (gb_trans GA.out g)
      replace O := Lib.hid (O.out.keep0 g)
      have NB := Lib.hid nb
      refine hK.out _ _ (KT.out _ GA.out) (fun hHb => ?_)
      clear hK K hH2 g nb
      obtain ⟨b5, hb5⟩ : ∃ b, b = wh2.heap.size := ⟨_, rfl⟩
      rw [← hb5] at NB ⊢
      clear hb5
      generalize wh2.alloc (.cells #[.int .u32 (bits .and .u32 gv (mkB wj))] 57) = wb at *
      try simp only [Act.put, List.getElem_toArray, List.getElem_cons_succ, List.getElem_cons_zero, List.setIfInBounds_toArray, List.set_cons_zero, List.set_cons_succ]
      refine wpAnyH_ready (rs := [20]) (by kernel_rfl) (by simp) ?_
      refine AllReadyH.cons (o := _) rfl (fun K hK => ?_) AllReadyH.nil
      refine ustep_any rfl _ _ rfl w3.heap.size _ (KS.take j) rfl O.out ⟨b5, 0, none⟩ _ (bits .and .u32 gv (mkB wj)) rfl (isb_one NB.out) LN.out GA.out.size ?_
      intro V2 wc o3 g3
      have O3 := Lib.hid o3
      have GC := Lib.hid (gb_own GA.out O.out (Nat.le_refl _) g3)
      obtain ⟨a7, c7, h7⟩ := own_shape o3
      refine hK.out _ _ (KT.out _ GC.out) (fun hHc => ?_)
      clear hK K hHb o3 g3
      obtain ⟨n7, hn7⟩ : ∃ n, n = (KS.take j ++ [(bits .and .u32 gv (mkB wj))]).length := ⟨_, rfl⟩
      rw [← hn7] at h7
      subst h7
      clear hn7
      try simp only [Act.put, List.getElem_toArray, List.getElem_cons_succ, List.getElem_cons_zero, List.setIfInBounds_toArray, List.set_cons_zero, List.set_cons_succ]
      refine wpAnyH_take (i := 21) (v := ?v107) rfl (by kernel_rfl) (by kernel_rfl) (by kernel_rfl) (fun _ _ _ h => h) (Or.inl ⟨by rfl, ?hy107⟩) (by assumption) ?rest107
      case hy107 => (intro wz hSw; (try dsimp only at hSw); first | (go_simp; done) | (go_simp; with_reducible rfl))
      try simp only [Act.put, List.getElem_toArray, List.getElem_cons_succ, List.getElem_cons_zero, List.setIfInBounds_toArray, List.set_cons_zero, List.set_cons_succ]
      refine wpAnyH_done (by kernel_rfl) ?_ _
      have OX := O3.out
      rw [← KJ.out, ← KTk.out] at OX
      go_wp2
      go_roundw
      case rel => exact ⟨j + 1, by omega, by first | rfl | (congr 1), OX, GC.out⟩
      case measure => simp [intOf]; omega
    · have i1 : ¬ (j : Int) < n := by omega
      have CE := Lib.hid (show KS.take j = KS by rw [List.take_of_length_le]; have := KL.out; have := NK.out; omega)
      have JK := Lib.hid (show j = KS.length by have := KL.out; have := NK.out; omega)
      go_wp2
      go_ret
      exact ⟨oa, oc, by rw [JK.out] <;> rfl, by have q := O.out; rw [CE.out, JK.out] at q; exact own_low q LW.out, gb_trans G2.out (gb_trans G3.out G.out)⟩
end Go.Proofs.Ytaiemcpkiegdiaa
