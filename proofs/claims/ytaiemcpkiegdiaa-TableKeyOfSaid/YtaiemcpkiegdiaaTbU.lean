/- Table: the law TableKeys; no condition. -/
import Derived.Test.YtaiemcpkiegdiaaTbS
namespace Go.Proofs.Ytaiemcpkiegdiaa
open Go.RowKit
set_option linter.unusedVariables false
theorem get_rng {w : World} {fa ta : Option Addr} {fn fc tn tc : Nat} {V : List Bool} {F : List (List Int)} {T : List Int} (hF : SR w fa fn fc F) (hT : SU w ta tn tc T) (h f : Int) : 0 ≤ getE V F T h f ∧ getE V F T h f < 4294967296 := by
  have gd : ∀ (l : List Int) (k : Nat), (∀ x ∈ l, 0 ≤ x ∧ x < 4294967296) → 0 ≤ l.getD k 0 ∧ l.getD k 0 < 4294967296 := by
    intro l k hl
    rw [List.getD_eq_getElem?_getD]
    by_cases hk : k < l.length
    · rw [List.getElem?_eq_getElem hk]; exact hl _ (List.getElem_mem _)
    · rw [List.getElem?_eq_none (by omega)]; decide
  have vr : ∀ x ∈ vls F T h, 0 ≤ x ∧ x < 4294967296 := by
    unfold vls
    split
    · exact hT.rng
    · split
      · rename_i hx
        by_cases hk : h.toNat < F.length
        · have hn := hF.len
          obtain ⟨ad, ha⟩ := hF.some (by omega)
          obtain ⟨_, _, _, _, su⟩ := hF.cells ad ha h.toNat (by omega)
          exact su.rng
        · rw [List.getD_eq_getElem?_getD, List.getElem?_eq_none (by omega)]
          intro x hx
          cases hx
      · intro x hx
        cases hx
  unfold getE
  split
  · exact gd _ _ vr
  · decide
theorem red_rng (a w : Int) : 0 ≤ redB a w ∧ redB a w < 4294967296 := by
  by_cases h : 1 ≤ w ∧ w ≤ 32
  · have r := redB_lt a w h
    have := mkB_range w
    rw [mkB_in w h] at this
    omega
  · rw [redB_out a w h]; decide
theorem keyV_red {w : World} {fa ta : Option Addr} {fn fc tn tc : Nat} (H : List (ByteArray × List Fld)) (M : List Fld) {V : List Bool} {F : List (List Int)} {T : List Int} (hF : SR w fa fn fc F) (hT : SU w ta tn tc T) (ks : List TKy) : keyV H M V F T ks = ks.map fun k => redB (getE V F T k.h k.f) (widE H M k.h k.f) := by
  unfold keyV
  refine List.map_congr_left fun k _ => ?_
  have r := get_rng (V := V) hF hT k.h k.f
  exact and_mask _ _ r.1 r.2
theorem keyV_rng {w : World} {fa ta : Option Addr} {fn fc tn tc : Nat} (H : List (ByteArray × List Fld)) (M : List Fld) {V : List Bool} {F : List (List Int)} {T : List Int} (hF : SR w fa fn fc F) (hT : SU w ta tn tc T) (ks : List TKy) : ∀ x ∈ keyV H M V F T ks, 0 ≤ x ∧ x < 4294967296 := by
  intro x hx
  rw [keyV_red H M hF hT ks] at hx
  obtain ⟨k, _, rfl⟩ := List.mem_map.1 hx
  exact red_rng _ _
set_option maxRecDepth 100000 in
set_option maxHeartbeats 20000000 in
theorem keys_walk (w : World) (X : PX) (P : Pg) (hp : SP w X P) (t : Int) (va fa ta pa : Option Addr) (vn vc fn fc tn tc pn pc : Nat) (L : EL) (hV : SB w va vn vc L.V) (hF : SR w fa fn fc L.F) (hT : SU w ta tn tc L.T) : Calls Try.prog 5 #[.agg #[.string X.nm, .slice X.ha X.hn X.hc, .slice X.ma X.mn X.mc, .slice X.ra X.rn X.rc, .slice X.aa X.an X.ac, .slice X.ta X.tn X.tc, .slice X.sa X.sn X.sc, .slice X.ca X.cn X.cc, .slice X.da X.dn X.dc], .int .i64 t, .agg #[.slice va vn vc, .slice fa fn fc, .slice ta tn tc, .slice pa pn pc]] w (RetV (.bool true) w) := by
  have S0 := Lib.hid (fun (W : World) (k : w.grownBy W none) => (⟨hp.keep0 k, hV.keep0 k, hF.keep0 k, hT.keep0 k⟩ : SP W X P ∧ SB W va vn vc L.V ∧ SR W fa fn fc L.F ∧ SU W ta tn tc L.T))
  have G1 := Lib.hid (gb_trans (gb_alloc w (.cells #[.string X.nm, .slice X.ha X.hn X.hc, .slice X.ma X.mn X.mc, .slice X.ra X.rn X.rc, .slice X.aa X.an X.ac, .slice X.ta X.tn X.tc, .slice X.sa X.sn X.sc, .slice X.ca X.cn X.cc, .slice X.da X.dn X.dc] 31) none) (gb_alloc _ (.cells #[.slice va vn vc, .slice fa fn fc, .slice ta tn tc, .slice pa pn pc] 47) none))
  have BP := (IsB.new w 31 #[.string X.nm, .slice X.ha X.hn X.hc, .slice X.ma X.mn X.mc, .slice X.ra X.rn X.rc, .slice X.aa X.an X.ac, .slice X.ta X.tn X.tc, .slice X.sa X.sn X.sc, .slice X.ca X.cn X.cc, .slice X.da X.dn X.dc]).alloc (.cells #[.slice va vn vc, .slice fa fn fc, .slice ta tn tc, .slice pa pn pc] 47)
  have BE := IsB.new (w.alloc (.cells #[.string X.nm, .slice X.ha X.hn X.hc, .slice X.ma X.mn X.mc, .slice X.ra X.rn X.rc, .slice X.aa X.an X.ac, .slice X.ta X.tn X.tc, .slice X.sa X.sn X.sc, .slice X.ca X.cn X.cc, .slice X.da X.dn X.dc] 31)) 47 #[.slice va vn vc, .slice fa fn fc, .slice ta tn tc, .slice pa pn pc]
  simp only [sz_al] at BE
  replace BP := Lib.hid BP
  replace BE := Lib.hid BE
  clear hp hV hF hT
  go_enter Try.func5, Try.ntmps5
  go_upto_region 1 with fail
  generalize (w.alloc (.cells #[.string X.nm, .slice X.ha X.hn X.hc, .slice X.ma X.mn X.mc, .slice X.ra X.rn X.rc, .slice X.aa X.an X.ac, .slice X.ta X.tn X.tc, .slice X.sa X.sn X.sc, .slice X.ca X.cn X.cc, .slice X.da X.dn X.dc] 31)).alloc (.cells #[.slice va vn vc, .slice fa fn fc, .slice ta tn tc, .slice pa pn pc] 47) = w1 at *
  obtain ⟨bx, hbx⟩ : ∃ b, b = w.heap.size := ⟨_, rfl⟩
  have Lbx := Lib.hid (show w.heap.size ≤ bx by rw [hbx]; exact Nat.le_refl _)
  rw [← hbx] at BP BE ⊢
  clear hbx
  clear Lbx
  replace S0 := Lib.hid (fun (W : World) (k : w1.grownBy W none) => S0.out W (gb_trans G1.out k))
  have c0 := (BP.out.keep0 (gb_refl _ _)).cell 0
  have c1 := (BP.out.keep0 (gb_refl _ _)).cell 1
  have c2 := (BP.out.keep0 (gb_refl _ _)).cell 2
  have c3 := (BP.out.keep0 (gb_refl _ _)).cell 3
  have c4 := (BP.out.keep0 (gb_refl _ _)).cell 4
  have c5 := (BP.out.keep0 (gb_refl _ _)).cell 5
  have c6 := (BP.out.keep0 (gb_refl _ _)).cell 6
  have c7 := (BP.out.keep0 (gb_refl _ _)).cell 7
  have c8 := (BP.out.keep0 (gb_refl _ _)).cell 8
  dsimp at c0 c1 c2 c3 c4 c5 c6 c7 c8
  have x0 := (BE.out.keep0 (gb_refl _ _)).cell 0
  have x1 := (BE.out.keep0 (gb_refl _ _)).cell 1
  have x2 := (BE.out.keep0 (gb_refl _ _)).cell 2
  have x3 := (BE.out.keep0 (gb_refl _ _)).cell 3
  dsimp at x0 x1 x2 x3
  go_wp2_with fail
  refine (small_any w1 X P (S0.out _ (gb_refl _ _)).1).mono ?_
  rintro e w2 ⟨b, rfl, g, hq⟩
  have G2 := Lib.hid g
  have HQ := Lib.hid hq
  clear g hq
  clear c0 c1 c2 c3 c4 c5 c6 c7 c8
  clear x0 x1 x2 x3
  cases b
  · go_wp2_with fail
    refine (works_any _).mono ?_
    rintro e w3 ⟨rfl, g⟩
    have G3 := Lib.hid (gb_trans (gb_trans G1.out G2.out) g)
    clear g
    go_wp2
    go_ret
    exact ⟨rfl, G3.out⟩
  · have Z := Lib.hid (HQ.out rfl)
    clear HQ
    have c0 := (BP.out.keep0 G2.out).cell 0
    have c1 := (BP.out.keep0 G2.out).cell 1
    have c2 := (BP.out.keep0 G2.out).cell 2
    have c3 := (BP.out.keep0 G2.out).cell 3
    have c4 := (BP.out.keep0 G2.out).cell 4
    have c5 := (BP.out.keep0 G2.out).cell 5
    have c6 := (BP.out.keep0 G2.out).cell 6
    have c7 := (BP.out.keep0 G2.out).cell 7
    have c8 := (BP.out.keep0 G2.out).cell 8
    dsimp at c0 c1 c2 c3 c4 c5 c6 c7 c8
    have x0 := (BE.out.keep0 G2.out).cell 0
    have x1 := (BE.out.keep0 G2.out).cell 1
    have x2 := (BE.out.keep0 G2.out).cell 2
    have x3 := (BE.out.keep0 G2.out).cell 3
    dsimp at x0 x1 x2 x3
    go_wp2_with fail
    refine (smallenv_any w2 va fa ta pa vn vc fn fc tn tc pn pc L.F (S0.out _ G2.out).2.2.1).mono ?_
    rintro e w4 ⟨b, rfl, g, hq⟩
    have G4 := Lib.hid (gb_trans G2.out g)
    have HQ := Lib.hid hq
    clear g hq
    clear c0 c1 c2 c3 c4 c5 c6 c7 c8
    clear x0 x1 x2 x3
    cases b
    · go_wp2_with fail
      refine (works_any _).mono ?_
      rintro e w3 ⟨rfl, g⟩
      have G3 := Lib.hid (gb_trans (gb_trans G1.out G4.out) g)
      clear g
      go_wp2
      go_ret
      exact ⟨rfl, G3.out⟩
    · have SE := Lib.hid (HQ.out rfl)
      clear HQ
      replace S0 := Lib.hid (fun (W : World) (k : w4.grownBy W none) => S0.out _ (gb_trans G4.out k))
      replace BP := Lib.hid (BP.out.keep0 G4.out)
      replace BE := Lib.hid (BE.out.keep0 G4.out)
      replace G1 := Lib.hid (gb_trans G1.out G4.out)
      clear G2 G4
      have KT := Lib.hid (fun (w' : World) (q : w4.grownBy w' none) => (⟨(BP.out.keep0 q).cell 0, (BP.out.keep0 q).cell 1, (BP.out.keep0 q).cell 2, (BP.out.keep0 q).cell 3, (BP.out.keep0 q).cell 4, (BP.out.keep0 q).cell 5, (BP.out.keep0 q).cell 6, (BP.out.keep0 q).cell 7, (BP.out.keep0 q).cell 8, (BE.out.keep0 q).cell 0, (BE.out.keep0 q).cell 1, (BE.out.keep0 q).cell 2, (BE.out.keep0 q).cell 3, trivial⟩ : (fun w' : World => w'.cell? ⟨bx, 0, none⟩ = some (.string X.nm) ∧ w'.cell? ⟨bx, 1, none⟩ = some (.slice X.ha X.hn X.hc) ∧ w'.cell? ⟨bx, 2, none⟩ = some (.slice X.ma X.mn X.mc) ∧ w'.cell? ⟨bx, 3, none⟩ = some (.slice X.ra X.rn X.rc) ∧ w'.cell? ⟨bx, 4, none⟩ = some (.slice X.aa X.an X.ac) ∧ w'.cell? ⟨bx, 5, none⟩ = some (.slice X.ta X.tn X.tc) ∧ w'.cell? ⟨bx, 6, none⟩ = some (.slice X.sa X.sn X.sc) ∧ w'.cell? ⟨bx, 7, none⟩ = some (.slice X.ca X.cn X.cc) ∧ w'.cell? ⟨bx, 8, none⟩ = some (.slice X.da X.dn X.dc) ∧ w'.cell? ⟨bx + 1, 0, none⟩ = some (.slice va vn vc) ∧ w'.cell? ⟨bx + 1, 1, none⟩ = some (.slice fa fn fc) ∧ w'.cell? ⟨bx + 1, 2, none⟩ = some (.slice ta tn tc) ∧ w'.cell? ⟨bx + 1, 3, none⟩ = some (.slice pa pn pc) ∧ True) w'))
      have KC := Lib.hid (fun (W : World) (k : w4.grownBy W none) => (⟨pkey_any W X P (S0.out _ k).1 Z.out.sz t va fa ta vn vc fn fc tn tc (.slice pa pn pc) L.V L.F L.T (S0.out _ k).2.1 (S0.out _ k).2.2.1 (S0.out _ k).2.2.2, rkey_any W X P (S0.out _ k).1 Z.out.sz t va fa ta pa vn vc fn fc tn tc pn pc L (S0.out _ k).2.1 (S0.out _ k).2.2.1 (S0.out _ k).2.2.2⟩ : _ ∧ _))
      have WL := Lib.hid (show (keyV P.H P.M L.V L.F L.T (tabV P t).ks).length ≤ 10000 by have := (tabV_sz Z.out.sz t).2.1; rw [keyV_len]; omega)
      have WR := Lib.hid (keyV_rng P.H P.M (V := L.V) (S0.out _ (gb_refl _ _)).2.2.1 (S0.out _ (gb_refl _ _)).2.2.2 (tabV P t).ks)
      generalize keyV P.H P.M L.V L.F L.T (tabV P t).ks = KL at *
      go_upto_region 3 with fail
      have GH0 := Lib.hid (gb_drew w4 none)
      refine wp_region_held_drew (S := (fun w' : World => w'.cell? ⟨bx, 0, none⟩ = some (.string X.nm) ∧ w'.cell? ⟨bx, 1, none⟩ = some (.slice X.ha X.hn X.hc) ∧ w'.cell? ⟨bx, 2, none⟩ = some (.slice X.ma X.mn X.mc) ∧ w'.cell? ⟨bx, 3, none⟩ = some (.slice X.ra X.rn X.rc) ∧ w'.cell? ⟨bx, 4, none⟩ = some (.slice X.aa X.an X.ac) ∧ w'.cell? ⟨bx, 5, none⟩ = some (.slice X.ta X.tn X.tc) ∧ w'.cell? ⟨bx, 6, none⟩ = some (.slice X.sa X.sn X.sc) ∧ w'.cell? ⟨bx, 7, none⟩ = some (.slice X.ca X.cn X.cc) ∧ w'.cell? ⟨bx, 8, none⟩ = some (.slice X.da X.dn X.dc) ∧ w'.cell? ⟨bx + 1, 0, none⟩ = some (.slice va vn vc) ∧ w'.cell? ⟨bx + 1, 1, none⟩ = some (.slice fa fn fc) ∧ w'.cell? ⟨bx + 1, 2, none⟩ = some (.slice ta tn tc) ∧ w'.cell? ⟨bx + 1, 3, none⟩ = some (.slice pa pn pc) ∧ True)) (by kernel_rfl) (KT.out _ GH0.out) (fun hH0 => ?_)
      refine wpAnyH_take (i := 0) (v := ?v105) rfl (by kernel_rfl) (by kernel_rfl) (by kernel_rfl) (fun _ _ _ h => h) (Or.inl ⟨by rfl, ?hy105⟩) (by assumption) ?rest105
      case hy105 => (intro wz hSw; (try dsimp only at hSw); first | (go_simp; done) | (go_simp; with_reducible rfl))
      try simp only [Act.put, List.getElem_toArray, List.getElem_cons_zero, List.setIfInBounds_toArray, List.set_cons_zero, List.set_cons_succ]
      refine wpAnyH_take (i := 1) (v := ?v106) rfl (by kernel_rfl) (by kernel_rfl) (by kernel_rfl) (fun _ _ _ h => h) (Or.inl ⟨by rfl, ?hy106⟩) (by assumption) ?rest106
      case hy106 => (intro wz hSw; (try dsimp only at hSw); first | (go_simp; done) | (go_simp; with_reducible rfl))
      try simp only [Act.put, List.getElem_toArray, List.getElem_cons_succ, List.getElem_cons_zero, List.setIfInBounds_toArray, List.set_cons_zero, List.set_cons_succ]
      refine wpAnyH_take (i := 2) (v := ?v107) rfl (by kernel_rfl) (by kernel_rfl) (by kernel_rfl) (fun _ _ _ h => h) (Or.inl ⟨by rfl, ?hy107⟩) (by assumption) ?rest107
      case hy107 => (intro wz hSw; (try dsimp only at hSw); first | (go_simp; done) | (go_simp; with_reducible rfl))
      try simp only [Act.put, List.getElem_toArray, List.getElem_cons_succ, List.getElem_cons_zero, List.setIfInBounds_toArray, List.set_cons_zero, List.set_cons_succ]
      refine wpAnyH_take (i := 4) (v := ?v108) rfl (by kernel_rfl) (by kernel_rfl) (by kernel_rfl) (fun _ _ _ h => h) (Or.inl ⟨by rfl, ?hy108⟩) (by assumption) ?rest108
      case hy108 => (intro wz hSw; (try dsimp only at hSw); first | (go_simp; done) | (go_simp; with_reducible rfl))
      try simp only [Act.put, List.getElem_toArray, List.getElem_cons_succ, List.getElem_cons_zero, List.setIfInBounds_toArray, List.set_cons_zero, List.set_cons_succ]
      refine wpAnyH_take (i := 5) (v := ?v109) rfl (by kernel_rfl) (by kernel_rfl) (by kernel_rfl) (fun _ _ _ h => h) (Or.inl ⟨by rfl, ?hy109⟩) (by assumption) ?rest109
      case hy109 => (intro wz hSw; (try dsimp only at hSw); first | (go_simp; done) | (go_simp; with_reducible rfl))
      try simp only [Act.put, List.getElem_toArray, List.getElem_cons_succ, List.getElem_cons_zero, List.setIfInBounds_toArray, List.set_cons_zero, List.set_cons_succ]
      refine wpAnyH_take (i := 6) (v := ?v110) rfl (by kernel_rfl) (by kernel_rfl) (by kernel_rfl) (fun _ _ _ h => h) (Or.inl ⟨by rfl, ?hy110⟩) (by assumption) ?rest110
      case hy110 => (intro wz hSw; (try dsimp only at hSw); first | (go_simp; done) | (go_simp; with_reducible rfl))
      try simp only [Act.put, List.getElem_toArray, List.getElem_cons_succ, List.getElem_cons_zero, List.setIfInBounds_toArray, List.set_cons_zero, List.set_cons_succ]
      refine wpAnyH_ready (rs := [3]) (by kernel_rfl) (by simp) ?_
      refine AllReadyH.cons (o := _) rfl (fun K hK => ?_) AllReadyH.nil
      go_simp
      refine ((KC.out _ GH0.out).1).mono ?_
      rintro e wh1 ⟨ia, ic, rfl, nl, g⟩
      have IA := Lib.hid (nu_su nl rfl WR.out)
      clear nl
      have GH1 := Lib.hid (gb_trans GH0.out g)
      clear g
      try dsimp only
      refine hK.out _ _ (KT.out _ GH1.out) (fun hH1 => ?_)
      clear hK K hH0
      try simp only [Act.put, List.getElem_toArray, List.getElem_cons_succ, List.getElem_cons_zero, List.setIfInBounds_toArray, List.set_cons_zero, List.set_cons_succ]
      refine wpAnyH_ready (rs := [7]) (by kernel_rfl) (by simp) ?_
      refine AllReadyH.cons (o := _) rfl (fun K hK => ?_) AllReadyH.nil
      go_simp
      refine ((KC.out _ GH1.out).2).mono ?_
      rintro e wh2 ⟨ja, jc, rfl, nl, g⟩
      have JA := Lib.hid (nu_su nl rfl WR.out)
      replace IA := Lib.hid (IA.out.keep0 g)
      clear nl
      have GH2 := Lib.hid (gb_trans GH1.out g)
      clear g
      try dsimp only
      refine hK.out _ _ (KT.out _ GH2.out) (fun hH2 => ?_)
      clear hK K hH1
      try simp only [Act.put, List.getElem_toArray, List.getElem_cons_succ, List.getElem_cons_zero, List.setIfInBounds_toArray, List.set_cons_zero, List.set_cons_succ]
      refine wpAnyH_ready (rs := [8]) (by kernel_rfl) (by simp) ?_
      refine AllReadyH.cons (o := _) rfl (fun K hK => ?_) AllReadyH.nil
      go_simp
      refine (equ_same _ _ _ _ _ _ _ KL IA.out JA.out WL.out).mono ?_
      rintro e wh3 ⟨rfl, g⟩
      clear IA JA
      have GH3 := Lib.hid (gb_trans GH2.out g)
      clear g
      try dsimp only
      refine hK.out _ _ (KT.out _ GH3.out) (fun hH3 => ?_)
      clear hK K hH2
      try simp only [Act.put, List.getElem_toArray, List.getElem_cons_succ, List.getElem_cons_zero, List.setIfInBounds_toArray, List.set_cons_zero, List.set_cons_succ]
      refine wpAnyH_take (i := 9) (v := ?v111) rfl (by kernel_rfl) (by kernel_rfl) (by kernel_rfl) (fun _ _ _ h => h) (Or.inl ⟨by rfl, ?hy111⟩) (by assumption) ?rest111
      case hy111 => (intro wz hSw; (try dsimp only at hSw); first | (go_simp; done) | (go_simp; with_reducible rfl))
      try simp only [Act.put, List.getElem_toArray, List.getElem_cons_succ, List.getElem_cons_zero, List.setIfInBounds_toArray, List.set_cons_zero, List.set_cons_succ]
      refine wpAnyH_ready (rs := [10]) (by kernel_rfl) (by simp) ?_
      refine AllReadyH.cons (o := _) rfl (fun K hK => ?_) AllReadyH.nil
      go_simp
      refine (works_any _).mono ?_
      rintro e wh4 ⟨rfl, g⟩
      have GH4 := Lib.hid (gb_trans GH3.out g)
      clear g
      try dsimp only
      refine hK.out _ _ (KT.out _ GH4.out) (fun hH4 => ?_)
      clear hK K hH3
      try simp only [Act.put, List.getElem_toArray, List.getElem_cons_succ, List.getElem_cons_zero, List.setIfInBounds_toArray, List.set_cons_zero, List.set_cons_succ]
      refine wpAnyH_take (i := 11) (v := ?v112) rfl (by kernel_rfl) (by kernel_rfl) (by kernel_rfl) (fun _ _ _ h => h) (Or.inl ⟨by rfl, ?hy112⟩) (by assumption) ?rest112
      case hy112 => (intro wz hSw; (try dsimp only at hSw); first | (go_simp; done) | (go_simp; with_reducible rfl))
      try simp only [Act.put, List.getElem_toArray, List.getElem_cons_succ, List.getElem_cons_zero, List.setIfInBounds_toArray, List.set_cons_zero, List.set_cons_succ]
      refine wpAnyH_take (i := 12) (v := ?v113) rfl (by kernel_rfl) (by kernel_rfl) (by kernel_rfl) (fun _ _ _ h => h) (Or.inl ⟨by rfl, ?hy113⟩) (by assumption) ?rest113
      case hy113 => (intro wz hSw; (try dsimp only at hSw); first | (go_simp; done) | (go_simp; with_reducible rfl))
      try simp only [Act.put, List.getElem_toArray, List.getElem_cons_succ, List.getElem_cons_zero, List.setIfInBounds_toArray, List.set_cons_zero, List.set_cons_succ]
      refine wpAnyH_done (by kernel_rfl) ?_ _
      clear hH4
      go_wp2
      go_ret
      exact ⟨rfl, gb_trans G1.out GH4.out⟩
end Go.Proofs.Ytaiemcpkiegdiaa
