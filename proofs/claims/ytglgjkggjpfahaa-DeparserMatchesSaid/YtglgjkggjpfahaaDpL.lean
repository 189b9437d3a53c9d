/- Deparser: the reference: Emit, Size; no condition but sizes. -/
import Derived.Test.YtglgjkggjpfahaaDpE
import Derived.BigQuiet
namespace Go.Proofs.Ytglgjkggjpfahaa
open Go.RowKit
set_option linter.unusedVariables false
/-- The state of the reference's loop. -/
structure RmS (W : World) (PC EC : Array Value) (bx b8 base : Nat) (aw : Option Addr) (cw : Nat) (B : List Bool) (w : World) : Prop where
  p : IsB w bx 31 PC
  e : IsB w (bx + 1) 42 EC
  x : IsB w b8 61 #[.slice aw B.length cw]
  o : BRow w base (.slice aw B.length cw) B
  g : W.grownBy w none
  lo : W.heap.size ≤ base
  hi : base ≤ w.heap.size
  l8 : W.heap.size ≤ b8
theorem RmS.keep0 {W : World} {PC EC : Array Value} {bx b8 base cw : Nat} {aw : Option Addr} {B : List Bool} {w w2 : World} (h : RmS W PC EC bx b8 base aw cw B w) (k : w.grownBy w2 none) : RmS W PC EC bx b8 base aw cw B w2 :=
  ⟨h.p.keep0 k, h.e.keep0 k, h.x.keep0 k, own_keep0 h.o k, gb_trans h.g k, h.lo, Nat.le_trans h.hi k.size, h.l8⟩
set_option maxRecDepth 100000 in
set_option maxHeartbeats 20000000 in
theorem remit_any (w : World) (nm v3 v4 v5 v6 v7 : Value) (ha ma da : Option Addr) (hn hc mn mc dn dc : Nat) (va fa ta pa : Option Addr) (vn vc fn fc tn tc pn pc : Nat) (H : List (ByteArray × List Fld)) (M : List Fld) (D : List Int) (L : EL) (hH : SH w ha hn hc H) (hM : SF w ma mn mc M) (hD : SI w da dn dc D) (he : ER w ⟨va, fa, ta, pa, vn, vc, fn, fc, tn, tc, pn, pc⟩ L) (hz9 : HZ H) (hb9 : hn ≤ 100000) (zz : shP H M L → fn ≤ 100000 ∧ tn ≤ 100000 ∧ ∀ j, (L.F.getD j []).length ≤ 100000) (zp : pn ≤ 100000) (M2 : List Int) (hM2 : M2 = emit H M D L) : Calls Try.prog 35 #[.agg #[nm, .slice ha hn hc, .slice ma mn mc, v3, v4, v5, v6, v7, .slice da dn dc], .agg #[.slice va vn vc, .slice fa fn fc, .slice ta tn tc, .slice pa pn pc]] w (RetY M2 w) := by
  obtain ⟨a, e, hdc⟩ := dc_ex hn D
  obtain ⟨r, hr⟩ := chkE_ex H M L
  have HE := Lib.hid hM2
  have LH := Lib.hid hH.len
  have LD := Lib.hid hD.len
  have DO := Lib.hid hdc.ok
  have EO := Lib.hid (chkE_ok hr)
  have S0 := Lib.hid (⟨hH, hD, he.v, he.f, he.p⟩ : SH w ha hn hc H ∧ SI w da dn dc D ∧ SB w va vn vc L.V ∧ SR w fa fn fc L.F ∧ SY w pa pn pc L.P)
  have ZH := Lib.hid hz9
  have ZP := Lib.hid zp
  have ZN := Lib.hid hb9
  have K1 := Lib.hid (fun (W : World) (q : w.grownBy W none) => rdcheck_any W nm v3 v4 v5 v6 v7 ha ma da hn hc mn mc dn dc D (hD.keep0 q) hb9 a e hdc)
  have K2 := Lib.hid (fun (W : World) (q : w.grownBy W none) => rcheck_c W nm v3 v4 v5 v6 v7 (.slice da dn dc) ha ma hn hc mn mc H M (hH.keep0 q) (hM.keep0 q) va fa ta pa vn vc fn fc tn tc pn pc L (he.v.keep0 q) (he.f.keep0 q) (he.t.keep0 q) hb9 zz r hr)
  unfold RetV at K1 K2
  have G1 := Lib.hid (gb_trans (gb_alloc w (.cells #[nm, .slice ha hn hc, .slice ma mn mc, v3, v4, v5, v6, v7, .slice da dn dc] 31) none) (gb_alloc _ (.cells #[.slice va vn vc, .slice fa fn fc, .slice ta tn tc, .slice pa pn pc] 42) none))
  have B1 := (IsB.new w 31 #[nm, .slice ha hn hc, .slice ma mn mc, v3, v4, v5, v6, v7, .slice da dn dc]).alloc (.cells #[.slice va vn vc, .slice fa fn fc, .slice ta tn tc, .slice pa pn pc] 42)
  have B2 := IsB.new (w.alloc (.cells #[nm, .slice ha hn hc, .slice ma mn mc, v3, v4, v5, v6, v7, .slice da dn dc] 31)) 42 #[.slice va vn vc, .slice fa fn fc, .slice ta tn tc, .slice pa pn pc]
  simp only [sz_al] at B2
  replace B1 := Lib.hid B1
  replace B2 := Lib.hid B2
  clear hH hM hD he hz9 hb9 zz zp hM2 hdc hr
  go_enter Try.func35, Try.ntmps35
  go_upto_region 1 with fail
  generalize (w.alloc (.cells #[nm, .slice ha hn hc, .slice ma mn mc, v3, v4, v5, v6, v7, .slice da dn dc] 31)).alloc (.cells #[.slice va vn vc, .slice fa fn fc, .slice ta tn tc, .slice pa pn pc] 42) = w1 at *
  obtain ⟨bx, hbx⟩ : ∃ b, b = w.heap.size := ⟨_, rfl⟩
  have Lbx := Lib.hid (show w.heap.size ≤ bx by rw [hbx]; exact Nat.le_refl _)
  rw [← hbx] at B1 B2 ⊢
  clear hbx
  have c0 := (B1.out.keep0 (gb_refl _ _)).cell 0
  have c1 := (B1.out.keep0 (gb_refl _ _)).cell 1
  have c2 := (B1.out.keep0 (gb_refl _ _)).cell 2
  have c3 := (B1.out.keep0 (gb_refl _ _)).cell 3
  have c4 := (B1.out.keep0 (gb_refl _ _)).cell 4
  have c5 := (B1.out.keep0 (gb_refl _ _)).cell 5
  have c6 := (B1.out.keep0 (gb_refl _ _)).cell 6
  have c7 := (B1.out.keep0 (gb_refl _ _)).cell 7
  have c8 := (B1.out.keep0 (gb_refl _ _)).cell 8
  dsimp at c0 c1 c2 c3 c4 c5 c6 c7 c8
  have x0 := (B2.out.keep0 (gb_refl _ _)).cell 0
  have x1 := (B2.out.keep0 (gb_refl _ _)).cell 1
  have x2 := (B2.out.keep0 (gb_refl _ _)).cell 2
  have x3 := (B2.out.keep0 (gb_refl _ _)).cell 3
  dsimp at x0 x1 x2 x3
  go_upto_region 2 with (go_at_call 33; refine (K1.out _ G1.out).mono ?_; rintro e9 w2 ⟨rfl, g⟩; have G2 := Lib.hid g; clear g)
  clear c0 c1 c2 c3 c4 c5 c6 c7 c8 x0 x1 x2 x3
  have c0 := (B1.out.keep0 G2.out).cell 0
  have c1 := (B1.out.keep0 G2.out).cell 1
  have c2 := (B1.out.keep0 G2.out).cell 2
  have c3 := (B1.out.keep0 G2.out).cell 3
  have c4 := (B1.out.keep0 G2.out).cell 4
  have c5 := (B1.out.keep0 G2.out).cell 5
  have c6 := (B1.out.keep0 G2.out).cell 6
  have c7 := (B1.out.keep0 G2.out).cell 7
  have c8 := (B1.out.keep0 G2.out).cell 8
  dsimp at c0 c1 c2 c3 c4 c5 c6 c7 c8
  have x0 := (B2.out.keep0 G2.out).cell 0
  have x1 := (B2.out.keep0 G2.out).cell 1
  have x2 := (B2.out.keep0 G2.out).cell 2
  have x3 := (B2.out.keep0 G2.out).cell 3
  dsimp at x0 x1 x2 x3
  by_cases h0 : e = 0
  case neg =>
    have e0 : (e != 0) = true := by simp [h0]
    have EM := Lib.hid (show M2 = [] by rw [HE.out]; exact emit_no (fun q => h0 (DO.out.2 (by rw [LH.out] at q; exact q.1))))
    go_wp2
    go_ret
    exact ⟨.slice none 0 0, rfl, by rw [EM.out]; exact World.ownsRow_nil _ _ _ _, gb_trans G1.out G2.out⟩

  have e0 : (e != 0) = false := by simp [h0]
  have P1 := Lib.hid (DO.out.1 h0)
  clear h0
  go_wp2_with fail
  refine (K2.out _ (gb_trans G1.out G2.out)).mono ?_
  rintro e9 w3 ⟨rfl, g⟩
  have G3 := Lib.hid (gb_trans G2.out g)
  clear g
  clear c0 c1 c2 c3 c4 c5 c6 c7 c8 x0 x1 x2 x3
  by_cases hr0 : r = 0
  case neg =>
    have r0 : (r != 0) = true := by simp [hr0]
    have EM := Lib.hid (show M2 = [] by rw [HE.out]; exact emit_no (fun q => hr0 (EO.out.2 q.2.2)))
    go_wp2
    go_ret
    exact ⟨.slice none 0 0, rfl, by rw [EM.out]; exact World.ownsRow_nil _ _ _ _, gb_trans G1.out G3.out⟩

  have r0 : (r != 0) = false := by simp [hr0]
  have P3 := Lib.hid (EO.out.1 hr0)
  clear hr0
  go_wp2
  clear r0 e0
  go_loopw [7] (fun i wr => ∃ k : Nat, k ≤ hn ∧ i = .int .i64 k ∧ (∀ i, i < k → chkH (H.getD i hz).1 (H.getD i hz).2 = 0) ∧ w1.grownBy wr none) (fun i _ => hn - (intOf i).toNat)
  case atStart => exact ⟨0, Nat.zero_le _, rfl, fun i hi => absurd hi (Nat.not_lt_zero _), G3.out⟩
  case round =>
    obtain ⟨k, hk, rfl, ht, hg⟩ := hrel
    have HT := Lib.hid ht
    have HG := Lib.hid hg
    clear ht hg
    have c0 := (B1.out.keep0 HG.out).cell 0
    have c1 := (B1.out.keep0 HG.out).cell 1
    have c2 := (B1.out.keep0 HG.out).cell 2
    have c3 := (B1.out.keep0 HG.out).cell 3
    have c4 := (B1.out.keep0 HG.out).cell 4
    have c5 := (B1.out.keep0 HG.out).cell 5
    have c6 := (B1.out.keep0 HG.out).cell 6
    have c7 := (B1.out.keep0 HG.out).cell 7
    have c8 := (B1.out.keep0 HG.out).cell 8
    dsimp at c0 c1 c2 c3 c4 c5 c6 c7 c8
    by_cases hlt : k < hn
    · obtain ⟨ad, had⟩ := S0.out.1.some (by omega)
      subst had
      have j1 : (k : Int) < hn := by omega
      have j0 : (0 : Int) ≤ (k : Int) := by omega
      have hw1 : IntKind.i64.wrap ((k : Int) + 1) = ((k + 1 : Nat) : Int) := by have := ZN.out; rw [IntKind.wrap_i64]; omega
      obtain ⟨ya, yn, yc, d0, d1, ok⟩ := sh_hd (S0.out.1.keep0 (gb_trans G1.out HG.out)) ZH.out.nm ZH.out.fl rfl hlt
      have K := Lib.hid (rcheck_any wr _ ya yn yc _ ok.sf ok.few ok.nm ok.hn)
      unfold RetG at K
      clear ok
      have NX := Lib.hid (show chkH (H.getD k hz).1 (H.getD k hz).2 = 0 → ∀ i, i < k + 1 → chkH (H.getD i hz).1 (H.getD i hz).2 = 0 from fun q i hi => by
        rcases (show i < k ∨ i = k by omega) with r | rfl
        · exact HT.out i r
        · exact q)
      have BD := Lib.hid (show chkH (H.getD k hz).1 (H.getD k hz).2 ≠ 0 → ¬ hdsOk H from fun q r => q (r _ (by
        rw [List.getD_eq_getElem?_getD, List.getElem?_eq_getElem (by rw [LH.out]; exact hlt)]; exact List.getElem_mem _)))
      generalize (H.getD k hz).1 = s0 at *
      generalize (H.getD k hz).2 = l0 at *
      generalize chkH s0 l0 = r2 at *
      go_wp2_with fail
      refine K.out.mono ?_
      rintro e9 w4 ⟨rfl, g⟩
      have G4 := Lib.hid (gb_trans HG.out g)
      clear g
      by_cases hr2 : r2 = 0
      · have q0 : (r2 != 0) = false := by simp [hr2]
        have Z := Lib.hid (NX.out hr2)
        clear hr2
        go_wp2
        go_roundw
        case rel => exact ⟨k + 1, by omega, by go_num, Z.out, G4.out⟩
        case measure => simp [intOf]; omega
      · have q0 : (r2 != 0) = true := by simp [hr2]
        have EM := Lib.hid (show M2 = [] by rw [HE.out]; exact emit_no (fun q => BD.out hr2 q.2.1))
        go_wp2
        go_ret
        exact ⟨.slice none 0 0, rfl, by rw [EM.out]; exact World.ownsRow_nil _ _ _ _, gb_trans G1.out G4.out⟩
    · have hke : k = hn := by omega
      have j1 : ¬ (k : Int) < hn := by omega
      have HO := Lib.hid (show hdsOk H from fun x hx => by
        obtain ⟨i, hi, rfl⟩ := List.mem_iff_getElem.1 hx
        have q := HT.out i (by rw [hke, ← LH.out]; exact hi)
        rw [List.getD_eq_getElem?_getD, List.getElem?_eq_getElem hi] at q
        exact q)
      have EM := Lib.hid (show M2 = (bytesR (emL H L.V L.F [] D)).2 ++ L.P by rw [HE.out]; exact emit_yes (by rw [LH.out]; exact P1.out) HO.out P3.out)
      have SHP := Lib.hid ((shP_iff H M L).1 P3.out.1)
      clear HE HT
      go_upto_region 10 with (go_at_call 26; refine (rnwr_any _).mono ?_; rintro e9 w4 ⟨rfl, g, _⟩; have G4 := Lib.hid g; clear g)
      have GB := Lib.hid (gb_alloc w4 (.cells #[.slice none 0 0] 61) none)
      have RS0 := Lib.hid (show ∃ aw cw, RmS w #[nm, .slice ha hn hc, .slice ma mn mc, v3, v4, v5, v6, v7, .slice da dn dc] #[.slice va vn vc, .slice fa fn fc, .slice ta tn tc, .slice pa pn pc] bx w4.heap.size w4.heap.size aw cw (emL H L.V L.F [] (D.take 0)) (w4.alloc (.cells #[.slice none 0 0] 61)) from
        ⟨none, 0, ((B1.out.keep0 HG.out).keep0 G4.out).keep0 GB.out, ((B2.out.keep0 HG.out).keep0 G4.out).keep0 GB.out, IsB.new _ _ _, World.ownsRow_nil _ _ _ _, gb_trans G1.out (gb_trans HG.out (gb_trans G4.out GB.out)), by have := G1.out.size; have := HG.out.size; have := G4.out.size; omega, GB.out.size, by have := G1.out.size; have := HG.out.size; have := G4.out.size; omega⟩)
      generalize w4.alloc (.cells #[.slice none 0 0] 61) = w5 at *
      generalize w4.heap.size = b8 at *
      clear GB G4
      clear c0 c1 c2 c3 c4 c5 c6 c7 c8
      go_wp2
      go_loopw [9] (fun i wr => ∃ k : Nat, k ≤ dn ∧ i = .int .i64 k ∧ ∃ aw cw, RmS w #[nm, .slice ha hn hc, .slice ma mn mc, v3, v4, v5, v6, v7, .slice da dn dc] #[.slice va vn vc, .slice fa fn fc, .slice ta tn tc, .slice pa pn pc] bx b8 b8 aw cw (emL H L.V L.F [] (D.take k)) wr) (fun i _ => dn - (intOf i).toNat)
      case atStart => exact ⟨0, Nat.zero_le _, rfl, RS0.out⟩
      case round =>
        clear RS0
        obtain ⟨k2, hk2, rfl, aw, cw, hrs⟩ := hrel
        have RS := Lib.hid hrs
        clear hrs
        have hw2 : IntKind.i64.wrap ((k2 : Int) + 1) = ((k2 + 1 : Nat) : Int) := by have := P1.out.1; have := LD.out; rw [IntKind.wrap_i64]; omega
        have c0 := RS.out.p.cell 0
        have c1 := RS.out.p.cell 1
        have c2 := RS.out.p.cell 2
        have c3 := RS.out.p.cell 3
        have c4 := RS.out.p.cell 4
        have c5 := RS.out.p.cell 5
        have c6 := RS.out.p.cell 6
        have c7 := RS.out.p.cell 7
        have c8 := RS.out.p.cell 8
        have x0 := RS.out.e.cell 0
        have x1 := RS.out.e.cell 1
        have x2 := RS.out.e.cell 2
        have x3 := RS.out.e.cell 3
        dsimp at c0 c1 c2 c3 c4 c5 c6 c7 c8 x0 x1 x2 x3
        by_cases hlt2 : k2 < dn
        · have hl : k2 < D.length := by rw [LD.out]; exact hlt2
          obtain ⟨dd, hdd⟩ := S0.out.2.1.some (by omega)
          subst hdd
          have j2 : (k2 : Int) < dn := by omega
          have j3 : (0 : Int) ≤ (k2 : Int) := by omega
          have d0 := (S0.out.2.1.keep0 RS.out.g).cells dd rfl k2 hlt2
          have SN := Lib.hid (emL_snoc H L.V L.F [] D k2 hl)
          have LB := Lib.hid (show (emL H L.V L.F [] (D.take k2)).length ≤ 10000 by
            have q1 := emL_le H L.V L.F (D.take k2) []
            have q2 := P1.out.1
            rw [List.length_take] at q1
            simp only [List.length_nil] at q1
            omega)
          obtain ⟨n9, hn9⟩ : ∃ n : Nat, D.getD k2 0 = (n : Int) := ⟨(D.getD k2 0).toNat, by have := (isX_iff _ _).1 (P1.out.isx hl); omega⟩
          have N1 := Lib.hid (show n9 < hn by have := (isX_iff _ _).1 (P1.out.isx hl); rw [hn9] at this; omega)
          rw [hn9] at d0 SN
          clear hn9
          have N2 := Lib.hid (show n9 < vn by have := SHP.out.1; have := S0.out.2.2.1.len; have := LH.out; have := N1.out; omega)
          have N3 := Lib.hid (show n9 < fn by have := SHP.out.2.1; have := S0.out.2.2.2.1.len; have := LH.out; have := N1.out; omega)
          obtain ⟨vd, hvd⟩ := S0.out.2.2.1.some (by have := N2.out; omega)
          subst hvd
          have v0 := (S0.out.2.2.1.keep0 RS.out.g).cells vd rfl n9 N2.out
          have n1 : (n9 : Int) < vn := by have := N2.out; omega
          have n0 : (0 : Int) ≤ (n9 : Int) := by omega
          have E1 := Lib.hid (show emF H L.V L.F (emL H L.V L.F [] (D.take k2)) (n9 : Int) = if L.V.getD n9 false = true then (wrH (H.getD n9 hz).1 (H.getD n9 hz).2 (L.F.getD n9 []) (emL H L.V L.F [] (D.take k2))).2 else emL H L.V L.F [] (D.take k2) from rfl)
          generalize L.V.getD n9 false = b at *
          cases b
          · have Z := Lib.hid (show emL H L.V L.F [] (D.take (k2 + 1)) = emL H L.V L.F [] (D.take k2) by rw [SN.out, E1.out]; rfl)
            clear E1 SN
            go_wp2
            go_roundw
            case rel => exact ⟨k2 + 1, by omega, by go_num, aw, cw, by rw [Z.out]; exact RS.out⟩
            case measure => simp [intOf]; omega
          · obtain ⟨fd, hfd⟩ := S0.out.2.2.2.1.some (by have := N3.out; omega)
            subst hfd
            obtain ⟨hd, hhd⟩ := S0.out.1.some (by have := N1.out; omega)
            subst hhd
            obtain ⟨xa, xn, xc, d1, d2, ok⟩ := sh_hd S0.out.1 ZH.out.nm ZH.out.fl rfl N1.out
            obtain ⟨ya, yn, yc, y0, su⟩ := S0.out.2.2.2.1.cells fd rfl n9 N3.out
            obtain ⟨⟨er, B2⟩, hq⟩ : ∃ p, p = wrH (H.getD n9 hz).1 (H.getD n9 hz).2 (L.F.getD n9 []) (emL H L.V L.F [] (D.take k2)) := ⟨_, rfl⟩
            have D1 := Lib.hid (RS.out.g.cell d1 (by simp))
            have D2 := Lib.hid (RS.out.g.cell d2 (by simp))
            have Y0 := Lib.hid (RS.out.g.cell y0 (by simp))
            have KW := Lib.hid (fun (W : World) (q : wr.grownBy W none) => rwriteH_any W _ xa xn xc _ (ok.keep0 (gb_trans RS.out.g q)) b8 aw cw (emL H L.V L.F [] (D.take k2)) (Nat.le_trans RS.out.hi q.size) (own_keep0 RS.out.o q) ya yn yc (L.F.getD n9 []) (su.keep0 (gb_trans RS.out.g q)).slr' su.rng LB.out er B2 hq.symm)
            have Z := Lib.hid (show emL H L.V L.F [] (D.take (k2 + 1)) = B2 by rw [SN.out, E1.out, if_pos rfl, ← hq])
            clear hq d1 d2 y0 su ok SN E1
            generalize (H.getD n9 hz).1 = s0 at *
            generalize (H.getD n9 hz).2 = l0 at *
            generalize L.F.getD n9 [] = f9 at *
            have n2 : (n9 : Int) < fn := by have := N3.out; omega
            have n3 : (n9 : Int) < hn := by have := N1.out; omega
            go_upto_region 15 with fail
            go_cut [11, 12] from 61 to 75 (fun s11 s12 wx => ∃ (y : Nat) (vb : Value), s11 = .pointer (some ⟨y, 0, none⟩) ∧ IsB wx y 61 #[vb] ∧ BRow wx b8 vb B2 ∧ wr.grownBy wx none ∧ wr.heap.size ≤ y)
            case first =>
              clear c0 c1 c2 c3 c4 c5 c6 c7 c8 x0 x1 x2 x3
              have KT := Lib.hid (fun (w' : World) (q0 : wr.grownBy w' none) => (⟨(RS.out.keep0 q0).p.cell 0, (RS.out.keep0 q0).p.cell 1, (RS.out.keep0 q0).p.cell 2, (RS.out.keep0 q0).p.cell 3, (RS.out.keep0 q0).p.cell 4, (RS.out.keep0 q0).p.cell 5, (RS.out.keep0 q0).p.cell 6, (RS.out.keep0 q0).p.cell 7, (RS.out.keep0 q0).p.cell 8, (RS.out.keep0 q0).e.cell 0, (RS.out.keep0 q0).e.cell 1, (RS.out.keep0 q0).e.cell 2, (RS.out.keep0 q0).e.cell 3, (RS.out.keep0 q0).x.cell 0, q0⟩ : (fun w' : World => w'.cell? ⟨bx, 0, none⟩ = some (nm) ∧ w'.cell? ⟨bx, 1, none⟩ = some (.slice (some hd) hn hc) ∧ w'.cell? ⟨bx, 2, none⟩ = some (.slice ma mn mc) ∧ w'.cell? ⟨bx, 3, none⟩ = some (v3) ∧ w'.cell? ⟨bx, 4, none⟩ = some (v4) ∧ w'.cell? ⟨bx, 5, none⟩ = some (v5) ∧ w'.cell? ⟨bx, 6, none⟩ = some (v6) ∧ w'.cell? ⟨bx, 7, none⟩ = some (v7) ∧ w'.cell? ⟨bx, 8, none⟩ = some (.slice (some dd) dn dc) ∧ w'.cell? ⟨bx + 1, 0, none⟩ = some (.slice (some vd) vn vc) ∧ w'.cell? ⟨bx + 1, 1, none⟩ = some (.slice (some fd) fn fc) ∧ w'.cell? ⟨bx + 1, 2, none⟩ = some (.slice ta tn tc) ∧ w'.cell? ⟨bx + 1, 3, none⟩ = some (.slice pa pn pc) ∧ w'.cell? ⟨b8, 0, none⟩ = some (.slice aw (emL H L.V L.F [] (D.take k2)).length cw) ∧ wr.grownBy w' none) w'))
              have T0 := Lib.hid (gb_drew wr none)
              refine wp_region_held_drew (S := (fun w' : World => w'.cell? ⟨bx, 0, none⟩ = some (nm) ∧ w'.cell? ⟨bx, 1, none⟩ = some (.slice (some hd) hn hc) ∧ w'.cell? ⟨bx, 2, none⟩ = some (.slice ma mn mc) ∧ w'.cell? ⟨bx, 3, none⟩ = some (v3) ∧ w'.cell? ⟨bx, 4, none⟩ = some (v4) ∧ w'.cell? ⟨bx, 5, none⟩ = some (v5) ∧ w'.cell? ⟨bx, 6, none⟩ = some (v6) ∧ w'.cell? ⟨bx, 7, none⟩ = some (v7) ∧ w'.cell? ⟨bx, 8, none⟩ = some (.slice (some dd) dn dc) ∧ w'.cell? ⟨bx + 1, 0, none⟩ = some (.slice (some vd) vn vc) ∧ w'.cell? ⟨bx + 1, 1, none⟩ = some (.slice (some fd) fn fc) ∧ w'.cell? ⟨bx + 1, 2, none⟩ = some (.slice ta tn tc) ∧ w'.cell? ⟨bx + 1, 3, none⟩ = some (.slice pa pn pc) ∧ w'.cell? ⟨b8, 0, none⟩ = some (.slice aw (emL H L.V L.F [] (D.take k2)).length cw) ∧ wr.grownBy w' none)) (by kernel_rfl) (KT.out _ T0.out) (fun hH0 => ?_)
              refine wpAnyH_take (i := 0) (v := ?v1) rfl (by kernel_rfl) (by kernel_rfl) (by kernel_rfl) (fun _ _ _ h => h) (Or.inl ⟨by rfl, ?hy1⟩) (by assumption) ?rest1
              case hy1 => (intro wz hSw; (try dsimp only at hSw); first | (go_simp; done) | (go_simp; with_reducible rfl))
              try simp only [Act.put, List.getElem_toArray, List.getElem_cons_zero, List.setIfInBounds_toArray, List.set_cons_zero, List.set_cons_succ]
              refine wpAnyH_take (i := 1) (v := ?v2) rfl (by kernel_rfl) (by kernel_rfl) (by kernel_rfl) (fun _ _ _ h => h) (Or.inl ⟨by rfl, ?hy2⟩) (by assumption) ?rest2
              case hy2 => (intro wz hSw; (try dsimp only at hSw); first | (go_simp; done) | (go_simp; with_reducible rfl))
              try simp only [Act.put, List.getElem_toArray, List.getElem_cons_succ, List.getElem_cons_zero, List.setIfInBounds_toArray, List.set_cons_zero, List.set_cons_succ]
              refine wpAnyH_take (i := 2) (v := ?v3) rfl (by kernel_rfl) (by kernel_rfl) (by kernel_rfl) (fun _ _ _ h => h) (Or.inl ⟨by rfl, ?hy3⟩) (by assumption) ?rest3
              case hy3 => (intro wz hSw; (try dsimp only at hSw); first | (go_simp; done) | (go_simp; with_reducible rfl))
              try simp only [Act.put, List.getElem_toArray, List.getElem_cons_succ, List.getElem_cons_zero, List.setIfInBounds_toArray, List.set_cons_zero, List.set_cons_succ]
              refine wpAnyH_take (i := 3) (v := ?v4) rfl (by kernel_rfl) (by kernel_rfl) (by kernel_rfl) (fun _ _ _ h => h) (Or.inl ⟨by rfl, ?hy4⟩) (by assumption) ?rest4
              case hy4 => (intro wz hSw; (try dsimp only at hSw); first | (go_simp; done) | (go_simp; with_reducible rfl))
              try simp only [Act.put, List.getElem_toArray, List.getElem_cons_succ, List.getElem_cons_zero, List.setIfInBounds_toArray, List.set_cons_zero, List.set_cons_succ]
              refine wpAnyH_take (i := 4) (v := ?v5) rfl (by kernel_rfl) (by kernel_rfl) (by kernel_rfl) (fun _ _ _ h => h) (Or.inl ⟨by rfl, ?hy5⟩) (by assumption) ?rest5
              case hy5 => (intro wz hSw; (try dsimp only at hSw); have gz : wr.grownBy wz none := hSw.2.2.2.2.2.2.2.2.2.2.2.2.2.2; have h1 := gz.cell D1.out (by simp); have h2 := gz.cell D2.out (by simp); first | (go_simp; done) | (go_simp; with_reducible rfl))
              try simp only [Act.put, List.getElem_toArray, List.getElem_cons_succ, List.getElem_cons_zero, List.setIfInBounds_toArray, List.set_cons_zero, List.set_cons_succ]
              refine wpAnyH_take (i := 5) (v := ?v6) rfl (by kernel_rfl) (by kernel_rfl) (by kernel_rfl) (fun _ _ _ h => h) (Or.inl ⟨by rfl, ?hy6⟩) (by assumption) ?rest6
              case hy6 => (intro wz hSw; (try dsimp only at hSw); first | (go_simp; done) | (go_simp; with_reducible rfl))
              try simp only [Act.put, List.getElem_toArray, List.getElem_cons_succ, List.getElem_cons_zero, List.setIfInBounds_toArray, List.set_cons_zero, List.set_cons_succ]
              refine wpAnyH_take (i := 6) (v := ?v7) rfl (by kernel_rfl) (by kernel_rfl) (by kernel_rfl) (fun _ _ _ h => h) (Or.inl ⟨by rfl, ?hy7⟩) (by assumption) ?rest7
              case hy7 => (intro wz hSw; (try dsimp only at hSw); first | (go_simp; done) | (go_simp; with_reducible rfl))
              try simp only [Act.put, List.getElem_toArray, List.getElem_cons_succ, List.getElem_cons_zero, List.setIfInBounds_toArray, List.set_cons_zero, List.set_cons_succ]
              refine wpAnyH_take (i := 7) (v := ?v8) rfl (by kernel_rfl) (by kernel_rfl) (by kernel_rfl) (fun _ _ _ h => h) (Or.inl ⟨by rfl, ?hy8⟩) (by assumption) ?rest8
              case hy8 => (intro wz hSw; (try dsimp only at hSw); first | (go_simp; done) | (go_simp; with_reducible rfl))
              try simp only [Act.put, List.getElem_toArray, List.getElem_cons_succ, List.getElem_cons_zero, List.setIfInBounds_toArray, List.set_cons_zero, List.set_cons_succ]
              refine wpAnyH_take (i := 8) (v := ?v9) rfl (by kernel_rfl) (by kernel_rfl) (by kernel_rfl) (fun _ _ _ h => h) (Or.inl ⟨by rfl, ?hy9⟩) (by assumption) ?rest9
              case hy9 => (intro wz hSw; (try dsimp only at hSw); first | (go_simp; done) | (go_simp; with_reducible rfl))
              try simp only [Act.put, List.getElem_toArray, List.getElem_cons_succ, List.getElem_cons_zero, List.setIfInBounds_toArray, List.set_cons_zero, List.set_cons_succ]
              refine wpAnyH_take (i := 9) (v := ?v10) rfl (by kernel_rfl) (by kernel_rfl) (by kernel_rfl) (fun _ _ _ h => h) (Or.inl ⟨by rfl, ?hy10⟩) (by assumption) ?rest10
              case hy10 => (intro wz hSw; (try dsimp only at hSw); have gz : wr.grownBy wz none := hSw.2.2.2.2.2.2.2.2.2.2.2.2.2.2; have y1 := gz.cell Y0.out (by simp); first | (go_simp; done) | (go_simp; with_reducible rfl))
              try simp only [Act.put, List.getElem_toArray, List.getElem_cons_succ, List.getElem_cons_zero, List.setIfInBounds_toArray, List.set_cons_zero, List.set_cons_succ]
              refine wpAnyH_take (i := 10) (v := ?v11) rfl (by kernel_rfl) (by kernel_rfl) (by kernel_rfl) (fun _ _ _ h => h) (Or.inl ⟨by rfl, ?hy11⟩) (by assumption) ?rest11
              case hy11 => (intro wz hSw; (try dsimp only at hSw); first | (go_simp; done) | (go_simp; with_reducible rfl))
              try simp only [Act.put, List.getElem_toArray, List.getElem_cons_succ, List.getElem_cons_zero, List.setIfInBounds_toArray, List.set_cons_zero, List.set_cons_succ]
              refine wpAnyH_ready (rs := [11, 15]) (by kernel_rfl) (by simp) ?_
              refine AllReadyH.cons (o := _) rfl (fun K hK => ?_) (AllReadyH.cons (o := _) rfl (fun K hK => ?_) AllReadyH.nil)
              · go_simp
                (with_reducible refine (KW.out _ T0.out).mono ?_)
                rintro e hw1 ⟨vb, rfl, g, o⟩
                have T1 := Lib.hid (gb_trans T0.out g)
                have O1 := Lib.hid o
                clear g o
                try dsimp only
                refine hK.out _ _ (KT.out _ T1.out) (fun hH1 => ?_)
                clear hK K hH0
                try simp only [Act.put, List.getElem_toArray, List.getElem_cons_succ, List.getElem_cons_zero, List.setIfInBounds_toArray, List.set_cons_zero, List.set_cons_succ]
                refine wpAnyH_take (i := 12) (v := ?v12) rfl (by kernel_rfl) (by kernel_rfl) (by kernel_rfl) (fun _ _ _ h => h) (Or.inl ⟨by rfl, ?hy12⟩) (by assumption) ?rest12
                case hy12 => (intro wz hSw; (try dsimp only at hSw); first | (go_simp; done) | (go_simp; with_reducible rfl))
                try simp only [Act.put, List.getElem_toArray, List.getElem_cons_succ, List.getElem_cons_zero, List.setIfInBounds_toArray, List.set_cons_zero, List.set_cons_succ]
                refine wpAnyH_take (i := 13) (v := ?v13) rfl (by kernel_rfl) (by kernel_rfl) (by kernel_rfl) (fun _ _ _ h => h) (Or.inl ⟨by rfl, ?hy13⟩) (by assumption) ?rest13
                case hy13 => (intro wz hSw; (try dsimp only at hSw); first | (go_simp; done) | (go_simp; with_reducible rfl))
                try simp only [Act.put, List.getElem_toArray, List.getElem_cons_succ, List.getElem_cons_zero, List.setIfInBounds_toArray, List.set_cons_zero, List.set_cons_succ]
                refine wpAnyH_take (i := 14) (v := ?v14) rfl (by kernel_rfl) (by kernel_rfl) (by kernel_rfl) (fun _ _ _ h => h) (Or.inl ⟨by rfl, ?hy14⟩) (by assumption) ?rest14
                case hy14 => (intro wz hSw; (try dsimp only at hSw); first | (go_simp; done) | (go_simp; with_reducible rfl))
                try simp only [Act.put, List.getElem_toArray, List.getElem_cons_succ, List.getElem_cons_zero, List.setIfInBounds_toArray, List.set_cons_zero, List.set_cons_succ]
                refine wpAnyH_ready (rs := [15]) (by kernel_rfl) (by simp) ?_
                refine AllReadyH.cons (o := _) rfl (fun K hK => ?_) AllReadyH.nil
                go_simp
                try dsimp only
                refine hK.out _ _ (KT.out _ (gb_trans T1.out (gb_alloc _ _ none))) (fun hH2 => ?_)
                clear hK K hH1
                try simp only [Act.put, List.getElem_toArray, List.getElem_cons_succ, List.getElem_cons_zero, List.setIfInBounds_toArray, List.set_cons_zero, List.set_cons_succ]
                have I := Lib.hid (IsB.new hw1 61 #[.slice none 0 0])
                have T2 := Lib.hid (gb_trans T1.out (gb_alloc hw1 (.cells #[.slice none 0 0] 61) none))
                have O2 := Lib.hid (own_keep0 O1.out (gb_alloc hw1 (.cells #[.slice none 0 0] 61) none))
                have le := T1.out.size
                obtain ⟨oa, oc, rfl⟩ := own_shape O1.out
                have i0 := I.out.cell 0
                have f0 := I.out.free 0
                dsimp at i0
                refine wpAnyH_ready (rs := [16]) (by kernel_rfl) (by simp) ?_
                refine AllReadyH.cons (o := _) rfl (fun K hK => ?_) AllReadyH.nil
                go_simp
                try dsimp only
                refine hK.out _ _ (KT.out _ (gb_trans T1.out (gb_alloc _ _ none))) (fun hH3 => ?_)
                clear hK K hH2
                try simp only [Act.put, List.getElem_toArray, List.getElem_cons_succ, List.getElem_cons_zero, List.setIfInBounds_toArray, List.set_cons_zero, List.set_cons_succ]
                refine wpAnyH_take (i := 17) (v := ?v15) rfl (by kernel_rfl) (by kernel_rfl) (by kernel_rfl) (fun _ _ _ h => h) (Or.inl ⟨by rfl, ?hy15⟩) (by assumption) ?rest15
                case hy15 => (intro wz hSw; (try dsimp only at hSw); first | (go_simp; done) | (go_simp; with_reducible rfl))
                try simp only [Act.put, List.getElem_toArray, List.getElem_cons_succ, List.getElem_cons_zero, List.setIfInBounds_toArray, List.set_cons_zero, List.set_cons_succ]
                refine wpAnyH_done (by kernel_rfl) ?_ _
                clear hH3
                go_wp2_with fail
                go_meet
                exact ⟨_, _, rfl, IsB.new _ _ _, own_keep0 O1.out (gb_alloc _ _ none), gb_trans T1.out (gb_alloc _ _ none), le⟩
              · go_simp
                try dsimp only
                refine hK.out _ _ (KT.out _ (gb_trans (gb_alloc wr (.cells #[.slice none 0 0] 61) none) (gb_drew _ none))) (fun hH1 => ?_)
                clear hK K hH0
                try simp only [Act.put, List.getElem_toArray, List.getElem_cons_succ, List.getElem_cons_zero, List.setIfInBounds_toArray, List.set_cons_zero, List.set_cons_succ]
                have I0 := Lib.hid ((IsB.new wr 61 #[.slice none 0 0]).keep0 (gb_drew _ none))
                have T1 := Lib.hid (gb_trans (gb_alloc wr (.cells #[.slice none 0 0] 61) none) (gb_drew _ none))
                have le := T0.out.size
                refine wpAnyH_ready (rs := [11]) (by kernel_rfl) (by simp) ?_
                refine AllReadyH.cons (o := _) rfl (fun K hK => ?_) AllReadyH.nil
                go_simp
                (with_reducible refine (KW.out _ T1.out).mono ?_)
                rintro e hw2 ⟨vb, rfl, g, o⟩
                have T2 := Lib.hid (gb_trans T1.out g)
                have I := Lib.hid (I0.out.keep0 g)
                have O2 := Lib.hid o
                clear g o
                try dsimp only
                refine hK.out _ _ (KT.out _ T2.out) (fun hH2 => ?_)
                clear hK K hH1
                try simp only [Act.put, List.getElem_toArray, List.getElem_cons_succ, List.getElem_cons_zero, List.setIfInBounds_toArray, List.set_cons_zero, List.set_cons_succ]
                refine wpAnyH_take (i := 12) (v := ?v16) rfl (by kernel_rfl) (by kernel_rfl) (by kernel_rfl) (fun _ _ _ h => h) (Or.inl ⟨by rfl, ?hy16⟩) (by assumption) ?rest16
                case hy16 => (intro wz hSw; (try dsimp only at hSw); first | (go_simp; done) | (go_simp; with_reducible rfl))
                try simp only [Act.put, List.getElem_toArray, List.getElem_cons_succ, List.getElem_cons_zero, List.setIfInBounds_toArray, List.set_cons_zero, List.set_cons_succ]
                refine wpAnyH_take (i := 13) (v := ?v17) rfl (by kernel_rfl) (by kernel_rfl) (by kernel_rfl) (fun _ _ _ h => h) (Or.inl ⟨by rfl, ?hy17⟩) (by assumption) ?rest17
                case hy17 => (intro wz hSw; (try dsimp only at hSw); first | (go_simp; done) | (go_simp; with_reducible rfl))
                try simp only [Act.put, List.getElem_toArray, List.getElem_cons_succ, List.getElem_cons_zero, List.setIfInBounds_toArray, List.set_cons_zero, List.set_cons_succ]
                refine wpAnyH_take (i := 14) (v := ?v18) rfl (by kernel_rfl) (by kernel_rfl) (by kernel_rfl) (fun _ _ _ h => h) (Or.inl ⟨by rfl, ?hy18⟩) (by assumption) ?rest18
                case hy18 => (intro wz hSw; (try dsimp only at hSw); first | (go_simp; done) | (go_simp; with_reducible rfl))
                try simp only [Act.put, List.getElem_toArray, List.getElem_cons_succ, List.getElem_cons_zero, List.setIfInBounds_toArray, List.set_cons_zero, List.set_cons_succ]
                obtain ⟨oa, oc, rfl⟩ := own_shape O2.out
                have i0 := I.out.cell 0
                have f0 := I.out.free 0
                dsimp at i0
                refine wpAnyH_ready (rs := [16]) (by kernel_rfl) (by simp) ?_
                refine AllReadyH.cons (o := _) rfl (fun K hK => ?_) AllReadyH.nil
                go_simp
                try dsimp only
                refine hK.out _ _ (KT.out _ (gb_put T2.out le)) (fun hH3 => ?_)
                clear hK K hH2
                try simp only [Act.put, List.getElem_toArray, List.getElem_cons_succ, List.getElem_cons_zero, List.setIfInBounds_toArray, List.set_cons_zero, List.set_cons_succ]
                refine wpAnyH_take (i := 17) (v := ?v19) rfl (by kernel_rfl) (by kernel_rfl) (by kernel_rfl) (fun _ _ _ h => h) (Or.inl ⟨by rfl, ?hy19⟩) (by assumption) ?rest19
                case hy19 => (intro wz hSw; (try dsimp only at hSw); first | (go_simp; done) | (go_simp; with_reducible rfl))
                try simp only [Act.put, List.getElem_toArray, List.getElem_cons_succ, List.getElem_cons_zero, List.setIfInBounds_toArray, List.set_cons_zero, List.set_cons_succ]
                refine wpAnyH_done (by kernel_rfl) ?_ _
                clear hH3
                go_wp2_with fail
                go_meet
                exact ⟨_, _, rfl, I.out.set 0 _, own_keepS O2.out (gb_set _ _ _ _) I.out (by decide), gb_put T2.out le, le⟩
            case rest =>
              obtain ⟨y, vb, rfl, iy, oy, gy, ly⟩ := hcut
              have OY := Lib.hid oy
              have RX := Lib.hid (RS.out.keep0 gy)
              have IY := Lib.hid iy
              clear c0 c1 c2 c3 c4 c5 c6 c7 c8 x0 x1 x2 x3 d0 v0 iy gy
              obtain ⟨oa, oc, rfl⟩ := own_shape oy
              have y0 := IY.out.cell 0
              have b0 := RX.out.x.cell 0
              have bf := RX.out.x.free 0
              dsimp at y0 b0
              have Z2 := Lib.hid (show RmS w #[nm, .slice (some hd) hn hc, .slice ma mn mc, v3, v4, v5, v6, v7, .slice (some dd) dn dc] #[.slice (some vd) vn vc, .slice (some fd) fn fc, .slice ta tn tc, .slice pa pn pc] bx b8 b8 oa oc B2 (wc.setCell ⟨b8, 0, none⟩ (.slice oa B2.length oc)) from ⟨RX.out.p.keep (gb_set _ _ _ _) (by intro e; injection e with e; exact (RX.out.p.ne RX.out.x (by decide)) e), RX.out.e.keep (gb_set _ _ _ _) (by intro e; injection e with e; exact (RX.out.e.ne RX.out.x (by decide)) e), RX.out.x.set 0 _, own_keepS OY.out (gb_set _ _ _ _) RX.out.x (by decide), gb_put RX.out.g RX.out.l8, RX.out.lo, by rw [sz_set]; exact RX.out.hi, RX.out.l8⟩)
              clear oy
              go_wp2
              go_roundw
              case rel => exact ⟨k2 + 1, by omega, by go_num, oa, oc, by rw [Z.out]; exact Z2.out⟩
              case measure => simp [intOf]; omega
        · have hke2 : k2 = dn := by omega
          have j2 : ¬ (k2 : Int) < dn := by omega
          have FULL := Lib.hid (show D.take k2 = D by rw [List.take_of_length_le (by rw [LD.out]; omega)])
          rw [FULL.out] at RS
          clear FULL
          have LB := Lib.hid (show (emL H L.V L.F [] D).length ≤ 60000 by
            have q1 := emL_le H L.V L.F D []
            have q2 := P1.out.1
            simp only [List.length_nil] at q1
            omega)
          generalize emL H L.V L.F [] D = BB at *
          have KB := Lib.hid (rbytes_any wr b8 aw cw BB RS.out.o LB.out)
          have BL := Lib.hid (show (bytesR BB).2.length ≤ 60000 by
            have := LB.out
            unfold bytesR
            split
            · rw [packB_len]; omega
            · simp)
          generalize (bytesR BB).1 = er at *
          generalize (bytesR BB).2 = bs at *
          have b0 := RS.out.x.cell 0
          dsimp at b0
          go_upto_region 18 with (go_at_call 29; refine KB.out.mono ?_; rintro e9 w6 ⟨vb, rfl, g, o⟩; have G6 := Lib.hid g; have O6 := Lib.hid o; clear g o)
          obtain ⟨oa, oc, rfl⟩ := own_shape O6.out
          go_upto_region 20 with (at_builtin; refine xpushY rfl _ _ rfl w6.heap.size (.slice none 0 0) [] rfl (World.ownsRow_nil _ _ _ _) oa bs.length oc (bs.map (Value.int .u8)) rfl (own_slr O6.out) (by intro u hu; obtain ⟨y, _, rfl⟩ := List.mem_map.1 hu; rfl) (by have := BL.out; simp; omega) (Nat.le_refl _) ?_; intro V7 w7 o7 g7; have O7 := Lib.hid (show w7.ownsRow w6.heap.size 5 1 V7 bs.length (bs.map (Value.int .u8)) by simpa using o7); have G7 := Lib.hid (show w6.grownBy w7 none from g7); clear o7 g7)
          obtain ⟨pa7, pc7, rfl⟩ := own_shape O7.out
          have x3 := (RS.out.e.keep0 (gb_trans G6.out G7.out)).cell 3
          dsimp at x3
          go_wp2_with (at_builtin; refine xpushY rfl _ _ rfl w6.heap.size (.slice pa7 bs.length pc7) (bs.map (Value.int .u8)) rfl (by simpa using O7.out) pa pn pc (L.P.map (Value.int .u8)) rfl (S0.out.2.2.2.2.keep0 (gb_trans RS.out.g (gb_trans G6.out G7.out))).slr (by intro u hu; obtain ⟨y, _, rfl⟩ := List.mem_map.1 hu; rfl) (by have := S0.out.2.2.2.2.len; have := ZP.out; have := BL.out; simp; omega) G7.out.size ?_; intro V8 w8 o8 g8)
          have Q8 := Lib.hid (show NY w8 w.heap.size V8 M2 by
            rw [EM.out]; unfold NY
            have q : w8.ownsRow w6.heap.size 5 1 V8 (bs ++ L.P).length ((bs ++ L.P).map (Value.int .u8)) := by simpa using o8
            exact own_low q (Nat.le_trans RS.out.g.size G6.out.size))
          have G8 := Lib.hid (show w.grownBy w8 none from gb_trans RS.out.g (gb_trans G6.out (gb_own2 G7.out O7.out (Nat.le_refl _) g8)))
          clear o8 g8
          go_wp2
          go_ret
          exact ⟨V8, rfl, Q8.out, G8.out⟩
set_option maxRecDepth 100000 in
set_option maxHeartbeats 8000000 in
theorem rsize_any (w : World) (nm v3 v4 v5 v6 v7 : Value) (ha ma da : Option Addr) (hn hc mn mc dn dc : Nat) (va fa ta pa : Option Addr) (vn vc fn fc tn tc pn pc : Nat) (H : List (ByteArray × List Fld)) (M : List Fld) (D : List Int) (L : EL) (hH : SH w ha hn hc H) (hM : SF w ma mn mc M) (hD : SI w da dn dc D) (he : ER w ⟨va, fa, ta, pa, vn, vc, fn, fc, tn, tc, pn, pc⟩ L) (hz9 : HZ H) (hb9 : hn ≤ 100000) (zz : shP H M L → fn ≤ 100000 ∧ tn ≤ 100000 ∧ ∀ j, (L.F.getD j []).length ≤ 100000) (zp : pn ≤ 100000) (M2 : List Int) (hM2 : M2 = emit H M D L) : Calls Try.prog 37 #[.agg #[nm, .slice ha hn hc, .slice ma mn mc, v3, v4, v5, v6, v7, .slice da dn dc], .agg #[.slice va vn vc, .slice fa fn fc, .slice ta tn tc, .slice pa pn pc]] w (RetV (.int .i64 M2.length) w) := by
  have K1 := Lib.hid (fun (W : World) (q : w.grownBy W none) => remit_any W nm v3 v4 v5 v6 v7 ha ma da hn hc mn mc dn dc va fa ta pa vn vc fn fc tn tc pn pc H M D L (hH.keep0 q) (hM.keep0 q) (hD.keep0 q) (he.keep0 q) hz9 hb9 zz zp M2 hM2)
  have G1 := Lib.hid (gb_trans (gb_alloc w (.cells #[nm, .slice ha hn hc, .slice ma mn mc, v3, v4, v5, v6, v7, .slice da dn dc] 31) none) (gb_alloc _ (.cells #[.slice va vn vc, .slice fa fn fc, .slice ta tn tc, .slice pa pn pc] 42) none))
  have B1 := (IsB.new w 31 #[nm, .slice ha hn hc, .slice ma mn mc, v3, v4, v5, v6, v7, .slice da dn dc]).alloc (.cells #[.slice va vn vc, .slice fa fn fc, .slice ta tn tc, .slice pa pn pc] 42)
  have B2 := IsB.new (w.alloc (.cells #[nm, .slice ha hn hc, .slice ma mn mc, v3, v4, v5, v6, v7, .slice da dn dc] 31)) 42 #[.slice va vn vc, .slice fa fn fc, .slice ta tn tc, .slice pa pn pc]
  simp only [sz_al] at B2
  replace B1 := Lib.hid B1
  replace B2 := Lib.hid B2
  clear hH hM hD he hz9 hb9 zz zp hM2
  go_enter Try.func37, Try.ntmps37
  go_upto_region 1 with fail
  generalize (w.alloc (.cells #[nm, .slice ha hn hc, .slice ma mn mc, v3, v4, v5, v6, v7, .slice da dn dc] 31)).alloc (.cells #[.slice va vn vc, .slice fa fn fc, .slice ta tn tc, .slice pa pn pc] 42) = w1 at *
  obtain ⟨bx, hbx⟩ : ∃ b, b = w.heap.size := ⟨_, rfl⟩
  have Lbx := Lib.hid (show w.heap.size ≤ bx by rw [hbx]; exact Nat.le_refl _)
  rw [← hbx] at B1 B2 ⊢
  clear hbx
  have c0 := (B1.out.keep0 (gb_refl _ _)).cell 0
  have c1 := (B1.out.keep0 (gb_refl _ _)).cell 1
  have c2 := (B1.out.keep0 (gb_refl _ _)).cell 2
  have c3 := (B1.out.keep0 (gb_refl _ _)).cell 3
  have c4 := (B1.out.keep0 (gb_refl _ _)).cell 4
  have c5 := (B1.out.keep0 (gb_refl _ _)).cell 5
  have c6 := (B1.out.keep0 (gb_refl _ _)).cell 6
  have c7 := (B1.out.keep0 (gb_refl _ _)).cell 7
  have c8 := (B1.out.keep0 (gb_refl _ _)).cell 8
  dsimp at c0 c1 c2 c3 c4 c5 c6 c7 c8
  have x0 := (B2.out.keep0 (gb_refl _ _)).cell 0
  have x1 := (B2.out.keep0 (gb_refl _ _)).cell 1
  have x2 := (B2.out.keep0 (gb_refl _ _)).cell 2
  have x3 := (B2.out.keep0 (gb_refl _ _)).cell 3
  dsimp at x0 x1 x2 x3
  go_wp2_with fail
  refine (K1.out _ G1.out).mono ?_
  rintro e w2 ⟨V, rfl, o, g⟩
  have G2 := Lib.hid (gb_trans G1.out g)
  obtain ⟨a9, c9, rfl⟩ := own_shape o
  clear g o
  go_wp2
  go_ret
  exact ⟨rfl, G2.out⟩
end Go.Proofs.Ytglgjkggjpfahaa
