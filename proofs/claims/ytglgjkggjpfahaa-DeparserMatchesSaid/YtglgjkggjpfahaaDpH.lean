/- Deparser: the law Decodes; no condition. -/
import Derived.Test.YtglgjkggjpfahaaDpG
import Derived.Test.YtglgjkggjpfahaaDpF
import Derived.Test.YtglgjkggjpfahaaFrY
import Derived.BigQuiet
namespace Go.Proofs.Ytglgjkggjpfahaa
open Go.RowKit
set_option linter.unusedVariables false
theorem gb_some' {W w w2 : World} {s : Nat} (h : W.grownBy w none) (k : w.grownBy w2 (some s)) (hs : W.heap.size ≤ s) : W.grownBy w2 none :=
  gb_of_below ((below_gb h).grown k h.size (fun g e => by injection e with e; omega))
theorem sr_rng {w : World} {a : Option Addr} {n c : Nat} {L : List (List Int)} (h : SR w a n c L) : ∀ k, ∀ x ∈ L.getD k [], 0 ≤ x ∧ x < 4294967296 := fun k x hx => by
  by_cases hk : k < n
  · obtain ⟨ad, had⟩ := h.some (by omega)
    obtain ⟨_, _, _, _, s⟩ := h.cells ad had k hk
    exact s.rng x hx
  · rw [List.getD_eq_getElem?_getD, List.getElem?_eq_none (by rw [h.len]; omega)] at hx; cases hx
/-- The state of the law's loop: its boxes and its reader. -/
structure DeS (W : World) (PC EC : Array Value) (bx base r s : Nat) (V : Value) (bs : List Int) (pos : Nat) (w : World) : Prop where
  p : IsB w bx 31 PC
  e : IsB w (bx + 1) 42 EC
  rd : Rdr w base r s V bs pos
  g : W.grownBy w none
  lo : W.heap.size ≤ s
theorem DeS.keep0 {W : World} {PC EC : Array Value} {bx base r s : Nat} {V : Value} {bs : List Int} {pos : Nat} {w w2 : World} (h : DeS W PC EC bx base r s V bs pos w) (k : w.grownBy w2 none) : DeS W PC EC bx base r s V bs pos w2 :=
  ⟨h.p.keep0 k, h.e.keep0 k, h.rd.keep0 k, gb_trans h.g k, h.lo⟩
theorem DeS.read {W : World} {PC EC : Array Value} {bx base r s : Nat} {V : Value} {bs : List Int} {pos pos2 : Nat} {w w2 : World} (h : DeS W PC EC bx base r s V bs pos w) (k : w.grownBy w2 (some s)) (q : Rdr w2 base r s V bs pos2) : DeS W PC EC bx base r s V bs pos2 w2 :=
  ⟨h.p.keepS k h.rd.sb (by decide), h.e.keepS k h.rd.sb (by decide), q, gb_some' h.g k h.lo, h.lo⟩
set_option maxRecDepth 100000 in
set_option maxHeartbeats 20000000 in
theorem decodes_on (w : World) (nm v3 v4 v5 v6 v7 : Value) (ha ma da : Option Addr) (hn hc mn mc dn dc : Nat) (va fa ta pa : Option Addr) (vn vc fn fc tn tc pn pc : Nat) (H : List (ByteArray × List Fld)) (M : List Fld) (D : List Int) (L : EL) (hH : SH w ha hn hc H) (hM : SF w ma mn mc M) (hD : SI w da dn dc D) (he : ER w ⟨va, fa, ta, pa, vn, vc, fn, fc, tn, tc, pn, pc⟩ L) (hnm : ∀ x ∈ H, x.1.size ≤ 9223372036854775807 ∧ ∀ p ∈ x.2, p.1.size ≤ 9223372036854775807) : Calls Try.prog 9 #[.agg #[nm, .slice ha hn hc, .slice ma mn mc, v3, v4, v5, v6, v7, .slice da dn dc], .agg #[.slice va vn vc, .slice fa fn fc, .slice ta tn tc, .slice pa pn pc]] w (RetV (.bool true) w) := by
  have S0 := Lib.hid (⟨hH, hM, hD, he⟩ : SH w ha hn hc H ∧ SF w ma mn mc M ∧ SI w da dn dc D ∧ ER w ⟨va, fa, ta, pa, vn, vc, fn, fc, tn, tc, pn, pc⟩ L)
  have NM := Lib.hid hnm
  have K1 := Lib.hid (fun (W : World) (q : w.grownBy W none) => dright_any W nm v3 v4 v5 v6 v7 ha ma da hn hc mn mc dn dc va fa ta pa vn vc fn fc tn tc pn pc H M D L (hH.keep0 q) (hM.keep0 q) (hD.keep0 q) (he.keep0 q) hnm)
  have G1 := Lib.hid (gb_trans (gb_alloc w (.cells #[nm, .slice ha hn hc, .slice ma mn mc, v3, v4, v5, v6, v7, .slice da dn dc] 31) none) (gb_alloc _ (.cells #[.slice va vn vc, .slice fa fn fc, .slice ta tn tc, .slice pa pn pc] 42) none))
  have B1 := (IsB.new w 31 #[nm, .slice ha hn hc, .slice ma mn mc, v3, v4, v5, v6, v7, .slice da dn dc]).alloc (.cells #[.slice va vn vc, .slice fa fn fc, .slice ta tn tc, .slice pa pn pc] 42)
  have B2 := IsB.new (w.alloc (.cells #[nm, .slice ha hn hc, .slice ma mn mc, v3, v4, v5, v6, v7, .slice da dn dc] 31)) 42 #[.slice va vn vc, .slice fa fn fc, .slice ta tn tc, .slice pa pn pc]
  simp only [sz_al] at B2
  replace B1 := Lib.hid B1
  replace B2 := Lib.hid B2
  clear hH hM hD he hnm
  go_enter Try.func9, Try.ntmps9
  go_upto_region 1 with fail
  generalize (w.alloc (.cells #[nm, .slice ha hn hc, .slice ma mn mc, v3, v4, v5, v6, v7, .slice da dn dc] 31)).alloc (.cells #[.slice va vn vc, .slice fa fn fc, .slice ta tn tc, .slice pa pn pc] 42) = w1 at *
  obtain ⟨bx, hbx⟩ : ∃ b, b = w.heap.size := ⟨_, rfl⟩
  have Lbx := Lib.hid (show w.heap.size ≤ bx by rw [hbx]; exact Nat.le_refl _)
  rw [← hbx] at B1 B2 ⊢
  clear hbx
  have c0 := (B1.out.keep0 (gb_refl _ _)).cell 0
  have c1 := (B1.out.keep0 (gb_refl _ _)).cell 1
  have c2 := (B1.out.keep0 (gb_refl _ _)).cell 2
  have c3 := (B1.out.keep0 (gb_refl _ _)).cell 3
  have c4 := (B1.out.keep0 (gb_refl _ _)).cell 4
  have c5 := (B1.out.keep0 (gb_refl _ _)).cell 5
  have c6 := (B1.out.keep0 (gb_refl _ _)).cell 6
  have c7 := (B1.out.keep0 (gb_refl _ _)).cell 7
  have c8 := (B1.out.keep0 (gb_refl _ _)).cell 8
  dsimp at c0 c1 c2 c3 c4 c5 c6 c7 c8
  have x0 := (B2.out.keep0 (gb_refl _ _)).cell 0
  have x1 := (B2.out.keep0 (gb_refl _ _)).cell 1
  have x2 := (B2.out.keep0 (gb_refl _ _)).cell 2
  have x3 := (B2.out.keep0 (gb_refl _ _)).cell 3
  dsimp at x0 x1 x2 x3
  go_wp2_with fail
  refine (K1.out _ G1.out).mono ?_
  rintro e w2 ⟨b, rfl, g, hb⟩
  have HB := Lib.hid hb
  have G2 := Lib.hid (gb_trans G1.out g)
  replace B1 := Lib.hid (B1.out.keep0 g)
  replace B2 := Lib.hid (B2.out.keep0 g)
  clear g hb K1
  clear c0 c1 c2 c3 c4 c5 c6 c7 c8 x0 x1 x2 x3
  cases b
  · go_wp2_with fail
    refine (awake_any _).mono ?_
    rintro e wa ⟨rfl, g⟩
    have GA := Lib.hid (gb_trans G2.out g)
    clear g
    go_wp2
    go_ret
    exact ⟨rfl, GA.out⟩
  have R := Lib.hid (HB.out rfl)
  have DVh := Lib.hid (show DV H M D L from ⟨R.out.e, R.out.h, by rw [S0.out.1.len]; exact R.out.d, sr_rng S0.out.2.2.2.f⟩)
  have PZh := Lib.hid (R.out.pz S0.out.1 S0.out.2.1 S0.out.2.2.2 NM.out)
  obtain ⟨bs, hbs⟩ : ∃ bs, bs = emit H M D L := ⟨_, rfl⟩
  have HBS := Lib.hid hbs
  have LB := Lib.hid (show bs.length ≤ 60000 by
    have q := emit_len DVh.out
    have q2 := S0.out.2.2.2.p.len
    have q3 := R.out.p
    dsimp only at q2
    rw [hbs]; omega)
  clear hbs HB
  have c0 := (B1.out.keep0 (gb_refl _ _)).cell 0
  have c1 := (B1.out.keep0 (gb_refl _ _)).cell 1
  have c2 := (B1.out.keep0 (gb_refl _ _)).cell 2
  have c3 := (B1.out.keep0 (gb_refl _ _)).cell 3
  have c4 := (B1.out.keep0 (gb_refl _ _)).cell 4
  have c5 := (B1.out.keep0 (gb_refl _ _)).cell 5
  have c6 := (B1.out.keep0 (gb_refl _ _)).cell 6
  have c7 := (B1.out.keep0 (gb_refl _ _)).cell 7
  have c8 := (B1.out.keep0 (gb_refl _ _)).cell 8
  dsimp at c0 c1 c2 c3 c4 c5 c6 c7 c8
  have x0 := (B2.out.keep0 (gb_refl _ _)).cell 0
  have x1 := (B2.out.keep0 (gb_refl _ _)).cell 1
  have x2 := (B2.out.keep0 (gb_refl _ _)).cell 2
  have x3 := (B2.out.keep0 (gb_refl _ _)).cell 3
  dsimp at x0 x1 x2 x3
  go_upto_region 4 with (go_at_call 34; refine (demit_any w2 nm v3 v4 v5 v6 v7 ha ma da hn hc mn mc dn dc va fa ta pa vn vc fn fc tn tc pn pc H M D L (S0.out.1.keep0 G2.out) (S0.out.2.1.keep0 G2.out) (S0.out.2.2.1.keep0 G2.out) (S0.out.2.2.2.keep0 G2.out) PZh.out bs HBS.out).mono ?_; rintro e w3 ⟨Vb, rfl, ob, g⟩; have OB := Lib.hid ob; have G3 := Lib.hid g; clear ob g)
  clear c0 c1 c2 c3 c4 c5 c6 c7 c8 x0 x1 x2 x3
  obtain ⟨ab, cb, rfl⟩ := own_shape OB.out
  go_upto_region 5 with (go_at_call 39; refine (newReader_any w3 ab bs.length cb bs (own_slr OB.out) LB.out).mono ?_; rintro e w4 ⟨r, s, V, rfl, g, rd, hnil, lr, ls⟩; have RD := Lib.hid rd; have NIL := Lib.hid hnil; have G4 := Lib.hid g; have LS := Lib.hid ls; clear rd hnil g lr ls)
  have GG := Lib.hid (gb_trans G2.out (gb_trans G3.out G4.out))
  have DS0 := Lib.hid (show DeS w #[nm, .slice ha hn hc, .slice ma mn mc, v3, v4, v5, v6, v7, .slice da dn dc] #[.slice va vn vc, .slice fa fn fc, .slice ta tn tc, .slice pa pn pc] bx w3.heap.size r s V bs (posD H L D 0) w4 from ⟨(B1.out.keep0 G3.out).keep0 G4.out, (B2.out.keep0 G3.out).keep0 G4.out, RD.out, GG.out, by have := LS.out; have := G2.out.size; have := G3.out.size; omega⟩)
  generalize w3.heap.size = base at *
  clear OB RD G3 G4 LS GG B1 B2
  go_wp2
  go_loopw [7] (fun i wr => ∃ k : Nat, k ≤ dn ∧ i = .int .i64 k ∧ DeS w #[nm, .slice ha hn hc, .slice ma mn mc, v3, v4, v5, v6, v7, .slice da dn dc] #[.slice va vn vc, .slice fa fn fc, .slice ta tn tc, .slice pa pn pc] bx base r s V bs (posD H L D k) wr) (fun i _ => dn - (intOf i).toNat)
  case atStart => exact ⟨0, Nat.zero_le _, rfl, DS0.out⟩
  case round =>
    obtain ⟨k, hk, rfl, hds⟩ := hrel
    have DS := Lib.hid hds
    clear hds DS0
    have hw1 : IntKind.i64.wrap ((k : Int) + 1) = ((k + 1 : Nat) : Int) := by have := R.out.z.d; rw [IntKind.wrap_i64]; omega
    have c8 := DS.out.p.cell 8
    dsimp at c8
    by_cases hlt : k < dn
    · have hl : k < D.length := by rw [S0.out.2.2.1.len]; exact hlt
      obtain ⟨ad, had⟩ := S0.out.2.2.1.some (by omega)
      subst had
      have j1 : (k : Int) < dn := by omega
      have j0 : (0 : Int) ≤ (k : Int) := by omega
      have d0 := (S0.out.2.2.1.keep0 DS.out.g).cells ad rfl k hlt
      obtain ⟨n9, hn9, N1⟩ := isX_nat (R.out.d.isx hl)
      have HN := Lib.hid hn9
      rw [hn9] at d0
      clear hn9
      have SHP := Lib.hid ((shP_iff H M L).1 R.out.e.1)
      have LHn := Lib.hid S0.out.1.len
      have N2 := Lib.hid (show n9 < vn by have q := S0.out.2.2.2.v.len; have := SHP.out.1; have := LHn.out; dsimp only at q; omega)
      have N3 := Lib.hid (show n9 < fn by have q := S0.out.2.2.2.f.len; have := SHP.out.2.1; have := LHn.out; dsimp only at q; omega)
      obtain ⟨vd, hvd⟩ := S0.out.2.2.2.v.some (by have := N2.out; show 0 < vn; omega)
      dsimp only at hvd
      subst hvd
      obtain ⟨fd, hfd⟩ := S0.out.2.2.2.f.some (by have := N3.out; show 0 < fn; omega)
      dsimp only at hfd
      subst hfd
      obtain ⟨hd, hhd⟩ := S0.out.1.some (by omega)
      subst hhd
      have v0 := (S0.out.2.2.2.v.keep0 DS.out.g).cells vd rfl n9 N2.out
      have n1 : (n9 : Int) < vn := by have := N2.out; omega
      have n2 : (n9 : Int) < fn := by have := N3.out; omega
      have n3 : (n9 : Int) < hn := by omega
      have n0 : (0 : Int) ≤ (n9 : Int) := by omega
      have x0 := DS.out.e.cell 0
      dsimp at x0
      have SK := Lib.hid (posD_skip H L D k n9 hl HN.out)
      have RB := Lib.hid (rd_back DVh.out S0.out.2.2.2.p.rng k n9 hl HN.out (by rw [LHn.out]; exact N1))
      have FL := Lib.hid (show (L.F.getD n9 []).length ≤ 60000 by
        rw [SHP.out.2.2.2 n9 (by rw [LHn.out]; exact N1)]
        have := R.out.z.f _ (getD_mem' H hz n9 (by rw [LHn.out]; exact N1)); omega)
      generalize L.V.getD n9 false = bv9 at *
      cases bv9
      · have Z := Lib.hid (show DeS w #[nm, .slice (some hd) hn hc, .slice ma mn mc, v3, v4, v5, v6, v7, .slice (some ad) dn dc] #[.slice (some vd) vn vc, .slice (some fd) fn fc, .slice ta tn tc, .slice pa pn pc] bx base r s V bs (posD H L D (k + 1)) wr by rw [SK.out rfl]; exact DS.out)
        clear RB SK
        go_wp2
        go_roundw
        case rel => exact ⟨k + 1, by omega, by go_num, Z.out⟩
        case measure => simp [intOf]; omega
      · obtain ⟨xa, xn, xc, d1, d2, ok⟩ := sh_hd S0.out.1 NM.out (fun x hx => by have := R.out.z.f x hx; omega) rfl N1
        obtain ⟨ya, yn, yc, y0, su⟩ := S0.out.2.2.2.f.cells fd rfl n9 N3.out
        have SU9 := Lib.hid su
        have D1 := Lib.hid (DS.out.g.cell d1 (by simp))
        have D2 := Lib.hid (DS.out.g.cell d2 (by simp))
        have Y0 := Lib.hid y0
        have KR := Lib.hid (read_any w wr _ xa xn xc _ ok (below_gb DS.out.g) base r s V bs (posD H L D k) DS.out.rd DS.out.lo (by rw [HBS.out, emit_eq DVh.out]; intro x hx; rcases List.mem_append.1 hx with q | q; exact packB_range _ x q; have := S0.out.2.2.2.p.rng x q; omega) LB.out (by rw [HBS.out]; exact posD_le DVh.out k) 0 (L.F.getD n9 []) (posD H L D (k + 1)) (by rw [HBS.out]; exact RB.out rfl))
        clear ok d1 d2 y0 su RB SK
        generalize (H.getD n9 hz).1 = s0 at *
        generalize (H.getD n9 hz).2 = l0 at *
        generalize L.F.getD n9 [] = f0 at *
        have c1 := DS.out.p.cell 1
        dsimp at c1
        have e1 := D1.out
        have e2 := D2.out
        go_upto_region 13 with (go_at_call 40; refine KR.out.mono ?_; rintro e w5 ⟨vr, rfl, g, rd, ul⟩; have GS := Lib.hid g; have DS2 := Lib.hid (DS.out.read g rd); have UL2 := Lib.hid ul; clear g rd ul KR)
        clear e1 e2 c1 c8 x0 v0 d0
        obtain ⟨za, zc, rfl⟩ := UL.shape UL2.out
        have x1 := DS2.out.e.cell 1
        dsimp at x1
        have y1 := DS2.out.g.cell Y0.out (by simp)
        have EQ := Lib.hid (equ_same w5 za ya f0.length yn zc yc f0 (UL.slr UL2.out rfl) (SU9.out.keep0 DS2.out.g).slr' FL.out)
        go_wp2_with fail
        refine EQ.out.mono ?_
        rintro e w6 ⟨rfl, g, _⟩
        have DS3 := Lib.hid (DS2.out.keep0 g)
        clear g EQ x1 y1
        go_wp2
        go_roundw
        case rel => exact ⟨k + 1, by omega, by go_num, DS3.out⟩
        case measure => simp [intOf]; omega
    · have hke : k = dn := by omega
      have j1 : ¬ (k : Int) < dn := by omega
      have RS := Lib.hid (rest_back DVh.out)
      rw [S0.out.2.2.1.len, ← hke, ← HBS.out] at RS
      have KR := Lib.hid (rest_any wr base r s V bs (posD H L D k) DS.out.rd NIL.out LB.out (by rw [HBS.out]; exact posD_le DVh.out k))
      rw [RS.out] at KR
      go_upto_region 16 with (go_at_call 42; refine KR.out.mono ?_; rintro e w5 ⟨vb, rfl, g, o⟩; have G5 := Lib.hid g; have O5 := Lib.hid o; clear g o KR)
      obtain ⟨ra, rc, rfl⟩ := own_shape O5.out
      have cv1 := conv_str w5 ra L.P.length rc L.P (own_slr O5.out)
      have PY := Lib.hid (S0.out.2.2.2.p.keep0 (gb_trans DS.out.g G5.out))
      have cv2 := conv_str w5 pa pn pc L.P PY.out.slr
      have x3 := (DS.out.e.keep0 G5.out).cell 3
      dsimp at x3
      have sq : ((strOf L.P).toList == (strOf L.P).toList) = true := by simp
      clear c8
      generalize strOf L.P = sp at *
      go_wp2_with fail
      refine (awake_any _).mono ?_
      rintro e w6 ⟨rfl, g⟩
      have G6 := Lib.hid (gb_trans DS.out.g (gb_trans G5.out g))
      clear g
      go_wp2
      go_ret
      exact ⟨rfl, G6.out⟩
end Go.Proofs.Ytglgjkggjpfahaa
