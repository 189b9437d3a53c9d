/- Deparser: the program: the closure of Emit, Emit, Size; no condition but sizes. -/
import Derived.Test.YtglgjkggjpfahaaDpC
import Derived.Deep.QuietTactic
import Derived.BigQuiet
import Derived.Deep.RegionWith
import Derived.StillTailTactics
namespace Go.Proofs.Ytglgjkggjpfahaa
open Go.RowKit
set_option linter.unusedVariables false
/-- The state of Emit's loop: the boxes of its arguments, its writer and the bits that are written. -/
structure EmS (W : World) (PC EC : Array Value) (bx b5 base r s : Nat) (B : List Bool) (w : World) : Prop where
  p : IsB w bx 31 PC
  e : IsB w (bx + 1) 42 EC
  v : IsB w b5 100 #[.pointer (some ⟨r, 0, none⟩)]
  wt : ∃ V, Wtr w base r s V B
  g : W.grownBy w none
  lo : W.heap.size ≤ base
  hi : base ≤ w.heap.size
theorem EmS.keep0 {W : World} {PC EC : Array Value} {bx b5 base r s : Nat} {B : List Bool} {w w2 : World} (h : EmS W PC EC bx b5 base r s B w) (k : w.grownBy w2 none) : EmS W PC EC bx b5 base r s B w2 :=
  ⟨h.p.keep0 k, h.e.keep0 k, h.v.keep0 k, (by obtain ⟨V, q⟩ := h.wt; exact ⟨V, q.keep0 k⟩), gb_trans h.g k, h.lo, Nat.le_trans h.hi k.size⟩
theorem EmS.wrote {W : World} {PC EC : Array Value} {bx b5 base r s : Nat} {B B2 : List Bool} {w w2 : World} (h : EmS W PC EC bx b5 base r s B w) (k : GTh base w w2) (q : ∃ V, Wtr w2 base r s V B2) : EmS W PC EC bx b5 base r s B2 w2 :=
  ⟨k.kind _ _ _ h.p (by decide) (by decide), k.kind _ _ _ h.e (by decide) (by decide), k.kind _ _ _ h.v (by decide) (by decide), q, gb_gt h.g k h.lo, h.lo, Nat.le_trans h.hi k.size⟩
theorem SU.slr' {w : World} {a : Option Addr} {n c : Nat} {L : List Int} (h : SU w a n c L) : SlR w a n c (L.map (Value.int .u32)) :=
  ⟨by rw [List.length_map]; exact h.len, h.nil, fun ad e j u hu => by
    rw [List.getElem?_map] at hu
    by_cases hj : j < L.length
    · rw [List.getElem?_eq_getElem hj] at hu
      have q := h.cells ad e j (by rw [← h.len]; exact hj)
      rw [List.getD_eq_getElem?_getD, List.getElem?_eq_getElem hj] at q
      simp at hu
      rw [← hu]; exact q
    · rw [List.getElem?_eq_none (by omega)] at hu; simp at hu⟩
set_option maxRecDepth 100000 in
set_option maxHeartbeats 8000000 in
theorem emit1_any (W w : World) (nm v3 v4 v5 v6 v7 : Value) (ha ma da : Option Addr) (hn hc mn mc dn dc : Nat) (va fa ta pa : Option Addr) (vn vc fn fc tn tc pn pc : Nat) (H : List (ByteArray × List Fld)) (F : List (List Int)) (hH : SH W ha hn hc H) (hF : SR W fa fn fc F) (hz9 : HZ H) (bx b5 base r s : Nat) (B : List Bool) (hs : EmS W #[nm, .slice ha hn hc, .slice ma mn mc, v3, v4, v5, v6, v7, .slice da dn dc] #[.slice va vn vc, .slice fa fn fc, .slice ta tn tc, .slice pa pn pc] bx b5 base r s B w) (k : Nat) (h1 : k < hn) (h2 : k < fn) (hB : B.length ≤ 40000) :
    Calls Try.prog 61 #[.int .i64 k, .pointer (some ⟨bx, 0, none⟩), .pointer (some ⟨bx + 1, 0, none⟩), .pointer (some ⟨b5, 0, none⟩)] w (fun e w' => e = .returned (.tuple #[]) ∧ EmS W #[nm, .slice ha hn hc, .slice ma mn mc, v3, v4, v5, v6, v7, .slice da dn dc] #[.slice va vn vc, .slice fa fn fc, .slice ta tn tc, .slice pa pn pc] bx b5 base r s (wrH (H.getD k hz).1 (H.getD k hz).2 (F.getD k []) B).2 w') := by
  obtain ⟨ad, rfl⟩ := hH.some (by omega)
  obtain ⟨fd, rfl⟩ := hF.some (by omega)
  obtain ⟨xa, xn, xc, d0, d1, ok⟩ := sh_hd hH hz9.nm hz9.fl rfl h1
  obtain ⟨ya, yn, yc, y0, su⟩ := hF.cells fd rfl k h2
  have HS := Lib.hid hs
  obtain ⟨V, hwt⟩ := hs.wt
  obtain ⟨⟨er, B2⟩, hq⟩ : ∃ p, p = wrH (H.getD k hz).1 (H.getD k hz).2 (F.getD k []) B := ⟨_, rfl⟩
  have WR := Lib.hid (write_any W w.drew _ xa xn xc _ ok base r s V B (below_gb (gb_trans hs.g (gb_drew w none))) hs.lo hs.hi (hwt.keep0 (gb_drew w none)) ya yn yc (F.getD k []) (su.keep0 (gb_trans hs.g (gb_drew w none))).slr' su.rng hB er B2 hq.symm (fun w' k' => (su.keep0 (gb_gt (gb_trans hs.g (gb_drew w none)) k' hs.lo)).slr'))
  rw [← hq]
  have e0 := hs.g.cell d0 (by simp)
  have e1 := hs.g.cell d1 (by simp)
  have e2 := hs.g.cell y0 (by simp)
  have c0 := hs.v.cell 0
  have p0 := hs.p.cell 0
  have p1 := hs.p.cell 1
  have p2 := hs.p.cell 2
  have p3 := hs.p.cell 3
  have p4 := hs.p.cell 4
  have p5 := hs.p.cell 5
  have p6 := hs.p.cell 6
  have p7 := hs.p.cell 7
  have p8 := hs.p.cell 8
  have x0 := hs.e.cell 0
  have x1 := hs.e.cell 1
  have x2 := hs.e.cell 2
  have x3 := hs.e.cell 3
  dsimp at c0 p0 p1 p2 p3 p4 p5 p6 p7 p8 x0 x1 x2 x3
  have i1 : (k : Int) < hn := by omega
  have i2 : (k : Int) < fn := by omega
  have i0 : (0 : Int) ≤ (k : Int) := by omega
  generalize (H.getD k hz).1 = s0 at *
  generalize (H.getD k hz).2 = l0 at *
  generalize F.getD k [] = f0 at *
  clear hs hwt ok su d0 d1 y0 hH hF hz9 hq hB
  go_enter Try.func61, Try.ntmps61
  go_wp2
  go_still_tail 11, (by kernel_rfl)
  change wpList _ _ _ _ _ w.drew
  go_wp2_with fail
  refine WR.out.mono ?_
  rintro e w2 ⟨rfl, q1, q2⟩
  have Q1 := Lib.hid q1
  have Q2 := Lib.hid q2
  clear q1 q2
  go_wp2
  go_end0
  exact ⟨rfl, (HS.out.keep0 (gb_drew w none)).wrote Q1.out Q2.out⟩
theorem gb_own2 {w w2 : World} {base : Nat} {e : TypeId} {size n : Nat} {v : Value} {xs : List Value} {w0 : World} (h0 : w0.grownBy w none) (hown : w.ownsRow base e size v n xs) (hb : w0.heap.size ≤ base) (k : w.grownBy w2 v.ownBlock) : w0.grownBy w2 none := by
  refine ⟨k.os.trans h0.os, k.tape.trans h0.tape, k.output.trans h0.output, Nat.le_trans h0.size k.size, fun i hi _ => ?_⟩
  rw [k.block i (by have := h0.size; omega) (fun e => by have := (World.ownsRow.lt hown i e.symm).1; omega)]
  exact h0.block i hi (by simp)
/-- The call returns bytes of its own. -/
def RetY (M : List Int) (w : World) (e : Ending) (w' : World) : Prop := ∃ V, e = .returned V ∧ NY w' w.heap.size V M ∧ w.grownBy w' none
set_option maxRecDepth 100000 in
set_option maxHeartbeats 20000000 in
theorem demit_any (w : World) (nm v3 v4 v5 v6 v7 : Value) (ha ma da : Option Addr) (hn hc mn mc dn dc : Nat) (va fa ta pa : Option Addr) (vn vc fn fc tn tc pn pc : Nat) (H : List (ByteArray × List Fld)) (M : List Fld) (D : List Int) (L : EL) (hH : SH w ha hn hc H) (hM : SF w ma mn mc M) (hD : SI w da dn dc D) (he : ER w ⟨va, fa, ta, pa, vn, vc, fn, fc, tn, tc, pn, pc⟩ L) (z : PZ hn H M ⟨va, fa, ta, pa, vn, vc, fn, fc, tn, tc, pn, pc⟩ L) (M2 : List Int) (hM2 : M2 = emit H M D L) : Calls Try.prog 34 #[.agg #[nm, .slice ha hn hc, .slice ma mn mc, v3, v4, v5, v6, v7, .slice da dn dc], .agg #[.slice va vn vc, .slice fa fn fc, .slice ta tn tc, .slice pa pn pc]] w (RetY M2 w) := by
  classical
  have HE := Lib.hid hM2
  have LH := Lib.hid hH.len
  have LD := Lib.hid hD.len
  obtain ⟨bo, hbo⟩ : ∃ bo : Bool, bo = decide (dcOk hn D ∧ hdsOk H ∧ envOk H M L) := ⟨_, rfl⟩
  have HBO := Lib.hid (show bo = true ↔ dcOk hn D ∧ hdsOk H ∧ envOk H M L by rw [hbo, decide_eq_true_iff])
  have K1 := Lib.hid (fun (W : World) (q : w.grownBy W none) => dacc_any W nm v3 v4 v5 v6 v7 ha ma da hn hc mn mc dn dc va fa ta pa vn vc fn fc tn tc pn pc H M D L (hH.keep0 q) (hM.keep0 q) (hD.keep0 q) (he.keep0 q) z bo HBO.out)
  unfold RetV at K1
  have S0 := Lib.hid (⟨hH, hD, he.v, he.f, he.p⟩ : SH w ha hn hc H ∧ SI w da dn dc D ∧ SB w va vn vc L.V ∧ SR w fa fn fc L.F ∧ SY w pa pn pc L.P)
  have ZH := Lib.hid z.h
  have ZP := Lib.hid z.p
  have G1 := Lib.hid (gb_trans (gb_alloc w (.cells #[nm, .slice ha hn hc, .slice ma mn mc, v3, v4, v5, v6, v7, .slice da dn dc] 31) none) (gb_alloc _ (.cells #[.slice va vn vc, .slice fa fn fc, .slice ta tn tc, .slice pa pn pc] 42) none))
  have B1 := (IsB.new w 31 #[nm, .slice ha hn hc, .slice ma mn mc, v3, v4, v5, v6, v7, .slice da dn dc]).alloc (.cells #[.slice va vn vc, .slice fa fn fc, .slice ta tn tc, .slice pa pn pc] 42)
  have B2 := IsB.new (w.alloc (.cells #[nm, .slice ha hn hc, .slice ma mn mc, v3, v4, v5, v6, v7, .slice da dn dc] 31)) 42 #[.slice va vn vc, .slice fa fn fc, .slice ta tn tc, .slice pa pn pc]
  simp only [sz_al] at B2
  replace B1 := Lib.hid B1
  replace B2 := Lib.hid B2
  clear hH hM hD he z hM2 hbo
  go_enter Try.func34, Try.ntmps34
  go_upto_region 1 with fail
  generalize (w.alloc (.cells #[nm, .slice ha hn hc, .slice ma mn mc, v3, v4, v5, v6, v7, .slice da dn dc] 31)).alloc (.cells #[.slice va vn vc, .slice fa fn fc, .slice ta tn tc, .slice pa pn pc] 42) = w1 at *
  obtain ⟨bx, hbx⟩ : ∃ b, b = w.heap.size := ⟨_, rfl⟩
  have Lbx := Lib.hid (show w.heap.size ≤ bx by rw [hbx]; exact Nat.le_refl _)
  rw [← hbx] at B1 B2 ⊢
  clear hbx
  have c0 := (B1.out.keep0 (gb_refl _ _)).cell 0
  have c1 := (B1.out.keep0 (gb_refl _ _)).cell 1
  have c2 := (B1.out.keep0 (gb_refl _ _)).cell 2
  have c3 := (B1.out.keep0 (gb_refl _ _)).cell 3
  have c4 := (B1.out.keep0 (gb_refl _ _)).cell 4
  have c5 := (B1.out.keep0 (gb_refl _ _)).cell 5
  have c6 := (B1.out.keep0 (gb_refl _ _)).cell 6
  have c7 := (B1.out.keep0 (gb_refl _ _)).cell 7
  have c8 := (B1.out.keep0 (gb_refl _ _)).cell 8
  dsimp at c0 c1 c2 c3 c4 c5 c6 c7 c8
  have x0 := (B2.out.keep0 (gb_refl _ _)).cell 0
  have x1 := (B2.out.keep0 (gb_refl _ _)).cell 1
  have x2 := (B2.out.keep0 (gb_refl _ _)).cell 2
  have x3 := (B2.out.keep0 (gb_refl _ _)).cell 3
  dsimp at x0 x1 x2 x3
  go_wp2_with fail
  refine (K1.out _ G1.out).mono ?_
  rintro e w2 ⟨rfl, g⟩
  have G2 := Lib.hid (gb_trans G1.out g)
  replace B1 := Lib.hid (B1.out.keep0 g)
  replace B2 := Lib.hid (B2.out.keep0 g)
  clear g
  clear c0 c1 c2 c3 c4 c5 c6 c7 c8 x0 x1 x2 x3
  cases bo
  · have EM := Lib.hid (show M2 = [] by rw [HE.out]; exact emit_no (fun q => by rw [LH.out] at q; have := HBO.out.2 q; cases this))
    go_wp2
    go_ret
    exact ⟨.slice none 0 0, rfl, by rw [EM.out]; exact World.ownsRow_nil _ _ _ _, G2.out⟩
  have OK := Lib.hid (HBO.out.1 rfl)
  have EM := Lib.hid (show M2 = (bytesR (emL H L.V L.F [] D)).2 ++ L.P by rw [HE.out]; exact emit_yes (by rw [LH.out]; exact OK.out.1) OK.out.2.1 OK.out.2.2)
  have SHP := Lib.hid ((shP_iff H M L).1 OK.out.2.2.1)
  clear HE HBO K1
  go_upto_region 4 with (go_at_call 60; refine (newWriter_any w2).mono ?_; rintro e w3 ⟨rfl, g, wt⟩; have G3 := Lib.hid g; have WT := Lib.hid wt; clear g wt)
  have GB := Lib.hid (gb_alloc w3 (.cells #[.pointer (some ⟨w2.heap.size + 1, 0, none⟩)] 100) none)
  have EM0 := Lib.hid (show EmS w #[nm, .slice ha hn hc, .slice ma mn mc, v3, v4, v5, v6, v7, .slice da dn dc] #[.slice va vn vc, .slice fa fn fc, .slice ta tn tc, .slice pa pn pc] bx w3.heap.size w2.heap.size (w2.heap.size + 1) w2.heap.size (emL H L.V L.F [] (D.take 0)) (w3.alloc (.cells #[.pointer (some ⟨w2.heap.size + 1, 0, none⟩)] 100)) from
    ⟨(B1.out.keep0 G3.out).keep0 GB.out, (B2.out.keep0 G3.out).keep0 GB.out, IsB.new _ _ _, ⟨_, WT.out.keep0 GB.out⟩, gb_trans G2.out (gb_trans G3.out GB.out), G2.out.size, Nat.le_trans G3.out.size GB.out.size⟩)
  generalize w3.alloc (.cells #[.pointer (some ⟨w2.heap.size + 1, 0, none⟩)] 100) = w4 at *
  generalize w3.heap.size = b5 at *
  generalize w2.heap.size = base at *
  clear GB G3 WT
  have p8 := EM0.out.p.cell 8
  dsimp at p8
  go_upto_region 6 with fail
  clear p8
  go_loopw [20] (fun i wr => ∃ k : Nat, k ≤ dn ∧ i = .int .i64 k ∧ EmS w #[nm, .slice ha hn hc, .slice ma mn mc, v3, v4, v5, v6, v7, .slice da dn dc] #[.slice va vn vc, .slice fa fn fc, .slice ta tn tc, .slice pa pn pc] bx b5 base (base + 1) base (emL H L.V L.F [] (D.take k)) wr) (fun i _ => dn - (intOf i).toNat)
  case atStart => exact ⟨0, Nat.zero_le _, rfl, EM0.out⟩
  case round =>
    obtain ⟨k, hk, rfl, hes⟩ := hrel
    have ES := Lib.hid hes
    clear hes
    by_cases hlt : k < dn
    · have hl : k < D.length := by rw [LD.out]; exact hlt
      obtain ⟨ad, had⟩ := S0.out.2.1.some (by omega)
      subst had
      have j1 : (k : Int) < dn := by omega
      have j0 : (0 : Int) ≤ (k : Int) := by omega
      have hw1 : IntKind.i64.wrap ((k : Int) + 1) = ((k + 1 : Nat) : Int) := by have := OK.out.1.1; rw [IntKind.wrap_i64]; omega
      have d0 := (S0.out.2.1.keep0 ES.out.g).cells ad rfl k hlt
      have SN := Lib.hid (emL_snoc H L.V L.F [] D k hl)
      have LB := Lib.hid (show (emL H L.V L.F [] (D.take k)).length ≤ 40000 by
        have q1 := emL_le H L.V L.F (D.take k) []
        have q2 := OK.out.1.1
        rw [List.length_take] at q1
        simp only [List.length_nil] at q1
        omega)
      obtain ⟨n9, hn9⟩ : ∃ n : Nat, D.getD k 0 = (n : Int) := ⟨(D.getD k 0).toNat, by have := (isX_iff _ _).1 (OK.out.1.isx hl); omega⟩
      have N1 := Lib.hid (show n9 < hn by have := (isX_iff _ _).1 (OK.out.1.isx hl); rw [hn9] at this; omega)
      rw [hn9] at d0 SN
      clear hn9
      have N2 := Lib.hid (show n9 < vn by have := SHP.out.1; have := S0.out.2.2.1.len; have := LH.out; have := N1.out; omega)
      have N3 := Lib.hid (show n9 < fn by have := SHP.out.2.1; have := S0.out.2.2.2.1.len; have := LH.out; have := N1.out; omega)
      obtain ⟨vd, hvd⟩ := S0.out.2.2.1.some (by have := N2.out; omega)
      subst hvd
      have v0 := (S0.out.2.2.1.keep0 ES.out.g).cells vd rfl n9 N2.out
      have n1 : (n9 : Int) < vn := by have := N2.out; omega
      have n0 : (0 : Int) ≤ (n9 : Int) := by omega
      have K2 := Lib.hid (emit1_any w wr nm v3 v4 v5 v6 v7 ha ma (some ad) hn hc mn mc dn dc (some vd) fa ta pa vn vc fn fc tn tc pn pc H L.F S0.out.1 S0.out.2.2.2.1 ZH.out bx b5 base (base + 1) base _ ES.out n9 N1.out N3.out LB.out)
      have E1 := Lib.hid (show emF H L.V L.F (emL H L.V L.F [] (D.take k)) (n9 : Int) = if L.V.getD n9 false = true then (wrH (H.getD n9 hz).1 (H.getD n9 hz).2 (L.F.getD n9 []) (emL H L.V L.F [] (D.take k))).2 else emL H L.V L.F [] (D.take k) from rfl)
      generalize L.V.getD n9 false = b at *
      have x0 := ES.out.e.cell 0
      dsimp at x0
      cases b
      · have Z := Lib.hid (show EmS w #[nm, .slice ha hn hc, .slice ma mn mc, v3, v4, v5, v6, v7, .slice (some ad) dn dc] #[.slice (some vd) vn vc, .slice fa fn fc, .slice ta tn tc, .slice pa pn pc] bx b5 base (base + 1) base (emL H L.V L.F [] (D.take (k + 1))) wr by rw [SN.out, E1.out]; exact ES.out)
        clear K2 E1 SN
        go_wp2
        go_roundw
        case rel => exact ⟨k + 1, by omega, by go_num, Z.out⟩
        case measure => simp [intOf]; omega
      · have Z := Lib.hid (show ∀ w', EmS w #[nm, .slice ha hn hc, .slice ma mn mc, v3, v4, v5, v6, v7, .slice (some ad) dn dc] #[.slice (some vd) vn vc, .slice fa fn fc, .slice ta tn tc, .slice pa pn pc] bx b5 base (base + 1) base (wrH (H.getD n9 hz).1 (H.getD n9 hz).2 (L.F.getD n9 []) (emL H L.V L.F [] (D.take k))).2 w' → EmS w #[nm, .slice ha hn hc, .slice ma mn mc, v3, v4, v5, v6, v7, .slice (some ad) dn dc] #[.slice (some vd) vn vc, .slice fa fn fc, .slice ta tn tc, .slice pa pn pc] bx b5 base (base + 1) base (emL H L.V L.F [] (D.take (k + 1))) w' from fun w' q => by rw [SN.out, E1.out]; exact q)
        clear E1 SN
        go_wp2_with fail
        refine K2.out.mono ?_
        rintro e wz ⟨rfl, q⟩
        have Q := Lib.hid (Z.out _ q)
        clear q Z
        go_wp2
        go_roundw
        case rel => exact ⟨k + 1, by omega, by go_num, Q.out⟩
        case measure => simp [intOf]; omega
    · have hke : k = dn := by omega
      have j1 : ¬ (k : Int) < dn := by omega
      have FULL := Lib.hid (show D.take k = D by rw [List.take_of_length_le (by rw [LD.out]; omega)])
      rw [FULL.out] at ES
      clear FULL
      have LB := Lib.hid (show (emL H L.V L.F [] D).length ≤ 60000 by
        have q1 := emL_le H L.V L.F D []
        have q2 := OK.out.1.1
        simp only [List.length_nil] at q1
        omega)
      generalize emL H L.V L.F [] D = BB at *
      have K3 := Lib.hid (show Calls Try.prog 63 #[.pointer (some ⟨base + 1, 0, none⟩)] wr (RetEh (bytesR BB).1 (bytesR BB).2 wr) by
        obtain ⟨V, q⟩ := ES.out.wt
        exact bytes_any wr base (base + 1) base V BB q LB.out)
      have BL := Lib.hid (show (bytesR BB).2.length ≤ 60000 by
        have := LB.out
        unfold bytesR
        split
        · rw [packB_len]; omega
        · simp)
      generalize (bytesR BB).1 = er at *
      generalize (bytesR BB).2 = bs at *
      have v0 := ES.out.v.cell 0
      dsimp at v0
      go_upto_region 12 with (go_at_call 63; refine K3.out.mono ?_; rintro e w5 ⟨vb, rfl, g, o⟩; have G5 := Lib.hid g; have O5 := Lib.hid o; clear g o)
      have x3 := (ES.out.e.keep0 G5.out).cell 3
      dsimp at x3
      go_wp2_with (at_builtin; refine xpushY rfl _ _ rfl wr.heap.size vb (bs.map (Value.int .u8)) rfl (by simpa using O5.out) pa pn pc (L.P.map (Value.int .u8)) rfl (S0.out.2.2.2.2.keep0 (gb_trans ES.out.g G5.out)).slr (by intro u hu; obtain ⟨y, _, rfl⟩ := List.mem_map.1 hu; rfl) (by have := S0.out.2.2.2.2.len; have := ZP.out; have := BL.out; simp; omega) G5.out.size ?_; intro V6 w6 o6 g6)
      have Q6 := Lib.hid (show NY w6 w.heap.size V6 M2 by
        rw [EM.out]; unfold NY
        have q : w6.ownsRow wr.heap.size 5 1 V6 (bs ++ L.P).length ((bs ++ L.P).map (Value.int .u8)) := by simpa using o6
        exact own_low q ES.out.g.size)
      have G6 := Lib.hid (show w.grownBy w6 none from gb_trans ES.out.g (gb_own2 G5.out O5.out (Nat.le_refl _) g6))
      clear o6 g6
      go_wp2
      go_ret
      exact ⟨V6, rfl, Q6.out, G6.out⟩
set_option maxRecDepth 100000 in
set_option maxHeartbeats 8000000 in
theorem dsize_any (w : World) (nm v3 v4 v5 v6 v7 : Value) (ha ma da : Option Addr) (hn hc mn mc dn dc : Nat) (va fa ta pa : Option Addr) (vn vc fn fc tn tc pn pc : Nat) (H : List (ByteArray × List Fld)) (M : List Fld) (D : List Int) (L : EL) (hH : SH w ha hn hc H) (hM : SF w ma mn mc M) (hD : SI w da dn dc D) (he : ER w ⟨va, fa, ta, pa, vn, vc, fn, fc, tn, tc, pn, pc⟩ L) (z : PZ hn H M ⟨va, fa, ta, pa, vn, vc, fn, fc, tn, tc, pn, pc⟩ L) (M2 : List Int) (hM2 : M2 = emit H M D L) : Calls Try.prog 36 #[.agg #[nm, .slice ha hn hc, .slice ma mn mc, v3, v4, v5, v6, v7, .slice da dn dc], .agg #[.slice va vn vc, .slice fa fn fc, .slice ta tn tc, .slice pa pn pc]] w (RetV (.int .i64 M2.length) w) := by
  have K1 := Lib.hid (fun (W : World) (q : w.grownBy W none) => demit_any W nm v3 v4 v5 v6 v7 ha ma da hn hc mn mc dn dc va fa ta pa vn vc fn fc tn tc pn pc H M D L (hH.keep0 q) (hM.keep0 q) (hD.keep0 q) (he.keep0 q) z M2 hM2)
  have G1 := Lib.hid (gb_trans (gb_alloc w (.cells #[nm, .slice ha hn hc, .slice ma mn mc, v3, v4, v5, v6, v7, .slice da dn dc] 31) none) (gb_alloc _ (.cells #[.slice va vn vc, .slice fa fn fc, .slice ta tn tc, .slice pa pn pc] 42) none))
  have B1 := (IsB.new w 31 #[nm, .slice ha hn hc, .slice ma mn mc, v3, v4, v5, v6, v7, .slice da dn dc]).alloc (.cells #[.slice va vn vc, .slice fa fn fc, .slice ta tn tc, .slice pa pn pc] 42)
  have B2 := IsB.new (w.alloc (.cells #[nm, .slice ha hn hc, .slice ma mn mc, v3, v4, v5, v6, v7, .slice da dn dc] 31)) 42 #[.slice va vn vc, .slice fa fn fc, .slice ta tn tc, .slice pa pn pc]
  simp only [sz_al] at B2
  replace B1 := Lib.hid B1
  replace B2 := Lib.hid B2
  clear hH hM hD he z hM2
  go_enter Try.func36, Try.ntmps36
  go_upto_region 1 with fail
  generalize (w.alloc (.cells #[nm, .slice ha hn hc, .slice ma mn mc, v3, v4, v5, v6, v7, .slice da dn dc] 31)).alloc (.cells #[.slice va vn vc, .slice fa fn fc, .slice ta tn tc, .slice pa pn pc] 42) = w1 at *
  obtain ⟨bx, hbx⟩ : ∃ b, b = w.heap.size := ⟨_, rfl⟩
  have Lbx := Lib.hid (show w.heap.size ≤ bx by rw [hbx]; exact Nat.le_refl _)
  rw [← hbx] at B1 B2 ⊢
  clear hbx
  have c0 := (B1.out.keep0 (gb_refl _ _)).cell 0
  have c1 := (B1.out.keep0 (gb_refl _ _)).cell 1
  have c2 := (B1.out.keep0 (gb_refl _ _)).cell 2
  have c3 := (B1.out.keep0 (gb_refl _ _)).cell 3
  have c4 := (B1.out.keep0 (gb_refl _ _)).cell 4
  have c5 := (B1.out.keep0 (gb_refl _ _)).cell 5
  have c6 := (B1.out.keep0 (gb_refl _ _)).cell 6
  have c7 := (B1.out.keep0 (gb_refl _ _)).cell 7
  have c8 := (B1.out.keep0 (gb_refl _ _)).cell 8
  dsimp at c0 c1 c2 c3 c4 c5 c6 c7 c8
  have x0 := (B2.out.keep0 (gb_refl _ _)).cell 0
  have x1 := (B2.out.keep0 (gb_refl _ _)).cell 1
  have x2 := (B2.out.keep0 (gb_refl _ _)).cell 2
  have x3 := (B2.out.keep0 (gb_refl _ _)).cell 3
  dsimp at x0 x1 x2 x3
  go_wp2_with fail
  refine (K1.out _ G1.out).mono ?_
  rintro e w2 ⟨V, rfl, o, g⟩
  have G2 := Lib.hid (gb_trans G1.out g)
  obtain ⟨a9, c9, rfl⟩ := own_shape o
  clear g o
  go_wp2
  go_ret
  exact ⟨rfl, G2.out⟩
end Go.Proofs.Ytglgjkggjpfahaa
