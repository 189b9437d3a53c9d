/- Deparser: the program: accepts, the closure of Emit, Emit, Size; no condition but sizes. -/
import Derived.Test.YtglgjkggjpfahaaDpB
import Derived.Deep.QuietTactic
import Derived.BigQuiet
import Derived.Deep.RegionWith
import Derived.StillTailTactics
namespace Go.Proofs.Ytglgjkggjpfahaa
open Go.RowKit
set_option linter.unusedVariables false
theorem below_gb {w w2 : World} (k : w.grownBy w2 none) : Below w.heap.size w w2 := ⟨k.os, k.tape, k.output, k.size, fun i hi => k.block i hi (by simp)⟩
theorem bytes_any (w : World) (base r s : Nat) (V : Value) (L : List Bool) (h : Wtr w base r s V L) (hn : L.length ≤ 60000) :
    Calls Try.prog 63 #[.pointer (some ⟨r, 0, none⟩)] w (RetEh (bytesR L).1 (bytesR L).2 w) := by
  unfold bytesR
  by_cases hm : L.length % 8 = 0
  · rw [if_pos hm]
    refine (bytes_even w base r s V L h hn hm).mono ?_
    rintro e w' ⟨v', he, g, o, _⟩
    exact ⟨v', he, g, o⟩
  · rw [if_neg hm]
    refine (bytes_odd w base r s V L h hm).mono ?_
    rintro e w' ⟨rfl, g, _⟩
    exact ⟨_, rfl, g, World.ownsRow_nil _ _ _ _⟩
theorem gb_gt {W w w2 : World} {base : Nat} (h : W.grownBy w none) (k : GTh base w w2) (h1 : W.heap.size ≤ base) : W.grownBy w2 none :=
  gb_of_below ((below_gb h).trans ⟨k.os, k.tape, k.output, k.size, fun i hi => k.low i (by have := h.size; omega) (by omega)⟩)
/-- A header in memory by its address. -/
theorem sh_hd {w : World} {a : Option Addr} {n c : Nat} {L : List (ByteArray × List Fld)} (h : SH w a n c L) (hq : ∀ x ∈ L, x.1.size ≤ 9223372036854775807 ∧ ∀ p ∈ x.2, p.1.size ≤ 9223372036854775807) (hl : ∀ x ∈ L, x.2.length ≤ 1000) {ad : Addr} (ha : a = some ad) {j : Nat} (hj : j < n) :
    ∃ fa fn fc, w.cell? (ad.add (j * 2)) = some (.string (L.getD j hz).1) ∧ w.cell? ⟨(ad.add (j * 2)).block, (ad.add (j * 2)).off + 1, none⟩ = some (.slice fa fn fc) ∧ HdOk w (L.getD j hz).1 fa fn fc (L.getD j hz).2 := by
  obtain ⟨c0, fa, fn, fc, c1, sf⟩ := h.cells ad ha j hj
  have hm : L.getD j hz ∈ L := by
    rw [List.getD_eq_getElem?_getD, List.getElem?_eq_getElem (by rw [h.len]; exact hj)]; exact List.getElem_mem _
  have q := hq _ hm
  exact ⟨fa, fn, fc, c0, c1, ⟨sf, by have := hl _ hm; rw [← sf.len]; exact this, q.2, q.1⟩⟩
/-- Sizes that suffice. -/
structure HZ (H : List (ByteArray × List Fld)) : Prop where
  nm : ∀ x ∈ H, x.1.size ≤ 9223372036854775807 ∧ ∀ p ∈ x.2, p.1.size ≤ 9223372036854775807
  fl : ∀ x ∈ H, x.2.length ≤ 1000
theorem dinv_any (w : World) (hs : ByteArray) (a : Option Addr) (n c : Nat) (L : List Fld) (h : HdOk w hs a n c L) : Calls Try.prog 90 #[.agg #[.string hs, .slice a n c]] w (RetV (.bool (chkH hs L != 0)) w) := by
  have HH := Lib.hid h
  have K := Lib.hid (fun (W : World) (q : w.grownBy W none) => check_any W hs a n c L (h.sf.keep0 q) h.few h.nm h.hn)
  unfold RetG at K
  obtain ⟨r, hr⟩ : ∃ r, r = chkH hs L := ⟨_, rfl⟩
  rw [← hr] at K ⊢
  clear hr
  have G1 := Lib.hid (gb_alloc w (.cells #[.string hs, .slice a n c] 66) none)
  have B1 := Lib.hid (IsB.new w 66 #[.string hs, .slice a n c])
  clear h
  go_enter Try.func90, Try.ntmps90
  go_upto_region 1 with fail
  generalize w.alloc (.cells #[.string hs, .slice a n c] 66) = w1 at *
  generalize w.heap.size = bx at *
  have c0 := B1.out.cell 0
  have c1 := B1.out.cell 1
  dsimp at c0 c1
  go_wp2_with fail
  refine (K.out _ G1.out).mono ?_
  rintro e w2 ⟨rfl, g⟩
  have G2 := Lib.hid (gb_trans G1.out g)
  clear g
  go_wp2
  go_ret
  exact ⟨rfl, G2.out⟩
set_option maxRecDepth 100000 in
set_option maxHeartbeats 8000000 in
theorem dif_any (w : World) (ha : Option Addr) (hn hc : Nat) (H : List (ByteArray × List Fld)) (hH : SH w ha hn hc H) (hz9 : HZ H) (hb : hn ≤ 100000) : Calls Try.prog 117 #[.slice ha hn hc, .func (.func 90) #[] #[]] w (fun e w' => ∃ i : Int, e = .returned (.int .i64 i) ∧ ((hdsOk H ∧ i = -1) ∨ (¬ hdsOk H ∧ 0 ≤ i)) ∧ w.grownBy w' none) := by
  have HH := Lib.hid hH
  have HZ9 := Lib.hid hz9
  clear hH hz9
  go_enter Try.func117, Try.ntmps117
  go_wp2
  go_loopw [8] (fun i wr => ∃ j : Nat, j ≤ hn ∧ i = .int .i64 j ∧ (∀ i, i < j → chkH (H.getD i hz).1 (H.getD i hz).2 = 0) ∧ w.grownBy wr none) (fun i _ => hn - (intOf i).toNat)
  case atStart => exact ⟨0, Nat.zero_le _, rfl, fun i hi => absurd hi (Nat.not_lt_zero _), gb_refl _ _⟩
  case round =>
    obtain ⟨j, hj, rfl, ht, hg⟩ := hrel
    have HT := Lib.hid ht
    have HG := Lib.hid hg
    clear ht hg
    by_cases hlt : j < hn
    · obtain ⟨ad, rfl⟩ := HH.out.some (by omega)
      have i1 : (j : Int) < hn := by omega
      have i0 : (0 : Int) ≤ (j : Int) := by omega
      obtain ⟨fa, fn, fc, c0, c1, ok⟩ := sh_hd (HH.out.keep0 HG.out) HZ9.out.nm HZ9.out.fl rfl hlt
      have K := Lib.hid (dinv_any wr _ fa fn fc _ ok)
      unfold RetV at K
      clear ok
      have NX := Lib.hid (show chkH (H.getD j hz).1 (H.getD j hz).2 = 0 → ∀ i, i < j + 1 → chkH (H.getD i hz).1 (H.getD i hz).2 = 0 from fun q i hi => by
        rcases (show i < j ∨ i = j by omega) with r | rfl
        · exact HT.out i r
        · exact q)
      have BD := Lib.hid (show chkH (H.getD j hz).1 (H.getD j hz).2 ≠ 0 → ¬ hdsOk H from fun q r => q (r _ (by
        rw [List.getD_eq_getElem?_getD, List.getElem?_eq_getElem (by rw [HH.out.len]; exact hlt)]; exact List.getElem_mem _)))
      generalize (H.getD j hz).1 = s0 at *
      generalize (H.getD j hz).2 = l0 at *
      generalize chkH s0 l0 = r at *
      by_cases hr : r = 0
      · have Z := Lib.hid (NX.out hr)
        have rb : (r != 0) = false := by simp [hr]
        rw [rb] at K
        clear NX BD hr rb
        go_wp2_with fail
        refine K.out.mono ?_
        rintro e w2 ⟨rfl, g⟩
        have G2 := Lib.hid (gb_trans HG.out g)
        clear g
        go_wp2
        go_roundw
        case rel => exact ⟨j + 1, by omega, by go_num, Z.out, G2.out⟩
        case measure => simp [intOf]; omega
      · have Z := Lib.hid (BD.out hr)
        have rb : (r != 0) = true := by simp [hr]
        rw [rb] at K
        clear NX BD hr rb
        go_wp2_with fail
        refine K.out.mono ?_
        rintro e w2 ⟨rfl, g⟩
        have G2 := Lib.hid (gb_trans HG.out g)
        clear g
        go_wp2
        go_ret
        exact ⟨_, rfl, .inr ⟨Z.out, by omega⟩, G2.out⟩
    · have hje : j = hn := by omega
      have R2 := Lib.hid (show hdsOk H from fun x hx => by
        obtain ⟨i, hi, rfl⟩ := List.mem_iff_getElem.1 hx
        have q := HT.out i (by rw [hje, ← HH.out.len]; exact hi)
        rw [List.getD_eq_getElem?_getD, List.getElem?_eq_getElem hi] at q
        exact q)
      have i1 : ¬ (j : Int) < hn := by omega
      go_wp2
      go_ret
      exact ⟨_, rfl, .inl ⟨R2.out, rfl⟩, HG.out⟩
theorem dcf_any (w : World) (ha : Option Addr) (hn hc : Nat) (H : List (ByteArray × List Fld)) (hH : SH w ha hn hc H) (hz9 : HZ H) (hb : hn ≤ 100000) (bo : Bool) (hbo : bo = true ↔ ¬ hdsOk H) : Calls Try.prog 89 #[.slice ha hn hc, .func (.func 90) #[] #[]] w (RetV (.bool bo) w) := by
  have HBO := Lib.hid hbo
  have IX := Lib.hid (dif_any w ha hn hc H hH hz9 hb)
  clear hH hz9 hbo
  go_enter Try.func89, Try.ntmps89
  go_wp2_with fail
  refine IX.out.mono ?_
  rintro e w3 ⟨i, rfl, hi, g3⟩
  have G3 := Lib.hid g3
  clear g3
  rcases hi with ⟨ho, rfl⟩ | ⟨ho, h0⟩
  · obtain rfl : bo = false := by cases bo with
      | false => rfl
      | true => exact absurd ho (HBO.out.1 rfl)
    clear ho
    go_wp2
    go_ret
    exact ⟨rfl, G3.out⟩
  · obtain rfl : bo = true := HBO.out.2 ho
    clear ho
    go_wp2
    go_ret
    exact ⟨rfl, G3.out⟩
/-- Sizes that suffice for Emit. -/
structure PZ (hn : Nat) (H : List (ByteArray × List Fld)) (M : List Fld) (X : EX) (L : EL) : Prop where
  h : HZ H
  n : hn ≤ 100000
  m : ∀ j, ((dclL H M).getD j []).length ≤ 100000
  f : X.fn ≤ 5864062014634
  e : shP H M L → EZ X L
  p : X.pn ≤ 100000
set_option maxRecDepth 100000 in
set_option maxHeartbeats 8000000 in
theorem dacc_any (w : World) (nm v3 v4 v5 v6 v7 : Value) (ha ma da : Option Addr) (hn hc mn mc dn dc : Nat) (va fa ta pa : Option Addr) (vn vc fn fc tn tc pn pc : Nat) (H : List (ByteArray × List Fld)) (M : List Fld) (D : List Int) (L : EL) (hH : SH w ha hn hc H) (hM : SF w ma mn mc M) (hD : SI w da dn dc D) (he : ER w ⟨va, fa, ta, pa, vn, vc, fn, fc, tn, tc, pn, pc⟩ L) (z : PZ hn H M ⟨va, fa, ta, pa, vn, vc, fn, fc, tn, tc, pn, pc⟩ L) (bo : Bool) (hbo : bo = true ↔ dcOk hn D ∧ hdsOk H ∧ envOk H M L) : Calls Try.prog 59 #[.agg #[nm, .slice ha hn hc, .slice ma mn mc, v3, v4, v5, v6, v7, .slice da dn dc], .agg #[.slice va vn vc, .slice fa fn fc, .slice ta tn tc, .slice pa pn pc]] w (RetV (.bool bo) w) := by
  obtain ⟨b2, hb2⟩ : ∃ b : Bool, b = true ↔ ¬ hdsOk H := by
    by_cases h : hdsOk H
    · exact ⟨false, ⟨(fun q => by cases q), fun q => absurd h q⟩⟩
    · exact ⟨true, ⟨fun _ => h, fun _ => rfl⟩⟩
  obtain ⟨a, e, hdc⟩ := dc_ex hn D
  obtain ⟨r, hr⟩ := chkE_ex H M L
  have K1 := Lib.hid (fun (W : World) (q : w.grownBy W none) => dcheck_any W nm v3 v4 v5 v6 v7 ha ma da hn hc mn mc dn dc D (hD.keep0 q) a e hdc)
  have K2 := Lib.hid (fun (W : World) (q : w.grownBy W none) => dcf_any W ha hn hc H (hH.keep0 q) z.h z.n b2 hb2)
  have HB2 := Lib.hid hb2
  have K3 := Lib.hid (fun (W : World) (q : w.grownBy W none) => echeck_any W nm v3 v4 v5 v6 v7 (.slice da dn dc) ha ma hn hc mn mc H M (hH.keep0 q) (hM.keep0 q) ⟨va, fa, ta, pa, vn, vc, fn, fc, tn, tc, pn, pc⟩ L (he.keep0 q) z.f z.e z.n z.m r hr)
  dsimp only at K3
  unfold RetV at K1 K2 K3
  have HBO := Lib.hid hbo
  have DO := Lib.hid hdc.ok
  have EO := Lib.hid (chkE_ok hr)
  have G1 := Lib.hid (gb_trans (gb_alloc w (.cells #[nm, .slice ha hn hc, .slice ma mn mc, v3, v4, v5, v6, v7, .slice da dn dc] 31) none) (gb_alloc _ (.cells #[.slice va vn vc, .slice fa fn fc, .slice ta tn tc, .slice pa pn pc] 42) none))
  have B1 := (IsB.new w 31 #[nm, .slice ha hn hc, .slice ma mn mc, v3, v4, v5, v6, v7, .slice da dn dc]).alloc (.cells #[.slice va vn vc, .slice fa fn fc, .slice ta tn tc, .slice pa pn pc] 42)
  have B2 := IsB.new (w.alloc (.cells #[nm, .slice ha hn hc, .slice ma mn mc, v3, v4, v5, v6, v7, .slice da dn dc] 31)) 42 #[.slice va vn vc, .slice fa fn fc, .slice ta tn tc, .slice pa pn pc]
  simp only [sz_al] at B2
  replace B1 := Lib.hid B1
  replace B2 := Lib.hid B2
  clear hH hM hD he z hdc hr hbo hb2
  go_enter Try.func59, Try.ntmps59
  go_upto_region 1 with fail
  generalize (w.alloc (.cells #[nm, .slice ha hn hc, .slice ma mn mc, v3, v4, v5, v6, v7, .slice da dn dc] 31)).alloc (.cells #[.slice va vn vc, .slice fa fn fc, .slice ta tn tc, .slice pa pn pc] 42) = w1 at *
  obtain ⟨bx, hbx⟩ : ∃ b, b = w.heap.size := ⟨_, rfl⟩
  have Lbx := Lib.hid (show w.heap.size ≤ bx by rw [hbx]; exact Nat.le_refl _)
  rw [← hbx] at B1 B2 ⊢
  clear hbx
  have c0 := (B1.out.keep0 (gb_refl _ _)).cell 0
  have c1 := (B1.out.keep0 (gb_refl _ _)).cell 1
  have c2 := (B1.out.keep0 (gb_refl _ _)).cell 2
  have c3 := (B1.out.keep0 (gb_refl _ _)).cell 3
  have c4 := (B1.out.keep0 (gb_refl _ _)).cell 4
  have c5 := (B1.out.keep0 (gb_refl _ _)).cell 5
  have c6 := (B1.out.keep0 (gb_refl _ _)).cell 6
  have c7 := (B1.out.keep0 (gb_refl _ _)).cell 7
  have c8 := (B1.out.keep0 (gb_refl _ _)).cell 8
  dsimp at c0 c1 c2 c3 c4 c5 c6 c7 c8
  have x0 := (B2.out.keep0 (gb_refl _ _)).cell 0
  have x1 := (B2.out.keep0 (gb_refl _ _)).cell 1
  have x2 := (B2.out.keep0 (gb_refl _ _)).cell 2
  have x3 := (B2.out.keep0 (gb_refl _ _)).cell 3
  dsimp at x0 x1 x2 x3
  go_upto_region 2 with (go_at_call 32; refine (K1.out _ G1.out).mono ?_; rintro e9 w2 ⟨rfl, g⟩; have G2 := Lib.hid g; clear g)
  clear c0 c1 c2 c3 c4 c5 c6 c7 c8 x0 x1 x2 x3
  have c0 := (B1.out.keep0 G2.out).cell 0
  have c1 := (B1.out.keep0 G2.out).cell 1
  have c2 := (B1.out.keep0 G2.out).cell 2
  have c3 := (B1.out.keep0 G2.out).cell 3
  have c4 := (B1.out.keep0 G2.out).cell 4
  have c5 := (B1.out.keep0 G2.out).cell 5
  have c6 := (B1.out.keep0 G2.out).cell 6
  have c7 := (B1.out.keep0 G2.out).cell 7
  have c8 := (B1.out.keep0 G2.out).cell 8
  dsimp at c0 c1 c2 c3 c4 c5 c6 c7 c8
  have x0 := (B2.out.keep0 G2.out).cell 0
  have x1 := (B2.out.keep0 G2.out).cell 1
  have x2 := (B2.out.keep0 G2.out).cell 2
  have x3 := (B2.out.keep0 G2.out).cell 3
  dsimp at x0 x1 x2 x3
  by_cases h0 : e = 0
  · have e0 : (e == 0) = true := by simp [h0]
    have P1 := Lib.hid (DO.out.1 h0)
    clear h0
    cases b2
    · have P2 := Lib.hid (Classical.not_not.1 (fun q => by have := HB2.out.2 q; cases this))
      by_cases hr0 : r = 0
      · have r0 : (r == 0) = true := by simp [hr0]
        have P3 := Lib.hid (EO.out.1 hr0)
        clear hr0
        obtain rfl : bo = true := HBO.out.2 ⟨P1.out, P2.out, P3.out⟩
        go_wp2_with fail
        refine (K2.out _ (gb_trans G1.out G2.out)).mono ?_
        rintro e9 w3 ⟨rfl, g⟩
        have G3 := Lib.hid (gb_trans G2.out g)
        clear g
        clear c0 c1 c2 c3 c4 c5 c6 c7 c8 x0 x1 x2 x3
        have c0 := (B1.out.keep0 G3.out).cell 0
        have c1 := (B1.out.keep0 G3.out).cell 1
        have c2 := (B1.out.keep0 G3.out).cell 2
        have c3 := (B1.out.keep0 G3.out).cell 3
        have c4 := (B1.out.keep0 G3.out).cell 4
        have c5 := (B1.out.keep0 G3.out).cell 5
        have c6 := (B1.out.keep0 G3.out).cell 6
        have c7 := (B1.out.keep0 G3.out).cell 7
        have c8 := (B1.out.keep0 G3.out).cell 8
        dsimp at c0 c1 c2 c3 c4 c5 c6 c7 c8
        have x0 := (B2.out.keep0 G3.out).cell 0
        have x1 := (B2.out.keep0 G3.out).cell 1
        have x2 := (B2.out.keep0 G3.out).cell 2
        have x3 := (B2.out.keep0 G3.out).cell 3
        dsimp at x0 x1 x2 x3
        go_wp2_with fail
        refine (K3.out _ (gb_trans G1.out G3.out)).mono ?_
        rintro e9 w4 ⟨rfl, g⟩
        have G4 := Lib.hid (gb_trans G3.out g)
        clear g
        go_wp2
        go_ret
        exact ⟨rfl, gb_trans G1.out G4.out⟩
      · have r0 : (r == 0) = false := by simp [hr0]
        have P3 := Lib.hid (fun q => hr0 (EO.out.2 q))
        clear hr0
        obtain rfl : bo = false := by cases bo with
          | false => rfl
          | true => exact absurd (HBO.out.1 rfl).2.2 P3.out
        go_wp2_with fail
        refine (K2.out _ (gb_trans G1.out G2.out)).mono ?_
        rintro e9 w3 ⟨rfl, g⟩
        have G3 := Lib.hid (gb_trans G2.out g)
        clear g
        clear c0 c1 c2 c3 c4 c5 c6 c7 c8 x0 x1 x2 x3
        have c0 := (B1.out.keep0 G3.out).cell 0
        have c1 := (B1.out.keep0 G3.out).cell 1
        have c2 := (B1.out.keep0 G3.out).cell 2
        have c3 := (B1.out.keep0 G3.out).cell 3
        have c4 := (B1.out.keep0 G3.out).cell 4
        have c5 := (B1.out.keep0 G3.out).cell 5
        have c6 := (B1.out.keep0 G3.out).cell 6
        have c7 := (B1.out.keep0 G3.out).cell 7
        have c8 := (B1.out.keep0 G3.out).cell 8
        dsimp at c0 c1 c2 c3 c4 c5 c6 c7 c8
        have x0 := (B2.out.keep0 G3.out).cell 0
        have x1 := (B2.out.keep0 G3.out).cell 1
        have x2 := (B2.out.keep0 G3.out).cell 2
        have x3 := (B2.out.keep0 G3.out).cell 3
        dsimp at x0 x1 x2 x3
        go_wp2_with fail
        refine (K3.out _ (gb_trans G1.out G3.out)).mono ?_
        rintro e9 w4 ⟨rfl, g⟩
        have G4 := Lib.hid (gb_trans G3.out g)
        clear g
        go_wp2
        go_ret
        exact ⟨rfl, gb_trans G1.out G4.out⟩
    · have P2 := Lib.hid (HB2.out.1 rfl)
      obtain rfl : bo = false := by cases bo with
        | false => rfl
        | true => exact absurd (HBO.out.1 rfl).2.1 P2.out
      go_wp2_with fail
      refine (K2.out _ (gb_trans G1.out G2.out)).mono ?_
      rintro e9 w3 ⟨rfl, g⟩
      have G3 := Lib.hid (gb_trans G2.out g)
      clear g
      clear c0 c1 c2 c3 c4 c5 c6 c7 c8 x0 x1 x2 x3
      have c0 := (B1.out.keep0 G3.out).cell 0
      have c1 := (B1.out.keep0 G3.out).cell 1
      have c2 := (B1.out.keep0 G3.out).cell 2
      have c3 := (B1.out.keep0 G3.out).cell 3
      have c4 := (B1.out.keep0 G3.out).cell 4
      have c5 := (B1.out.keep0 G3.out).cell 5
      have c6 := (B1.out.keep0 G3.out).cell 6
      have c7 := (B1.out.keep0 G3.out).cell 7
      have c8 := (B1.out.keep0 G3.out).cell 8
      dsimp at c0 c1 c2 c3 c4 c5 c6 c7 c8
      have x0 := (B2.out.keep0 G3.out).cell 0
      have x1 := (B2.out.keep0 G3.out).cell 1
      have x2 := (B2.out.keep0 G3.out).cell 2
      have x3 := (B2.out.keep0 G3.out).cell 3
      dsimp at x0 x1 x2 x3
      go_wp2
      go_ret
      exact ⟨rfl, gb_trans G1.out G3.out⟩
  · have e0 : (e == 0) = false := by simp [h0]
    have P1 := Lib.hid (fun q => h0 (DO.out.2 q))
    clear h0
    obtain rfl : bo = false := by cases bo with
      | false => rfl
      | true => exact absurd (HBO.out.1 rfl).1 P1.out
    go_wp2
    go_ret
    exact ⟨rfl, gb_trans G1.out G2.out⟩
end Go.Proofs.Ytglgjkggjpfahaa
