/- Deparser: small and right; no condition. -/
import Derived.Test.YtglgjkggjpfahaaDpD
import Derived.BigQuiet
namespace Go.Proofs.Ytglgjkggjpfahaa
open Go.RowKit
set_option linter.unusedVariables false
/-- What a law asks of a program's sizes. -/
structure DZ (hn mn dn : Nat) (H : List (ByteArray × List Fld)) : Prop where
  h : hn ≤ 20
  d : dn ≤ 40
  m : mn ≤ 40
  f : ∀ x ∈ H, x.2.length ≤ 40
set_option maxRecDepth 100000 in
set_option maxHeartbeats 8000000 in
theorem dsmall_any (w : World) (nm v3 v4 v5 v6 v7 : Value) (ha ma da : Option Addr) (hn hc mn mc dn dc : Nat) (H : List (ByteArray × List Fld)) (hH : SH w ha hn hc H) (bo : Bool) (hbo : bo = true ↔ DZ hn mn dn H) : Calls Try.prog 30 #[.agg #[nm, .slice ha hn hc, .slice ma mn mc, v3, v4, v5, v6, v7, .slice da dn dc]] w (RetV (.bool bo) w) := by
  have HH := Lib.hid hH
  have HBO := Lib.hid hbo
  have NO := Lib.hid (show ¬ DZ hn mn dn H → bo = false from fun q => by
    cases bo with
    | false => rfl
    | true => exact absurd (hbo.1 rfl) q)
  have G1 := Lib.hid (gb_alloc w (.cells #[nm, .slice ha hn hc, .slice ma mn mc, v3, v4, v5, v6, v7, .slice da dn dc] 31) none)
  have B1 := IsB.new w 31 #[nm, .slice ha hn hc, .slice ma mn mc, v3, v4, v5, v6, v7, .slice da dn dc]
  replace B1 := Lib.hid B1
  clear hH hbo
  go_enter Try.func30, Try.ntmps30
  go_upto_region 1 with fail
  generalize w.alloc (.cells #[nm, .slice ha hn hc, .slice ma mn mc, v3, v4, v5, v6, v7, .slice da dn dc] 31) = w1 at *
  obtain ⟨bx, hbx⟩ : ∃ b, b = w.heap.size := ⟨_, rfl⟩
  have Lbx := Lib.hid (show w.heap.size ≤ bx by rw [hbx]; exact Nat.le_refl _)
  rw [← hbx] at B1 ⊢
  clear hbx
  have c0 := (B1.out.keep0 (gb_refl _ _)).cell 0
  have c1 := (B1.out.keep0 (gb_refl _ _)).cell 1
  have c2 := (B1.out.keep0 (gb_refl _ _)).cell 2
  have c3 := (B1.out.keep0 (gb_refl _ _)).cell 3
  have c4 := (B1.out.keep0 (gb_refl _ _)).cell 4
  have c5 := (B1.out.keep0 (gb_refl _ _)).cell 5
  have c6 := (B1.out.keep0 (gb_refl _ _)).cell 6
  have c7 := (B1.out.keep0 (gb_refl _ _)).cell 7
  have c8 := (B1.out.keep0 (gb_refl _ _)).cell 8
  dsimp at c0 c1 c2 c3 c4 c5 c6 c7 c8
  by_cases h1 : hn ≤ 20
  case neg =>
    obtain rfl : bo = false := NO.out (fun q => h1 q.h)
    have i1 : decide ((20 : Int) < hn) = true := decide_eq_true (by omega)
    go_wp2
    go_ret
    exact ⟨rfl, G1.out⟩
  have i1 : decide ((20 : Int) < hn) = false := decide_eq_false (by omega)
  by_cases h2 : dn ≤ 40
  case neg =>
    obtain rfl : bo = false := NO.out (fun q => h2 q.d)
    have i2 : decide ((40 : Int) < dn) = true := decide_eq_true (by omega)
    go_wp2
    go_ret
    exact ⟨rfl, G1.out⟩
  have i2 : decide ((40 : Int) < dn) = false := decide_eq_false (by omega)
  by_cases h3 : mn ≤ 40
  case neg =>
    obtain rfl : bo = false := NO.out (fun q => h3 q.m)
    have i3 : decide ((40 : Int) < mn) = true := decide_eq_true (by omega)
    go_wp2
    go_ret
    exact ⟨rfl, G1.out⟩
  have i3 : decide ((40 : Int) < mn) = false := decide_eq_false (by omega)
  go_wp2
  clear i1 i2 i3
  clear c0 c1 c2 c3 c4 c5 c6 c7 c8
  go_loopw [3] (fun i wr => ∃ k : Nat, k ≤ hn ∧ i = .int .i64 k ∧ (∀ i, i < k → (H.getD i hz).2.length ≤ 40) ∧ w1.grownBy wr none) (fun i _ => hn - (intOf i).toNat)
  case atStart => exact ⟨0, Nat.zero_le _, rfl, fun i hi => absurd hi (Nat.not_lt_zero _), gb_refl _ _⟩
  case round =>
    obtain ⟨k, hk, rfl, ht, hg⟩ := hrel
    have HT := Lib.hid ht
    have HG := Lib.hid hg
    clear ht hg
    have c0 := (B1.out.keep0 HG.out).cell 0
    have c1 := (B1.out.keep0 HG.out).cell 1
    have c2 := (B1.out.keep0 HG.out).cell 2
    have c3 := (B1.out.keep0 HG.out).cell 3
    have c4 := (B1.out.keep0 HG.out).cell 4
    have c5 := (B1.out.keep0 HG.out).cell 5
    have c6 := (B1.out.keep0 HG.out).cell 6
    have c7 := (B1.out.keep0 HG.out).cell 7
    have c8 := (B1.out.keep0 HG.out).cell 8
    dsimp at c0 c1 c2 c3 c4 c5 c6 c7 c8
    by_cases hlt : k < hn
    · obtain ⟨ad, rfl⟩ := HH.out.some (by omega)
      have j1 : (k : Int) < hn := by omega
      have j0 : (0 : Int) ≤ (k : Int) := by omega
      have hw1 : IntKind.i64.wrap ((k : Int) + 1) = ((k + 1 : Nat) : Int) := by rw [IntKind.wrap_i64]; omega
      obtain ⟨d0, fa, fn, fc, d1, sf⟩ := (HH.out.keep0 (gb_trans G1.out HG.out)).cells ad rfl k hlt
      have LF := Lib.hid sf.len
      clear sf d0
      have MM := Lib.hid (show H.getD k hz ∈ H by rw [List.getD_eq_getElem?_getD, List.getElem?_eq_getElem (by rw [HH.out.len]; exact hlt)]; exact List.getElem_mem _)
      by_cases hf : fn ≤ 40
      · have i1 : ¬ (40 : Int) < fn := by omega
        have NX := Lib.hid (show ∀ i, i < k + 1 → (H.getD i hz).2.length ≤ 40 from fun i hi => by
          rcases (show i < k ∨ i = k by omega) with r | rfl
          · exact HT.out i r
          · rw [LF.out]; exact hf)
        go_wp2
        go_roundw
        case rel => exact ⟨k + 1, by omega, by go_num, NX.out, HG.out⟩
        case measure => simp [intOf]; omega
      · have i1 : (40 : Int) < fn := by omega
        obtain rfl : bo = false := NO.out (fun q => by have := q.f _ MM.out; rw [LF.out] at this; omega)
        go_wp2
        go_ret
        exact ⟨rfl, gb_trans G1.out HG.out⟩
    · have hke : k = hn := by omega
      have j1 : ¬ (k : Int) < hn := by omega
      obtain rfl : bo = true := HBO.out.2 ⟨h1, h2, h3, fun x hx => by
        obtain ⟨i, hi, rfl⟩ := List.mem_iff_getElem.1 hx
        have q := HT.out i (by rw [hke, ← HH.out.len]; exact hi)
        rw [List.getD_eq_getElem?_getD, List.getElem?_eq_getElem hi] at q
        exact q⟩
      go_wp2
      go_ret
      exact ⟨rfl, gb_trans G1.out HG.out⟩
/-- What 'right' asks: sizes, and that all is valid. -/
structure RG (hn mn dn pn : Nat) (H : List (ByteArray × List Fld)) (M : List Fld) (D : List Int) (L : EL) : Prop where
  z : DZ hn mn dn H
  p : pn ≤ 2000
  e : envOk H M L
  h : hdsOk H
  d : dcOk hn D
theorem RG.pz {w : World} {ha ma va fa ta pa : Option Addr} {hn hc mn mc dn vn vc fn fc tn tc pn pc : Nat} {H : List (ByteArray × List Fld)} {M : List Fld} {D : List Int} {L : EL} (h : RG hn mn dn pn H M D L) (hH : SH w ha hn hc H) (hM : SF w ma mn mc M) (he : ER w ⟨va, fa, ta, pa, vn, vc, fn, fc, tn, tc, pn, pc⟩ L) (hnm : ∀ x ∈ H, x.1.size ≤ 9223372036854775807 ∧ ∀ p ∈ x.2, p.1.size ≤ 9223372036854775807) :
    PZ hn H M ⟨va, fa, ta, pa, vn, vc, fn, fc, tn, tc, pn, pc⟩ L := by
  obtain ⟨s1, s2, s3, s4⟩ := (shP_iff H M L).1 h.e.1
  have l1 := he.v.len; have l2 := he.f.len; have l3 := he.t.len; have l4 := he.p.len; have l5 := hH.len; have l6 := hM.len
  have z1 := h.z.h; have z2 := h.z.m; have z3 := h.p
  dsimp only at l1 l2 l3 l4
  have fl : ∀ j, (H.getD j hz).2.length ≤ 40 := fun j => by
    by_cases hj : j < H.length
    · rw [List.getD_eq_getElem?_getD, List.getElem?_eq_getElem hj]; exact h.z.f _ (List.getElem_mem _)
    · rw [List.getD_eq_getElem?_getD, List.getElem?_eq_none (by omega)]; exact Nat.zero_le _
  refine ⟨⟨hnm, fun x hx => by have := h.z.f x hx; omega⟩, by omega, fun j => ?_, by show fn ≤ _; omega, fun _ => ⟨by show vn ≤ 100000; omega, by show fn ≤ 100000; omega, by show tn ≤ 100000; omega, by show pn ≤ 100000; omega, fun j => ?_⟩, by show pn ≤ 100000; omega⟩
  · cases j with
    | zero => simp [dclL]; omega
    | succ i =>
      by_cases hi : i < H.length
      · have q := fl i
        have e : (dclL H M).getD (i + 1) [] = (H.getD i hz).2 := by simp [dclL, hi]
        rw [e]; omega
      · simp [dclL, hi]
  · by_cases hj : j < H.length
    · rw [s4 j hj]; have := fl j; omega
    · rw [List.getD_eq_getElem?_getD, List.getElem?_eq_none (by omega)]; exact Nat.zero_le _
set_option maxRecDepth 100000 in
set_option maxHeartbeats 8000000 in
theorem dright_any (w : World) (nm v3 v4 v5 v6 v7 : Value) (ha ma da : Option Addr) (hn hc mn mc dn dc : Nat) (va fa ta pa : Option Addr) (vn vc fn fc tn tc pn pc : Nat) (H : List (ByteArray × List Fld)) (M : List Fld) (D : List Int) (L : EL) (hH : SH w ha hn hc H) (hM : SF w ma mn mc M) (hD : SI w da dn dc D) (he : ER w ⟨va, fa, ta, pa, vn, vc, fn, fc, tn, tc, pn, pc⟩ L) (hnm : ∀ x ∈ H, x.1.size ≤ 9223372036854775807 ∧ ∀ p ∈ x.2, p.1.size ≤ 9223372036854775807) : Calls Try.prog 38 #[.agg #[nm, .slice ha hn hc, .slice ma mn mc, v3, v4, v5, v6, v7, .slice da dn dc], .agg #[.slice va vn vc, .slice fa fn fc, .slice ta tn tc, .slice pa pn pc]] w (fun e w' => ∃ b : Bool, e = .returned (.bool b) ∧ w.grownBy w' none ∧ (b = true → RG hn mn dn pn H M D L)) := by
  obtain ⟨a, e, hdc⟩ := dc_ex hn D
  obtain ⟨r, hr⟩ := chkE_ex H M L
  obtain ⟨b1, hb1⟩ : ∃ b : Bool, b = true ↔ DZ hn mn dn H := by
    by_cases h : DZ hn mn dn H
    · exact ⟨true, ⟨fun _ => h, fun _ => rfl⟩⟩
    · exact ⟨false, ⟨(fun q => by cases q), fun q => absurd q h⟩⟩
  have HB1 := Lib.hid hb1
  have S0 := Lib.hid (⟨hH, hM, hD, he⟩ : SH w ha hn hc H ∧ SF w ma mn mc M ∧ SI w da dn dc D ∧ ER w ⟨va, fa, ta, pa, vn, vc, fn, fc, tn, tc, pn, pc⟩ L)
  have NM := Lib.hid hnm
  have DO := Lib.hid hdc.ok
  have EO := Lib.hid (chkE_ok hr)
  have K1 := Lib.hid (fun (W : World) (q : w.grownBy W none) => dsmall_any W nm v3 v4 v5 v6 v7 ha ma da hn hc mn mc dn dc H (hH.keep0 q) b1 hb1)
  have K2 := Lib.hid (fun (z : DZ hn mn dn H) (zp : pn ≤ 2000) (W : World) (q : w.grownBy W none) => rcheck_c W nm v3 v4 v5 v6 v7 (.slice da dn dc) ha ma hn hc mn mc H M (hH.keep0 q) (hM.keep0 q) va fa ta pa vn vc fn fc tn tc pn pc L (he.v.keep0 q) (he.f.keep0 q) (he.t.keep0 q) (by have := z.h; omega) (fun sp => by
    obtain ⟨s1, s2, s3, s4⟩ := (shP_iff H M L).1 sp
    have l2 := he.f.len; have l3 := he.t.len; have l5 := hH.len; have l6 := hM.len
    dsimp only at l2 l3
    have := z.h; have := z.m
    refine ⟨by omega, by omega, fun j => ?_⟩
    by_cases hj : j < H.length
    · rw [s4 j hj, List.getD_eq_getElem?_getD, List.getElem?_eq_getElem hj]; have := z.f _ (List.getElem_mem hj); simp; omega
    · rw [List.getD_eq_getElem?_getD, List.getElem?_eq_none (by omega)]; exact Nat.zero_le _) r hr)
  have K3 := Lib.hid (fun (z : hn ≤ 100000) (W : World) (q : w.grownBy W none) => rdcheck_any W nm v3 v4 v5 v6 v7 ha ma da hn hc mn mc dn dc D (hD.keep0 q) z a e hdc)
  unfold RetV at K1 K2 K3
  have G1 := Lib.hid (gb_trans (gb_alloc w (.cells #[nm, .slice ha hn hc, .slice ma mn mc, v3, v4, v5, v6, v7, .slice da dn dc] 31) none) (gb_alloc _ (.cells #[.slice va vn vc, .slice fa fn fc, .slice ta tn tc, .slice pa pn pc] 42) none))
  have B1 := (IsB.new w 31 #[nm, .slice ha hn hc, .slice ma mn mc, v3, v4, v5, v6, v7, .slice da dn dc]).alloc (.cells #[.slice va vn vc, .slice fa fn fc, .slice ta tn tc, .slice pa pn pc] 42)
  have B2 := IsB.new (w.alloc (.cells #[nm, .slice ha hn hc, .slice ma mn mc, v3, v4, v5, v6, v7, .slice da dn dc] 31)) 42 #[.slice va vn vc, .slice fa fn fc, .slice ta tn tc, .slice pa pn pc]
  simp only [sz_al] at B2
  replace B1 := Lib.hid B1
  replace B2 := Lib.hid B2
  clear hH hM hD he hdc hr hb1 hnm
  go_enter Try.func38, Try.ntmps38
  go_upto_region 1 with fail
  generalize (w.alloc (.cells #[nm, .slice ha hn hc, .slice ma mn mc, v3, v4, v5, v6, v7, .slice da dn dc] 31)).alloc (.cells #[.slice va vn vc, .slice fa fn fc, .slice ta tn tc, .slice pa pn pc] 42) = w1 at *
  obtain ⟨bx, hbx⟩ : ∃ b, b = w.heap.size := ⟨_, rfl⟩
  have Lbx := Lib.hid (show w.heap.size ≤ bx by rw [hbx]; exact Nat.le_refl _)
  rw [← hbx] at B1 B2 ⊢
  clear hbx
  have c0 := (B1.out.keep0 (gb_refl _ _)).cell 0
  have c1 := (B1.out.keep0 (gb_refl _ _)).cell 1
  have c2 := (B1.out.keep0 (gb_refl _ _)).cell 2
  have c3 := (B1.out.keep0 (gb_refl _ _)).cell 3
  have c4 := (B1.out.keep0 (gb_refl _ _)).cell 4
  have c5 := (B1.out.keep0 (gb_refl _ _)).cell 5
  have c6 := (B1.out.keep0 (gb_refl _ _)).cell 6
  have c7 := (B1.out.keep0 (gb_refl _ _)).cell 7
  have c8 := (B1.out.keep0 (gb_refl _ _)).cell 8
  dsimp at c0 c1 c2 c3 c4 c5 c6 c7 c8
  have x0 := (B2.out.keep0 (gb_refl _ _)).cell 0
  have x1 := (B2.out.keep0 (gb_refl _ _)).cell 1
  have x2 := (B2.out.keep0 (gb_refl _ _)).cell 2
  have x3 := (B2.out.keep0 (gb_refl _ _)).cell 3
  dsimp at x0 x1 x2 x3
  go_wp2_with fail
  refine (K1.out _ G1.out).mono ?_
  rintro e9 w2 ⟨rfl, g⟩
  have G2 := Lib.hid g
  clear g
  clear c0 c1 c2 c3 c4 c5 c6 c7 c8 x0 x1 x2 x3
  cases b1
  · go_wp2
    go_ret
    exact ⟨_, rfl, gb_trans G1.out G2.out, fun q => by cases q⟩
  have Z1 := Lib.hid (HB1.out.1 rfl)
  have c0 := (B1.out.keep0 G2.out).cell 0
  have c1 := (B1.out.keep0 G2.out).cell 1
  have c2 := (B1.out.keep0 G2.out).cell 2
  have c3 := (B1.out.keep0 G2.out).cell 3
  have c4 := (B1.out.keep0 G2.out).cell 4
  have c5 := (B1.out.keep0 G2.out).cell 5
  have c6 := (B1.out.keep0 G2.out).cell 6
  have c7 := (B1.out.keep0 G2.out).cell 7
  have c8 := (B1.out.keep0 G2.out).cell 8
  dsimp at c0 c1 c2 c3 c4 c5 c6 c7 c8
  have x0 := (B2.out.keep0 G2.out).cell 0
  have x1 := (B2.out.keep0 G2.out).cell 1
  have x2 := (B2.out.keep0 G2.out).cell 2
  have x3 := (B2.out.keep0 G2.out).cell 3
  dsimp at x0 x1 x2 x3
  by_cases hp : pn ≤ 2000
  case neg =>
    have i1 : decide ((2000 : Int) < pn) = true := decide_eq_true (by omega)
    go_wp2
    go_ret
    exact ⟨_, rfl, gb_trans G1.out G2.out, fun q => by cases q⟩

  have i1 : decide ((2000 : Int) < pn) = false := decide_eq_false (by omega)
  go_wp2_with fail
  refine (K2.out Z1.out hp _ (gb_trans G1.out G2.out)).mono ?_
  rintro e9 w3 ⟨rfl, g⟩
  have G3 := Lib.hid (gb_trans G2.out g)
  clear g
  clear c0 c1 c2 c3 c4 c5 c6 c7 c8 x0 x1 x2 x3
  by_cases hr0 : r = 0
  case neg =>
    have r0 : (r != 0) = true := by simp [hr0]
    go_wp2
    go_ret
    exact ⟨_, rfl, gb_trans G1.out G3.out, fun q => by cases q⟩

  have r0 : (r != 0) = false := by simp [hr0]
  have EOK := Lib.hid (EO.out.1 hr0)
  clear hr0
  go_wp2
  clear r0 i1
  go_loopw [5] (fun i wr => ∃ k : Nat, k ≤ hn ∧ i = .int .i64 k ∧ (∀ i, i < k → chkH (H.getD i hz).1 (H.getD i hz).2 = 0) ∧ w3.grownBy wr none) (fun i _ => hn - (intOf i).toNat)
  case atStart => exact ⟨0, Nat.zero_le _, rfl, fun i hi => absurd hi (Nat.not_lt_zero _), gb_refl _ _⟩
  case round =>
    obtain ⟨k, hk, rfl, ht, hg⟩ := hrel
    have HT := Lib.hid ht
    have HG := Lib.hid (gb_trans G3.out hg)
    have HG0 := Lib.hid hg
    clear ht hg
    have c0 := (B1.out.keep0 HG.out).cell 0
    have c1 := (B1.out.keep0 HG.out).cell 1
    have c2 := (B1.out.keep0 HG.out).cell 2
    have c3 := (B1.out.keep0 HG.out).cell 3
    have c4 := (B1.out.keep0 HG.out).cell 4
    have c5 := (B1.out.keep0 HG.out).cell 5
    have c6 := (B1.out.keep0 HG.out).cell 6
    have c7 := (B1.out.keep0 HG.out).cell 7
    have c8 := (B1.out.keep0 HG.out).cell 8
    dsimp at c0 c1 c2 c3 c4 c5 c6 c7 c8
    by_cases hlt : k < hn
    · obtain ⟨ad, had⟩ := S0.out.1.some (by omega)
      subst had
      have j1 : (k : Int) < hn := by omega
      have j0 : (0 : Int) ≤ (k : Int) := by omega
      have hw1 : IntKind.i64.wrap ((k : Int) + 1) = ((k + 1 : Nat) : Int) := by have := Z1.out.h; rw [IntKind.wrap_i64]; omega
      obtain ⟨ya, yn, yc, d0, d1, ok⟩ := sh_hd (S0.out.1.keep0 (gb_trans G1.out HG.out)) NM.out (fun x hx => by have := Z1.out.f x hx; omega) rfl hlt
      have K := Lib.hid (rcheck_any wr _ ya yn yc _ ok.sf ok.few ok.nm ok.hn)
      unfold RetG at K
      clear ok
      have NX := Lib.hid (show chkH (H.getD k hz).1 (H.getD k hz).2 = 0 → ∀ i, i < k + 1 → chkH (H.getD i hz).1 (H.getD i hz).2 = 0 from fun q i hi => by
        rcases (show i < k ∨ i = k by omega) with r | rfl
        · exact HT.out i r
        · exact q)
      generalize (H.getD k hz).1 = s0 at *
      generalize (H.getD k hz).2 = l0 at *
      generalize chkH s0 l0 = r2 at *
      go_wp2_with fail
      refine K.out.mono ?_
      rintro e9 w4 ⟨rfl, g⟩
      have G4 := Lib.hid (gb_trans HG.out g)
      have G40 := Lib.hid (gb_trans HG0.out g)
      clear g
      by_cases hr2 : r2 = 0
      · have q0 : (r2 != 0) = false := by simp [hr2]
        have Z := Lib.hid (NX.out hr2)
        clear hr2
        go_wp2
        go_roundw
        case rel => exact ⟨k + 1, by omega, by go_num, Z.out, G40.out⟩
        case measure => simp [intOf]; omega
      · have q0 : (r2 != 0) = true := by simp [hr2]
        go_wp2
        go_ret
        exact ⟨_, rfl, gb_trans G1.out G4.out, fun q => by cases q⟩
    · have hke : k = hn := by omega
      have j1 : ¬ (k : Int) < hn := by omega
      have HO := Lib.hid (show hdsOk H from fun x hx => by
        obtain ⟨i, hi, rfl⟩ := List.mem_iff_getElem.1 hx
        have q := HT.out i (by rw [hke, ← S0.out.1.len]; exact hi)
        rw [List.getD_eq_getElem?_getD, List.getElem?_eq_getElem hi] at q
        exact q)
      go_wp2_with fail
      refine (K3.out (by have := Z1.out.h; omega) _ (gb_trans G1.out HG.out)).mono ?_
      rintro e9 w4 ⟨rfl, g⟩
      have G4 := Lib.hid (gb_trans HG.out g)
      clear g
      by_cases he0 : e = 0
      · have q0 : (e == 0) = true := by simp [he0]
        have DOK := Lib.hid (DO.out.1 he0)
        clear he0
        go_wp2
        go_ret
        exact ⟨_, rfl, gb_trans G1.out G4.out, fun _ => ⟨Z1.out, hp, EOK.out, HO.out, DOK.out⟩⟩
      · have q0 : (e == 0) = false := by simp [he0]
        go_wp2
        go_ret
        exact ⟨_, rfl, gb_trans G1.out G4.out, fun q => by cases q⟩
end Go.Proofs.Ytglgjkggjpfahaa
