/- Deparser: the law Matches; the environment fits the memory. -/
import Derived.Test.YtglgjkggjpfahaaDpL
import Derived.Test.YtglgjkggjpfahaaDpI
import Derived.BigQuiet
import Derived.Deep.RegionHeld
namespace Go.Proofs.Ytglgjkggjpfahaa
open Go.RowKit
set_option linter.unusedVariables false
theorem DZ.ez {w : World} {ha ma va fa ta pa : Option Addr} {hn hc mn mc dn vn vc fn fc tn tc pn pc : Nat} {H : List (ByteArray × List Fld)} {M : List Fld} {L : EL} (h : DZ hn mn dn H) (z3 : pn ≤ 2000) (hH : SH w ha hn hc H) (hM : SF w ma mn mc M) (he : ER w ⟨va, fa, ta, pa, vn, vc, fn, fc, tn, tc, pn, pc⟩ L) (sp : shP H M L) : EZ ⟨va, fa, ta, pa, vn, vc, fn, fc, tn, tc, pn, pc⟩ L := by
  obtain ⟨s1, s2, s3, s4⟩ := (shP_iff H M L).1 sp
  have l1 := he.v.len; have l2 := he.f.len; have l3 := he.t.len; have l4 := he.p.len; have l5 := hH.len; have l6 := hM.len
  have z1 := h.h; have z2 := h.m
  dsimp only at l1 l2 l3 l4
  have fl : ∀ j, (H.getD j hz).2.length ≤ 40 := fun j => by
    by_cases hj : j < H.length
    · rw [List.getD_eq_getElem?_getD, List.getElem?_eq_getElem hj]; exact h.f _ (List.getElem_mem _)
    · rw [List.getD_eq_getElem?_getD, List.getElem?_eq_none (by omega)]; exact Nat.zero_le _
  refine ⟨by show vn ≤ 100000; omega, by show fn ≤ 100000; omega, by show tn ≤ 100000; omega, by show pn ≤ 100000; omega, fun j => ?_⟩
  by_cases hj : j < H.length
  · rw [s4 j hj]; have := fl j; omega
  · rw [List.getD_eq_getElem?_getD, List.getElem?_eq_none (by omega)]; exact Nat.zero_le _
theorem DZ.pz {w : World} {ha ma va fa ta pa : Option Addr} {hn hc mn mc dn vn vc fn fc tn tc pn pc : Nat} {H : List (ByteArray × List Fld)} {M : List Fld} {L : EL} (h : DZ hn mn dn H) (z3 : pn ≤ 2000) (hf : fn ≤ 5864062014634) (hH : SH w ha hn hc H) (hM : SF w ma mn mc M) (he : ER w ⟨va, fa, ta, pa, vn, vc, fn, fc, tn, tc, pn, pc⟩ L) (hnm : ∀ x ∈ H, x.1.size ≤ 9223372036854775807 ∧ ∀ p ∈ x.2, p.1.size ≤ 9223372036854775807) :
    PZ hn H M ⟨va, fa, ta, pa, vn, vc, fn, fc, tn, tc, pn, pc⟩ L := by
  have l6 := hM.len
  have z1 := h.h; have z2 := h.m
  have fl : ∀ j, (H.getD j hz).2.length ≤ 40 := fun j => by
    by_cases hj : j < H.length
    · rw [List.getD_eq_getElem?_getD, List.getElem?_eq_getElem hj]; exact h.f _ (List.getElem_mem _)
    · rw [List.getD_eq_getElem?_getD, List.getElem?_eq_none (by omega)]; exact Nat.zero_le _
  refine ⟨⟨hnm, fun x hx => by have := h.f x hx; omega⟩, by omega, fun j => ?_, hf, fun sp => h.ez z3 hH hM he sp, by show pn ≤ 100000; omega⟩
  cases j with
  | zero => simp [dclL]; omega
  | succ i =>
    by_cases hi : i < H.length
    · have q := fl i
      have e : (dclL H M).getD (i + 1) [] = (H.getD i hz).2 := by simp [dclL, hi]
      rw [e]; omega
    · simp [dclL, hi]
set_option maxRecDepth 100000 in
set_option maxHeartbeats 20000000 in
theorem deparserMatches_on (w : World) (nm v3 v4 v5 v6 v7 : Value) (ha ma da : Option Addr) (hn hc mn mc dn dc : Nat) (va fa ta pa : Option Addr) (vn vc fn fc tn tc pn pc : Nat) (H : List (ByteArray × List Fld)) (M : List Fld) (D : List Int) (L : EL) (hH : SH w ha hn hc H) (hM : SF w ma mn mc M) (hD : SI w da dn dc D) (he : ER w ⟨va, fa, ta, pa, vn, vc, fn, fc, tn, tc, pn, pc⟩ L) (hnm : ∀ x ∈ H, x.1.size ≤ 9223372036854775807 ∧ ∀ p ∈ x.2, p.1.size ≤ 9223372036854775807) (hfn : fn ≤ 5864062014634) : Calls Try.prog 8 #[.agg #[nm, .slice ha hn hc, .slice ma mn mc, v3, v4, v5, v6, v7, .slice da dn dc], .agg #[.slice va vn vc, .slice fa fn fc, .slice ta tn tc, .slice pa pn pc]] w (RetV (.bool true) w) := by
  obtain ⟨a, e, hdc⟩ := dc_ex hn D
  obtain ⟨b1, hb1⟩ : ∃ b : Bool, b = true ↔ DZ hn mn dn H := by
    by_cases h : DZ hn mn dn H
    · exact ⟨true, ⟨fun _ => h, fun _ => rfl⟩⟩
    · exact ⟨false, ⟨(fun q => by cases q), fun q => absurd q h⟩⟩
  have HB1 := Lib.hid hb1
  obtain ⟨bs, hbs⟩ : ∃ bs, bs = emit H M D L := ⟨_, rfl⟩
  have K1 := Lib.hid (fun (W : World) (q : w.grownBy W none) => dsmall_any W nm v3 v4 v5 v6 v7 ha ma da hn hc mn mc dn dc H (hH.keep0 q) b1 hb1)
  have K2 := Lib.hid (fun (W : World) (q : w.grownBy W none) => dcheck_any W nm v3 v4 v5 v6 v7 ha ma da hn hc mn mc dn dc D (hD.keep0 q) a e hdc)
  have K3 := Lib.hid (fun (z : hn ≤ 100000) (W : World) (q : w.grownBy W none) => rdcheck_any W nm v3 v4 v5 v6 v7 ha ma da hn hc mn mc dn dc D (hD.keep0 q) z a e hdc)
  have PZh := Lib.hid (fun (z : DZ hn mn dn H) (zp : pn ≤ 2000) => z.pz zp hfn hH hM he hnm)
  have ZZh := Lib.hid (fun (z : DZ hn mn dn H) (zp : pn ≤ 2000) (sp : shP H M L) => let q := z.ez zp hH hM he sp; (⟨q.f, q.t, q.r⟩ : fn ≤ 100000 ∧ tn ≤ 100000 ∧ ∀ j, (L.F.getD j []).length ≤ 100000))
  have EP0 := Lib.hid (fun (z : DZ hn mn dn H) (zp : pn ≤ 2000) (W : World) (q : w.grownBy W none) => demit_any W nm v3 v4 v5 v6 v7 ha ma da hn hc mn mc dn dc va fa ta pa vn vc fn fc tn tc pn pc H M D L (hH.keep0 q) (hM.keep0 q) (hD.keep0 q) (he.keep0 q) (PZh.out z zp) bs hbs)
  have ZP0 := Lib.hid (fun (z : DZ hn mn dn H) (zp : pn ≤ 2000) (W : World) (q : w.grownBy W none) => dsize_any W nm v3 v4 v5 v6 v7 ha ma da hn hc mn mc dn dc va fa ta pa vn vc fn fc tn tc pn pc H M D L (hH.keep0 q) (hM.keep0 q) (hD.keep0 q) (he.keep0 q) (PZh.out z zp) bs hbs)
  have ER0 := Lib.hid (fun (z : DZ hn mn dn H) (zp : pn ≤ 2000) (W : World) (q : w.grownBy W none) => remit_any W nm v3 v4 v5 v6 v7 ha ma da hn hc mn mc dn dc va fa ta pa vn vc fn fc tn tc pn pc H M D L (hH.keep0 q) (hM.keep0 q) (hD.keep0 q) (he.keep0 q) (PZh.out z zp).h (PZh.out z zp).n (ZZh.out z zp) (PZh.out z zp).p bs hbs)
  have ZR0 := Lib.hid (fun (z : DZ hn mn dn H) (zp : pn ≤ 2000) (W : World) (q : w.grownBy W none) => rsize_any W nm v3 v4 v5 v6 v7 ha ma da hn hc mn mc dn dc va fa ta pa vn vc fn fc tn tc pn pc H M D L (hH.keep0 q) (hM.keep0 q) (hD.keep0 q) (he.keep0 q) (PZh.out z zp).h (PZh.out z zp).n (ZZh.out z zp) (PZh.out z zp).p bs hbs)
  unfold RetV at K1 K2 K3
  have G1 := Lib.hid (gb_trans (gb_alloc w (.cells #[nm, .slice ha hn hc, .slice ma mn mc, v3, v4, v5, v6, v7, .slice da dn dc] 31) none) (gb_alloc _ (.cells #[.slice va vn vc, .slice fa fn fc, .slice ta tn tc, .slice pa pn pc] 42) none))
  have B1 := (IsB.new w 31 #[nm, .slice ha hn hc, .slice ma mn mc, v3, v4, v5, v6, v7, .slice da dn dc]).alloc (.cells #[.slice va vn vc, .slice fa fn fc, .slice ta tn tc, .slice pa pn pc] 42)
  have B2 := IsB.new (w.alloc (.cells #[nm, .slice ha hn hc, .slice ma mn mc, v3, v4, v5, v6, v7, .slice da dn dc] 31)) 42 #[.slice va vn vc, .slice fa fn fc, .slice ta tn tc, .slice pa pn pc]
  simp only [sz_al] at B2
  replace B1 := Lib.hid B1
  replace B2 := Lib.hid B2
  clear hH hM hD he hnm hbs hdc hb1 PZh ZZh
  go_enter Try.func8, Try.ntmps8
  go_upto_region 1 with fail
  generalize (w.alloc (.cells #[nm, .slice ha hn hc, .slice ma mn mc, v3, v4, v5, v6, v7, .slice da dn dc] 31)).alloc (.cells #[.slice va vn vc, .slice fa fn fc, .slice ta tn tc, .slice pa pn pc] 42) = w1 at *
  obtain ⟨bx, hbx⟩ : ∃ b, b = w.heap.size := ⟨_, rfl⟩
  have Lbx := Lib.hid (show w.heap.size ≤ bx by rw [hbx]; exact Nat.le_refl _)
  rw [← hbx] at B1 B2 ⊢
  clear hbx
  have c0 := (B1.out.keep0 (gb_refl _ _)).cell 0
  have c1 := (B1.out.keep0 (gb_refl _ _)).cell 1
  have c2 := (B1.out.keep0 (gb_refl _ _)).cell 2
  have c3 := (B1.out.keep0 (gb_refl _ _)).cell 3
  have c4 := (B1.out.keep0 (gb_refl _ _)).cell 4
  have c5 := (B1.out.keep0 (gb_refl _ _)).cell 5
  have c6 := (B1.out.keep0 (gb_refl _ _)).cell 6
  have c7 := (B1.out.keep0 (gb_refl _ _)).cell 7
  have c8 := (B1.out.keep0 (gb_refl _ _)).cell 8
  dsimp at c0 c1 c2 c3 c4 c5 c6 c7 c8
  have x0 := (B2.out.keep0 (gb_refl _ _)).cell 0
  have x1 := (B2.out.keep0 (gb_refl _ _)).cell 1
  have x2 := (B2.out.keep0 (gb_refl _ _)).cell 2
  have x3 := (B2.out.keep0 (gb_refl _ _)).cell 3
  dsimp at x0 x1 x2 x3
  go_wp2_with fail
  refine (K1.out _ G1.out).mono ?_
  rintro e9 w2 ⟨rfl, g⟩
  have G2 := Lib.hid (gb_trans G1.out g)
  replace B1 := Lib.hid (B1.out.keep0 g)
  replace B2 := Lib.hid (B2.out.keep0 g)
  clear g K1
  clear c0 c1 c2 c3 c4 c5 c6 c7 c8 x0 x1 x2 x3
  have x0 := (B2.out.keep0 (gb_refl _ _)).cell 0
  have x1 := (B2.out.keep0 (gb_refl _ _)).cell 1
  have x2 := (B2.out.keep0 (gb_refl _ _)).cell 2
  have x3 := (B2.out.keep0 (gb_refl _ _)).cell 3
  dsimp at x0 x1 x2 x3
  have c0 := (B1.out.keep0 (gb_refl _ _)).cell 0
  have c1 := (B1.out.keep0 (gb_refl _ _)).cell 1
  have c2 := (B1.out.keep0 (gb_refl _ _)).cell 2
  have c3 := (B1.out.keep0 (gb_refl _ _)).cell 3
  have c4 := (B1.out.keep0 (gb_refl _ _)).cell 4
  have c5 := (B1.out.keep0 (gb_refl _ _)).cell 5
  have c6 := (B1.out.keep0 (gb_refl _ _)).cell 6
  have c7 := (B1.out.keep0 (gb_refl _ _)).cell 7
  have c8 := (B1.out.keep0 (gb_refl _ _)).cell 8
  dsimp at c0 c1 c2 c3 c4 c5 c6 c7 c8
  cases b1
  · go_wp2_with fail
    refine (awake_any _).mono ?_
    rintro e9 wa ⟨rfl, g⟩
    have GA := Lib.hid (gb_trans G2.out g)
    clear g
    go_wp2
    go_ret
    exact ⟨rfl, GA.out⟩
  have Z1 := Lib.hid (HB1.out.1 rfl)
  by_cases hp : pn ≤ 2000
  case neg =>
    have i1 : decide ((2000 : Int) < pn) = true := decide_eq_true (by omega)
    go_wp2_with fail
    refine (awake_any _).mono ?_
    rintro e9 wa ⟨rfl, g⟩
    have GA := Lib.hid (gb_trans G2.out g)
    clear g
    go_wp2
    go_ret
    exact ⟨rfl, GA.out⟩

  have i1 : decide ((2000 : Int) < pn) = false := decide_eq_false (by omega)
  go_wp2_with fail
  refine (K2.out _ G2.out).mono ?_
  rintro e9 w3 ⟨rfl, g⟩
  have G3 := Lib.hid (gb_trans G2.out g)
  replace B1 := Lib.hid (B1.out.keep0 g)
  replace B2 := Lib.hid (B2.out.keep0 g)
  clear g K2
  clear c0 c1 c2 c3 c4 c5 c6 c7 c8 x0 x1 x2 x3
  have x0 := (B2.out.keep0 (gb_refl _ _)).cell 0
  have x1 := (B2.out.keep0 (gb_refl _ _)).cell 1
  have x2 := (B2.out.keep0 (gb_refl _ _)).cell 2
  have x3 := (B2.out.keep0 (gb_refl _ _)).cell 3
  dsimp at x0 x1 x2 x3
  have c0 := (B1.out.keep0 (gb_refl _ _)).cell 0
  have c1 := (B1.out.keep0 (gb_refl _ _)).cell 1
  have c2 := (B1.out.keep0 (gb_refl _ _)).cell 2
  have c3 := (B1.out.keep0 (gb_refl _ _)).cell 3
  have c4 := (B1.out.keep0 (gb_refl _ _)).cell 4
  have c5 := (B1.out.keep0 (gb_refl _ _)).cell 5
  have c6 := (B1.out.keep0 (gb_refl _ _)).cell 6
  have c7 := (B1.out.keep0 (gb_refl _ _)).cell 7
  have c8 := (B1.out.keep0 (gb_refl _ _)).cell 8
  dsimp at c0 c1 c2 c3 c4 c5 c6 c7 c8
  go_wp2_with fail
  refine (K3.out (by have := Z1.out.h; omega) _ G3.out).mono ?_
  rintro e9 w4 ⟨rfl, g⟩
  have GW := Lib.hid (gb_trans G3.out g)
  replace B1 := Lib.hid (B1.out.keep0 g)
  replace B2 := Lib.hid (B2.out.keep0 g)
  clear g K3
  clear c0 c1 c2 c3 c4 c5 c6 c7 c8 x0 x1 x2 x3
  have EP := Lib.hid (EP0.out Z1.out hp)
  have ZP := Lib.hid (ZP0.out Z1.out hp)
  have ER9 := Lib.hid (ER0.out Z1.out hp)
  have ZR := Lib.hid (ZR0.out Z1.out hp)
  clear EP0 ZP0 ER0 ZR0 HB1
  have sq : ((strOf bs).toList == (strOf bs).toList) = true := by simp
  have zq : ((bs.length : Int) == (bs.length : Int)) = true := by simp
  have qa : (a == a) = true := by simp
  have qe : (e == e) = true := by simp
  go_upto_region 5 with fail
  have KR := Lib.hid (fun (w' : World) (q0 : w4.grownBy w' none) => (⟨(B1.out.keep0 q0).cell 0, (B1.out.keep0 q0).cell 1, (B1.out.keep0 q0).cell 2, (B1.out.keep0 q0).cell 3, (B1.out.keep0 q0).cell 4, (B1.out.keep0 q0).cell 5, (B1.out.keep0 q0).cell 6, (B1.out.keep0 q0).cell 7, (B1.out.keep0 q0).cell 8, (B2.out.keep0 q0).cell 0, (B2.out.keep0 q0).cell 1, (B2.out.keep0 q0).cell 2, (B2.out.keep0 q0).cell 3, q0⟩ : (fun w' : World => w'.cell? ⟨bx, 0, none⟩ = some (nm) ∧ w'.cell? ⟨bx, 1, none⟩ = some (.slice ha hn hc) ∧ w'.cell? ⟨bx, 2, none⟩ = some (.slice ma mn mc) ∧ w'.cell? ⟨bx, 3, none⟩ = some (v3) ∧ w'.cell? ⟨bx, 4, none⟩ = some (v4) ∧ w'.cell? ⟨bx, 5, none⟩ = some (v5) ∧ w'.cell? ⟨bx, 6, none⟩ = some (v6) ∧ w'.cell? ⟨bx, 7, none⟩ = some (v7) ∧ w'.cell? ⟨bx, 8, none⟩ = some (.slice da dn dc) ∧ w'.cell? ⟨bx + 1, 0, none⟩ = some (.slice va vn vc) ∧ w'.cell? ⟨bx + 1, 1, none⟩ = some (.slice fa fn fc) ∧ w'.cell? ⟨bx + 1, 2, none⟩ = some (.slice ta tn tc) ∧ w'.cell? ⟨bx + 1, 3, none⟩ = some (.slice pa pn pc) ∧ w4.grownBy w' none) w'))
  have R0 := Lib.hid (gb_drew w4 none)
  refine wp_region_held_drew (S := (fun w' : World => w'.cell? ⟨bx, 0, none⟩ = some (nm) ∧ w'.cell? ⟨bx, 1, none⟩ = some (.slice ha hn hc) ∧ w'.cell? ⟨bx, 2, none⟩ = some (.slice ma mn mc) ∧ w'.cell? ⟨bx, 3, none⟩ = some (v3) ∧ w'.cell? ⟨bx, 4, none⟩ = some (v4) ∧ w'.cell? ⟨bx, 5, none⟩ = some (v5) ∧ w'.cell? ⟨bx, 6, none⟩ = some (v6) ∧ w'.cell? ⟨bx, 7, none⟩ = some (v7) ∧ w'.cell? ⟨bx, 8, none⟩ = some (.slice da dn dc) ∧ w'.cell? ⟨bx + 1, 0, none⟩ = some (.slice va vn vc) ∧ w'.cell? ⟨bx + 1, 1, none⟩ = some (.slice fa fn fc) ∧ w'.cell? ⟨bx + 1, 2, none⟩ = some (.slice ta tn tc) ∧ w'.cell? ⟨bx + 1, 3, none⟩ = some (.slice pa pn pc) ∧ w4.grownBy w' none)) (by kernel_rfl) (KR.out _ R0.out) (fun hH0 => ?_)
  refine wpAnyH_take (i := 0) (v := ?v1) rfl (by kernel_rfl) (by kernel_rfl) (by kernel_rfl) (fun _ _ _ h => h) (Or.inl ⟨by rfl, ?hy1⟩) (by assumption) ?rest1
  case hy1 => (intro wz hSw; (try dsimp only at hSw); first | (go_simp; done) | (go_simp; with_reducible rfl))
  try simp only [Act.put, List.getElem_toArray, List.getElem_cons_zero, List.setIfInBounds_toArray, List.set_cons_zero, List.set_cons_succ]
  refine wpAnyH_take (i := 1) (v := ?v2) rfl (by kernel_rfl) (by kernel_rfl) (by kernel_rfl) (fun _ _ _ h => h) (Or.inl ⟨by rfl, ?hy2⟩) (by assumption) ?rest2
  case hy2 => (intro wz hSw; (try dsimp only at hSw); first | (go_simp; done) | (go_simp; with_reducible rfl))
  try simp only [Act.put, List.getElem_toArray, List.getElem_cons_succ, List.getElem_cons_zero, List.setIfInBounds_toArray, List.set_cons_zero, List.set_cons_succ]
  refine wpAnyH_take (i := 2) (v := ?v3) rfl (by kernel_rfl) (by kernel_rfl) (by kernel_rfl) (fun _ _ _ h => h) (Or.inl ⟨by rfl, ?hy3⟩) (by assumption) ?rest3
  case hy3 => (intro wz hSw; (try dsimp only at hSw); first | (go_simp; done) | (go_simp; with_reducible rfl))
  try simp only [Act.put, List.getElem_toArray, List.getElem_cons_succ, List.getElem_cons_zero, List.setIfInBounds_toArray, List.set_cons_zero, List.set_cons_succ]
  refine wpAnyH_take (i := 3) (v := ?v4) rfl (by kernel_rfl) (by kernel_rfl) (by kernel_rfl) (fun _ _ _ h => h) (Or.inl ⟨by rfl, ?hy4⟩) (by assumption) ?rest4
  case hy4 => (intro wz hSw; (try dsimp only at hSw); first | (go_simp; done) | (go_simp; with_reducible rfl))
  try simp only [Act.put, List.getElem_toArray, List.getElem_cons_succ, List.getElem_cons_zero, List.setIfInBounds_toArray, List.set_cons_zero, List.set_cons_succ]
  refine wpAnyH_take (i := 4) (v := ?v5) rfl (by kernel_rfl) (by kernel_rfl) (by kernel_rfl) (fun _ _ _ h => h) (Or.inl ⟨by rfl, ?hy5⟩) (by assumption) ?rest5
  case hy5 => (intro wz hSw; (try dsimp only at hSw); first | (go_simp; done) | (go_simp; with_reducible rfl))
  try simp only [Act.put, List.getElem_toArray, List.getElem_cons_succ, List.getElem_cons_zero, List.setIfInBounds_toArray, List.set_cons_zero, List.set_cons_succ]
  refine wpAnyH_take (i := 5) (v := ?v6) rfl (by kernel_rfl) (by kernel_rfl) (by kernel_rfl) (fun _ _ _ h => h) (Or.inl ⟨by rfl, ?hy6⟩) (by assumption) ?rest6
  case hy6 => (intro wz hSw; (try dsimp only at hSw); first | (go_simp; done) | (go_simp; with_reducible rfl))
  try simp only [Act.put, List.getElem_toArray, List.getElem_cons_succ, List.getElem_cons_zero, List.setIfInBounds_toArray, List.set_cons_zero, List.set_cons_succ]
  refine wpAnyH_take (i := 6) (v := ?v7) rfl (by kernel_rfl) (by kernel_rfl) (by kernel_rfl) (fun _ _ _ h => h) (Or.inl ⟨by rfl, ?hy7⟩) (by assumption) ?rest7
  case hy7 => (intro wz hSw; (try dsimp only at hSw); first | (go_simp; done) | (go_simp; with_reducible rfl))
  try simp only [Act.put, List.getElem_toArray, List.getElem_cons_succ, List.getElem_cons_zero, List.setIfInBounds_toArray, List.set_cons_zero, List.set_cons_succ]
  refine wpAnyH_take (i := 7) (v := ?v8) rfl (by kernel_rfl) (by kernel_rfl) (by kernel_rfl) (fun _ _ _ h => h) (Or.inl ⟨by rfl, ?hy8⟩) (by assumption) ?rest8
  case hy8 => (intro wz hSw; (try dsimp only at hSw); first | (go_simp; done) | (go_simp; with_reducible rfl))
  try simp only [Act.put, List.getElem_toArray, List.getElem_cons_succ, List.getElem_cons_zero, List.setIfInBounds_toArray, List.set_cons_zero, List.set_cons_succ]
  refine wpAnyH_take (i := 8) (v := ?v9) rfl (by kernel_rfl) (by kernel_rfl) (by kernel_rfl) (fun _ _ _ h => h) (Or.inl ⟨by rfl, ?hy9⟩) (by assumption) ?rest9
  case hy9 => (intro wz hSw; (try dsimp only at hSw); first | (go_simp; done) | (go_simp; with_reducible rfl))
  try simp only [Act.put, List.getElem_toArray, List.getElem_cons_succ, List.getElem_cons_zero, List.setIfInBounds_toArray, List.set_cons_zero, List.set_cons_succ]
  refine wpAnyH_take (i := 9) (v := ?v10) rfl (by kernel_rfl) (by kernel_rfl) (by kernel_rfl) (fun _ _ _ h => h) (Or.inl ⟨by rfl, ?hy10⟩) (by assumption) ?rest10
  case hy10 => (intro wz hSw; (try dsimp only at hSw); first | (go_simp; done) | (go_simp; with_reducible rfl))
  try simp only [Act.put, List.getElem_toArray, List.getElem_cons_succ, List.getElem_cons_zero, List.setIfInBounds_toArray, List.set_cons_zero, List.set_cons_succ]
  refine wpAnyH_take (i := 10) (v := ?v11) rfl (by kernel_rfl) (by kernel_rfl) (by kernel_rfl) (fun _ _ _ h => h) (Or.inl ⟨by rfl, ?hy11⟩) (by assumption) ?rest11
  case hy11 => (intro wz hSw; (try dsimp only at hSw); first | (go_simp; done) | (go_simp; with_reducible rfl))
  try simp only [Act.put, List.getElem_toArray, List.getElem_cons_succ, List.getElem_cons_zero, List.setIfInBounds_toArray, List.set_cons_zero, List.set_cons_succ]
  refine wpAnyH_take (i := 13) (v := ?v12) rfl (by kernel_rfl) (by kernel_rfl) (by kernel_rfl) (fun _ _ _ h => h) (Or.inl ⟨by rfl, ?hy12⟩) (by assumption) ?rest12
  case hy12 => (intro wz hSw; (try dsimp only at hSw); first | (go_simp; done) | (go_simp; with_reducible rfl))
  try simp only [Act.put, List.getElem_toArray, List.getElem_cons_succ, List.getElem_cons_zero, List.setIfInBounds_toArray, List.set_cons_zero, List.set_cons_succ]
  refine wpAnyH_take (i := 14) (v := ?v13) rfl (by kernel_rfl) (by kernel_rfl) (by kernel_rfl) (fun _ _ _ h => h) (Or.inl ⟨by rfl, ?hy13⟩) (by assumption) ?rest13
  case hy13 => (intro wz hSw; (try dsimp only at hSw); first | (go_simp; done) | (go_simp; with_reducible rfl))
  try simp only [Act.put, List.getElem_toArray, List.getElem_cons_succ, List.getElem_cons_zero, List.setIfInBounds_toArray, List.set_cons_zero, List.set_cons_succ]
  refine wpAnyH_ready (rs := [11]) (by kernel_rfl) (by simp) ?_
  refine AllReadyH.cons (o := _) rfl (fun K hK => ?_) AllReadyH.nil
  go_simp
  (with_reducible refine (EP.out _ (gb_trans GW.out R0.out)).mono ?_)
  rintro e rw1 ⟨V7, rfl, o, g⟩
  have O7 := Lib.hid o
  clear o
  obtain ⟨a7, c7, rfl⟩ := own_shape O7.out
  have R1 := Lib.hid (gb_trans R0.out g)
  clear g
  try dsimp only
  refine hK.out _ _ (KR.out _ R1.out) (fun hH1 => ?_)
  clear hK K hH0
  try simp only [Act.put, List.getElem_toArray, List.getElem_cons_succ, List.getElem_cons_zero, List.setIfInBounds_toArray, List.set_cons_zero, List.set_cons_succ]
  have KU := Lib.hid (fun (w' : World) (q0 : rw1.grownBy w' none) => (⟨(B1.out.keep0 (gb_trans R1.out q0)).cell 0, (B1.out.keep0 (gb_trans R1.out q0)).cell 1, (B1.out.keep0 (gb_trans R1.out q0)).cell 2, (B1.out.keep0 (gb_trans R1.out q0)).cell 3, (B1.out.keep0 (gb_trans R1.out q0)).cell 4, (B1.out.keep0 (gb_trans R1.out q0)).cell 5, (B1.out.keep0 (gb_trans R1.out q0)).cell 6, (B1.out.keep0 (gb_trans R1.out q0)).cell 7, (B1.out.keep0 (gb_trans R1.out q0)).cell 8, (B2.out.keep0 (gb_trans R1.out q0)).cell 0, (B2.out.keep0 (gb_trans R1.out q0)).cell 1, (B2.out.keep0 (gb_trans R1.out q0)).cell 2, (B2.out.keep0 (gb_trans R1.out q0)).cell 3, q0⟩ : (fun w' : World => w'.cell? ⟨bx, 0, none⟩ = some (nm) ∧ w'.cell? ⟨bx, 1, none⟩ = some (.slice ha hn hc) ∧ w'.cell? ⟨bx, 2, none⟩ = some (.slice ma mn mc) ∧ w'.cell? ⟨bx, 3, none⟩ = some (v3) ∧ w'.cell? ⟨bx, 4, none⟩ = some (v4) ∧ w'.cell? ⟨bx, 5, none⟩ = some (v5) ∧ w'.cell? ⟨bx, 6, none⟩ = some (v6) ∧ w'.cell? ⟨bx, 7, none⟩ = some (v7) ∧ w'.cell? ⟨bx, 8, none⟩ = some (.slice da dn dc) ∧ w'.cell? ⟨bx + 1, 0, none⟩ = some (.slice va vn vc) ∧ w'.cell? ⟨bx + 1, 1, none⟩ = some (.slice fa fn fc) ∧ w'.cell? ⟨bx + 1, 2, none⟩ = some (.slice ta tn tc) ∧ w'.cell? ⟨bx + 1, 3, none⟩ = some (.slice pa pn pc) ∧ rw1.grownBy w' none) w'))
  refine wpAnyH_more (S2 := (fun w' : World => w'.cell? ⟨bx, 0, none⟩ = some (nm) ∧ w'.cell? ⟨bx, 1, none⟩ = some (.slice ha hn hc) ∧ w'.cell? ⟨bx, 2, none⟩ = some (.slice ma mn mc) ∧ w'.cell? ⟨bx, 3, none⟩ = some (v3) ∧ w'.cell? ⟨bx, 4, none⟩ = some (v4) ∧ w'.cell? ⟨bx, 5, none⟩ = some (v5) ∧ w'.cell? ⟨bx, 6, none⟩ = some (v6) ∧ w'.cell? ⟨bx, 7, none⟩ = some (v7) ∧ w'.cell? ⟨bx, 8, none⟩ = some (.slice da dn dc) ∧ w'.cell? ⟨bx + 1, 0, none⟩ = some (.slice va vn vc) ∧ w'.cell? ⟨bx + 1, 1, none⟩ = some (.slice fa fn fc) ∧ w'.cell? ⟨bx + 1, 2, none⟩ = some (.slice ta tn tc) ∧ w'.cell? ⟨bx + 1, 3, none⟩ = some (.slice pa pn pc) ∧ rw1.grownBy w' none)) (fun _ h => ⟨h.1, h.2.1, h.2.2.1, h.2.2.2.1, h.2.2.2.2.1, h.2.2.2.2.2.1, h.2.2.2.2.2.2.1, h.2.2.2.2.2.2.2.1, h.2.2.2.2.2.2.2.2.1, h.2.2.2.2.2.2.2.2.2.1, h.2.2.2.2.2.2.2.2.2.2.1, h.2.2.2.2.2.2.2.2.2.2.2.1, h.2.2.2.2.2.2.2.2.2.2.2.2.1, gb_trans R1.out (h.2.2.2.2.2.2.2.2.2.2.2.2.2)⟩) _ _ _ _ ?_
  have U0 := Lib.hid (gb_refl rw1 none)
  have hX0 : (fun w' : World => w'.cell? ⟨bx, 0, none⟩ = some (nm) ∧ w'.cell? ⟨bx, 1, none⟩ = some (.slice ha hn hc) ∧ w'.cell? ⟨bx, 2, none⟩ = some (.slice ma mn mc) ∧ w'.cell? ⟨bx, 3, none⟩ = some (v3) ∧ w'.cell? ⟨bx, 4, none⟩ = some (v4) ∧ w'.cell? ⟨bx, 5, none⟩ = some (v5) ∧ w'.cell? ⟨bx, 6, none⟩ = some (v6) ∧ w'.cell? ⟨bx, 7, none⟩ = some (v7) ∧ w'.cell? ⟨bx, 8, none⟩ = some (.slice da dn dc) ∧ w'.cell? ⟨bx + 1, 0, none⟩ = some (.slice va vn vc) ∧ w'.cell? ⟨bx + 1, 1, none⟩ = some (.slice fa fn fc) ∧ w'.cell? ⟨bx + 1, 2, none⟩ = some (.slice ta tn tc) ∧ w'.cell? ⟨bx + 1, 3, none⟩ = some (.slice pa pn pc) ∧ rw1.grownBy w' none) rw1 := KU.out _ (gb_refl _ _)
  clear hH1
  have hH0 := hX0
  clear hX0
  refine wpAnyH_take (i := 12) (v := ?v14) rfl (by kernel_rfl) (by kernel_rfl) (by kernel_rfl) (fun _ _ _ h => h) (Or.inl ⟨by rfl, ?hy14⟩) (by assumption) ?rest14
  case hy14 => (intro wz hSw; (try dsimp only at hSw); have gz : rw1.grownBy wz none := hSw.2.2.2.2.2.2.2.2.2.2.2.2.2; have cz := conv_str wz a7 bs.length c7 bs ((own_slr O7.out).keep0 gz); first | (go_simp; done) | (go_simp; with_reducible rfl))
  try simp only [Act.put, List.getElem_toArray, List.getElem_cons_succ, List.getElem_cons_zero, List.setIfInBounds_toArray, List.set_cons_zero, List.set_cons_succ]
  refine wpAnyH_ready (rs := [15]) (by kernel_rfl) (by simp) ?_
  refine AllReadyH.cons (o := _) rfl (fun K hK => ?_) AllReadyH.nil
  go_simp
  (with_reducible refine (ER9.out _ (gb_trans GW.out (gb_trans R1.out U0.out))).mono ?_)
  rintro e uw1 ⟨V8, rfl, o, g⟩
  have O8 := Lib.hid o
  clear o
  obtain ⟨a8, c8, rfl⟩ := own_shape O8.out
  have U1 := Lib.hid (gb_trans U0.out g)
  clear g
  try dsimp only
  refine hK.out _ _ (KU.out _ U1.out) (fun hH1 => ?_)
  clear hK K hH0
  try simp only [Act.put, List.getElem_toArray, List.getElem_cons_succ, List.getElem_cons_zero, List.setIfInBounds_toArray, List.set_cons_zero, List.set_cons_succ]
  have KY := Lib.hid (fun (w' : World) (q0 : uw1.grownBy w' none) => (⟨(B1.out.keep0 (gb_trans R1.out (gb_trans U1.out q0))).cell 0, (B1.out.keep0 (gb_trans R1.out (gb_trans U1.out q0))).cell 1, (B1.out.keep0 (gb_trans R1.out (gb_trans U1.out q0))).cell 2, (B1.out.keep0 (gb_trans R1.out (gb_trans U1.out q0))).cell 3, (B1.out.keep0 (gb_trans R1.out (gb_trans U1.out q0))).cell 4, (B1.out.keep0 (gb_trans R1.out (gb_trans U1.out q0))).cell 5, (B1.out.keep0 (gb_trans R1.out (gb_trans U1.out q0))).cell 6, (B1.out.keep0 (gb_trans R1.out (gb_trans U1.out q0))).cell 7, (B1.out.keep0 (gb_trans R1.out (gb_trans U1.out q0))).cell 8, (B2.out.keep0 (gb_trans R1.out (gb_trans U1.out q0))).cell 0, (B2.out.keep0 (gb_trans R1.out (gb_trans U1.out q0))).cell 1, (B2.out.keep0 (gb_trans R1.out (gb_trans U1.out q0))).cell 2, (B2.out.keep0 (gb_trans R1.out (gb_trans U1.out q0))).cell 3, q0⟩ : (fun w' : World => w'.cell? ⟨bx, 0, none⟩ = some (nm) ∧ w'.cell? ⟨bx, 1, none⟩ = some (.slice ha hn hc) ∧ w'.cell? ⟨bx, 2, none⟩ = some (.slice ma mn mc) ∧ w'.cell? ⟨bx, 3, none⟩ = some (v3) ∧ w'.cell? ⟨bx, 4, none⟩ = some (v4) ∧ w'.cell? ⟨bx, 5, none⟩ = some (v5) ∧ w'.cell? ⟨bx, 6, none⟩ = some (v6) ∧ w'.cell? ⟨bx, 7, none⟩ = some (v7) ∧ w'.cell? ⟨bx, 8, none⟩ = some (.slice da dn dc) ∧ w'.cell? ⟨bx + 1, 0, none⟩ = some (.slice va vn vc) ∧ w'.cell? ⟨bx + 1, 1, none⟩ = some (.slice fa fn fc) ∧ w'.cell? ⟨bx + 1, 2, none⟩ = some (.slice ta tn tc) ∧ w'.cell? ⟨bx + 1, 3, none⟩ = some (.slice pa pn pc) ∧ uw1.grownBy w' none) w'))
  refine wpAnyH_more (S2 := (fun w' : World => w'.cell? ⟨bx, 0, none⟩ = some (nm) ∧ w'.cell? ⟨bx, 1, none⟩ = some (.slice ha hn hc) ∧ w'.cell? ⟨bx, 2, none⟩ = some (.slice ma mn mc) ∧ w'.cell? ⟨bx, 3, none⟩ = some (v3) ∧ w'.cell? ⟨bx, 4, none⟩ = some (v4) ∧ w'.cell? ⟨bx, 5, none⟩ = some (v5) ∧ w'.cell? ⟨bx, 6, none⟩ = some (v6) ∧ w'.cell? ⟨bx, 7, none⟩ = some (v7) ∧ w'.cell? ⟨bx, 8, none⟩ = some (.slice da dn dc) ∧ w'.cell? ⟨bx + 1, 0, none⟩ = some (.slice va vn vc) ∧ w'.cell? ⟨bx + 1, 1, none⟩ = some (.slice fa fn fc) ∧ w'.cell? ⟨bx + 1, 2, none⟩ = some (.slice ta tn tc) ∧ w'.cell? ⟨bx + 1, 3, none⟩ = some (.slice pa pn pc) ∧ uw1.grownBy w' none)) (fun _ h => ⟨h.1, h.2.1, h.2.2.1, h.2.2.2.1, h.2.2.2.2.1, h.2.2.2.2.2.1, h.2.2.2.2.2.2.1, h.2.2.2.2.2.2.2.1, h.2.2.2.2.2.2.2.2.1, h.2.2.2.2.2.2.2.2.2.1, h.2.2.2.2.2.2.2.2.2.2.1, h.2.2.2.2.2.2.2.2.2.2.2.1, h.2.2.2.2.2.2.2.2.2.2.2.2.1, gb_trans U1.out (h.2.2.2.2.2.2.2.2.2.2.2.2.2)⟩) _ _ _ _ ?_
  have Y0 := Lib.hid (gb_refl uw1 none)
  have hX0 : (fun w' : World => w'.cell? ⟨bx, 0, none⟩ = some (nm) ∧ w'.cell? ⟨bx, 1, none⟩ = some (.slice ha hn hc) ∧ w'.cell? ⟨bx, 2, none⟩ = some (.slice ma mn mc) ∧ w'.cell? ⟨bx, 3, none⟩ = some (v3) ∧ w'.cell? ⟨bx, 4, none⟩ = some (v4) ∧ w'.cell? ⟨bx, 5, none⟩ = some (v5) ∧ w'.cell? ⟨bx, 6, none⟩ = some (v6) ∧ w'.cell? ⟨bx, 7, none⟩ = some (v7) ∧ w'.cell? ⟨bx, 8, none⟩ = some (.slice da dn dc) ∧ w'.cell? ⟨bx + 1, 0, none⟩ = some (.slice va vn vc) ∧ w'.cell? ⟨bx + 1, 1, none⟩ = some (.slice fa fn fc) ∧ w'.cell? ⟨bx + 1, 2, none⟩ = some (.slice ta tn tc) ∧ w'.cell? ⟨bx + 1, 3, none⟩ = some (.slice pa pn pc) ∧ uw1.grownBy w' none) uw1 := KY.out _ (gb_refl _ _)
  clear hH1
  have hH0 := hX0
  clear hX0
  refine wpAnyH_take (i := 16) (v := ?v15) rfl (by kernel_rfl) (by kernel_rfl) (by kernel_rfl) (fun _ _ _ h => h) (Or.inl ⟨by rfl, ?hy15⟩) (by assumption) ?rest15
  case hy15 => (intro wz hSw; (try dsimp only at hSw); have gz : uw1.grownBy wz none := hSw.2.2.2.2.2.2.2.2.2.2.2.2.2; have cz := conv_str wz a8 bs.length c8 bs ((own_slr O8.out).keep0 gz); first | (go_simp; done) | (go_simp; with_reducible rfl))
  try simp only [Act.put, List.getElem_toArray, List.getElem_cons_succ, List.getElem_cons_zero, List.setIfInBounds_toArray, List.set_cons_zero, List.set_cons_succ]
  refine wpAnyH_take (i := 17) (v := ?v16) rfl (by kernel_rfl) (by kernel_rfl) (by kernel_rfl) (fun _ _ _ h => h) (Or.inl ⟨by rfl, ?hy16⟩) (by assumption) ?rest16
  case hy16 => (intro wz hSw; (try dsimp only at hSw); first | (go_simp; done) | (go_simp; with_reducible rfl))
  try simp only [Act.put, List.getElem_toArray, List.getElem_cons_succ, List.getElem_cons_zero, List.setIfInBounds_toArray, List.set_cons_zero, List.set_cons_succ]
  refine wpAnyH_take (i := 18) (v := ?v17) rfl (by kernel_rfl) (by kernel_rfl) (by kernel_rfl) (fun _ _ _ h => h) (Or.inl ⟨by rfl, ?hy17⟩) (by assumption) ?rest17
  case hy17 => (intro wz hSw; (try dsimp only at hSw); first | (go_simp; done) | (go_simp; with_reducible rfl))
  try simp only [Act.put, List.getElem_toArray, List.getElem_cons_succ, List.getElem_cons_zero, List.setIfInBounds_toArray, List.set_cons_zero, List.set_cons_succ]
  refine wpAnyH_take (i := 19) (v := ?v18) rfl (by kernel_rfl) (by kernel_rfl) (by kernel_rfl) (fun _ _ _ h => h) (Or.inl ⟨by rfl, ?hy18⟩) (by assumption) ?rest18
  case hy18 => (intro wz hSw; (try dsimp only at hSw); first | (go_simp; done) | (go_simp; with_reducible rfl))
  try simp only [Act.put, List.getElem_toArray, List.getElem_cons_succ, List.getElem_cons_zero, List.setIfInBounds_toArray, List.set_cons_zero, List.set_cons_succ]
  refine wpAnyH_take (i := 20) (v := ?v19) rfl (by kernel_rfl) (by kernel_rfl) (by kernel_rfl) (fun _ _ _ h => h) (Or.inl ⟨by rfl, ?hy19⟩) (by assumption) ?rest19
  case hy19 => (intro wz hSw; (try dsimp only at hSw); first | (go_simp; done) | (go_simp; with_reducible rfl))
  try simp only [Act.put, List.getElem_toArray, List.getElem_cons_succ, List.getElem_cons_zero, List.setIfInBounds_toArray, List.set_cons_zero, List.set_cons_succ]
  refine wpAnyH_take (i := 21) (v := ?v20) rfl (by kernel_rfl) (by kernel_rfl) (by kernel_rfl) (fun _ _ _ h => h) (Or.inl ⟨by rfl, ?hy20⟩) (by assumption) ?rest20
  case hy20 => (intro wz hSw; (try dsimp only at hSw); first | (go_simp; done) | (go_simp; with_reducible rfl))
  try simp only [Act.put, List.getElem_toArray, List.getElem_cons_succ, List.getElem_cons_zero, List.setIfInBounds_toArray, List.set_cons_zero, List.set_cons_succ]
  refine wpAnyH_take (i := 23) (v := ?v21) rfl (by kernel_rfl) (by kernel_rfl) (by kernel_rfl) (fun _ _ _ h => h) (Or.inl ⟨by rfl, ?hy21⟩) (by assumption) ?rest21
  case hy21 => (intro wz hSw; (try dsimp only at hSw); first | (go_simp; done) | (go_simp; with_reducible rfl))
  try simp only [Act.put, List.getElem_toArray, List.getElem_cons_succ, List.getElem_cons_zero, List.setIfInBounds_toArray, List.set_cons_zero, List.set_cons_succ]
  refine wpAnyH_take (i := 24) (v := ?v22) rfl (by kernel_rfl) (by kernel_rfl) (by kernel_rfl) (fun _ _ _ h => h) (Or.inl ⟨by rfl, ?hy22⟩) (by assumption) ?rest22
  case hy22 => (intro wz hSw; (try dsimp only at hSw); first | (go_simp; done) | (go_simp; with_reducible rfl))
  try simp only [Act.put, List.getElem_toArray, List.getElem_cons_succ, List.getElem_cons_zero, List.setIfInBounds_toArray, List.set_cons_zero, List.set_cons_succ]
  refine wpAnyH_ready (rs := [22]) (by kernel_rfl) (by simp) ?_
  refine AllReadyH.cons (o := _) rfl (fun K hK => ?_) AllReadyH.nil
  go_simp
  (with_reducible refine (ZP.out _ (gb_trans GW.out (gb_trans R1.out (gb_trans U1.out Y0.out)))).mono ?_)
  rintro e yw1 ⟨rfl, g⟩
  have Y1 := Lib.hid (gb_trans Y0.out g)
  clear g
  try dsimp only
  refine hK.out _ _ (KY.out _ Y1.out) (fun hH1 => ?_)
  clear hK K hH0
  try simp only [Act.put, List.getElem_toArray, List.getElem_cons_succ, List.getElem_cons_zero, List.setIfInBounds_toArray, List.set_cons_zero, List.set_cons_succ]
  refine wpAnyH_ready (rs := [25]) (by kernel_rfl) (by simp) ?_
  refine AllReadyH.cons (o := _) rfl (fun K hK => ?_) AllReadyH.nil
  go_simp
  (with_reducible refine (ZR.out _ (gb_trans GW.out (gb_trans R1.out (gb_trans U1.out Y1.out)))).mono ?_)
  rintro e yw2 ⟨rfl, g⟩
  have Y2 := Lib.hid (gb_trans Y1.out g)
  clear g
  try dsimp only
  refine hK.out _ _ (KY.out _ Y2.out) (fun hH2 => ?_)
  clear hK K hH1
  try simp only [Act.put, List.getElem_toArray, List.getElem_cons_succ, List.getElem_cons_zero, List.setIfInBounds_toArray, List.set_cons_zero, List.set_cons_succ]
  refine wpAnyH_take (i := 26) (v := ?v23) rfl (by kernel_rfl) (by kernel_rfl) (by kernel_rfl) (fun _ _ _ h => h) (Or.inl ⟨by rfl, ?hy23⟩) (by assumption) ?rest23
  case hy23 => (intro wz hSw; (try dsimp only at hSw); first | (go_simp; done) | (go_simp; with_reducible rfl))
  try simp only [Act.put, List.getElem_toArray, List.getElem_cons_succ, List.getElem_cons_zero, List.setIfInBounds_toArray, List.set_cons_zero, List.set_cons_succ]
  refine wpAnyH_take (i := 27) (v := ?v24) rfl (by kernel_rfl) (by kernel_rfl) (by kernel_rfl) (fun _ _ _ h => h) (Or.inl ⟨by rfl, ?hy24⟩) (by assumption) ?rest24
  case hy24 => (intro wz hSw; (try dsimp only at hSw); first | (go_simp; done) | (go_simp; with_reducible rfl))
  try simp only [Act.put, List.getElem_toArray, List.getElem_cons_succ, List.getElem_cons_zero, List.setIfInBounds_toArray, List.set_cons_zero, List.set_cons_succ]
  refine wpAnyH_take (i := 28) (v := ?v25) rfl (by kernel_rfl) (by kernel_rfl) (by kernel_rfl) (fun _ _ _ h => h) (Or.inl ⟨by rfl, ?hy25⟩) (by assumption) ?rest25
  case hy25 => (intro wz hSw; (try dsimp only at hSw); first | (go_simp; done) | (go_simp; with_reducible rfl))
  try simp only [Act.put, List.getElem_toArray, List.getElem_cons_succ, List.getElem_cons_zero, List.setIfInBounds_toArray, List.set_cons_zero, List.set_cons_succ]
  refine wpAnyH_ready (rs := [29]) (by kernel_rfl) (by simp) ?_
  refine AllReadyH.cons (o := _) rfl (fun K hK => ?_) AllReadyH.nil
  go_simp
  (with_reducible refine (awake_any _).mono ?_)
  rintro e yw3 ⟨rfl, g⟩
  have Y3 := Lib.hid (gb_trans Y2.out g)
  clear g
  try dsimp only
  refine hK.out _ _ (KY.out _ Y3.out) (fun hH3 => ?_)
  clear hK K hH2
  try simp only [Act.put, List.getElem_toArray, List.getElem_cons_succ, List.getElem_cons_zero, List.setIfInBounds_toArray, List.set_cons_zero, List.set_cons_succ]
  refine wpAnyH_take (i := 30) (v := ?v26) rfl (by kernel_rfl) (by kernel_rfl) (by kernel_rfl) (fun _ _ _ h => h) (Or.inl ⟨by rfl, ?hy26⟩) (by assumption) ?rest26
  case hy26 => (intro wz hSw; (try dsimp only at hSw); first | (go_simp; done) | (go_simp; with_reducible rfl))
  try simp only [Act.put, List.getElem_toArray, List.getElem_cons_succ, List.getElem_cons_zero, List.setIfInBounds_toArray, List.set_cons_zero, List.set_cons_succ]
  refine wpAnyH_take (i := 31) (v := ?v27) rfl (by kernel_rfl) (by kernel_rfl) (by kernel_rfl) (fun _ _ _ h => h) (Or.inl ⟨by rfl, ?hy27⟩) (by assumption) ?rest27
  case hy27 => (intro wz hSw; (try dsimp only at hSw); first | (go_simp; done) | (go_simp; with_reducible rfl))
  try simp only [Act.put, List.getElem_toArray, List.getElem_cons_succ, List.getElem_cons_zero, List.setIfInBounds_toArray, List.set_cons_zero, List.set_cons_succ]
  refine wpAnyH_done (by kernel_rfl) ?_ _
  clear hH3
  go_wp2
  go_ret
  exact ⟨rfl, gb_trans GW.out (gb_trans R1.out (gb_trans U1.out Y3.out))⟩
end Go.Proofs.Ytglgjkggjpfahaa
