/- Parser: the law States; for every input. -/
import Derived.Test.YtngobkghcogahaaPtG
import Derived.Deep.QuietTactic
import Derived.BigQuiet
import Derived.Deep.RegionWith
namespace Go.Proofs.Ytngobkghcogahaa
open Go.RowKit
set_option linter.unusedVariables false
theorem inE_vals (e : Int) (b : Bool) (n : Nat) : inE e b n = 0 ∨ inE e b n = 2 ∨ inE e b n = 4 := by
  unfold inE
  split
  · exact .inr (.inl rfl)
  split
  · exact .inr (.inr rfl)
  · exact .inl rfl
set_option maxRecDepth 100000 in
set_option maxHeartbeats 8000000 in
theorem states_on (w : World) (nm : ByteArray) (rA xA tA kA dA ha ma sa : Option Addr) (rN rC xN xC tN tC kN kC dN dC hn hc mn mc sn sc : Nat) (H : List (ByteArray × List Fld)) (M : List Fld) (S : List Pst) (hH : SH w ha hn hc H) (hM : SF w ma mn mc M) (hS : SPs w sa sn sc S) (hnm : ∀ x ∈ H, x.1.size ≤ 9223372036854775807 ∧ ∀ p ∈ x.2, p.1.size ≤ 9223372036854775807) (da : Option Addr) (dn dc : Nat) (bs : List Int) (hD : SY w da dn dc bs) : Calls Try.prog 6 #[.agg #[.string nm, .slice ha hn hc, .slice ma mn mc, .slice rA rN rC, .slice xA xN xC, .slice tA tN tC, .slice sa sn sc, .slice kA kN kC, .slice dA dN dC], .slice da dn dc] w (RetV (.bool true) w) := by
  classical
  have KL := Lib.hid (fun (W : World) (q : w.grownBy W none) => large18_any W (.string nm) (.slice rA rN rC) (.slice xA xN xC) (.slice tA tN tC) (.slice kA kN kC) (.slice dA dN dC) ha ma sa hn hc mn mc sn sc H S (hH.keep0 q) (hS.keep0SPs q) hnm)
  obtain ⟨a1, a2, e, hp⟩ := pkC_ex H M S
  obtain ⟨b0, hb0⟩ : ∃ b0 : Bool, b0 = true ↔ hdsOk H := ⟨decide (hdsOk H), decide_eq_true_iff⟩
  have LD := Lib.hid hD.len
  have LH := Lib.hid hH.len
  have LM := Lib.hid hM.len
  have LS := Lib.hid hS.len
  obtain ⟨res, hres⟩ : ∃ res, res = pRun H M S bs (inE e b0 dn) := ⟨_, rfl⟩
  have K1 := Lib.hid (fun (W : World) (q : w.grownBy W none) (tz : TLz hn mn sn H S) (hdl : dn ≤ 600) => pparse_any W nm rA xA tA kA dA ha ma sa rN rC xN xC tN tC kN kC dN dC hn hc mn mc sn sc H M S (hH.keep0 q) (hM.keep0 q) (hS.keep0SPs q) (tlz_nz tz) (tlz_hz tz) (by have := tz.h; omega) (by have := tz.m; omega) da dn dc bs (hD.keep0 q) (by omega) a1 a2 e hp b0 hb0 res hres)
  have K3 := Lib.hid (fun (W : World) (q : w.grownBy W none) (tz : TLz hn mn sn H S) (hdl : dn ≤ 600) => pstates_any W nm rA xA tA kA dA ha ma sa rN rC xN xC tN tC kN kC dN dC hn hc mn mc sn sc H M S (hH.keep0 q) (hM.keep0 q) (hS.keep0SPs q) (tlz_nz tz) (tlz_hz tz) (by have := tz.h; omega) (by have := tz.m; omega) da dn dc bs (hD.keep0 q) (by omega) a1 a2 e hp b0 hb0 res hres)
  have HOK := Lib.hid (show inE e b0 dn = 0 → statesOk H M S from fun h => hp.ok.1 (inE_zero h).1)
  have HHD := Lib.hid (show inE e b0 dn = 0 → hdsOk H from fun h => hb0.1 (inE_zero h).2.1)
  have HRES := Lib.hid hres
  have HH := Lib.hid hH
  have HM := Lib.hid hM
  have HS := Lib.hid hS
  have G1 := Lib.hid (gb_alloc w (.cells #[.string nm, .slice ha hn hc, .slice ma mn mc, .slice rA rN rC, .slice xA xN xC, .slice tA tN tC, .slice sa sn sc, .slice kA kN kC, .slice dA dN dC] 31) none)
  have B1 := IsB.new w 31 #[.string nm, .slice ha hn hc, .slice ma mn mc, .slice rA rN rC, .slice xA xN xC, .slice tA tN tC, .slice sa sn sc, .slice kA kN kC, .slice dA dN dC]
  replace B1 := Lib.hid B1
  clear hH hM hS hnm hp hD hb0 hres
  go_enter Try.func6, Try.ntmps6
  go_upto_region 1 with fail
  generalize w.alloc (.cells #[.string nm, .slice ha hn hc, .slice ma mn mc, .slice rA rN rC, .slice xA xN xC, .slice tA tN tC, .slice sa sn sc, .slice kA kN kC, .slice dA dN dC] 31) = w1 at *
  obtain ⟨bx, hbx⟩ : ∃ b, b = w.heap.size := ⟨_, rfl⟩
  have Lbx := Lib.hid (show w.heap.size ≤ bx by rw [hbx]; exact Nat.le_refl _)
  rw [← hbx] at B1 ⊢
  clear hbx
  have c0 := (B1.out.keep0 (gb_refl _ _)).cell 0
  have c1 := (B1.out.keep0 (gb_refl _ _)).cell 1
  have c2 := (B1.out.keep0 (gb_refl _ _)).cell 2
  have c3 := (B1.out.keep0 (gb_refl _ _)).cell 3
  have c4 := (B1.out.keep0 (gb_refl _ _)).cell 4
  have c5 := (B1.out.keep0 (gb_refl _ _)).cell 5
  have c6 := (B1.out.keep0 (gb_refl _ _)).cell 6
  have c7 := (B1.out.keep0 (gb_refl _ _)).cell 7
  have c8 := (B1.out.keep0 (gb_refl _ _)).cell 8
  dsimp at c0 c1 c2 c3 c4 c5 c6 c7 c8
  go_wp2_with fail
  refine (KL.out _ G1.out).mono ?_
  rintro e9 w2 ⟨bl, rfl, g, hb⟩
  have G2 := Lib.hid (gb_trans G1.out g)
  replace B1 := Lib.hid (B1.out.keep0 g)
  have HB := Lib.hid hb
  clear g hb c0 c1 c2 c3 c4 c5 c6 c7 c8
  cases bl
  case true =>
    go_wp2_with fail
    refine (works18_any w2).mono ?_
    rintro e9 wz9 ⟨rfl, g⟩
    have GZ9 := Lib.hid (gb_trans G2.out g)
    clear g
    go_wp2
    go_ret
    exact ⟨rfl, GZ9.out⟩
  by_cases hd6 : 600 < dn
  · have i6 : (600 : Int) < dn := by omega
    go_wp2_with fail
    refine (works18_any w2).mono ?_
    rintro e9 wz9 ⟨rfl, g⟩
    have GZ9 := Lib.hid (gb_trans G2.out g)
    clear g
    go_wp2
    go_ret
    exact ⟨rfl, GZ9.out⟩
  have i6 : ¬ (600 : Int) < dn := by omega
  have TZ := Lib.hid (HB.out rfl)
  have HDL := Lib.hid (show dn ≤ 600 by omega)
  clear HB hd6
  have c0 := (B1.out.keep0 (gb_refl _ _)).cell 0
  have c1 := (B1.out.keep0 (gb_refl _ _)).cell 1
  have c2 := (B1.out.keep0 (gb_refl _ _)).cell 2
  have c3 := (B1.out.keep0 (gb_refl _ _)).cell 3
  have c4 := (B1.out.keep0 (gb_refl _ _)).cell 4
  have c5 := (B1.out.keep0 (gb_refl _ _)).cell 5
  have c6 := (B1.out.keep0 (gb_refl _ _)).cell 6
  have c7 := (B1.out.keep0 (gb_refl _ _)).cell 7
  have c8 := (B1.out.keep0 (gb_refl _ _)).cell 8
  dsimp at c0 c1 c2 c3 c4 c5 c6 c7 c8
  go_upto_region 4 with (go_at_call 16; refine (K1.out _ G2.out TZ.out HDL.out).mono ?_; rintro e9 w3 ⟨X1, Vs1, rfl, oe, g⟩; have O1 := Lib.hid oe; have G3 := Lib.hid g; clear oe g)
  have E1 := Lib.hid (IsB.new w3 42 #[.slice X1.va X1.vn X1.vc, .slice X1.fa X1.fn X1.fc, .slice X1.ta X1.tn X1.tc, .slice X1.pa X1.pn X1.pc])
  have ga := gb_alloc w3 (.cells #[.slice X1.va X1.vn X1.vc, .slice X1.fa X1.fn X1.fc, .slice X1.ta X1.tn X1.tc, .slice X1.pa X1.pn X1.pc] 42) none
  replace O1 := Lib.hid (O1.out.keep0 ga)
  replace B1 := Lib.hid (B1.out.keep0 (gb_trans G3.out ga))
  have G4 := Lib.hid (gb_trans G2.out (gb_trans G3.out ga))
  clear ga G3 K1 i6 c0 c1 c2 c3 c4 c5 c6 c7 c8
  generalize w3.alloc (.cells #[.slice X1.va X1.vn X1.vc, .slice X1.fa X1.fn X1.fc, .slice X1.ta X1.tn X1.tc, .slice X1.pa X1.pn X1.pc] 42) = w4 at *
  generalize w3.heap.size = b5 at *
  have RNG := Lib.hid (show ∀ x ∈ res.2.1, -9223372036854775808 ≤ x ∧ x ≤ 9223372036854775807 by rw [HRES.out]; exact pRun_rng HOK.out (by rw [LS.out]; have := TZ.out.s; omega))
  have LN9 := Lib.hid (show res.2.1.length ≤ 100000 by rw [HRES.out]; exact pRun_len HOK.out (by rw [LS.out]; have := TZ.out.s; omega))
  have c0 := (B1.out.keep0 (gb_refl _ _)).cell 0
  have c1 := (B1.out.keep0 (gb_refl _ _)).cell 1
  have c2 := (B1.out.keep0 (gb_refl _ _)).cell 2
  have c3 := (B1.out.keep0 (gb_refl _ _)).cell 3
  have c4 := (B1.out.keep0 (gb_refl _ _)).cell 4
  have c5 := (B1.out.keep0 (gb_refl _ _)).cell 5
  have c6 := (B1.out.keep0 (gb_refl _ _)).cell 6
  have c7 := (B1.out.keep0 (gb_refl _ _)).cell 7
  have c8 := (B1.out.keep0 (gb_refl _ _)).cell 8
  dsimp at c0 c1 c2 c3 c4 c5 c6 c7 c8
  go_upto_region 5 with (go_at_call 20; refine (K3.out _ G4.out TZ.out HDL.out).mono ?_; rintro e9 w5 ⟨E3, rfl, nl, g⟩; obtain ⟨ea, ec, rfl⟩ := own_shape nl; have N3 := Lib.hid (nl_si nl rfl RNG.out); have G5 := Lib.hid g; clear nl g)
  replace O1 := Lib.hid (O1.out.keep0 G5.out)
  replace E1 := Lib.hid (E1.out.keep0 G5.out)
  replace B1 := Lib.hid (B1.out.keep0 G5.out)
  have G6 := Lib.hid (gb_trans G4.out G5.out)
  obtain ⟨ln, hln⟩ : ∃ n, n = res.2.1.length := ⟨_, rfl⟩
  rw [← hln] at N3 LN9 ⊢
  have LL := Lib.hid hln
  clear K3 G5 G4 G2 G1 KL hln c0 c1 c2 c3 c4 c5 c6 c7 c8
  obtain ⟨iB, ib, iB0, iB1, iB2⟩ := info_parts infoBool
  have IB := Lib.hid ib
  clear ib
  have c1 := B1.out.cell 1
  dsimp at c1
  go_upto_region 6 with (at_make; refine mlist_any rfl _ _ 38 4 iB (.bool false) 1 rfl Try.underlying38 IB.out iB0 iB1 iB2 (by decide) rfl hn rfl rfl (by have := TZ.out.h; omega) ?_; intro w7 o7 g7; have M7 := Lib.hid (show NB w7 w5.heap.size (.slice (some ⟨w5.heap.size, 0, none⟩) hn hn) (List.replicate hn false) by unfold NB; rw [List.length_replicate, List.map_replicate]; exact o7); have G7 := Lib.hid (show w5.grownBy w7 none from g7); clear o7 g7)
  clear c1
  obtain ⟨g8, hg8⟩ : ∃ g, g = w5.heap.size := ⟨_, rfl⟩
  have LG8 := Lib.hid (show w5.heap.size ≤ g8 by rw [hg8]; exact Nat.le_refl _)
  rw [show (Value.slice (some ⟨w5.heap.size, 0, none⟩) hn hn) = (Value.slice (some ⟨g8, 0, none⟩) hn hn) by rw [hg8]] at M7 ⊢
  clear hg8
  have ASC := Lib.hid (show inE e b0 dn = 0 → Asc sn res.2.1 from fun h => by
    rcases pRun_states (M := M) (bs := bs) HOK.out with ⟨q, _, _⟩ | ⟨_, q⟩
    · exact absurd h q
    · rw [← HRES.out, LS.out] at q; exact q)
  have EMP := Lib.hid (show inE e b0 dn ≠ 0 → res.2.1 = [] ∧ res.2.2 = inE e b0 dn from fun h => by
    rcases pRun_states (M := M) (bs := bs) HOK.out with ⟨_, q, q2⟩ | ⟨q, _⟩
    · rw [← HRES.out] at q q2; exact ⟨q, q2⟩
    · exact absurd q h)
  go_wp2
  go_loopw [9, 10, 11] (fun s9 s10 s11 wr => ∃ i : Nat, i ≤ ln ∧ s9 = .int .i64 i ∧ NB wr w5.heap.size (.slice (some ⟨g8, 0, none⟩) hn hn) (markS S (List.replicate hn false) (res.2.1.take i)) ∧ w5.grownBy wr none) (fun s9 s10 s11 _ => ln - (intOf s9).toNat)
  case atStart => exact ⟨0, Nat.zero_le _, rfl, by rw [List.take_zero]; exact M7.out, G7.out⟩
  case round =>
    obtain ⟨i, hi, rfl, hm, hg⟩ := hrel
    have HMK := Lib.hid hm
    have HG := Lib.hid hg
    clear hm hg M7 G7
    by_cases hlt : i < ln
    · have i1 : (i : Int) < ln := by omega
      have i0 : (0 : Int) ≤ (i : Int) := by omega
      have hw : IntKind.i64.wrap ((i : Int) + 1) = ((i + 1 : Nat) : Int) := by have := LN9.out; rw [IntKind.wrap_i64]; omega
      have IN0 := Lib.hid (show inE e b0 dn = 0 by
        rcases Int.decEq (inE e b0 dn) 0 with x | x
        · have z := (EMP.out x).1; rw [LL.out, z] at hlt; exact absurd hlt (Nat.not_lt_zero _)
        · exact x)
      have AS := Lib.hid (ASC.out IN0.out)
      have OKS := Lib.hid (HOK.out IN0.out)
      obtain ⟨ead, hea⟩ := N3.out.some (by omega)
      subst hea
      have c0 := N3.out.cells ead rfl i hlt
      have hmem : res.2.1.getD i 0 ∈ res.2.1 := by
        rw [List.getD_eq_getElem?_getD, List.getElem?_eq_getElem (by rw [← LL.out]; exact hlt)]; exact List.getElem_mem _
      have hr9 := AS.out.rng _ hmem
      obtain ⟨li, hli⟩ : ∃ k : Nat, res.2.1.getD i 0 = (k : Int) := ⟨(res.2.1.getD i 0).toNat, by omega⟩
      have TKL := Lib.hid (take_one res.2.1 0 i (by rw [← LL.out]; exact hlt))
      rw [hli] at c0 hr9 TKL
      have LI := Lib.hid (show li < sn by omega)
      have d0 := HG.out.cell c0 (by simp)
      have B9 := Lib.hid (B1.out.keep0 HG.out)
      obtain ⟨sd, hsd⟩ := HS.out.some (by have := LI.out; omega)
      subst hsd
      have n0 : decide ((li : Int) < 0) = false := decide_eq_false (by omega)
      have n1 : decide ((sn : Int) ≤ (li : Int)) = false := decide_eq_false (by have := LI.out; omega)
      have n1b : decide (sn ≤ li) = false := decide_eq_false (by have := LI.out; omega)
      have n1c : ¬ sn ≤ li := by have := LI.out; omega
      have l0 : (0 : Int) ≤ (li : Int) := by omega
      have l1 : (li : Int) < sn := by have := LI.out; omega
      go_upto_region 9 with fail
      go_cut [82] from 41 to 81 (fun s82 wx => s82 = .bool false ∧ wr.grownBy wx none)
      case first =>
        by_cases hi0 : i = 0
        · have e1 : ((i : Int) == 0) = true := by simp [hi0]
          have e2 : decide ((0 : Int) < (i : Int)) = false := decide_eq_false (by omega)
          have e3 : ((li : Int) != 0) = false := by
            have z := AS.out.fst
            rw [hi0] at hli
            rw [hli] at z
            simp; omega
          have e1b : (i == 0) = true := by simp [hi0]
          have e2b : decide (0 < i) = false := decide_eq_false (by omega)
          have e2c : ¬ 0 < i := by omega
          have e3b : (li != 0) = false := by have z := e3; simp at z ⊢; omega
          clear hi0
          have KA := Lib.hid (fun (w' : World) (q0 : wr.grownBy w' none) => (⟨q0.cell d0 (by simp), (B9.out.keep0 q0).cell 6, q0⟩ : (fun w' : World => w'.cell? (ead.add i) = some (.int .i64 (li : Int)) ∧ w'.cell? ⟨bx, 6, none⟩ = some (.slice (some sd) sn sc) ∧ wr.grownBy w' none) w'))
          have R0 := Lib.hid (gb_drew wr none)
          refine wp_region_held_drew (S := (fun w' : World => w'.cell? (ead.add i) = some (.int .i64 (li : Int)) ∧ w'.cell? ⟨bx, 6, none⟩ = some (.slice (some sd) sn sc) ∧ wr.grownBy w' none)) (by kernel_rfl) (KA.out _ R0.out) (fun hH0 => ?_)
          refine wpAnyH_take (i := 0) (v := ?v8) rfl (by kernel_rfl) (by kernel_rfl) (by kernel_rfl) (fun _ _ _ h => h) (Or.inl ⟨by rfl, ?hy8⟩) (by assumption) ?rest8
          case hy8 => (intro wz hSw; (try dsimp only at hSw); first | (go_simp; done) | (go_simp; with_reducible rfl))
          try simp only [Act.put, List.getElem_toArray, List.getElem_cons_zero, List.setIfInBounds_toArray, List.set_cons_zero, List.set_cons_succ]
          refine wpAnyH_take (i := 1) (v := ?v9) rfl (by kernel_rfl) (by kernel_rfl) (by kernel_rfl) (fun _ _ _ h => h) (Or.inl ⟨by rfl, ?hy9⟩) (by assumption) ?rest9
          case hy9 => (intro wz hSw; (try dsimp only at hSw); first | (go_simp; done) | (go_simp; with_reducible rfl))
          try simp only [Act.put, List.getElem_toArray, List.getElem_cons_succ, List.getElem_cons_zero, List.setIfInBounds_toArray, List.set_cons_zero, List.set_cons_succ]
          refine wpAnyH_take (i := 2) (v := ?v10) rfl (by kernel_rfl) (by kernel_rfl) (by kernel_rfl) (fun _ _ _ h => h) (Or.inl ⟨by rfl, ?hy10⟩) (by assumption) ?rest10
          case hy10 => (intro wz hSw; (try dsimp only at hSw); first | (go_simp; done) | (go_simp; with_reducible rfl))
          try simp only [Act.put, List.getElem_toArray, List.getElem_cons_succ, List.getElem_cons_zero, List.setIfInBounds_toArray, List.set_cons_zero, List.set_cons_succ]
          refine wpAnyH_take (i := 3) (v := ?v11) rfl (by kernel_rfl) (by kernel_rfl) (by kernel_rfl) (fun _ _ _ h => h) (Or.inl ⟨by rfl, ?hy11⟩) (by assumption) ?rest11
          case hy11 => (intro wz hSw; (try dsimp only at hSw); first | (go_simp; done) | (go_simp; with_reducible rfl))
          try simp only [Act.put, List.getElem_toArray, List.getElem_cons_succ, List.getElem_cons_zero, List.setIfInBounds_toArray, List.set_cons_zero, List.set_cons_succ]
          refine wpAnyH_take (i := 4) (v := ?v12) rfl (by kernel_rfl) (by kernel_rfl) (by kernel_rfl) (fun _ _ _ h => h) (Or.inl ⟨by rfl, ?hy12⟩) (by assumption) ?rest12
          case hy12 => (intro wz hSw; (try dsimp only at hSw); first | (go_simp; done) | (go_simp; with_reducible rfl))
          try simp only [Act.put, List.getElem_toArray, List.getElem_cons_succ, List.getElem_cons_zero, List.setIfInBounds_toArray, List.set_cons_zero, List.set_cons_succ]
          refine wpAnyH_take (i := 5) (v := ?v13) rfl (by kernel_rfl) (by kernel_rfl) (by kernel_rfl) (fun _ _ _ h => h) (Or.inl ⟨by rfl, ?hy13⟩) (by assumption) ?rest13
          case hy13 => (intro wz hSw; (try dsimp only at hSw); first | (go_simp; done) | (go_simp; with_reducible rfl))
          try simp only [Act.put, List.getElem_toArray, List.getElem_cons_succ, List.getElem_cons_zero, List.setIfInBounds_toArray, List.set_cons_zero, List.set_cons_succ]
          refine wpAnyH_take (i := 6) (v := ?v14) rfl (by kernel_rfl) (by kernel_rfl) (by kernel_rfl) (fun _ _ _ h => h) (Or.inl ⟨by rfl, ?hy14⟩) (by assumption) ?rest14
          case hy14 => (intro wz hSw; (try dsimp only at hSw); first | (go_simp; done) | (go_simp; with_reducible rfl))
          try simp only [Act.put, List.getElem_toArray, List.getElem_cons_succ, List.getElem_cons_zero, List.setIfInBounds_toArray, List.set_cons_zero, List.set_cons_succ]
          refine wpAnyH_take (i := 7) (v := ?v15) rfl (by kernel_rfl) (by kernel_rfl) (by kernel_rfl) (fun _ _ _ h => h) (Or.inl ⟨by rfl, ?hy15⟩) (by assumption) ?rest15
          case hy15 => (intro wz hSw; (try dsimp only at hSw); first | (go_simp; done) | (go_simp; with_reducible rfl))
          try simp only [Act.put, List.getElem_toArray, List.getElem_cons_succ, List.getElem_cons_zero, List.setIfInBounds_toArray, List.set_cons_zero, List.set_cons_succ]
          refine wpAnyH_take (i := 8) (v := ?v16) rfl (by kernel_rfl) (by kernel_rfl) (by kernel_rfl) (fun _ _ _ h => h) (Or.inl ⟨by rfl, ?hy16⟩) (by assumption) ?rest16
          case hy16 => (intro wz hSw; (try dsimp only at hSw); first | (go_simp; done) | (go_simp; with_reducible rfl))
          try simp only [Act.put, List.getElem_toArray, List.getElem_cons_succ, List.getElem_cons_zero, List.setIfInBounds_toArray, List.set_cons_zero, List.set_cons_succ]
          refine wpAnyH_take (i := 9) (v := ?v17) rfl (by kernel_rfl) (by kernel_rfl) (by kernel_rfl) (fun _ _ _ h => h) (Or.inl ⟨by rfl, ?hy17⟩) (by assumption) ?rest17
          case hy17 => (intro wz hSw; (try dsimp only at hSw); first | (go_simp; done) | (go_simp; with_reducible rfl))
          try simp only [Act.put, List.getElem_toArray, List.getElem_cons_succ, List.getElem_cons_zero, List.setIfInBounds_toArray, List.set_cons_zero, List.set_cons_succ]
          refine wpAnyH_take (i := 10) (v := ?v18) rfl (by kernel_rfl) (by kernel_rfl) (by kernel_rfl) (fun _ _ _ h => h) (Or.inl ⟨by rfl, ?hy18⟩) (by assumption) ?rest18
          case hy18 => (intro wz hSw; (try dsimp only at hSw); first | (go_simp; done) | (go_simp; with_reducible rfl))
          try simp only [Act.put, List.getElem_toArray, List.getElem_cons_succ, List.getElem_cons_zero, List.setIfInBounds_toArray, List.set_cons_zero, List.set_cons_succ]
          refine wpAnyH_take (i := 11) (v := ?v19) rfl (by kernel_rfl) (by kernel_rfl) (by kernel_rfl) (fun _ _ _ h => h) (Or.inl ⟨by rfl, ?hy19⟩) (by assumption) ?rest19
          case hy19 => (intro wz hSw; (try dsimp only at hSw); first | (go_simp; done) | (go_simp; with_reducible rfl))
          try simp only [Act.put, List.getElem_toArray, List.getElem_cons_succ, List.getElem_cons_zero, List.setIfInBounds_toArray, List.set_cons_zero, List.set_cons_succ]
          refine wpAnyH_take (i := 12) (v := ?v20) rfl (by kernel_rfl) (by kernel_rfl) (by kernel_rfl) (fun _ _ _ h => h) (Or.inl ⟨by rfl, ?hy20⟩) (by assumption) ?rest20
          case hy20 => (intro wz hSw; (try dsimp only at hSw); first | (go_simp; done) | (go_simp; with_reducible rfl))
          try simp only [Act.put, List.getElem_toArray, List.getElem_cons_succ, List.getElem_cons_zero, List.setIfInBounds_toArray, List.set_cons_zero, List.set_cons_succ]
          refine wpAnyH_take (i := 13) (v := ?v21) rfl (by kernel_rfl) (by kernel_rfl) (by kernel_rfl) (fun _ _ _ h => h) (Or.inl ⟨by rfl, ?hy21⟩) (by assumption) ?rest21
          case hy21 => (intro wz hSw; (try dsimp only at hSw); first | (go_simp; done) | (go_simp; with_reducible rfl))
          try simp only [Act.put, List.getElem_toArray, List.getElem_cons_succ, List.getElem_cons_zero, List.setIfInBounds_toArray, List.set_cons_zero, List.set_cons_succ]
          refine wpAnyH_take (i := 14) (v := ?v22) rfl (by kernel_rfl) (by kernel_rfl) (by kernel_rfl) (fun _ _ _ h => h) (Or.inl ⟨by rfl, ?hy22⟩) (by assumption) ?rest22
          case hy22 => (intro wz hSw; (try dsimp only at hSw); first | (go_simp; done) | (go_simp; with_reducible rfl))
          try simp only [Act.put, List.getElem_toArray, List.getElem_cons_succ, List.getElem_cons_zero, List.setIfInBounds_toArray, List.set_cons_zero, List.set_cons_succ]
          refine wpAnyH_take (i := 15) (v := ?v23) rfl (by kernel_rfl) (by kernel_rfl) (by kernel_rfl) (fun _ _ _ h => h) (Or.inl ⟨by rfl, ?hy23⟩) (by assumption) ?rest23
          case hy23 => (intro wz hSw; (try dsimp only at hSw); first | (go_simp; done) | (go_simp; with_reducible rfl))
          try simp only [Act.put, List.getElem_toArray, List.getElem_cons_succ, List.getElem_cons_zero, List.setIfInBounds_toArray, List.set_cons_zero, List.set_cons_succ]
          refine wpAnyH_take (i := 16) (v := ?v24) rfl (by kernel_rfl) (by kernel_rfl) (by kernel_rfl) (fun _ _ _ h => h) (Or.inl ⟨by rfl, ?hy24⟩) (by assumption) ?rest24
          case hy24 => (intro wz hSw; (try dsimp only at hSw); first | (go_simp; done) | (go_simp; with_reducible rfl))
          try simp only [Act.put, List.getElem_toArray, List.getElem_cons_succ, List.getElem_cons_zero, List.setIfInBounds_toArray, List.set_cons_zero, List.set_cons_succ]
          refine wpAnyH_take (i := 17) (v := ?v25) rfl (by kernel_rfl) (by kernel_rfl) (by kernel_rfl) (fun _ _ _ h => h) (Or.inl ⟨by rfl, ?hy25⟩) (by assumption) ?rest25
          case hy25 => (intro wz hSw; (try dsimp only at hSw); first | (go_simp; done) | (go_simp; with_reducible rfl))
          try simp only [Act.put, List.getElem_toArray, List.getElem_cons_succ, List.getElem_cons_zero, List.setIfInBounds_toArray, List.set_cons_zero, List.set_cons_succ]
          refine wpAnyH_take (i := 18) (v := ?v26) rfl (by kernel_rfl) (by kernel_rfl) (by kernel_rfl) (fun _ _ _ h => h) (Or.inl ⟨by rfl, ?hy26⟩) (by assumption) ?rest26
          case hy26 => (intro wz hSw; (try dsimp only at hSw); first | (go_simp; done) | (go_simp; with_reducible rfl))
          try simp only [Act.put, List.getElem_toArray, List.getElem_cons_succ, List.getElem_cons_zero, List.setIfInBounds_toArray, List.set_cons_zero, List.set_cons_succ]
          refine wpAnyH_take (i := 19) (v := ?v27) rfl (by kernel_rfl) (by kernel_rfl) (by kernel_rfl) (fun _ _ _ h => h) (Or.inl ⟨by rfl, ?hy27⟩) (by assumption) ?rest27
          case hy27 => (intro wz hSw; (try dsimp only at hSw); first | (go_simp; done) | (go_simp; with_reducible rfl))
          try simp only [Act.put, List.getElem_toArray, List.getElem_cons_succ, List.getElem_cons_zero, List.setIfInBounds_toArray, List.set_cons_zero, List.set_cons_succ]
          refine wpAnyH_take (i := 20) (v := ?v28) rfl (by kernel_rfl) (by kernel_rfl) (by kernel_rfl) (fun _ _ _ h => h) (Or.inl ⟨by rfl, ?hy28⟩) (by assumption) ?rest28
          case hy28 => (intro wz hSw; (try dsimp only at hSw); first | (go_simp; done) | (go_simp; with_reducible rfl))
          try simp only [Act.put, List.getElem_toArray, List.getElem_cons_succ, List.getElem_cons_zero, List.setIfInBounds_toArray, List.set_cons_zero, List.set_cons_succ]
          refine wpAnyH_take (i := 21) (v := ?v29) rfl (by kernel_rfl) (by kernel_rfl) (by kernel_rfl) (fun _ _ _ h => h) (Or.inl ⟨by rfl, ?hy29⟩) (by assumption) ?rest29
          case hy29 => (intro wz hSw; (try dsimp only at hSw); first | (go_simp; done) | (go_simp; with_reducible rfl))
          try simp only [Act.put, List.getElem_toArray, List.getElem_cons_succ, List.getElem_cons_zero, List.setIfInBounds_toArray, List.set_cons_zero, List.set_cons_succ]
          refine wpAnyH_take (i := 22) (v := ?v30) rfl (by kernel_rfl) (by kernel_rfl) (by kernel_rfl) (fun _ _ _ h => h) (Or.inl ⟨by rfl, ?hy30⟩) (by assumption) ?rest30
          case hy30 => (intro wz hSw; (try dsimp only at hSw); first | (go_simp; done) | (go_simp; with_reducible rfl))
          try simp only [Act.put, List.getElem_toArray, List.getElem_cons_succ, List.getElem_cons_zero, List.setIfInBounds_toArray, List.set_cons_zero, List.set_cons_succ]
          refine wpAnyH_take (i := 23) (v := ?v31) rfl (by kernel_rfl) (by kernel_rfl) (by kernel_rfl) (fun _ _ _ h => h) (Or.inl ⟨by rfl, ?hy31⟩) (by assumption) ?rest31
          case hy31 => (intro wz hSw; (try dsimp only at hSw); first | (go_simp; done) | (go_simp; with_reducible rfl))
          try simp only [Act.put, List.getElem_toArray, List.getElem_cons_succ, List.getElem_cons_zero, List.setIfInBounds_toArray, List.set_cons_zero, List.set_cons_succ]
          refine wpAnyH_take (i := 24) (v := ?v32) rfl (by kernel_rfl) (by kernel_rfl) (by kernel_rfl) (fun _ _ _ h => h) (Or.inl ⟨by rfl, ?hy32⟩) (by assumption) ?rest32
          case hy32 => (intro wz hSw; (try dsimp only at hSw); first | (go_simp; done) | (go_simp; with_reducible rfl))
          try simp only [Act.put, List.getElem_toArray, List.getElem_cons_succ, List.getElem_cons_zero, List.setIfInBounds_toArray, List.set_cons_zero, List.set_cons_succ]
          refine wpAnyH_take (i := 25) (v := ?v33) rfl (by kernel_rfl) (by kernel_rfl) (by kernel_rfl) (fun _ _ _ h => h) (Or.inl ⟨by rfl, ?hy33⟩) (by assumption) ?rest33
          case hy33 => (intro wz hSw; (try dsimp only at hSw); first | (go_simp; done) | (go_simp; with_reducible rfl))
          try simp only [Act.put, List.getElem_toArray, List.getElem_cons_succ, List.getElem_cons_zero, List.setIfInBounds_toArray, List.set_cons_zero, List.set_cons_succ]
          refine wpAnyH_take (i := 26) (v := ?v34) rfl (by kernel_rfl) (by kernel_rfl) (by kernel_rfl) (fun _ _ _ h => h) (Or.inl ⟨by rfl, ?hy34⟩) (by assumption) ?rest34
          case hy34 => (intro wz hSw; (try dsimp only at hSw); first | (go_simp; done) | (go_simp; with_reducible rfl))
          try simp only [Act.put, List.getElem_toArray, List.getElem_cons_succ, List.getElem_cons_zero, List.setIfInBounds_toArray, List.set_cons_zero, List.set_cons_succ]
          refine wpAnyH_take (i := 27) (v := ?v35) rfl (by kernel_rfl) (by kernel_rfl) (by kernel_rfl) (fun _ _ _ h => h) (Or.inl ⟨by rfl, ?hy35⟩) (by assumption) ?rest35
          case hy35 => (intro wz hSw; (try dsimp only at hSw); first | (go_simp; done) | (go_simp; with_reducible rfl))
          try simp only [Act.put, List.getElem_toArray, List.getElem_cons_succ, List.getElem_cons_zero, List.setIfInBounds_toArray, List.set_cons_zero, List.set_cons_succ]
          refine wpAnyH_take (i := 28) (v := ?v36) rfl (by kernel_rfl) (by kernel_rfl) (by kernel_rfl) (fun _ _ _ h => h) (Or.inl ⟨by rfl, ?hy36⟩) (by assumption) ?rest36
          case hy36 => (intro wz hSw; (try dsimp only at hSw); first | (go_simp; done) | (go_simp; with_reducible rfl))
          try simp only [Act.put, List.getElem_toArray, List.getElem_cons_succ, List.getElem_cons_zero, List.setIfInBounds_toArray, List.set_cons_zero, List.set_cons_succ]
          refine wpAnyH_take (i := 29) (v := ?v37) rfl (by kernel_rfl) (by kernel_rfl) (by kernel_rfl) (fun _ _ _ h => h) (Or.inl ⟨by rfl, ?hy37⟩) (by assumption) ?rest37
          case hy37 => (intro wz hSw; (try dsimp only at hSw); first | (go_simp; done) | (go_simp; with_reducible rfl))
          try simp only [Act.put, List.getElem_toArray, List.getElem_cons_succ, List.getElem_cons_zero, List.setIfInBounds_toArray, List.set_cons_zero, List.set_cons_succ]
          refine wpAnyH_take (i := 30) (v := undef) rfl (by kernel_rfl) (by kernel_rfl) (by kernel_rfl) (fun _ _ _ h => h) (Or.inr ⟨by rfl, rfl⟩) (by assumption) ?_
          try simp only [Act.put, List.getElem_toArray, List.getElem_cons_succ, List.getElem_cons_zero, List.setIfInBounds_toArray, List.set_cons_zero, List.set_cons_succ]
          refine wpAnyH_take (i := 31) (v := undef) rfl (by kernel_rfl) (by kernel_rfl) (by kernel_rfl) (fun _ _ _ h => h) (Or.inr ⟨by rfl, rfl⟩) (by assumption) ?_
          try simp only [Act.put, List.getElem_toArray, List.getElem_cons_succ, List.getElem_cons_zero, List.setIfInBounds_toArray, List.set_cons_zero, List.set_cons_succ]
          refine wpAnyH_take (i := 32) (v := undef) rfl (by kernel_rfl) (by kernel_rfl) (by kernel_rfl) (fun _ _ _ h => h) (Or.inr ⟨by rfl, rfl⟩) (by assumption) ?_
          try simp only [Act.put, List.getElem_toArray, List.getElem_cons_succ, List.getElem_cons_zero, List.setIfInBounds_toArray, List.set_cons_zero, List.set_cons_succ]
          refine wpAnyH_take (i := 33) (v := undef) rfl (by kernel_rfl) (by kernel_rfl) (by kernel_rfl) (fun _ _ _ h => h) (Or.inr ⟨by rfl, rfl⟩) (by assumption) ?_
          try simp only [Act.put, List.getElem_toArray, List.getElem_cons_succ, List.getElem_cons_zero, List.setIfInBounds_toArray, List.set_cons_zero, List.set_cons_succ]
          refine wpAnyH_take (i := 34) (v := undef) rfl (by kernel_rfl) (by kernel_rfl) (by kernel_rfl) (fun _ _ _ h => h) (Or.inr ⟨by rfl, rfl⟩) (by assumption) ?_
          try simp only [Act.put, List.getElem_toArray, List.getElem_cons_succ, List.getElem_cons_zero, List.setIfInBounds_toArray, List.set_cons_zero, List.set_cons_succ]
          refine wpAnyH_take (i := 35) (v := undef) rfl (by kernel_rfl) (by kernel_rfl) (by kernel_rfl) (fun _ _ _ h => h) (Or.inr ⟨by rfl, rfl⟩) (by assumption) ?_
          try simp only [Act.put, List.getElem_toArray, List.getElem_cons_succ, List.getElem_cons_zero, List.setIfInBounds_toArray, List.set_cons_zero, List.set_cons_succ]
          refine wpAnyH_take (i := 36) (v := undef) rfl (by kernel_rfl) (by kernel_rfl) (by kernel_rfl) (fun _ _ _ h => h) (Or.inr ⟨by rfl, rfl⟩) (by assumption) ?_
          try simp only [Act.put, List.getElem_toArray, List.getElem_cons_succ, List.getElem_cons_zero, List.setIfInBounds_toArray, List.set_cons_zero, List.set_cons_succ]
          refine wpAnyH_take (i := 37) (v := undef) rfl (by kernel_rfl) (by kernel_rfl) (by kernel_rfl) (fun _ _ _ h => h) (Or.inr ⟨by rfl, rfl⟩) (by assumption) ?_
          try simp only [Act.put, List.getElem_toArray, List.getElem_cons_succ, List.getElem_cons_zero, List.setIfInBounds_toArray, List.set_cons_zero, List.set_cons_succ]
          refine wpAnyH_take (i := 38) (v := undef) rfl (by kernel_rfl) (by kernel_rfl) (by kernel_rfl) (fun _ _ _ h => h) (Or.inr ⟨by rfl, rfl⟩) (by assumption) ?_
          try simp only [Act.put, List.getElem_toArray, List.getElem_cons_succ, List.getElem_cons_zero, List.setIfInBounds_toArray, List.set_cons_zero, List.set_cons_succ]
          refine wpAnyH_take (i := 39) (v := undef) rfl (by kernel_rfl) (by kernel_rfl) (by kernel_rfl) (fun _ _ _ h => h) (Or.inr ⟨by rfl, rfl⟩) (by assumption) ?_
          try simp only [Act.put, List.getElem_toArray, List.getElem_cons_succ, List.getElem_cons_zero, List.setIfInBounds_toArray, List.set_cons_zero, List.set_cons_succ]
          refine wpAnyH_take (i := 40) (v := ?v38) rfl (by kernel_rfl) (by kernel_rfl) (by kernel_rfl) (fun _ _ _ h => h) (Or.inl ⟨by rfl, ?hy38⟩) (by assumption) ?rest38
          case hy38 => (intro wz hSw; (try dsimp only at hSw); first | (go_simp; done) | (go_simp; with_reducible rfl))
          try simp only [Act.put, List.getElem_toArray, List.getElem_cons_succ, List.getElem_cons_zero, List.setIfInBounds_toArray, List.set_cons_zero, List.set_cons_succ]
          refine wpAnyH_take (i := 41) (v := ?v39) rfl (by kernel_rfl) (by kernel_rfl) (by kernel_rfl) (fun _ _ _ h => h) (Or.inl ⟨by rfl, ?hy39⟩) (by assumption) ?rest39
          case hy39 => (intro wz hSw; (try dsimp only at hSw); first | (go_simp; done) | (go_simp; with_reducible rfl))
          try simp only [Act.put, List.getElem_toArray, List.getElem_cons_succ, List.getElem_cons_zero, List.setIfInBounds_toArray, List.set_cons_zero, List.set_cons_succ]
          refine wpAnyH_done (by kernel_rfl) ?_ _
          clear hH0
          go_wp2_with fail
          go_meet
          exact ⟨rfl, R0.out⟩
        · have e1 : ((i : Int) == 0) = false := by simp [hi0]
          have e2 : decide ((0 : Int) < (i : Int)) = true := decide_eq_true (by omega)
          have e1b : (i == 0) = false := by simp [hi0]
          have e2b : decide (0 < i) = true := decide_eq_true (by omega)
          have e2c : 0 < i := by omega
          have hw2 : IntKind.i64.wrap ((i : Int) - 1) = ((i - 1 : Nat) : Int) := by have := LN9.out; rw [IntKind.wrap_i64]; omega
          have j1 : ((i - 1 : Nat) : Int) < ln := by omega
          have j0 : (0 : Int) ≤ ((i - 1 : Nat) : Int) := by omega
          obtain ⟨lp, hlp⟩ : ∃ x, x = res.2.1.getD (i - 1) 0 := ⟨_, rfl⟩
          have d1 := HG.out.cell (N3.out.cells ead rfl (i - 1) (by omega)) (by simp)
          rw [← hlp] at d1
          have e3 : decide ((li : Int) ≤ lp) = false := decide_eq_false (by
            have z := List.pairwise_iff_getElem.1 AS.out.asc (i - 1) i (by rw [← LL.out]; omega) (by rw [← LL.out]; exact hlt) (by omega)
            have z1 : res.2.1.getD (i - 1) 0 = res.2.1[i - 1]'(by rw [← LL.out]; omega) := by rw [List.getD_eq_getElem?_getD, List.getElem?_eq_getElem]; rfl
            have z2 : res.2.1.getD i 0 = res.2.1[i]'(by rw [← LL.out]; exact hlt) := by rw [List.getD_eq_getElem?_getD, List.getElem?_eq_getElem]; rfl
            rw [← z1, ← z2, hli, ← hlp] at z
            omega)
          clear hi0 hlp
          obtain ⟨im, him⟩ : ∃ m, m = i - 1 := ⟨_, rfl⟩
          rw [← him] at hw2 j1 j0 d1
          clear him
          have KA := Lib.hid (fun (w' : World) (q0 : wr.grownBy w' none) => (⟨q0.cell d0 (by simp), (B9.out.keep0 q0).cell 6, q0.cell d1 (by simp), q0⟩ : (fun w' : World => w'.cell? (ead.add i) = some (.int .i64 (li : Int)) ∧ w'.cell? ⟨bx, 6, none⟩ = some (.slice (some sd) sn sc) ∧ w'.cell? (ead.add im) = some (.int .i64 (lp : Int)) ∧ wr.grownBy w' none) w'))
          have R0 := Lib.hid (gb_drew wr none)
          refine wp_region_held_drew (S := (fun w' : World => w'.cell? (ead.add i) = some (.int .i64 (li : Int)) ∧ w'.cell? ⟨bx, 6, none⟩ = some (.slice (some sd) sn sc) ∧ w'.cell? (ead.add im) = some (.int .i64 (lp : Int)) ∧ wr.grownBy w' none)) (by kernel_rfl) (KA.out _ R0.out) (fun hH0 => ?_)
          refine wpAnyH_take (i := 0) (v := ?v40) rfl (by kernel_rfl) (by kernel_rfl) (by kernel_rfl) (fun _ _ _ h => h) (Or.inl ⟨by rfl, ?hy40⟩) (by assumption) ?rest40
          case hy40 => (intro wz hSw; (try dsimp only at hSw); first | (go_simp; done) | (go_simp; with_reducible rfl))
          try simp only [Act.put, List.getElem_toArray, List.getElem_cons_zero, List.setIfInBounds_toArray, List.set_cons_zero, List.set_cons_succ]
          refine wpAnyH_take (i := 1) (v := ?v41) rfl (by kernel_rfl) (by kernel_rfl) (by kernel_rfl) (fun _ _ _ h => h) (Or.inl ⟨by rfl, ?hy41⟩) (by assumption) ?rest41
          case hy41 => (intro wz hSw; (try dsimp only at hSw); first | (go_simp; done) | (go_simp; with_reducible rfl))
          try simp only [Act.put, List.getElem_toArray, List.getElem_cons_succ, List.getElem_cons_zero, List.setIfInBounds_toArray, List.set_cons_zero, List.set_cons_succ]
          refine wpAnyH_take (i := 2) (v := ?v42) rfl (by kernel_rfl) (by kernel_rfl) (by kernel_rfl) (fun _ _ _ h => h) (Or.inl ⟨by rfl, ?hy42⟩) (by assumption) ?rest42
          case hy42 => (intro wz hSw; (try dsimp only at hSw); first | (go_simp; done) | (go_simp; with_reducible rfl))
          try simp only [Act.put, List.getElem_toArray, List.getElem_cons_succ, List.getElem_cons_zero, List.setIfInBounds_toArray, List.set_cons_zero, List.set_cons_succ]
          refine wpAnyH_take (i := 3) (v := ?v43) rfl (by kernel_rfl) (by kernel_rfl) (by kernel_rfl) (fun _ _ _ h => h) (Or.inl ⟨by rfl, ?hy43⟩) (by assumption) ?rest43
          case hy43 => (intro wz hSw; (try dsimp only at hSw); first | (go_simp; done) | (go_simp; with_reducible rfl))
          try simp only [Act.put, List.getElem_toArray, List.getElem_cons_succ, List.getElem_cons_zero, List.setIfInBounds_toArray, List.set_cons_zero, List.set_cons_succ]
          refine wpAnyH_take (i := 4) (v := ?v44) rfl (by kernel_rfl) (by kernel_rfl) (by kernel_rfl) (fun _ _ _ h => h) (Or.inl ⟨by rfl, ?hy44⟩) (by assumption) ?rest44
          case hy44 => (intro wz hSw; (try dsimp only at hSw); first | (go_simp; done) | (go_simp; with_reducible rfl))
          try simp only [Act.put, List.getElem_toArray, List.getElem_cons_succ, List.getElem_cons_zero, List.setIfInBounds_toArray, List.set_cons_zero, List.set_cons_succ]
          refine wpAnyH_take (i := 5) (v := ?v45) rfl (by kernel_rfl) (by kernel_rfl) (by kernel_rfl) (fun _ _ _ h => h) (Or.inl ⟨by rfl, ?hy45⟩) (by assumption) ?rest45
          case hy45 => (intro wz hSw; (try dsimp only at hSw); first | (go_simp; done) | (go_simp; with_reducible rfl))
          try simp only [Act.put, List.getElem_toArray, List.getElem_cons_succ, List.getElem_cons_zero, List.setIfInBounds_toArray, List.set_cons_zero, List.set_cons_succ]
          refine wpAnyH_take (i := 6) (v := ?v46) rfl (by kernel_rfl) (by kernel_rfl) (by kernel_rfl) (fun _ _ _ h => h) (Or.inl ⟨by rfl, ?hy46⟩) (by assumption) ?rest46
          case hy46 => (intro wz hSw; (try dsimp only at hSw); first | (go_simp; done) | (go_simp; with_reducible rfl))
          try simp only [Act.put, List.getElem_toArray, List.getElem_cons_succ, List.getElem_cons_zero, List.setIfInBounds_toArray, List.set_cons_zero, List.set_cons_succ]
          refine wpAnyH_take (i := 7) (v := ?v47) rfl (by kernel_rfl) (by kernel_rfl) (by kernel_rfl) (fun _ _ _ h => h) (Or.inl ⟨by rfl, ?hy47⟩) (by assumption) ?rest47
          case hy47 => (intro wz hSw; (try dsimp only at hSw); first | (go_simp; done) | (go_simp; with_reducible rfl))
          try simp only [Act.put, List.getElem_toArray, List.getElem_cons_succ, List.getElem_cons_zero, List.setIfInBounds_toArray, List.set_cons_zero, List.set_cons_succ]
          refine wpAnyH_take (i := 8) (v := ?v48) rfl (by kernel_rfl) (by kernel_rfl) (by kernel_rfl) (fun _ _ _ h => h) (Or.inl ⟨by rfl, ?hy48⟩) (by assumption) ?rest48
          case hy48 => (intro wz hSw; (try dsimp only at hSw); first | (go_simp; done) | (go_simp; with_reducible rfl))
          try simp only [Act.put, List.getElem_toArray, List.getElem_cons_succ, List.getElem_cons_zero, List.setIfInBounds_toArray, List.set_cons_zero, List.set_cons_succ]
          refine wpAnyH_take (i := 9) (v := ?v49) rfl (by kernel_rfl) (by kernel_rfl) (by kernel_rfl) (fun _ _ _ h => h) (Or.inl ⟨by rfl, ?hy49⟩) (by assumption) ?rest49
          case hy49 => (intro wz hSw; (try dsimp only at hSw); first | (go_simp; done) | (go_simp; with_reducible rfl))
          try simp only [Act.put, List.getElem_toArray, List.getElem_cons_succ, List.getElem_cons_zero, List.setIfInBounds_toArray, List.set_cons_zero, List.set_cons_succ]
          refine wpAnyH_take (i := 10) (v := ?v50) rfl (by kernel_rfl) (by kernel_rfl) (by kernel_rfl) (fun _ _ _ h => h) (Or.inl ⟨by rfl, ?hy50⟩) (by assumption) ?rest50
          case hy50 => (intro wz hSw; (try dsimp only at hSw); first | (go_simp; done) | (go_simp; with_reducible rfl))
          try simp only [Act.put, List.getElem_toArray, List.getElem_cons_succ, List.getElem_cons_zero, List.setIfInBounds_toArray, List.set_cons_zero, List.set_cons_succ]
          refine wpAnyH_take (i := 11) (v := ?v51) rfl (by kernel_rfl) (by kernel_rfl) (by kernel_rfl) (fun _ _ _ h => h) (Or.inl ⟨by rfl, ?hy51⟩) (by assumption) ?rest51
          case hy51 => (intro wz hSw; (try dsimp only at hSw); first | (go_simp; done) | (go_simp; with_reducible rfl))
          try simp only [Act.put, List.getElem_toArray, List.getElem_cons_succ, List.getElem_cons_zero, List.setIfInBounds_toArray, List.set_cons_zero, List.set_cons_succ]
          refine wpAnyH_take (i := 12) (v := ?v52) rfl (by kernel_rfl) (by kernel_rfl) (by kernel_rfl) (fun _ _ _ h => h) (Or.inl ⟨by rfl, ?hy52⟩) (by assumption) ?rest52
          case hy52 => (intro wz hSw; (try dsimp only at hSw); first | (go_simp; done) | (go_simp; with_reducible rfl))
          try simp only [Act.put, List.getElem_toArray, List.getElem_cons_succ, List.getElem_cons_zero, List.setIfInBounds_toArray, List.set_cons_zero, List.set_cons_succ]
          refine wpAnyH_take (i := 13) (v := ?v53) rfl (by kernel_rfl) (by kernel_rfl) (by kernel_rfl) (fun _ _ _ h => h) (Or.inl ⟨by rfl, ?hy53⟩) (by assumption) ?rest53
          case hy53 => (intro wz hSw; (try dsimp only at hSw); first | (go_simp; done) | (go_simp; with_reducible rfl))
          try simp only [Act.put, List.getElem_toArray, List.getElem_cons_succ, List.getElem_cons_zero, List.setIfInBounds_toArray, List.set_cons_zero, List.set_cons_succ]
          refine wpAnyH_take (i := 14) (v := ?v54) rfl (by kernel_rfl) (by kernel_rfl) (by kernel_rfl) (fun _ _ _ h => h) (Or.inl ⟨by rfl, ?hy54⟩) (by assumption) ?rest54
          case hy54 => (intro wz hSw; (try dsimp only at hSw); first | (go_simp; done) | (go_simp; with_reducible rfl))
          try simp only [Act.put, List.getElem_toArray, List.getElem_cons_succ, List.getElem_cons_zero, List.setIfInBounds_toArray, List.set_cons_zero, List.set_cons_succ]
          refine wpAnyH_take (i := 15) (v := ?v55) rfl (by kernel_rfl) (by kernel_rfl) (by kernel_rfl) (fun _ _ _ h => h) (Or.inl ⟨by rfl, ?hy55⟩) (by assumption) ?rest55
          case hy55 => (intro wz hSw; (try dsimp only at hSw); first | (go_simp; done) | (go_simp; with_reducible rfl))
          try simp only [Act.put, List.getElem_toArray, List.getElem_cons_succ, List.getElem_cons_zero, List.setIfInBounds_toArray, List.set_cons_zero, List.set_cons_succ]
          refine wpAnyH_take (i := 16) (v := ?v56) rfl (by kernel_rfl) (by kernel_rfl) (by kernel_rfl) (fun _ _ _ h => h) (Or.inl ⟨by rfl, ?hy56⟩) (by assumption) ?rest56
          case hy56 => (intro wz hSw; (try dsimp only at hSw); first | (go_simp; done) | (go_simp; with_reducible rfl))
          try simp only [Act.put, List.getElem_toArray, List.getElem_cons_succ, List.getElem_cons_zero, List.setIfInBounds_toArray, List.set_cons_zero, List.set_cons_succ]
          refine wpAnyH_take (i := 17) (v := ?v57) rfl (by kernel_rfl) (by kernel_rfl) (by kernel_rfl) (fun _ _ _ h => h) (Or.inl ⟨by rfl, ?hy57⟩) (by assumption) ?rest57
          case hy57 => (intro wz hSw; (try dsimp only at hSw); first | (go_simp; done) | (go_simp; with_reducible rfl))
          try simp only [Act.put, List.getElem_toArray, List.getElem_cons_succ, List.getElem_cons_zero, List.setIfInBounds_toArray, List.set_cons_zero, List.set_cons_succ]
          refine wpAnyH_take (i := 18) (v := ?v58) rfl (by kernel_rfl) (by kernel_rfl) (by kernel_rfl) (fun _ _ _ h => h) (Or.inl ⟨by rfl, ?hy58⟩) (by assumption) ?rest58
          case hy58 => (intro wz hSw; (try dsimp only at hSw); first | (go_simp; done) | (go_simp; with_reducible rfl))
          try simp only [Act.put, List.getElem_toArray, List.getElem_cons_succ, List.getElem_cons_zero, List.setIfInBounds_toArray, List.set_cons_zero, List.set_cons_succ]
          refine wpAnyH_take (i := 19) (v := undef) rfl (by kernel_rfl) (by kernel_rfl) (by kernel_rfl) (fun _ _ _ h => h) (Or.inr ⟨by rfl, rfl⟩) (by assumption) ?_
          try simp only [Act.put, List.getElem_toArray, List.getElem_cons_succ, List.getElem_cons_zero, List.setIfInBounds_toArray, List.set_cons_zero, List.set_cons_succ]
          refine wpAnyH_take (i := 20) (v := undef) rfl (by kernel_rfl) (by kernel_rfl) (by kernel_rfl) (fun _ _ _ h => h) (Or.inr ⟨by rfl, rfl⟩) (by assumption) ?_
          try simp only [Act.put, List.getElem_toArray, List.getElem_cons_succ, List.getElem_cons_zero, List.setIfInBounds_toArray, List.set_cons_zero, List.set_cons_succ]
          refine wpAnyH_take (i := 21) (v := undef) rfl (by kernel_rfl) (by kernel_rfl) (by kernel_rfl) (fun _ _ _ h => h) (Or.inr ⟨by rfl, rfl⟩) (by assumption) ?_
          try simp only [Act.put, List.getElem_toArray, List.getElem_cons_succ, List.getElem_cons_zero, List.setIfInBounds_toArray, List.set_cons_zero, List.set_cons_succ]
          refine wpAnyH_take (i := 22) (v := undef) rfl (by kernel_rfl) (by kernel_rfl) (by kernel_rfl) (fun _ _ _ h => h) (Or.inr ⟨by rfl, rfl⟩) (by assumption) ?_
          try simp only [Act.put, List.getElem_toArray, List.getElem_cons_succ, List.getElem_cons_zero, List.setIfInBounds_toArray, List.set_cons_zero, List.set_cons_succ]
          refine wpAnyH_take (i := 23) (v := undef) rfl (by kernel_rfl) (by kernel_rfl) (by kernel_rfl) (fun _ _ _ h => h) (Or.inr ⟨by rfl, rfl⟩) (by assumption) ?_
          try simp only [Act.put, List.getElem_toArray, List.getElem_cons_succ, List.getElem_cons_zero, List.setIfInBounds_toArray, List.set_cons_zero, List.set_cons_succ]
          refine wpAnyH_take (i := 24) (v := ?v59) rfl (by kernel_rfl) (by kernel_rfl) (by kernel_rfl) (fun _ _ _ h => h) (Or.inl ⟨by rfl, ?hy59⟩) (by assumption) ?rest59
          case hy59 => (intro wz hSw; (try dsimp only at hSw); first | (go_simp; done) | (go_simp; with_reducible rfl))
          try simp only [Act.put, List.getElem_toArray, List.getElem_cons_succ, List.getElem_cons_zero, List.setIfInBounds_toArray, List.set_cons_zero, List.set_cons_succ]
          refine wpAnyH_take (i := 25) (v := ?v60) rfl (by kernel_rfl) (by kernel_rfl) (by kernel_rfl) (fun _ _ _ h => h) (Or.inl ⟨by rfl, ?hy60⟩) (by assumption) ?rest60
          case hy60 => (intro wz hSw; (try dsimp only at hSw); first | (go_simp; done) | (go_simp; with_reducible rfl))
          try simp only [Act.put, List.getElem_toArray, List.getElem_cons_succ, List.getElem_cons_zero, List.setIfInBounds_toArray, List.set_cons_zero, List.set_cons_succ]
          refine wpAnyH_take (i := 26) (v := ?v61) rfl (by kernel_rfl) (by kernel_rfl) (by kernel_rfl) (fun _ _ _ h => h) (Or.inl ⟨by rfl, ?hy61⟩) (by assumption) ?rest61
          case hy61 => (intro wz hSw; (try dsimp only at hSw); first | (go_simp; done) | (go_simp; with_reducible rfl))
          try simp only [Act.put, List.getElem_toArray, List.getElem_cons_succ, List.getElem_cons_zero, List.setIfInBounds_toArray, List.set_cons_zero, List.set_cons_succ]
          refine wpAnyH_take (i := 27) (v := ?v62) rfl (by kernel_rfl) (by kernel_rfl) (by kernel_rfl) (fun _ _ _ h => h) (Or.inl ⟨by rfl, ?hy62⟩) (by assumption) ?rest62
          case hy62 => (intro wz hSw; (try dsimp only at hSw); first | (go_simp; done) | (go_simp; with_reducible rfl))
          try simp only [Act.put, List.getElem_toArray, List.getElem_cons_succ, List.getElem_cons_zero, List.setIfInBounds_toArray, List.set_cons_zero, List.set_cons_succ]
          refine wpAnyH_take (i := 28) (v := ?v63) rfl (by kernel_rfl) (by kernel_rfl) (by kernel_rfl) (fun _ _ _ h => h) (Or.inl ⟨by rfl, ?hy63⟩) (by assumption) ?rest63
          case hy63 => (intro wz hSw; (try dsimp only at hSw); first | (go_simp; done) | (go_simp; with_reducible rfl))
          try simp only [Act.put, List.getElem_toArray, List.getElem_cons_succ, List.getElem_cons_zero, List.setIfInBounds_toArray, List.set_cons_zero, List.set_cons_succ]
          refine wpAnyH_take (i := 29) (v := ?v64) rfl (by kernel_rfl) (by kernel_rfl) (by kernel_rfl) (fun _ _ _ h => h) (Or.inl ⟨by rfl, ?hy64⟩) (by assumption) ?rest64
          case hy64 => (intro wz hSw; (try dsimp only at hSw); first | (go_simp; done) | (go_simp; with_reducible rfl))
          try simp only [Act.put, List.getElem_toArray, List.getElem_cons_succ, List.getElem_cons_zero, List.setIfInBounds_toArray, List.set_cons_zero, List.set_cons_succ]
          refine wpAnyH_take (i := 30) (v := ?v65) rfl (by kernel_rfl) (by kernel_rfl) (by kernel_rfl) (fun _ _ _ h => h) (Or.inl ⟨by rfl, ?hy65⟩) (by assumption) ?rest65
          case hy65 => (intro wz hSw; (try dsimp only at hSw); first | (go_simp; done) | (go_simp; with_reducible rfl))
          try simp only [Act.put, List.getElem_toArray, List.getElem_cons_succ, List.getElem_cons_zero, List.setIfInBounds_toArray, List.set_cons_zero, List.set_cons_succ]
          refine wpAnyH_take (i := 31) (v := ?v66) rfl (by kernel_rfl) (by kernel_rfl) (by kernel_rfl) (fun _ _ _ h => h) (Or.inl ⟨by rfl, ?hy66⟩) (by assumption) ?rest66
          case hy66 => (intro wz hSw; (try dsimp only at hSw); first | (go_simp; done) | (go_simp; with_reducible rfl))
          try simp only [Act.put, List.getElem_toArray, List.getElem_cons_succ, List.getElem_cons_zero, List.setIfInBounds_toArray, List.set_cons_zero, List.set_cons_succ]
          refine wpAnyH_take (i := 32) (v := ?v67) rfl (by kernel_rfl) (by kernel_rfl) (by kernel_rfl) (fun _ _ _ h => h) (Or.inl ⟨by rfl, ?hy67⟩) (by assumption) ?rest67
          case hy67 => (intro wz hSw; (try dsimp only at hSw); first | (go_simp; done) | (go_simp; with_reducible rfl))
          try simp only [Act.put, List.getElem_toArray, List.getElem_cons_succ, List.getElem_cons_zero, List.setIfInBounds_toArray, List.set_cons_zero, List.set_cons_succ]
          refine wpAnyH_take (i := 33) (v := ?v68) rfl (by kernel_rfl) (by kernel_rfl) (by kernel_rfl) (fun _ _ _ h => h) (Or.inl ⟨by rfl, ?hy68⟩) (by assumption) ?rest68
          case hy68 => (intro wz hSw; (try dsimp only at hSw); first | (go_simp; done) | (go_simp; with_reducible rfl))
          try simp only [Act.put, List.getElem_toArray, List.getElem_cons_succ, List.getElem_cons_zero, List.setIfInBounds_toArray, List.set_cons_zero, List.set_cons_succ]
          refine wpAnyH_take (i := 34) (v := ?v69) rfl (by kernel_rfl) (by kernel_rfl) (by kernel_rfl) (fun _ _ _ h => h) (Or.inl ⟨by rfl, ?hy69⟩) (by assumption) ?rest69
          case hy69 => (intro wz hSw; (try dsimp only at hSw); first | (go_simp; done) | (go_simp; with_reducible rfl))
          try simp only [Act.put, List.getElem_toArray, List.getElem_cons_succ, List.getElem_cons_zero, List.setIfInBounds_toArray, List.set_cons_zero, List.set_cons_succ]
          refine wpAnyH_take (i := 35) (v := ?v70) rfl (by kernel_rfl) (by kernel_rfl) (by kernel_rfl) (fun _ _ _ h => h) (Or.inl ⟨by rfl, ?hy70⟩) (by assumption) ?rest70
          case hy70 => (intro wz hSw; (try dsimp only at hSw); first | (go_simp; done) | (go_simp; with_reducible rfl))
          try simp only [Act.put, List.getElem_toArray, List.getElem_cons_succ, List.getElem_cons_zero, List.setIfInBounds_toArray, List.set_cons_zero, List.set_cons_succ]
          refine wpAnyH_take (i := 36) (v := ?v71) rfl (by kernel_rfl) (by kernel_rfl) (by kernel_rfl) (fun _ _ _ h => h) (Or.inl ⟨by rfl, ?hy71⟩) (by assumption) ?rest71
          case hy71 => (intro wz hSw; (try dsimp only at hSw); first | (go_simp; done) | (go_simp; with_reducible rfl))
          try simp only [Act.put, List.getElem_toArray, List.getElem_cons_succ, List.getElem_cons_zero, List.setIfInBounds_toArray, List.set_cons_zero, List.set_cons_succ]
          refine wpAnyH_take (i := 37) (v := ?v72) rfl (by kernel_rfl) (by kernel_rfl) (by kernel_rfl) (fun _ _ _ h => h) (Or.inl ⟨by rfl, ?hy72⟩) (by assumption) ?rest72
          case hy72 => (intro wz hSw; (try dsimp only at hSw); first | (go_simp; done) | (go_simp; with_reducible rfl))
          try simp only [Act.put, List.getElem_toArray, List.getElem_cons_succ, List.getElem_cons_zero, List.setIfInBounds_toArray, List.set_cons_zero, List.set_cons_succ]
          refine wpAnyH_take (i := 38) (v := ?v73) rfl (by kernel_rfl) (by kernel_rfl) (by kernel_rfl) (fun _ _ _ h => h) (Or.inl ⟨by rfl, ?hy73⟩) (by assumption) ?rest73
          case hy73 => (intro wz hSw; (try dsimp only at hSw); first | (go_simp; done) | (go_simp; with_reducible rfl))
          try simp only [Act.put, List.getElem_toArray, List.getElem_cons_succ, List.getElem_cons_zero, List.setIfInBounds_toArray, List.set_cons_zero, List.set_cons_succ]
          refine wpAnyH_take (i := 39) (v := ?v74) rfl (by kernel_rfl) (by kernel_rfl) (by kernel_rfl) (fun _ _ _ h => h) (Or.inl ⟨by rfl, ?hy74⟩) (by assumption) ?rest74
          case hy74 => (intro wz hSw; (try dsimp only at hSw); first | (go_simp; done) | (go_simp; with_reducible rfl))
          try simp only [Act.put, List.getElem_toArray, List.getElem_cons_succ, List.getElem_cons_zero, List.setIfInBounds_toArray, List.set_cons_zero, List.set_cons_succ]
          refine wpAnyH_take (i := 40) (v := ?v75) rfl (by kernel_rfl) (by kernel_rfl) (by kernel_rfl) (fun _ _ _ h => h) (Or.inl ⟨by rfl, ?hy75⟩) (by assumption) ?rest75
          case hy75 => (intro wz hSw; (try dsimp only at hSw); first | (go_simp; done) | (go_simp; with_reducible rfl))
          try simp only [Act.put, List.getElem_toArray, List.getElem_cons_succ, List.getElem_cons_zero, List.setIfInBounds_toArray, List.set_cons_zero, List.set_cons_succ]
          refine wpAnyH_take (i := 41) (v := ?v76) rfl (by kernel_rfl) (by kernel_rfl) (by kernel_rfl) (fun _ _ _ h => h) (Or.inl ⟨by rfl, ?hy76⟩) (by assumption) ?rest76
          case hy76 => (intro wz hSw; (try dsimp only at hSw); first | (go_simp; done) | (go_simp; with_reducible rfl))
          try simp only [Act.put, List.getElem_toArray, List.getElem_cons_succ, List.getElem_cons_zero, List.setIfInBounds_toArray, List.set_cons_zero, List.set_cons_succ]
          refine wpAnyH_done (by kernel_rfl) ?_ _
          clear hH0
          go_wp2_with fail
          go_meet
          exact ⟨rfl, R0.out⟩
      case rest =>
      obtain ⟨rfl, gc⟩ := hcut
      have GC := Lib.hid (gb_trans HG.out gc)
      have HMK2 := Lib.hid (own_keep0 HMK.out gc)
      clear gc HMK HG d0 B9 n0 n1 n1b n1c
      have d2 := GC.out.cell c0 (by simp)
      have B8 := Lib.hid (B1.out.keep0 GC.out)
      obtain ⟨_, ⟨xa, xn, xc, k1, hX⟩, _⟩ := HS.out.cells sd rfl li LI.out
      have d3 := (gb_trans G6.out GC.out).cell k1 (by simp)
      have HX := Lib.hid (hX.keep0 G6.out)
      have DE := Lib.hid (decl_ok (OKS.out.2.2 li (by rw [LS.out]; exact LI.out)).1)
      have LX := Lib.hid hX.len
      obtain ⟨ex, hex⟩ : ∃ ex, ex = (S.getD li psz).ex := ⟨_, rfl⟩
      rw [← hex] at HX DE LX
      have HEX := Lib.hid hex
      clear k1 hX c0 hli hmem hr9 hex
      go_wp2
      go_upto_region 11 with fail
      have KB := Lib.hid (fun (w' : World) (q0 : wc.grownBy w' none) => (⟨(B8.out.keep0 q0).cell 6, q0.cell d2 (by simp), q0.cell d3 (by simp), q0⟩ : (fun w' : World => w'.cell? ⟨bx, 6, none⟩ = some (.slice (some sd) sn sc) ∧ w'.cell? (ead.add i) = some (.int .i64 (li : Int)) ∧ w'.cell? ⟨(sd.add (li * 7)).block, (sd.add (li * 7)).off + 1, none⟩ = some (.slice xa xn xc) ∧ wc.grownBy w' none) w'))
      have V0 := Lib.hid (gb_drew wc none)
      refine wp_region_held_drew (S := (fun w' : World => w'.cell? ⟨bx, 6, none⟩ = some (.slice (some sd) sn sc) ∧ w'.cell? (ead.add i) = some (.int .i64 (li : Int)) ∧ w'.cell? ⟨(sd.add (li * 7)).block, (sd.add (li * 7)).off + 1, none⟩ = some (.slice xa xn xc) ∧ wc.grownBy w' none)) (by kernel_rfl) (KB.out _ V0.out) (fun hH0 => ?_)
      refine wpAnyH_take (i := 0) (v := ?v77) rfl (by kernel_rfl) (by kernel_rfl) (by kernel_rfl) (fun _ _ _ h => h) (Or.inl ⟨by rfl, ?hy77⟩) (by assumption) ?rest77
      case hy77 => (intro wz hSw; (try dsimp only at hSw); first | (go_simp; done) | (go_simp; with_reducible rfl))
      try simp only [Act.put, List.getElem_toArray, List.getElem_cons_zero, List.setIfInBounds_toArray, List.set_cons_zero, List.set_cons_succ]
      refine wpAnyH_take (i := 1) (v := ?v78) rfl (by kernel_rfl) (by kernel_rfl) (by kernel_rfl) (fun _ _ _ h => h) (Or.inl ⟨by rfl, ?hy78⟩) (by assumption) ?rest78
      case hy78 => (intro wz hSw; (try dsimp only at hSw); first | (go_simp; done) | (go_simp; with_reducible rfl))
      try simp only [Act.put, List.getElem_toArray, List.getElem_cons_succ, List.getElem_cons_zero, List.setIfInBounds_toArray, List.set_cons_zero, List.set_cons_succ]
      refine wpAnyH_take (i := 2) (v := ?v79) rfl (by kernel_rfl) (by kernel_rfl) (by kernel_rfl) (fun _ _ _ h => h) (Or.inl ⟨by rfl, ?hy79⟩) (by assumption) ?rest79
      case hy79 => (intro wz hSw; (try dsimp only at hSw); first | (go_simp; done) | (go_simp; with_reducible rfl))
      try simp only [Act.put, List.getElem_toArray, List.getElem_cons_succ, List.getElem_cons_zero, List.setIfInBounds_toArray, List.set_cons_zero, List.set_cons_succ]
      refine wpAnyH_take (i := 3) (v := ?v80) rfl (by kernel_rfl) (by kernel_rfl) (by kernel_rfl) (fun _ _ _ h => h) (Or.inl ⟨by rfl, ?hy80⟩) (by assumption) ?rest80
      case hy80 => (intro wz hSw; (try dsimp only at hSw); first | (go_simp; done) | (go_simp; with_reducible rfl))
      try simp only [Act.put, List.getElem_toArray, List.getElem_cons_succ, List.getElem_cons_zero, List.setIfInBounds_toArray, List.set_cons_zero, List.set_cons_succ]
      refine wpAnyH_take (i := 4) (v := ?v81) rfl (by kernel_rfl) (by kernel_rfl) (by kernel_rfl) (fun _ _ _ h => h) (Or.inl ⟨by rfl, ?hy81⟩) (by assumption) ?rest81
      case hy81 => (intro wz hSw; (try dsimp only at hSw); first | (go_simp; done) | (go_simp; with_reducible rfl))
      try simp only [Act.put, List.getElem_toArray, List.getElem_cons_succ, List.getElem_cons_zero, List.setIfInBounds_toArray, List.set_cons_zero, List.set_cons_succ]
      refine wpAnyH_take (i := 5) (v := ?v82) rfl (by kernel_rfl) (by kernel_rfl) (by kernel_rfl) (fun _ _ _ h => h) (Or.inl ⟨by rfl, ?hy82⟩) (by assumption) ?rest82
      case hy82 => (intro wz hSw; (try dsimp only at hSw); first | (go_simp; done) | (go_simp; with_reducible rfl))
      try simp only [Act.put, List.getElem_toArray, List.getElem_cons_succ, List.getElem_cons_zero, List.setIfInBounds_toArray, List.set_cons_zero, List.set_cons_succ]
      refine wpAnyH_take (i := 6) (v := ?v83) rfl (by kernel_rfl) (by kernel_rfl) (by kernel_rfl) (fun _ _ _ h => h) (Or.inl ⟨by rfl, ?hy83⟩) (by assumption) ?rest83
      case hy83 => (intro wz hSw; (try dsimp only at hSw); first | (go_simp; done) | (go_simp; with_reducible rfl))
      try simp only [Act.put, List.getElem_toArray, List.getElem_cons_succ, List.getElem_cons_zero, List.setIfInBounds_toArray, List.set_cons_zero, List.set_cons_succ]
      refine wpAnyH_take (i := 7) (v := ?v84) rfl (by kernel_rfl) (by kernel_rfl) (by kernel_rfl) (fun _ _ _ h => h) (Or.inl ⟨by rfl, ?hy84⟩) (by assumption) ?rest84
      case hy84 => (intro wz hSw; (try dsimp only at hSw); first | (go_simp; done) | (go_simp; with_reducible rfl))
      try simp only [Act.put, List.getElem_toArray, List.getElem_cons_succ, List.getElem_cons_zero, List.setIfInBounds_toArray, List.set_cons_zero, List.set_cons_succ]
      refine wpAnyH_take (i := 8) (v := ?v85) rfl (by kernel_rfl) (by kernel_rfl) (by kernel_rfl) (fun _ _ _ h => h) (Or.inl ⟨by rfl, ?hy85⟩) (by assumption) ?rest85
      case hy85 => (intro wz hSw; (try dsimp only at hSw); first | (go_simp; done) | (go_simp; with_reducible rfl))
      try simp only [Act.put, List.getElem_toArray, List.getElem_cons_succ, List.getElem_cons_zero, List.setIfInBounds_toArray, List.set_cons_zero, List.set_cons_succ]
      refine wpAnyH_take (i := 9) (v := ?v86) rfl (by kernel_rfl) (by kernel_rfl) (by kernel_rfl) (fun _ _ _ h => h) (Or.inl ⟨by rfl, ?hy86⟩) (by assumption) ?rest86
      case hy86 => (intro wz hSw; (try dsimp only at hSw); first | (go_simp; done) | (go_simp; with_reducible rfl))
      try simp only [Act.put, List.getElem_toArray, List.getElem_cons_succ, List.getElem_cons_zero, List.setIfInBounds_toArray, List.set_cons_zero, List.set_cons_succ]
      refine wpAnyH_done (by kernel_rfl) ?_ _
      clear hH0
      have GD := Lib.hid (gb_trans GC.out V0.out)
      have HMK3 := Lib.hid (own_keep0 HMK2.out V0.out)
      clear HMK2 GC d2 d3 B8 V0 KB l0 l1
      go_wp2
      go_loopw [11] (fun s11 wr2 => ∃ k : Nat, k ≤ xn ∧ s11 = .int .i64 k ∧ NB wr2 w5.heap.size (.slice (some ⟨g8, 0, none⟩) hn hn) (mark (markS S (List.replicate hn false) (res.2.1.take i)) (ex.take k)) ∧ w5.grownBy wr2 none) (fun s11 _ => xn - (intOf s11).toNat)
      case atStart => exact ⟨0, Nat.zero_le _, rfl, by rw [List.take_zero]; exact HMK3.out, GD.out⟩
      case round =>
        obtain ⟨k, hk, rfl, hm, hg⟩ := hrel
        have HM4 := Lib.hid hm
        have HG4 := Lib.hid hg
        have HX4 := Lib.hid (HX.out.keep0 hg)
        clear hm hg HMK3 GD
        by_cases hlt2 : k < xn
        · have k1 : (k : Int) < xn := by omega
          have k0 : (0 : Int) ≤ (k : Int) := by omega
          have hw3 : IntKind.i64.wrap ((k : Int) + 1) = ((k + 1 : Nat) : Int) := by have := DE.out.2.1; have := LX.out; rw [IntKind.wrap_i64]; omega
          obtain ⟨xd, hxd⟩ := HX4.out.some (by omega)
          subst hxd
          have c0 := HX4.out.cells xd rfl k hlt2
          obtain ⟨h, hh1, hh2⟩ := DE.out.1 (ex.getD k 0) (by
            rw [List.getD_eq_getElem?_getD, List.getElem?_eq_getElem (by rw [LX.out]; exact hlt2)]; exact List.getElem_mem _)
          have TKX := Lib.hid (take_one ex 0 k (by rw [LX.out]; exact hlt2))
          rw [hh1] at c0 TKX
          rw [LH.out] at hh2
          have m0 : ¬ (h : Int) < 0 := by omega
          have m1 : ¬ (hn : Int) ≤ (h : Int) := by omega
          have m2 : (0 : Int) ≤ (h : Int) := by omega
          have m3 : (h : Int) < hn := by omega
          have LEN := Lib.hid (show (mark (markS S (List.replicate hn false) (res.2.1.take i)) (ex.take k)).length = hn by rw [mark_len, markS_len, List.length_replicate])
          obtain ⟨mk, hmk⟩ : ∃ mk, mk = mark (markS S (List.replicate hn false) (res.2.1.take i)) (ex.take k) := ⟨_, rfl⟩
          rw [← hmk] at HM4 LEN
          have HMK5 := Lib.hid hmk
          have own := HM4.out
          unfold NB at own
          obtain ⟨cb, bb⟩ := own_blk (show wr.ownsRow w5.heap.size 4 1 (.slice (some ⟨g8, 0, none⟩) mk.length hn) mk.length (mk.map Value.bool) by have z := own; rw [LEN.out] at z ⊢; exact z)
          have z0 := own_cellB (show BRow wr w5.heap.size (.slice (some ⟨g8, 0, none⟩) mk.length hn) mk by unfold BRow; have z := own; rw [LEN.out] at z ⊢; exact z) h (by rw [LEN.out]; exact hh2)
          have z1 := bb.free h
          have ST9 := Lib.hid (World.ownsRow.stored (show wr.ownsRow w5.heap.size 4 1 (.slice (some ⟨g8, 0, none⟩) mk.length hn) mk.length (mk.map Value.bool) by have z := own; rw [LEN.out] at z ⊢; exact z) h (.bool true))
          have GS := Lib.hid (gb_set wr g8 h (.bool true))
          clear hmk own bb
          go_wp2
          go_roundw
          case rel => exact ⟨k + 1, by omega, by go_num, by
            rw [TKX.out, mark_snoc, ← HMK5.out, Int.toNat_natCast]
            unfold NB
            have z := ST9.out.1
            rw [List.length_set, List.map_set, LEN.out] at *
            exact z, gb_new (gb_trans (gb_any HG4.out) GS.out) LG8.out⟩
          case measure => simp [intOf]; omega
        · have hke : k = xn := by omega
          have k1 : ¬ (k : Int) < xn := by omega
          have FT := Lib.hid (show ex.take k = ex from List.take_of_length_le (by rw [LX.out]; omega))
          go_wp2
          go_roundw
          case rel => exact ⟨i + 1, by omega, by go_num, by rw [TKL.out, markS_snoc, Int.toNat_natCast, ← HEX.out]; have z := HM4.out; rw [FT.out] at z; exact z, HG4.out⟩
          case measure => simp [intOf]; omega
    · have hie : i = ln := by omega
      have i1 : ¬ (i : Int) < ln := by omega
      have FT := Lib.hid (show res.2.1.take i = res.2.1 from List.take_of_length_le (by rw [← LL.out]; omega))
      rw [FT.out] at HMK
      have B9 := Lib.hid (B1.out.keep0 HG.out)
      have E9 := Lib.hid (E1.out.keep0 HG.out)
      have O9 := Lib.hid (O1.out.keep0 HG.out)
      have G9 := Lib.hid (gb_trans G6.out HG.out)
      have EZ1 := Lib.hid (show EZ X1 res.1 by have z := O1.out; rw [HRES.out] at z ⊢; exact run_ez z (tlz_hz TZ.out) (by rw [LH.out]; have := TZ.out.h; omega) (by rw [LM.out]; have := TZ.out.m; omega) (by rw [LD.out]; have := HDL.out; omega))
      clear B1 E1 O1 G6 FT
      by_cases h0 : inE e b0 dn = 0
      case neg =>
        obtain ⟨z1, z2⟩ := EMP.out h0
        have L0 := Lib.hid (show ln = 0 by rw [LL.out, z1]; rfl)
        have l0 : ((ln : Int) == 0) = true := by simp [L0.out]
        have zz := inE_vals e b0 dn
        rcases (show inE e b0 dn = 2 ∨ inE e b0 dn = 4 by rcases zz with q | q | q; exact absurd q h0; exact .inl q; exact .inr q) with q | q
        · have r0 : (res.2.2 == 2) = true := by rw [z2, q]; rfl
          clear z1 z2 zz q h0
          go_wp2_with fail
          refine (works18_any wr).mono ?_
          rintro e9 wz9 ⟨rfl, g⟩
          have GZ9 := Lib.hid (gb_trans G9.out g)
          clear g
          go_wp2
          go_ret
          exact ⟨rfl, GZ9.out⟩
        · have r0 : (res.2.2 == 2) = false := by rw [z2, q]; rfl
          have r1 : (res.2.2 == 4) = true := by rw [z2, q]; rfl
          clear z1 z2 zz q h0
          go_wp2_with fail
          refine (works18_any wr).mono ?_
          rintro e9 wz9 ⟨rfl, g⟩
          have GZ9 := Lib.hid (gb_trans G9.out g)
          clear g
          go_wp2
          go_ret
          exact ⟨rfl, GZ9.out⟩
      have AS := Lib.hid (ASC.out h0)
      have OKS := Lib.hid (HOK.out h0)
      have lpb : decide (0 < ln) = true := decide_eq_true (by have := AS.out.ne; rw [← LL.out] at this; exact this)
      have lpc : 0 < ln := by have := AS.out.ne; rw [← LL.out] at this; exact this
      have lp : (0 : Int) < ln := by have := AS.out.ne; rw [← LL.out] at this; omega
      have R0 := Lib.hid (show res = pRun H M S bs 0 by rw [HRES.out, h0])
      have CD := Lib.hid (show res.2.2 = 0 ∨ res.2.2 = 3 ∨ res.2.2 = 15 by rw [R0.out]; exact pRun_code OKS.out (HHD.out h0))
      have r0 : (res.2.2 == 2) = false := by rw [beq_eq_false_iff_ne]; have := CD.out; omega
      have r1 : (res.2.2 == 4) = false := by rw [beq_eq_false_iff_ne]; have := CD.out; omega
      by_cases hr : res.2.2 = 0
      case neg =>
        have r2 : (res.2.2 != 0) = true := by simp [hr]
        have NEW := Lib.hid (show res.1 = newE H M by have y := hr; rw [R0.out] at y ⊢; exact pRun_new y)
        have KN := Lib.hid (fun (W : World) (q : wr.grownBy W none) => rnew_any W (.string nm) (.slice rA rN rC) (.slice xA xN xC) (.slice tA tN tC) (.slice sa sn sc) (.slice kA kN kC) (.slice dA dN dC) ha ma hn hc mn mc H M (HH.out.keep0 (gb_trans G9.out q)) (HM.out.keep0 (gb_trans G9.out q)) (by have := TZ.out.h; omega) (by have := TZ.out.m; omega) (fun j => Nat.le_trans (TZ.out.f j) (by decide)))
        unfold RetE at KN
        have EZ2 := Lib.hid (fun (X2 : EX) (W2 : World) (Vs2 : List Value) (bb : Nat) (o : OE W2 bb X2 (newE H M) Vs2) => (⟨by rw [← o.vl, ← NEW.out, O9.out.vl]; exact EZ1.out.v, by rw [← o.fl, ← NEW.out, O9.out.fl]; exact EZ1.out.f, by rw [← o.tl, ← NEW.out, O9.out.tl]; exact EZ1.out.t, by rw [← o.pl, ← NEW.out, O9.out.pl]; exact EZ1.out.p, by rw [← NEW.out]; exact EZ1.out.r⟩ : EZ X2 (newE H M)))
        have KQ := Lib.hid (fun (W : World) (q : wr.grownBy W none) (X2 : EX) (Vs2 : List Value) (h2 : ER W X2 (newE H M)) (z2 : EZ X2 (newE H M)) => requal_any W X1 X2 res.1 (newE H M) (O9.out.er.keep0 q) h2 EZ1.out z2 true (by rw [NEW.out]; simp [sameE]))
        unfold RetV at KQ
        go_upto_region 21 with fail
        have KC := Lib.hid (fun (w' : World) (q0 : wr.grownBy w' none) => (⟨(E9.out.keep0 q0).cell 0, (E9.out.keep0 q0).cell 1, (E9.out.keep0 q0).cell 2, (E9.out.keep0 q0).cell 3, (B9.out.keep0 q0).cell 0, (B9.out.keep0 q0).cell 1, (B9.out.keep0 q0).cell 2, (B9.out.keep0 q0).cell 3, (B9.out.keep0 q0).cell 4, (B9.out.keep0 q0).cell 5, (B9.out.keep0 q0).cell 6, (B9.out.keep0 q0).cell 7, (B9.out.keep0 q0).cell 8, q0⟩ : (fun w' : World => w'.cell? ⟨b5, 0, none⟩ = some (.slice X1.va X1.vn X1.vc) ∧ w'.cell? ⟨b5, 1, none⟩ = some (.slice X1.fa X1.fn X1.fc) ∧ w'.cell? ⟨b5, 2, none⟩ = some (.slice X1.ta X1.tn X1.tc) ∧ w'.cell? ⟨b5, 3, none⟩ = some (.slice X1.pa X1.pn X1.pc) ∧ w'.cell? ⟨bx, 0, none⟩ = some (.string nm) ∧ w'.cell? ⟨bx, 1, none⟩ = some (.slice ha hn hc) ∧ w'.cell? ⟨bx, 2, none⟩ = some (.slice ma mn mc) ∧ w'.cell? ⟨bx, 3, none⟩ = some (.slice rA rN rC) ∧ w'.cell? ⟨bx, 4, none⟩ = some (.slice xA xN xC) ∧ w'.cell? ⟨bx, 5, none⟩ = some (.slice tA tN tC) ∧ w'.cell? ⟨bx, 6, none⟩ = some (.slice sa sn sc) ∧ w'.cell? ⟨bx, 7, none⟩ = some (.slice kA kN kC) ∧ w'.cell? ⟨bx, 8, none⟩ = some (.slice dA dN dC) ∧ wr.grownBy w' none) w'))
        have R0 := Lib.hid (gb_drew wr none)
        refine wp_region_held_drew (S := (fun w' : World => w'.cell? ⟨b5, 0, none⟩ = some (.slice X1.va X1.vn X1.vc) ∧ w'.cell? ⟨b5, 1, none⟩ = some (.slice X1.fa X1.fn X1.fc) ∧ w'.cell? ⟨b5, 2, none⟩ = some (.slice X1.ta X1.tn X1.tc) ∧ w'.cell? ⟨b5, 3, none⟩ = some (.slice X1.pa X1.pn X1.pc) ∧ w'.cell? ⟨bx, 0, none⟩ = some (.string nm) ∧ w'.cell? ⟨bx, 1, none⟩ = some (.slice ha hn hc) ∧ w'.cell? ⟨bx, 2, none⟩ = some (.slice ma mn mc) ∧ w'.cell? ⟨bx, 3, none⟩ = some (.slice rA rN rC) ∧ w'.cell? ⟨bx, 4, none⟩ = some (.slice xA xN xC) ∧ w'.cell? ⟨bx, 5, none⟩ = some (.slice tA tN tC) ∧ w'.cell? ⟨bx, 6, none⟩ = some (.slice sa sn sc) ∧ w'.cell? ⟨bx, 7, none⟩ = some (.slice kA kN kC) ∧ w'.cell? ⟨bx, 8, none⟩ = some (.slice dA dN dC) ∧ wr.grownBy w' none)) (by kernel_rfl) (KC.out _ R0.out) (fun hH0 => ?_)
        refine wpAnyH_take (i := 0) (v := ?v87) rfl (by kernel_rfl) (by kernel_rfl) (by kernel_rfl) (fun _ _ _ h => h) (Or.inl ⟨by rfl, ?hy87⟩) (by assumption) ?rest87
        case hy87 => (intro wz hSw; (try dsimp only at hSw); first | (go_simp; done) | (go_simp; with_reducible rfl))
        try simp only [Act.put, List.getElem_toArray, List.getElem_cons_zero, List.setIfInBounds_toArray, List.set_cons_zero, List.set_cons_succ]
        refine wpAnyH_take (i := 1) (v := ?v88) rfl (by kernel_rfl) (by kernel_rfl) (by kernel_rfl) (fun _ _ _ h => h) (Or.inl ⟨by rfl, ?hy88⟩) (by assumption) ?rest88
        case hy88 => (intro wz hSw; (try dsimp only at hSw); first | (go_simp; done) | (go_simp; with_reducible rfl))
        try simp only [Act.put, List.getElem_toArray, List.getElem_cons_succ, List.getElem_cons_zero, List.setIfInBounds_toArray, List.set_cons_zero, List.set_cons_succ]
        refine wpAnyH_take (i := 2) (v := ?v89) rfl (by kernel_rfl) (by kernel_rfl) (by kernel_rfl) (fun _ _ _ h => h) (Or.inl ⟨by rfl, ?hy89⟩) (by assumption) ?rest89
        case hy89 => (intro wz hSw; (try dsimp only at hSw); first | (go_simp; done) | (go_simp; with_reducible rfl))
        try simp only [Act.put, List.getElem_toArray, List.getElem_cons_succ, List.getElem_cons_zero, List.setIfInBounds_toArray, List.set_cons_zero, List.set_cons_succ]
        refine wpAnyH_take (i := 3) (v := ?v90) rfl (by kernel_rfl) (by kernel_rfl) (by kernel_rfl) (fun _ _ _ h => h) (Or.inl ⟨by rfl, ?hy90⟩) (by assumption) ?rest90
        case hy90 => (intro wz hSw; (try dsimp only at hSw); first | (go_simp; done) | (go_simp; with_reducible rfl))
        try simp only [Act.put, List.getElem_toArray, List.getElem_cons_succ, List.getElem_cons_zero, List.setIfInBounds_toArray, List.set_cons_zero, List.set_cons_succ]
        refine wpAnyH_take (i := 4) (v := ?v91) rfl (by kernel_rfl) (by kernel_rfl) (by kernel_rfl) (fun _ _ _ h => h) (Or.inl ⟨by rfl, ?hy91⟩) (by assumption) ?rest91
        case hy91 => (intro wz hSw; (try dsimp only at hSw); first | (go_simp; done) | (go_simp; with_reducible rfl))
        try simp only [Act.put, List.getElem_toArray, List.getElem_cons_succ, List.getElem_cons_zero, List.setIfInBounds_toArray, List.set_cons_zero, List.set_cons_succ]
        refine wpAnyH_take (i := 5) (v := ?v92) rfl (by kernel_rfl) (by kernel_rfl) (by kernel_rfl) (fun _ _ _ h => h) (Or.inl ⟨by rfl, ?hy92⟩) (by assumption) ?rest92
        case hy92 => (intro wz hSw; (try dsimp only at hSw); first | (go_simp; done) | (go_simp; with_reducible rfl))
        try simp only [Act.put, List.getElem_toArray, List.getElem_cons_succ, List.getElem_cons_zero, List.setIfInBounds_toArray, List.set_cons_zero, List.set_cons_succ]
        refine wpAnyH_ready (rs := [6]) (by kernel_rfl) (by simp) ?_
        refine AllReadyH.cons (o := _) rfl (fun K hK => ?_) AllReadyH.nil
        go_simp
        (with_reducible refine (KN.out _ R0.out).mono ?_)
        rintro e rw1 ⟨X2, Vs2, rfl, oe, g⟩
        have O2 := Lib.hid oe
        have GN2 := Lib.hid g
        clear oe
        have R1 := Lib.hid (gb_trans R0.out g)
        clear g
        try dsimp only
        refine hK.out _ _ (KC.out _ R1.out) (fun hH1 => ?_)
        clear hK K hH0
        try simp only [Act.put, List.getElem_toArray, List.getElem_cons_succ, List.getElem_cons_zero, List.setIfInBounds_toArray, List.set_cons_zero, List.set_cons_succ]
        refine wpAnyH_ready (rs := [7]) (by kernel_rfl) (by simp) ?_
        refine AllReadyH.cons (o := _) rfl (fun K hK => ?_) AllReadyH.nil
        go_simp
        (with_reducible refine (KQ.out _ R1.out X2 Vs2 O2.out.er (EZ2.out X2 _ Vs2 _ O2.out)).mono ?_)
        rintro e rw2 ⟨rfl, g⟩
        have R2 := Lib.hid (gb_trans R1.out g)
        clear g
        try dsimp only
        refine hK.out _ _ (KC.out _ R2.out) (fun hH2 => ?_)
        clear hK K hH1
        try simp only [Act.put, List.getElem_toArray, List.getElem_cons_succ, List.getElem_cons_zero, List.setIfInBounds_toArray, List.set_cons_zero, List.set_cons_succ]
        refine wpAnyH_take (i := 8) (v := ?v93) rfl (by kernel_rfl) (by kernel_rfl) (by kernel_rfl) (fun _ _ _ h => h) (Or.inl ⟨by rfl, ?hy93⟩) (by assumption) ?rest93
        case hy93 => (intro wz hSw; (try dsimp only at hSw); first | (go_simp; done) | (go_simp; with_reducible rfl))
        try simp only [Act.put, List.getElem_toArray, List.getElem_cons_succ, List.getElem_cons_zero, List.setIfInBounds_toArray, List.set_cons_zero, List.set_cons_succ]
        refine wpAnyH_take (i := 9) (v := ?v94) rfl (by kernel_rfl) (by kernel_rfl) (by kernel_rfl) (fun _ _ _ h => h) (Or.inl ⟨by rfl, ?hy94⟩) (by assumption) ?rest94
        case hy94 => (intro wz hSw; (try dsimp only at hSw); first | (go_simp; done) | (go_simp; with_reducible rfl))
        try simp only [Act.put, List.getElem_toArray, List.getElem_cons_succ, List.getElem_cons_zero, List.setIfInBounds_toArray, List.set_cons_zero, List.set_cons_succ]
        refine wpAnyH_ready (rs := [10]) (by kernel_rfl) (by simp) ?_
        refine AllReadyH.cons (o := _) rfl (fun K hK => ?_) AllReadyH.nil
        go_simp
        (with_reducible refine (works18_any _).mono ?_)
        rintro e rw3 ⟨rfl, g⟩
        have R3 := Lib.hid (gb_trans R2.out g)
        clear g
        try dsimp only
        refine hK.out _ _ (KC.out _ R3.out) (fun hH3 => ?_)
        clear hK K hH2
        try simp only [Act.put, List.getElem_toArray, List.getElem_cons_succ, List.getElem_cons_zero, List.setIfInBounds_toArray, List.set_cons_zero, List.set_cons_succ]
        refine wpAnyH_take (i := 11) (v := ?v95) rfl (by kernel_rfl) (by kernel_rfl) (by kernel_rfl) (fun _ _ _ h => h) (Or.inl ⟨by rfl, ?hy95⟩) (by assumption) ?rest95
        case hy95 => (intro wz hSw; (try dsimp only at hSw); first | (go_simp; done) | (go_simp; with_reducible rfl))
        try simp only [Act.put, List.getElem_toArray, List.getElem_cons_succ, List.getElem_cons_zero, List.setIfInBounds_toArray, List.set_cons_zero, List.set_cons_succ]
        refine wpAnyH_take (i := 12) (v := ?v96) rfl (by kernel_rfl) (by kernel_rfl) (by kernel_rfl) (fun _ _ _ h => h) (Or.inl ⟨by rfl, ?hy96⟩) (by assumption) ?rest96
        case hy96 => (intro wz hSw; (try dsimp only at hSw); first | (go_simp; done) | (go_simp; with_reducible rfl))
        try simp only [Act.put, List.getElem_toArray, List.getElem_cons_succ, List.getElem_cons_zero, List.setIfInBounds_toArray, List.set_cons_zero, List.set_cons_succ]
        refine wpAnyH_done (by kernel_rfl) ?_ _
        clear hH3
        have GF := Lib.hid (gb_trans G9.out R3.out)
        go_wp2
        go_ret
        exact ⟨rfl, GF.out⟩
      have r2 : (res.2.2 != 0) = false := by simp [hr]
      obtain ⟨mk, hmk⟩ : ∃ mk, mk = markS S (List.replicate hn false) res.2.1 := ⟨_, rfl⟩
      rw [← hmk] at HMK
      have VM := Lib.hid (show res.1.V = mk by have y := hr; rw [hmk, R0.out] at *; rw [pRun_mark OKS.out y, LH.out])
      have LMK := Lib.hid (show mk.length = hn by rw [hmk, markS_len, List.length_replicate])
      have TZ9 := Lib.hid (show res.1.T = List.replicate mn 0 by rw [R0.out, (pRun_size (M := M) (S := S) (bs := bs) (tlz_hz TZ.out) 0).2.2.1, LM.out])
      have CHK := Lib.hid (show chkE H M res.1 0 by rw [R0.out]; exact pRun_env (fun _ => OKS.out))
      have KH := Lib.hid (fun (W : World) (q : wr.grownBy W none) (h : Int) => rhas_any W X1.va X1.fa X1.ta X1.pa X1.vn X1.vc X1.fn X1.fc X1.tn X1.tc X1.pn X1.pc res.1 (O9.out.er.keep0 q).v h)
      have KC := Lib.hid (fun (W : World) (q : wr.grownBy W none) => rcheck_c W (.string nm) (.slice rA rN rC) (.slice xA xN xC) (.slice tA tN tC) (.slice sa sn sc) (.slice kA kN kC) (.slice dA dN dC) ha ma hn hc mn mc H M (HH.out.keep0 (gb_trans G9.out q)) (HM.out.keep0 (gb_trans G9.out q)) X1.va X1.fa X1.ta X1.pa X1.vn X1.vc X1.fn X1.fc X1.tn X1.tc X1.pn X1.pc res.1 (O9.out.er.keep0 q).v (O9.out.er.keep0 q).f (O9.out.er.keep0 q).t (by have := TZ.out.h; omega) (fun _ => ⟨EZ1.out.f, EZ1.out.t, EZ1.out.r⟩) 0 CHK.out)
      unfold RetV at KH KC
      have HN10 := Lib.hid TZ.out.h
      have TN9 := Lib.hid (show X1.tn = mn by rw [← O9.out.tl, TZ9.out, List.length_replicate])
      have MN16 := Lib.hid TZ.out.m
      clear hmk HRES HHD HOK ASC EMP R0 CD CHK
      go_wp2
      go_loopw [12] (fun s12 wq => ∃ h : Nat, h ≤ hn ∧ s12 = .int .i64 h ∧ wr.grownBy wq none) (fun s12 _ => hn - (intOf s12).toNat)
      case atStart => exact ⟨0, Nat.zero_le _, rfl, gb_refl _ _⟩
      case round =>
        obtain ⟨h, hh, rfl, hg2⟩ := hrel
        have GQ := Lib.hid hg2
        clear hg2
        by_cases hlt2 : h < hn
        · have h1 : (h : Int) < hn := by omega
          have h0 : (0 : Int) ≤ (h : Int) := by omega
          have hw : IntKind.i64.wrap ((h : Int) + 1) = ((h + 1 : Nat) : Int) := by have := HN10.out; rw [IntKind.wrap_i64]; omega
          have E7 := Lib.hid (E9.out.keep0 GQ.out)
          have own := own_keep0 HMK.out GQ.out
          unfold NB at own
          have d4 := own_cellB (show BRow wr w5.heap.size (.slice (some ⟨g8, 0, none⟩) mk.length hn) mk by unfold BRow; have z := own; rw [LMK.out] at z ⊢; exact z) h (by rw [LMK.out]; exact hlt2)
          have VB := Lib.hid (show validB res.1.V (h : Int) = mk.getD h false by
            unfold validB
            rw [VM.out, (isX_iff _ _).2 ⟨by omega, by rw [LMK.out]; omega⟩, Int.toNat_natCast]
            rfl)
          obtain ⟨bv, hbv⟩ : ∃ b, b = mk.getD h false := ⟨_, rfl⟩
          rw [← hbv] at d4 VB
          have KH2 := Lib.hid (fun (W : World) (q : wr.grownBy W none) => by have z := KH.out W (gb_trans GQ.out q) (h : Int); rw [VB.out] at z; exact z)
          have QQ : (bv != bv) = false := by simp
          clear hbv
          clear own VB
          go_upto_region 25 with fail
          have KD := Lib.hid (fun (w' : World) (q0 : wr.grownBy w' none) => (⟨(E7.out.keep0 q0).cell 0, (E7.out.keep0 q0).cell 1, (E7.out.keep0 q0).cell 2, (E7.out.keep0 q0).cell 3, q0.cell d4 (by simp), q0⟩ : (fun w' : World => w'.cell? ⟨b5, 0, none⟩ = some (.slice X1.va X1.vn X1.vc) ∧ w'.cell? ⟨b5, 1, none⟩ = some (.slice X1.fa X1.fn X1.fc) ∧ w'.cell? ⟨b5, 2, none⟩ = some (.slice X1.ta X1.tn X1.tc) ∧ w'.cell? ⟨b5, 3, none⟩ = some (.slice X1.pa X1.pn X1.pc) ∧ w'.cell? ⟨g8, h, none⟩ = some (.bool bv) ∧ wr.grownBy w' none) w'))
          have V0 := Lib.hid (gb_drew wr none)
          refine wp_region_held_drew (S := (fun w' : World => w'.cell? ⟨b5, 0, none⟩ = some (.slice X1.va X1.vn X1.vc) ∧ w'.cell? ⟨b5, 1, none⟩ = some (.slice X1.fa X1.fn X1.fc) ∧ w'.cell? ⟨b5, 2, none⟩ = some (.slice X1.ta X1.tn X1.tc) ∧ w'.cell? ⟨b5, 3, none⟩ = some (.slice X1.pa X1.pn X1.pc) ∧ w'.cell? ⟨g8, h, none⟩ = some (.bool bv) ∧ wr.grownBy w' none)) (by kernel_rfl) (KD.out _ V0.out) (fun hH0 => ?_)
          refine wpAnyH_take (i := 0) (v := ?v97) rfl (by kernel_rfl) (by kernel_rfl) (by kernel_rfl) (fun _ _ _ h => h) (Or.inl ⟨by rfl, ?hy97⟩) (by assumption) ?rest97
          case hy97 => (intro wz hSw; (try dsimp only at hSw); first | (go_simp; done) | (go_simp; with_reducible rfl))
          try simp only [Act.put, List.getElem_toArray, List.getElem_cons_zero, List.setIfInBounds_toArray, List.set_cons_zero, List.set_cons_succ]
          refine wpAnyH_take (i := 1) (v := ?v98) rfl (by kernel_rfl) (by kernel_rfl) (by kernel_rfl) (fun _ _ _ h => h) (Or.inl ⟨by rfl, ?hy98⟩) (by assumption) ?rest98
          case hy98 => (intro wz hSw; (try dsimp only at hSw); first | (go_simp; done) | (go_simp; with_reducible rfl))
          try simp only [Act.put, List.getElem_toArray, List.getElem_cons_succ, List.getElem_cons_zero, List.setIfInBounds_toArray, List.set_cons_zero, List.set_cons_succ]
          refine wpAnyH_take (i := 3) (v := ?v99) rfl (by kernel_rfl) (by kernel_rfl) (by kernel_rfl) (fun _ _ _ h => h) (Or.inl ⟨by rfl, ?hy99⟩) (by assumption) ?rest99
          case hy99 => (intro wz hSw; (try dsimp only at hSw); first | (go_simp; done) | (go_simp; with_reducible rfl))
          try simp only [Act.put, List.getElem_toArray, List.getElem_cons_succ, List.getElem_cons_zero, List.setIfInBounds_toArray, List.set_cons_zero, List.set_cons_succ]
          refine wpAnyH_take (i := 4) (v := ?v100) rfl (by kernel_rfl) (by kernel_rfl) (by kernel_rfl) (fun _ _ _ h => h) (Or.inl ⟨by rfl, ?hy100⟩) (by assumption) ?rest100
          case hy100 => (intro wz hSw; (try dsimp only at hSw); first | (go_simp; done) | (go_simp; with_reducible rfl))
          try simp only [Act.put, List.getElem_toArray, List.getElem_cons_succ, List.getElem_cons_zero, List.setIfInBounds_toArray, List.set_cons_zero, List.set_cons_succ]
          refine wpAnyH_take (i := 5) (v := ?v101) rfl (by kernel_rfl) (by kernel_rfl) (by kernel_rfl) (fun _ _ _ h => h) (Or.inl ⟨by rfl, ?hy101⟩) (by assumption) ?rest101
          case hy101 => (intro wz hSw; (try dsimp only at hSw); first | (go_simp; done) | (go_simp; with_reducible rfl))
          try simp only [Act.put, List.getElem_toArray, List.getElem_cons_succ, List.getElem_cons_zero, List.setIfInBounds_toArray, List.set_cons_zero, List.set_cons_succ]
          refine wpAnyH_take (i := 6) (v := ?v102) rfl (by kernel_rfl) (by kernel_rfl) (by kernel_rfl) (fun _ _ _ h => h) (Or.inl ⟨by rfl, ?hy102⟩) (by assumption) ?rest102
          case hy102 => (intro wz hSw; (try dsimp only at hSw); first | (go_simp; done) | (go_simp; with_reducible rfl))
          try simp only [Act.put, List.getElem_toArray, List.getElem_cons_succ, List.getElem_cons_zero, List.setIfInBounds_toArray, List.set_cons_zero, List.set_cons_succ]
          refine wpAnyH_ready (rs := [2]) (by kernel_rfl) (by simp) ?_
          refine AllReadyH.cons (o := _) rfl (fun K hK => ?_) AllReadyH.nil
          go_simp
          (with_reducible refine (KH2.out _ V0.out).mono ?_)
          rintro e vw1 ⟨rfl, g⟩
          have V1 := Lib.hid (gb_trans V0.out g)
          clear g
          try dsimp only
          refine hK.out _ _ (KD.out _ V1.out) (fun hH1 => ?_)
          clear hK K hH0
          try simp only [Act.put, List.getElem_toArray, List.getElem_cons_succ, List.getElem_cons_zero, List.setIfInBounds_toArray, List.set_cons_zero, List.set_cons_succ]
          refine wpAnyH_take (i := 7) (v := ?v103) rfl (by kernel_rfl) (by kernel_rfl) (by kernel_rfl) (fun _ _ _ h => h) (Or.inl ⟨by rfl, ?hy103⟩) (by assumption) ?rest103
          case hy103 => (intro wz hSw; (try dsimp only at hSw); first | (go_simp; done) | (go_simp; with_reducible rfl))
          try simp only [Act.put, List.getElem_toArray, List.getElem_cons_succ, List.getElem_cons_zero, List.setIfInBounds_toArray, List.set_cons_zero, List.set_cons_succ]
          refine wpAnyH_done (by kernel_rfl) ?_ _
          clear hH1
          have GV := Lib.hid (gb_trans GQ.out V1.out)
          go_wp2
          go_roundw
          case rel => exact ⟨h + 1, by omega, by go_num, GV.out⟩
          case measure => simp [intOf]; omega
        · have h1 : ¬ (h : Int) < hn := by omega
          have E7 := Lib.hid (E9.out.keep0 GQ.out)
          go_wp2
          go_loopw [13] (fun s13 wt => ∃ m : Nat, m ≤ mn ∧ s13 = .int .i64 m ∧ wr.grownBy wt none) (fun s13 _ => mn - (intOf s13).toNat)
          case atStart => exact ⟨0, Nat.zero_le _, rfl, gb_refl _ _⟩
          case round =>
            obtain ⟨m, hm, rfl, hg3⟩ := hrel
            have GT := Lib.hid (gb_trans GQ.out hg3)
            have GT0 := Lib.hid hg3
            clear hg3
            have E8 := Lib.hid (E9.out.keep0 GT.out)
            have c2 := E8.out.cell 2
            dsimp at c2
            rw [TN9.out] at c2
            by_cases hlt3 : m < mn
            · have m1 : (m : Int) < mn := by omega
              have m0 : (0 : Int) ≤ (m : Int) := by omega
              have hw : IntKind.i64.wrap ((m : Int) + 1) = ((m + 1 : Nat) : Int) := by have := MN16.out; rw [IntKind.wrap_i64]; omega
              have st := (O9.out.er.keep0 GT.out).t
              obtain ⟨td, htd⟩ := st.some (by rw [TN9.out]; omega)
              rw [htd] at c2
              have d5 := st.cells td htd m (by rw [TN9.out]; exact hlt3)
              have v0 : res.1.T.getD m 0 = 0 := by rw [TZ9.out]; simp [hlt3]
              rw [v0] at d5
              clear st htd v0
              go_wp2
              go_roundw
              case rel => exact ⟨m + 1, by omega, by go_num, GT0.out⟩
              case measure => simp [intOf]; omega
            · have m1 : ¬ (m : Int) < mn := by omega
              have B8 := Lib.hid (B9.out.keep0 GT.out)
              have b0 := (B8.out.keep0 (gb_refl _ _)).cell 0
              have b1 := (B8.out.keep0 (gb_refl _ _)).cell 1
              have b2 := (B8.out.keep0 (gb_refl _ _)).cell 2
              have b3 := (B8.out.keep0 (gb_refl _ _)).cell 3
              have b4 := (B8.out.keep0 (gb_refl _ _)).cell 4
              have b5 := (B8.out.keep0 (gb_refl _ _)).cell 5
              have b6 := (B8.out.keep0 (gb_refl _ _)).cell 6
              have b7 := (B8.out.keep0 (gb_refl _ _)).cell 7
              have b8 := (B8.out.keep0 (gb_refl _ _)).cell 8
              dsimp at b0 b1 b2 b3 b4 b5 b6 b7 b8
              have x0 := (E8.out.keep0 (gb_refl _ _)).cell 0
              have x1 := (E8.out.keep0 (gb_refl _ _)).cell 1
              have x2 := (E8.out.keep0 (gb_refl _ _)).cell 2
              have x3 := (E8.out.keep0 (gb_refl _ _)).cell 3
              dsimp at x0 x1 x2 x3
              rw [TN9.out] at x2
              have KC2 := KC.out wr GT.out
              rw [TN9.out] at KC2
              replace KC2 := Lib.hid KC2
              go_wp2_with fail
              refine KC2.out.mono ?_
              rintro e9 wu ⟨rfl, g⟩
              have GU := Lib.hid (gb_trans GT.out g)
              clear g
              go_wp2_with fail
              refine (works18_any wu).mono ?_
              rintro e9 wv ⟨rfl, g⟩
              have GV := Lib.hid (gb_trans G9.out (gb_trans GU.out g))
              clear g
              go_wp2
              go_ret
              exact ⟨rfl, GV.out⟩
end Go.Proofs.Ytngobkghcogahaa
