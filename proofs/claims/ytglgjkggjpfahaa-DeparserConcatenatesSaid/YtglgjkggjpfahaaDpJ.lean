/- Deparser: the law Concatenates; no condition. -/
import Derived.Test.YtglgjkggjpfahaaDpK
import Derived.BigQuiet
namespace Go.Proofs.Ytglgjkggjpfahaa
open Go.RowKit
set_option linter.unusedVariables false
set_option maxRecDepth 100000 in
set_option maxHeartbeats 20000000 in
theorem concats_on (w : World) (nm : ByteArray) (r1 a1 t1 s1 k1 : Option Addr) (r2 r3 a2 a3 t2 t3 s2 s3 k2 k3 : Nat) (ha ma da : Option Addr) (hn hc mn mc dn dc : Nat) (va fa ta pa : Option Addr) (vn vc fn fc tn tc pn pc : Nat) (H : List (ByteArray × List Fld)) (M : List Fld) (D : List Int) (L : EL) (hH : SH w ha hn hc H) (hM : SF w ma mn mc M) (hD : SI w da dn dc D) (he : ER w ⟨va, fa, ta, pa, vn, vc, fn, fc, tn, tc, pn, pc⟩ L) (hnm : ∀ x ∈ H, x.1.size ≤ 9223372036854775807 ∧ ∀ p ∈ x.2, p.1.size ≤ 9223372036854775807) (at_ : Int) : Calls Try.prog 11 #[.agg #[.string nm, .slice ha hn hc, .slice ma mn mc, .slice r1 r2 r3, .slice a1 a2 a3, .slice t1 t2 t3, .slice s1 s2 s3, .slice k1 k2 k3, .slice da dn dc], .agg #[.slice va vn vc, .slice fa fn fc, .slice ta tn tc, .slice pa pn pc], .int .i64 at_] w (RetV (.bool true) w) := by
  have S0 := Lib.hid (⟨hH, hM, hD, he⟩ : SH w ha hn hc H ∧ SF w ma mn mc M ∧ SI w da dn dc D ∧ ER w ⟨va, fa, ta, pa, vn, vc, fn, fc, tn, tc, pn, pc⟩ L)
  have NM := Lib.hid hnm
  have K1 := Lib.hid (fun (W : World) (q : w.grownBy W none) => dright_any W (.string nm) (.slice r1 r2 r3) (.slice a1 a2 a3) (.slice t1 t2 t3) (.slice s1 s2 s3) (.slice k1 k2 k3) ha ma da hn hc mn mc dn dc va fa ta pa vn vc fn fc tn tc pn pc H M D L (hH.keep0 q) (hM.keep0 q) (hD.keep0 q) (he.keep0 q) hnm)
  have G1 := Lib.hid (gb_trans (gb_alloc w (.cells #[.string nm, .slice ha hn hc, .slice ma mn mc, .slice r1 r2 r3, .slice a1 a2 a3, .slice t1 t2 t3, .slice s1 s2 s3, .slice k1 k2 k3, .slice da dn dc] 31) none) (gb_alloc _ (.cells #[.slice va vn vc, .slice fa fn fc, .slice ta tn tc, .slice pa pn pc] 42) none))
  have B1 := (IsB.new w 31 #[.string nm, .slice ha hn hc, .slice ma mn mc, .slice r1 r2 r3, .slice a1 a2 a3, .slice t1 t2 t3, .slice s1 s2 s3, .slice k1 k2 k3, .slice da dn dc]).alloc (.cells #[.slice va vn vc, .slice fa fn fc, .slice ta tn tc, .slice pa pn pc] 42)
  have B2 := IsB.new (w.alloc (.cells #[.string nm, .slice ha hn hc, .slice ma mn mc, .slice r1 r2 r3, .slice a1 a2 a3, .slice t1 t2 t3, .slice s1 s2 s3, .slice k1 k2 k3, .slice da dn dc] 31)) 42 #[.slice va vn vc, .slice fa fn fc, .slice ta tn tc, .slice pa pn pc]
  simp only [sz_al] at B2
  replace B1 := Lib.hid B1
  replace B2 := Lib.hid B2
  clear hH hM hD he hnm
  go_enter Try.func11, Try.ntmps11
  go_upto_region 1 with fail
  generalize (w.alloc (.cells #[.string nm, .slice ha hn hc, .slice ma mn mc, .slice r1 r2 r3, .slice a1 a2 a3, .slice t1 t2 t3, .slice s1 s2 s3, .slice k1 k2 k3, .slice da dn dc] 31)).alloc (.cells #[.slice va vn vc, .slice fa fn fc, .slice ta tn tc, .slice pa pn pc] 42) = w1 at *
  obtain ⟨bx, hbx⟩ : ∃ b, b = w.heap.size := ⟨_, rfl⟩
  have Lbx := Lib.hid (show w.heap.size ≤ bx by rw [hbx]; exact Nat.le_refl _)
  rw [← hbx] at B1 B2 ⊢
  clear hbx
  have c0 := (B1.out.keep0 (gb_refl _ _)).cell 0
  have c1 := (B1.out.keep0 (gb_refl _ _)).cell 1
  have c2 := (B1.out.keep0 (gb_refl _ _)).cell 2
  have c3 := (B1.out.keep0 (gb_refl _ _)).cell 3
  have c4 := (B1.out.keep0 (gb_refl _ _)).cell 4
  have c5 := (B1.out.keep0 (gb_refl _ _)).cell 5
  have c6 := (B1.out.keep0 (gb_refl _ _)).cell 6
  have c7 := (B1.out.keep0 (gb_refl _ _)).cell 7
  have c8 := (B1.out.keep0 (gb_refl _ _)).cell 8
  dsimp at c0 c1 c2 c3 c4 c5 c6 c7 c8
  have x0 := (B2.out.keep0 (gb_refl _ _)).cell 0
  have x1 := (B2.out.keep0 (gb_refl _ _)).cell 1
  have x2 := (B2.out.keep0 (gb_refl _ _)).cell 2
  have x3 := (B2.out.keep0 (gb_refl _ _)).cell 3
  dsimp at x0 x1 x2 x3
  go_wp2_with fail
  refine (K1.out _ G1.out).mono ?_
  rintro e w2 ⟨b, rfl, g, hb⟩
  have HB := Lib.hid hb
  have G2 := Lib.hid (gb_trans G1.out g)
  replace B1 := Lib.hid (B1.out.keep0 g)
  replace B2 := Lib.hid (B2.out.keep0 g)
  clear g hb K1
  clear c0 c1 c2 c3 c4 c5 c6 c7 c8 x0 x1 x2 x3
  cases b
  · go_wp2_with fail
    refine (awake_any _).mono ?_
    rintro e wa ⟨rfl, g⟩
    have GA := Lib.hid (gb_trans G2.out g)
    clear g
    go_wp2
    go_ret
    exact ⟨rfl, GA.out⟩
  have R := Lib.hid (HB.out rfl)
  clear HB
  have c0 := (B1.out.keep0 (gb_refl _ _)).cell 0
  have c1 := (B1.out.keep0 (gb_refl _ _)).cell 1
  have c2 := (B1.out.keep0 (gb_refl _ _)).cell 2
  have c3 := (B1.out.keep0 (gb_refl _ _)).cell 3
  have c4 := (B1.out.keep0 (gb_refl _ _)).cell 4
  have c5 := (B1.out.keep0 (gb_refl _ _)).cell 5
  have c6 := (B1.out.keep0 (gb_refl _ _)).cell 6
  have c7 := (B1.out.keep0 (gb_refl _ _)).cell 7
  have c8 := (B1.out.keep0 (gb_refl _ _)).cell 8
  dsimp at c0 c1 c2 c3 c4 c5 c6 c7 c8
  have x0 := (B2.out.keep0 (gb_refl _ _)).cell 0
  have x1 := (B2.out.keep0 (gb_refl _ _)).cell 1
  have x2 := (B2.out.keep0 (gb_refl _ _)).cell 2
  have x3 := (B2.out.keep0 (gb_refl _ _)).cell 3
  dsimp at x0 x1 x2 x3
  by_cases h1 : at_ < 0
  · have dl : decide (at_ < 0) = true := decide_eq_true h1
    go_wp2_with fail
    refine (awake_any _).mono ?_
    rintro e wa ⟨rfl, g⟩
    have GA := Lib.hid (gb_trans G2.out g)
    clear g
    go_wp2
    go_ret
    exact ⟨rfl, GA.out⟩
  have dl : decide (at_ < 0) = false := decide_eq_false h1
  obtain ⟨a9, rfl⟩ : ∃ a9 : Nat, at_ = (a9 : Int) := ⟨at_.toNat, by omega⟩
  by_cases h2 : dn < a9
  · have dh : decide ((dn : Int) < (a9 : Int)) = true := decide_eq_true (by omega)
    go_wp2_with fail
    refine (awake_any _).mono ?_
    rintro e wa ⟨rfl, g⟩
    have GA := Lib.hid (gb_trans G2.out g)
    clear g
    go_wp2
    go_ret
    exact ⟨rfl, GA.out⟩
  have dh : decide ((dn : Int) < (a9 : Int)) = false := decide_eq_false (by omega)
  have AL := Lib.hid (show a9 ≤ dn by omega)
  have DVh := Lib.hid (show DV H M D L from ⟨R.out.e, R.out.h, by rw [S0.out.1.len]; exact R.out.d, sr_rng S0.out.2.2.2.f⟩)
  go_upto_region 3 with fail
  clear dl dh h1 h2
  clear c0 c1 c2 c3 c4 c5 c6 c7 c8 x0 x1 x2 x3
  have KV := Lib.hid (fun (w' : World) (q0 : w2.grownBy w' none) => (⟨(B1.out.keep0 q0).cell 0, (B1.out.keep0 q0).cell 1, (B1.out.keep0 q0).cell 2, (B1.out.keep0 q0).cell 3, (B1.out.keep0 q0).cell 4, (B1.out.keep0 q0).cell 5, (B1.out.keep0 q0).cell 6, (B1.out.keep0 q0).cell 7, (B1.out.keep0 q0).cell 8, (B2.out.keep0 q0).cell 0, (B2.out.keep0 q0).cell 1, (B2.out.keep0 q0).cell 2, (B2.out.keep0 q0).cell 3, q0⟩ : (fun w' : World => w'.cell? ⟨bx, 0, none⟩ = some (.string nm) ∧ w'.cell? ⟨bx, 1, none⟩ = some (.slice ha hn hc) ∧ w'.cell? ⟨bx, 2, none⟩ = some (.slice ma mn mc) ∧ w'.cell? ⟨bx, 3, none⟩ = some (.slice r1 r2 r3) ∧ w'.cell? ⟨bx, 4, none⟩ = some (.slice a1 a2 a3) ∧ w'.cell? ⟨bx, 5, none⟩ = some (.slice t1 t2 t3) ∧ w'.cell? ⟨bx, 6, none⟩ = some (.slice s1 s2 s3) ∧ w'.cell? ⟨bx, 7, none⟩ = some (.slice k1 k2 k3) ∧ w'.cell? ⟨bx, 8, none⟩ = some (.slice da dn dc) ∧ w'.cell? ⟨bx + 1, 0, none⟩ = some (.slice va vn vc) ∧ w'.cell? ⟨bx + 1, 1, none⟩ = some (.slice fa fn fc) ∧ w'.cell? ⟨bx + 1, 2, none⟩ = some (.slice ta tn tc) ∧ w'.cell? ⟨bx + 1, 3, none⟩ = some (.slice pa pn pc) ∧ w2.grownBy w' none) w'))
  have V0 := Lib.hid (gb_drew w2 none)
  refine wp_region_held_drew (S := (fun w' : World => w'.cell? ⟨bx, 0, none⟩ = some (.string nm) ∧ w'.cell? ⟨bx, 1, none⟩ = some (.slice ha hn hc) ∧ w'.cell? ⟨bx, 2, none⟩ = some (.slice ma mn mc) ∧ w'.cell? ⟨bx, 3, none⟩ = some (.slice r1 r2 r3) ∧ w'.cell? ⟨bx, 4, none⟩ = some (.slice a1 a2 a3) ∧ w'.cell? ⟨bx, 5, none⟩ = some (.slice t1 t2 t3) ∧ w'.cell? ⟨bx, 6, none⟩ = some (.slice s1 s2 s3) ∧ w'.cell? ⟨bx, 7, none⟩ = some (.slice k1 k2 k3) ∧ w'.cell? ⟨bx, 8, none⟩ = some (.slice da dn dc) ∧ w'.cell? ⟨bx + 1, 0, none⟩ = some (.slice va vn vc) ∧ w'.cell? ⟨bx + 1, 1, none⟩ = some (.slice fa fn fc) ∧ w'.cell? ⟨bx + 1, 2, none⟩ = some (.slice ta tn tc) ∧ w'.cell? ⟨bx + 1, 3, none⟩ = some (.slice pa pn pc) ∧ w2.grownBy w' none)) (by kernel_rfl) (KV.out _ V0.out) (fun hH0 => ?_)
  refine wpAnyH_take (i := 0) (v := ?v69) rfl (by kernel_rfl) (by kernel_rfl) (by kernel_rfl) (fun _ _ _ h => h) (Or.inl ⟨by rfl, ?hy69⟩) (by assumption) ?rest69
  case hy69 => (intro wz hSw; (try dsimp only at hSw); first | (go_simp; done) | (go_simp; with_reducible rfl))
  try simp only [Act.put, List.getElem_toArray, List.getElem_cons_zero, List.setIfInBounds_toArray, List.set_cons_zero, List.set_cons_succ]
  refine wpAnyH_take (i := 1) (v := ?v70) rfl (by kernel_rfl) (by kernel_rfl) (by kernel_rfl) (fun _ _ _ h => h) (Or.inl ⟨by rfl, ?hy70⟩) (by assumption) ?rest70
  case hy70 => (intro wz hSw; (try dsimp only at hSw); first | (go_simp; done) | (go_simp; with_reducible rfl))
  try simp only [Act.put, List.getElem_toArray, List.getElem_cons_succ, List.getElem_cons_zero, List.setIfInBounds_toArray, List.set_cons_zero, List.set_cons_succ]
  refine wpAnyH_take (i := 2) (v := ?v71) rfl (by kernel_rfl) (by kernel_rfl) (by kernel_rfl) (fun _ _ _ h => h) (Or.inl ⟨by rfl, ?hy71⟩) (by assumption) ?rest71
  case hy71 => (intro wz hSw; (try dsimp only at hSw); first | (go_simp; done) | (go_simp; with_reducible rfl))
  try simp only [Act.put, List.getElem_toArray, List.getElem_cons_succ, List.getElem_cons_zero, List.setIfInBounds_toArray, List.set_cons_zero, List.set_cons_succ]
  refine wp_three2 (t1 := 31) (r1 := #[.string nm, .slice ha hn hc, .slice ma mn mc, .slice r1 r2 r3, .slice a1 a2 a3, .slice t1 t2 t3, .slice s1 s2 s3, .slice k1 k2 k3, .slice da dn dc]) (z1 := #[.string ⟨#[]⟩, .slice none 0 0, .slice none 0 0, .slice none 0 0, .slice none 0 0, .slice none 0 0, .slice none 0 0, .slice none 0 0, .slice none 0 0]) (t2 := 31) (r2 := #[.string nm, .slice ha hn hc, .slice ma mn mc, .slice r1 r2 r3, .slice a1 a2 a3, .slice t1 t2 t3, .slice s1 s2 s3, .slice k1 k2 k3, .slice da dn dc]) (z2 := #[.string ⟨#[]⟩, .slice none 0 0, .slice none 0 0, .slice none 0 0, .slice none 0 0, .slice none 0 0, .slice none 0 0, .slice none 0 0, .slice none 0 0]) (t3 := 42) (r3 := #[.slice va vn vc, .slice fa fn fc, .slice ta tn tc, .slice pa pn pc]) (z3 := #[.slice none 0 0, .slice none 0 0, .slice none 0 0, .slice none 0 0]) (s1 := 7) (s2 := 8) (s3 := 9) w2.drew _ _ ?step ?fin (gb_refl _ _) rfl
  case step =>
    clear hH0
    rintro l A W ⟨f1, f2, f3, g1, g2, g3, v1, v2, v3, rfl, rfl, gw, h1, h2, h3, d1, d2, d3, z1, z2, z3⟩ i hi
    obtain ⟨un, o, ho, hall⟩ := mem_ready.1 hi
    clear hi
    have GW := Lib.hid gw
    have H1 := Lib.hid h1
    have H2 := Lib.hid h2
    have H3 := Lib.hid h3
    clear gw h1 h2 h3
    have hlt : i < 9 := by
      obtain ⟨q, _⟩ := Array.getElem?_eq_some_iff.1 ho
      exact q
    rcases (show i = 0 ∨ i = 1 ∨ i = 2 ∨ i = 3 ∨ i = 4 ∨ i = 5 ∨ i = 6 ∨ i = 7 ∨ i = 8 by omega) with rfl | rfl | rfl | rfl | rfl | rfl | rfl | rfl | rfl
    · exact absurd un (by simp)
    · exact absurd un (by simp)
    · exact absurd un (by simp)
    · have un : f1 = false := by simpa using un
      subst un
      obtain rfl : g1 = false := z1 rfl
      refine wpOp_step (o := _) rfl (fun K2 hK2 => ?_)
      have HK2 := Lib.hid hK2
      clear hK2 ho hall
      simp only [Act.put, List.getElem_toArray, List.setIfInBounds_toArray, List.set_cons_zero, List.set_cons_succ]
      go_simp
      refine HK2.out _ _ ⟨KV.out _ (gb_trans (gb_drew w2 none) (gb_trans GW.out (gb_alloc _ _ none))), true, f2, f3, false, g2, g3, (.pointer (some ⟨W.heap.size, 0, none⟩)), v2, v3, by simp, by first | rfl | (simp [Act.put]; done), gb_trans GW.out (gb_alloc _ _ none), CH3.new GW.out, H2.out.alloc _, H3.out.alloc _, (fun _ e => Ne.symm (H2.out.ne e)), (fun _ e => Ne.symm (H3.out.ne e)), d3, (fun e => by cases e), z2, z3⟩
    · have un : f2 = false := by simpa using un
      subst un
      obtain rfl : g2 = false := z2 rfl
      refine wpOp_step (o := _) rfl (fun K2 hK2 => ?_)
      have HK2 := Lib.hid hK2
      clear hK2 ho hall
      simp only [Act.put, List.getElem_toArray, List.setIfInBounds_toArray, List.set_cons_zero, List.set_cons_succ]
      go_simp
      refine HK2.out _ _ ⟨KV.out _ (gb_trans (gb_drew w2 none) (gb_trans GW.out (gb_alloc _ _ none))), f1, true, f3, g1, false, g3, v1, (.pointer (some ⟨W.heap.size, 0, none⟩)), v3, by simp, by first | rfl | (simp [Act.put]; done), gb_trans GW.out (gb_alloc _ _ none), H1.out.alloc _, CH3.new GW.out, H3.out.alloc _, (fun e _ => H1.out.ne e), d2, (fun _ e => Ne.symm (H3.out.ne e)), z1, (fun e => by cases e), z3⟩
    · have un : f3 = false := by simpa using un
      subst un
      obtain rfl : g3 = false := z3 rfl
      refine wpOp_step (o := _) rfl (fun K2 hK2 => ?_)
      have HK2 := Lib.hid hK2
      clear hK2 ho hall
      simp only [Act.put, List.getElem_toArray, List.setIfInBounds_toArray, List.set_cons_zero, List.set_cons_succ]
      go_simp
      refine HK2.out _ _ ⟨KV.out _ (gb_trans (gb_drew w2 none) (gb_trans GW.out (gb_alloc _ _ none))), f1, f2, true, g1, g2, false, v1, v2, (.pointer (some ⟨W.heap.size, 0, none⟩)), by simp, by first | rfl | (simp [Act.put]; done), gb_trans GW.out (gb_alloc _ _ none), H1.out.alloc _, H2.out.alloc _, CH3.new GW.out, d1, (fun e _ => H1.out.ne e), (fun e _ => H2.out.ne e), z1, z2, (fun e => by cases e)⟩
    · have un : g1 = false := by simpa using un
      subst un
      have fl : f1 = true := by
        have o2 : o = _ := (Option.some.inj ho).symm
        subst o2
        have q := hall ⟨3, .data⟩ (by simp) rfl
        simpa using q
      subst fl
      obtain ⟨bq, rfl, hb2, hb3⟩ := H1.out rfl
      have HB3 := Lib.hid (show IsB W bq 31 #[.string ⟨#[]⟩, .slice none 0 0, .slice none 0 0, .slice none 0 0, .slice none 0 0, .slice none 0 0, .slice none 0 0, .slice none 0 0, .slice none 0 0] from hb3)
      have SB := Lib.hid (fill9x HB3.out (.string nm) (.slice ha hn hc) (.slice ma mn mc) (.slice r1 r2 r3) (.slice a1 a2 a3) (.slice t1 t2 t3) (.slice s1 s2 s3) (.slice k1 k2 k3) (.slice da dn dc))
      have fr0 := HB3.out.free 0
      have cr0 := HB3.out.cell 0
      have fr1 := HB3.out.free 1
      have cr1 := HB3.out.cell 1
      have fr2 := HB3.out.free 2
      have cr2 := HB3.out.cell 2
      have fr3 := HB3.out.free 3
      have cr3 := HB3.out.cell 3
      have fr4 := HB3.out.free 4
      have cr4 := HB3.out.cell 4
      have fr5 := HB3.out.free 5
      have cr5 := HB3.out.cell 5
      have fr6 := HB3.out.free 6
      have cr6 := HB3.out.cell 6
      have fr7 := HB3.out.free 7
      have cr7 := HB3.out.cell 7
      have fr8 := HB3.out.free 8
      have cr8 := HB3.out.cell 8
      dsimp at cr0 cr1 cr2 cr3 cr4 cr5 cr6 cr7 cr8
      refine wpOp_step (o := _) rfl (fun K2 hK2 => ?_)
      have HK2 := Lib.hid hK2
      clear hK2 ho hall hb3
      simp only [Act.put, List.getElem_toArray, List.setIfInBounds_toArray, List.set_cons_zero, List.set_cons_succ]
      go_simp
      have GP := Lib.hid (grow9x GW.out hb2 (.string nm) (.slice ha hn hc) (.slice ma mn mc) (.slice r1 r2 r3) (.slice a1 a2 a3) (.slice t1 t2 t3) (.slice s1 s2 s3) (.slice k1 k2 k3) (.slice da dn dc))
      refine HK2.out _ _ ⟨KV.out _ (gb_trans (gb_drew w2 none) GP.out), true, f2, f3, true, g2, g3, (.pointer (some ⟨bq, 0, none⟩)), v2, v3, by simp, by first | rfl | (simp [Act.put]; done), GP.out, (fun _ => ⟨bq, rfl, hb2, SB.out⟩), (fun e => by obtain ⟨b2, q1, q2, q3⟩ := H2.out e; exact ⟨b2, q1, q2, by have NN : b2 ≠ bq := (fun ee => (Ne.symm (d1 rfl e)) (by rw [q1, ee])); exact far9x q3 NN (.string nm) (.slice ha hn hc) (.slice ma mn mc) (.slice r1 r2 r3) (.slice a1 a2 a3) (.slice t1 t2 t3) (.slice s1 s2 s3) (.slice k1 k2 k3) (.slice da dn dc)⟩), (fun e => by obtain ⟨b2, q1, q2, q3⟩ := H3.out e; exact ⟨b2, q1, q2, by have NN : b2 ≠ bq := (fun ee => (Ne.symm (d2 rfl e)) (by rw [q1, ee])); exact far9x q3 NN (.string nm) (.slice ha hn hc) (.slice ma mn mc) (.slice r1 r2 r3) (.slice a1 a2 a3) (.slice t1 t2 t3) (.slice s1 s2 s3) (.slice k1 k2 k3) (.slice da dn dc)⟩), d1, d2, d3, (fun e => by cases e), z2, z3⟩
    · have un : g2 = false := by simpa using un
      subst un
      have fl : f2 = true := by
        have o2 : o = _ := (Option.some.inj ho).symm
        subst o2
        have q := hall ⟨4, .data⟩ (by simp) rfl
        simpa using q
      subst fl
      obtain ⟨bq, rfl, hb2, hb3⟩ := H2.out rfl
      have HB3 := Lib.hid (show IsB W bq 31 #[.string ⟨#[]⟩, .slice none 0 0, .slice none 0 0, .slice none 0 0, .slice none 0 0, .slice none 0 0, .slice none 0 0, .slice none 0 0, .slice none 0 0] from hb3)
      have SB := Lib.hid (fill9x HB3.out (.string nm) (.slice ha hn hc) (.slice ma mn mc) (.slice r1 r2 r3) (.slice a1 a2 a3) (.slice t1 t2 t3) (.slice s1 s2 s3) (.slice k1 k2 k3) (.slice da dn dc))
      have fr0 := HB3.out.free 0
      have cr0 := HB3.out.cell 0
      have fr1 := HB3.out.free 1
      have cr1 := HB3.out.cell 1
      have fr2 := HB3.out.free 2
      have cr2 := HB3.out.cell 2
      have fr3 := HB3.out.free 3
      have cr3 := HB3.out.cell 3
      have fr4 := HB3.out.free 4
      have cr4 := HB3.out.cell 4
      have fr5 := HB3.out.free 5
      have cr5 := HB3.out.cell 5
      have fr6 := HB3.out.free 6
      have cr6 := HB3.out.cell 6
      have fr7 := HB3.out.free 7
      have cr7 := HB3.out.cell 7
      have fr8 := HB3.out.free 8
      have cr8 := HB3.out.cell 8
      dsimp at cr0 cr1 cr2 cr3 cr4 cr5 cr6 cr7 cr8
      refine wpOp_step (o := _) rfl (fun K2 hK2 => ?_)
      have HK2 := Lib.hid hK2
      clear hK2 ho hall hb3
      simp only [Act.put, List.getElem_toArray, List.setIfInBounds_toArray, List.set_cons_zero, List.set_cons_succ]
      go_simp
      have GP := Lib.hid (grow9x GW.out hb2 (.string nm) (.slice ha hn hc) (.slice ma mn mc) (.slice r1 r2 r3) (.slice a1 a2 a3) (.slice t1 t2 t3) (.slice s1 s2 s3) (.slice k1 k2 k3) (.slice da dn dc))
      refine HK2.out _ _ ⟨KV.out _ (gb_trans (gb_drew w2 none) GP.out), f1, true, f3, g1, true, g3, v1, (.pointer (some ⟨bq, 0, none⟩)), v3, by simp, by first | rfl | (simp [Act.put]; done), GP.out, (fun e => by obtain ⟨b2, q1, q2, q3⟩ := H1.out e; exact ⟨b2, q1, q2, by have NN : b2 ≠ bq := (fun ee => (d1 e rfl) (by rw [q1, ee])); exact far9x q3 NN (.string nm) (.slice ha hn hc) (.slice ma mn mc) (.slice r1 r2 r3) (.slice a1 a2 a3) (.slice t1 t2 t3) (.slice s1 s2 s3) (.slice k1 k2 k3) (.slice da dn dc)⟩), (fun _ => ⟨bq, rfl, hb2, SB.out⟩), (fun e => by obtain ⟨b2, q1, q2, q3⟩ := H3.out e; exact ⟨b2, q1, q2, by have NN : b2 ≠ bq := (fun ee => (Ne.symm (d3 rfl e)) (by rw [q1, ee])); exact far9x q3 NN (.string nm) (.slice ha hn hc) (.slice ma mn mc) (.slice r1 r2 r3) (.slice a1 a2 a3) (.slice t1 t2 t3) (.slice s1 s2 s3) (.slice k1 k2 k3) (.slice da dn dc)⟩), d1, d2, d3, z1, (fun e => by cases e), z3⟩
    · have un : g3 = false := by simpa using un
      subst un
      have fl : f3 = true := by
        have o2 : o = _ := (Option.some.inj ho).symm
        subst o2
        have q := hall ⟨5, .data⟩ (by simp) rfl
        simpa using q
      subst fl
      obtain ⟨bq, rfl, hb2, hb3⟩ := H3.out rfl
      have HB3 := Lib.hid (show IsB W bq 42 #[.slice none 0 0, .slice none 0 0, .slice none 0 0, .slice none 0 0] from hb3)
      have SB := Lib.hid (fill4x HB3.out (.slice va vn vc) (.slice fa fn fc) (.slice ta tn tc) (.slice pa pn pc))
      have fr0 := HB3.out.free 0
      have cr0 := HB3.out.cell 0
      have fr1 := HB3.out.free 1
      have cr1 := HB3.out.cell 1
      have fr2 := HB3.out.free 2
      have cr2 := HB3.out.cell 2
      have fr3 := HB3.out.free 3
      have cr3 := HB3.out.cell 3
      dsimp at cr0 cr1 cr2 cr3
      refine wpOp_step (o := _) rfl (fun K2 hK2 => ?_)
      have HK2 := Lib.hid hK2
      clear hK2 ho hall hb3
      simp only [Act.put, List.getElem_toArray, List.setIfInBounds_toArray, List.set_cons_zero, List.set_cons_succ]
      go_simp
      have GP := Lib.hid (grow4x GW.out hb2 (.slice va vn vc) (.slice fa fn fc) (.slice ta tn tc) (.slice pa pn pc))
      refine HK2.out _ _ ⟨KV.out _ (gb_trans (gb_drew w2 none) GP.out), f1, f2, true, g1, g2, true, v1, v2, (.pointer (some ⟨bq, 0, none⟩)), by simp, by first | rfl | (simp [Act.put]; done), GP.out, (fun e => by obtain ⟨b2, q1, q2, q3⟩ := H1.out e; exact ⟨b2, q1, q2, by have NN : b2 ≠ bq := (fun ee => (d2 e rfl) (by rw [q1, ee])); exact far4x q3 NN (.slice va vn vc) (.slice fa fn fc) (.slice ta tn tc) (.slice pa pn pc)⟩), (fun e => by obtain ⟨b2, q1, q2, q3⟩ := H2.out e; exact ⟨b2, q1, q2, by have NN : b2 ≠ bq := (fun ee => (d3 e rfl) (by rw [q1, ee])); exact far4x q3 NN (.slice va vn vc) (.slice fa fn fc) (.slice ta tn tc) (.slice pa pn pc)⟩), (fun _ => ⟨bq, rfl, hb2, SB.out⟩), d1, d2, d3, z1, z2, (fun e => by cases e)⟩
  case fin =>
    clear hH0
    rintro l A W ⟨f1, f2, f3, g1, g2, g3, v1, v2, v3, rfl, rfl, gw, h1, h2, h3, d1, d2, d3, z1, z2, z3⟩ hr
    obtain ⟨rfl, rfl, rfl, rfl, rfl, rfl⟩ : f1 = true ∧ f2 = true ∧ f3 = true ∧ g1 = true ∧ g2 = true ∧ g3 = true := by
      clear h1 h2 h3 d1 d2 d3 z1 z2 z3 gw
      revert hr
      cases f1 <;> cases f2 <;> cases f3 <;> cases g1 <;> cases g2 <;> cases g3 <;> first | exact fun _ => ⟨rfl, rfl, rfl, rfl, rfl, rfl⟩ | exact fun hr => absurd hr (by decide +kernel)
    obtain ⟨b1, rfl, l1, e1⟩ := h1 rfl
    obtain ⟨b2, rfl, l2, e2⟩ := h2 rfl
    obtain ⟨b3, rfl, l3, e3⟩ := h3 rfl
    have N12 := Lib.hid (show b1 ≠ b2 from fun e => d1 rfl rfl (by rw [e]))
    have E1 := Lib.hid (show IsB W b1 31 #[.string nm, .slice ha hn hc, .slice ma mn mc, .slice r1 r2 r3, .slice a1 a2 a3, .slice t1 t2 t3, .slice s1 s2 s3, .slice k1 k2 k3, .slice da dn dc] from e1)
    have E2 := Lib.hid (show IsB W b2 31 #[.string nm, .slice ha hn hc, .slice ma mn mc, .slice r1 r2 r3, .slice a1 a2 a3, .slice t1 t2 t3, .slice s1 s2 s3, .slice k1 k2 k3, .slice da dn dc] from e2)
    have E3 := Lib.hid (show IsB W b3 42 #[.slice va vn vc, .slice fa fn fc, .slice ta tn tc, .slice pa pn pc] from e3)
    have GW := Lib.hid (gb_trans (gb_drew w2 none) gw)
    have NB3 := Lib.hid (show bx + 1 ≠ b3 from by
      have q := B2.out.lt
      have q2 : w2.drew.heap.size = w2.heap.size := rfl
      omega)
    have NB := Lib.hid (show bx ≠ b1 ∧ bx ≠ b2 from by
      have q := B1.out.lt
      have q2 : w2.drew.heap.size = w2.heap.size := rfl
      omega)
    have LB := Lib.hid (show w.heap.size ≤ b1 ∧ w.heap.size ≤ b2 ∧ w.heap.size ≤ b3 from by
      have q := G2.out.size
      have q2 : w2.drew.heap.size = w2.heap.size := rfl
      omega)
    clear e1 e2 e3 gw d1 d2 d3 z1 z2 z3 hr h1 h2 h3 l1 l2 l3 KV
    simp only [Act.put, List.setIfInBounds_toArray, List.set_cons_zero, List.set_cons_succ]
    have FX := Lib.hid (gb_trans G2.out GW.out)
    replace B1 := Lib.hid (B1.out.keep0 GW.out)
    replace B2 := Lib.hid (B2.out.keep0 GW.out)
    clear GW
    cases da with
    | some ad =>
      have i1 : (a9 : Int) ≤ dn := by have := AL.out; omega
      have i2 : (a9 : Int) ≤ dc := by have := AL.out; have := S0.out.2.2.1.cap; omega
      have i3 : (dn : Int) ≤ dc := by have := S0.out.2.2.1.cap; omega
      go_upto_region 4 with fail
      have c8 := (B1.out.keep0 (gb_drew W none)).cell 8
      dsimp at c8
      have hS0 : (fun w' : World => w'.cell? ⟨bx, 8, none⟩ = some (.slice (some ad) dn dc)) W.drew := c8
      clear c8
      refine wp_region_held_drew (S := (fun w' : World => w'.cell? ⟨bx, 8, none⟩ = some (.slice (some ad) dn dc))) (by kernel_rfl) hS0 (fun hH0 => ?_)
      refine wpAnyH_take (i := 0) (v := ?v1) rfl (by kernel_rfl) (by kernel_rfl) (by kernel_rfl) (fun _ _ _ h => h) (Or.inl ⟨by rfl, ?hy1⟩) (by assumption) ?rest1
      case hy1 => (intro wz hSw; (try dsimp only at hSw); first | (go_simp; done) | (go_simp; with_reducible rfl))
      try simp only [Act.put, List.getElem_toArray, List.getElem_cons_zero, List.setIfInBounds_toArray, List.set_cons_zero, List.set_cons_succ]
      refine wpAnyH_take (i := 1) (v := ?v2) rfl (by kernel_rfl) (by kernel_rfl) (by kernel_rfl) (fun _ _ _ h => h) (Or.inl ⟨by rfl, ?hy2⟩) (by assumption) ?rest2
      case hy2 => (intro wz hSw; (try dsimp only at hSw); first | (go_simp; done) | (go_simp; with_reducible rfl))
      try simp only [Act.put, List.getElem_toArray, List.getElem_cons_succ, List.getElem_cons_zero, List.setIfInBounds_toArray, List.set_cons_zero, List.set_cons_succ]
      refine wpAnyH_take (i := 2) (v := ?v3) rfl (by kernel_rfl) (by kernel_rfl) (by kernel_rfl) (fun _ _ _ h => h) (Or.inl ⟨by rfl, ?hy3⟩) (by assumption) ?rest3
      case hy3 => (intro wz hSw; (try dsimp only at hSw); first | (go_simp; done) | (go_simp; with_reducible rfl))
      try simp only [Act.put, List.getElem_toArray, List.getElem_cons_succ, List.getElem_cons_zero, List.setIfInBounds_toArray, List.set_cons_zero, List.set_cons_succ]
      refine wpAnyH_take (i := 3) (v := ?v4) rfl (by kernel_rfl) (by kernel_rfl) (by kernel_rfl) (fun _ _ _ h => h) (Or.inl ⟨by rfl, ?hy4⟩) (by assumption) ?rest4
      case hy4 => (intro wz hSw; (try dsimp only at hSw); first | (go_simp; done) | (go_simp; with_reducible rfl))
      try simp only [Act.put, List.getElem_toArray, List.getElem_cons_succ, List.getElem_cons_zero, List.setIfInBounds_toArray, List.set_cons_zero, List.set_cons_succ]
      refine wpAnyH_take (i := 4) (v := ?v5) rfl (by kernel_rfl) (by kernel_rfl) (by kernel_rfl) (fun _ _ _ h => h) (Or.inl ⟨by rfl, ?hy5⟩) (by assumption) ?rest5
      case hy5 => (intro wz hSw; (try dsimp only at hSw); first | (go_simp; done) | (go_simp; with_reducible rfl))
      try simp only [Act.put, List.getElem_toArray, List.getElem_cons_succ, List.getElem_cons_zero, List.setIfInBounds_toArray, List.set_cons_zero, List.set_cons_succ]
      refine wpAnyH_take (i := 5) (v := ?v6) rfl (by kernel_rfl) (by kernel_rfl) (by kernel_rfl) (fun _ _ _ h => h) (Or.inl ⟨by rfl, ?hy6⟩) (by assumption) ?rest6
      case hy6 => (intro wz hSw; (try dsimp only at hSw); first | (go_simp; done) | (go_simp; with_reducible rfl))
      try simp only [Act.put, List.getElem_toArray, List.getElem_cons_succ, List.getElem_cons_zero, List.setIfInBounds_toArray, List.set_cons_zero, List.set_cons_succ]
      refine wpAnyH_take (i := 6) (v := ?v7) rfl (by kernel_rfl) (by kernel_rfl) (by kernel_rfl) (fun _ _ _ h => h) (Or.inl ⟨by rfl, ?hy7⟩) (by assumption) ?rest7
      case hy7 => (intro wz hSw; (try dsimp only at hSw); first | (go_simp; done) | (go_simp; with_reducible rfl))
      try simp only [Act.put, List.getElem_toArray, List.getElem_cons_succ, List.getElem_cons_zero, List.setIfInBounds_toArray, List.set_cons_zero, List.set_cons_succ]
      refine wpAnyH_take (i := 7) (v := ?v8) rfl (by kernel_rfl) (by kernel_rfl) (by kernel_rfl) (fun _ _ _ h => h) (Or.inl ⟨by rfl, ?hy8⟩) (by assumption) ?rest8
      case hy8 => (intro wz hSw; (try dsimp only at hSw); first | (go_simp; done) | (go_simp; with_reducible rfl))
      try simp only [Act.put, List.getElem_toArray, List.getElem_cons_succ, List.getElem_cons_zero, List.setIfInBounds_toArray, List.set_cons_zero, List.set_cons_succ]
      refine wpAnyH_take (i := 8) (v := ?v9) rfl (by kernel_rfl) (by kernel_rfl) (by kernel_rfl) (fun _ _ _ h => h) (Or.inl ⟨by rfl, ?hy9⟩) (by assumption) ?rest9
      case hy9 => (intro wz hSw; (try dsimp only at hSw); first | (go_simp; done) | (go_simp; with_reducible rfl))
      try simp only [Act.put, List.getElem_toArray, List.getElem_cons_succ, List.getElem_cons_zero, List.setIfInBounds_toArray, List.set_cons_zero, List.set_cons_succ]
      have D1 := Lib.hid (E1.out.keep0 (gb_drew W none))
      have D2 := Lib.hid (E2.out.keep0 (gb_drew W none))
      have D3 := Lib.hid (E3.out.keep0 (gb_drew W none))
      have P1 := Lib.hid (B1.out.keep0 (gb_drew W none))
      have P2 := Lib.hid (B2.out.keep0 (gb_drew W none))
      have N31 := Lib.hid (D3.out.ne D1.out (by decide))
      have N32 := Lib.hid (D3.out.ne D2.out (by decide))
      have Q21 := Lib.hid (P2.out.ne D1.out (by decide))
      have Q22 := Lib.hid (P2.out.ne D2.out (by decide))
      have Q23 := Lib.hid (show bx ≠ b3 from (P1.out.ne D3.out (by decide)))
      clear E1 E2 E3 B1 B2
      have d8 := D1.out.cell 8
      have f8 := D1.out.free 8
      dsimp at d8
      refine wpAnyH_ready (rs := [9]) (by kernel_rfl) (by simp) ?_
      refine AllReadyH.cons (o := _) rfl (fun K hK => ?_) AllReadyH.nil
      go_simp
      replace D2 := Lib.hid (D2.out.set_far (Ne.symm N12.out) 8 (.slice (some ad) a9 dc))
      replace D3 := Lib.hid (D3.out.set_far N31.out 8 (.slice (some ad) a9 dc))
      replace P1 := Lib.hid (P1.out.set_far NB.out.1 8 (.slice (some ad) a9 dc))
      replace P2 := Lib.hid (P2.out.set_far Q21.out 8 (.slice (some ad) a9 dc))
      replace D1 := Lib.hid (D1.out.set 8 (.slice (some ad) a9 dc))
      have GS := Lib.hid (gb_put (gb_trans FX.out (gb_drew W none)) LB.out.1 (i := 8) (u := .slice (some ad) a9 dc))
      refine hK.out _ _ (P1.out.cell 8) (fun hH1 => ?_)
      clear hK K hH0 hS0 d8 f8
      try simp only [Act.put, List.getElem_toArray, List.getElem_cons_succ, List.getElem_cons_zero, List.setIfInBounds_toArray, List.set_cons_zero, List.set_cons_succ]
      refine wpAnyH_take (i := 10) (v := ?v10) rfl (by kernel_rfl) (by kernel_rfl) (by kernel_rfl) (fun _ _ _ h => h) (Or.inl ⟨by rfl, ?hy10⟩) (by assumption) ?rest10
      case hy10 => (intro wz hSw; (try dsimp only at hSw); first | (go_simp; done) | (go_simp; with_reducible rfl))
      try simp only [Act.put, List.getElem_toArray, List.getElem_cons_succ, List.getElem_cons_zero, List.setIfInBounds_toArray, List.set_cons_zero, List.set_cons_succ]
      have d8 : ((W.setCell ⟨b1, 8, none⟩ (.slice (some ad) a9 dc)).drew).cell? ⟨b2, 8, none⟩ = some (.slice (some ad) dn dc) := D2.out.cell 8
      have f8 : ((W.setCell ⟨b1, 8, none⟩ (.slice (some ad) a9 dc)).drew).frozen? ⟨b2, 8, none⟩ = false := D2.out.free 8
      refine wpAnyH_ready (rs := [11]) (by kernel_rfl) (by simp) ?_
      refine AllReadyH.cons (o := _) rfl (fun K hK => ?_) AllReadyH.nil
      go_simp
      replace D1 := Lib.hid (D1.out.set_far N12.out 8 (.slice (if dc = a9 then some ad else some (ad.add a9)) (dn - a9) (dc - a9)))
      replace D3 := Lib.hid (D3.out.set_far N32.out 8 (.slice (if dc = a9 then some ad else some (ad.add a9)) (dn - a9) (dc - a9)))
      replace P1 := Lib.hid (P1.out.set_far NB.out.2 8 (.slice (if dc = a9 then some ad else some (ad.add a9)) (dn - a9) (dc - a9)))
      replace P2 := Lib.hid (P2.out.set_far Q22.out 8 (.slice (if dc = a9 then some ad else some (ad.add a9)) (dn - a9) (dc - a9)))
      replace D2 := Lib.hid (D2.out.set 8 (.slice (if dc = a9 then some ad else some (ad.add a9)) (dn - a9) (dc - a9)))
      replace GS := Lib.hid (gb_put GS.out LB.out.2.1 (i := 8) (u := .slice (if dc = a9 then some ad else some (ad.add a9)) (dn - a9) (dc - a9)))
      refine hK.out _ _ (P1.out.cell 8) (fun hH2 => ?_)
      clear hK K hH1 d8 f8
      try simp only [Act.put, List.getElem_toArray, List.getElem_cons_succ, List.getElem_cons_zero, List.setIfInBounds_toArray, List.set_cons_zero, List.set_cons_succ]
      refine wpAnyH_done (by kernel_rfl) ?_ _
      clear hH2
      have SX := Lib.hid (show SI w (if dc = a9 then some ad else some (ad.add a9)) (dn - a9) (dc - a9) (D.drop a9) from by
        have q := si_drop S0.out.2.2.1 a9 AL.out
        by_cases h : dc = a9
        · rw [if_pos h] at q ⊢; exact q
        · rw [if_neg h] at q ⊢; exact q)
      have SX1 := Lib.hid (S0.out.2.2.1.cut a9 AL.out)
      generalize (if dc = a9 then some ad else some (ad.add a9)) = xa at *
      generalize dn - a9 = n2 at *
      generalize dc - a9 = c2 at *
      have d3 : (((W.setCell ⟨b1, 8, none⟩ (.slice (some ad) a9 dc)).setCell ⟨b2, 8, none⟩ (.slice xa n2 c2)).drew).cell? ⟨b3, 3, none⟩ = some (.slice pa pn pc) := D3.out.cell 3
      have f3 : (((W.setCell ⟨b1, 8, none⟩ (.slice (some ad) a9 dc)).setCell ⟨b2, 8, none⟩ (.slice xa n2 c2)).drew).frozen? ⟨b3, 3, none⟩ = false := D3.out.free 3
      replace D1 := Lib.hid (D1.out.set_far (Ne.symm N31.out) 3 (.slice none 0 0))
      replace D2 := Lib.hid (D2.out.set_far (Ne.symm N32.out) 3 (.slice none 0 0))
      replace P1 := Lib.hid (P1.out.set_far Q23.out 3 (.slice none 0 0))
      have N2B := Lib.hid (show bx + 1 ≠ b3 from NB3.out)
      replace P2 := Lib.hid (P2.out.set_far N2B.out 3 (.slice none 0 0))
      replace D3 := Lib.hid (D3.out.set 3 (.slice none 0 0))
      replace GS := Lib.hid (gb_put GS.out LB.out.2.2 (i := 3) (u := .slice none 0 0))
      go_upto_region 6 with fail
      clear d3 f3
      replace D1 := Lib.hid (show IsB ((((W.setCell ⟨b1, 8, none⟩ (.slice (some ad) a9 dc)).setCell ⟨b2, 8, none⟩ (.slice xa n2 c2)).setCell ⟨b3, 3, none⟩ (.slice none 0 0)).drew) b1 31 #[.string nm, .slice ha hn hc, .slice ma mn mc, .slice r1 r2 r3, .slice a1 a2 a3, .slice t1 t2 t3, .slice s1 s2 s3, .slice k1 k2 k3, .slice (some ad) a9 dc] from D1.out)
      replace D2 := Lib.hid (show IsB ((((W.setCell ⟨b1, 8, none⟩ (.slice (some ad) a9 dc)).setCell ⟨b2, 8, none⟩ (.slice xa n2 c2)).setCell ⟨b3, 3, none⟩ (.slice none 0 0)).drew) b2 31 #[.string nm, .slice ha hn hc, .slice ma mn mc, .slice r1 r2 r3, .slice a1 a2 a3, .slice t1 t2 t3, .slice s1 s2 s3, .slice k1 k2 k3, .slice xa n2 c2] from D2.out)
      replace D3 := Lib.hid (show IsB ((((W.setCell ⟨b1, 8, none⟩ (.slice (some ad) a9 dc)).setCell ⟨b2, 8, none⟩ (.slice xa n2 c2)).setCell ⟨b3, 3, none⟩ (.slice none 0 0)).drew) b3 42 #[.slice va vn vc, .slice fa fn fc, .slice ta tn tc, .slice none 0 0] from D3.out)
      replace P1 := Lib.hid (show IsB ((((W.setCell ⟨b1, 8, none⟩ (.slice (some ad) a9 dc)).setCell ⟨b2, 8, none⟩ (.slice xa n2 c2)).setCell ⟨b3, 3, none⟩ (.slice none 0 0)).drew) bx 31 #[.string nm, .slice ha hn hc, .slice ma mn mc, .slice r1 r2 r3, .slice a1 a2 a3, .slice t1 t2 t3, .slice s1 s2 s3, .slice k1 k2 k3, .slice (some ad) dn dc] from P1.out)
      replace P2 := Lib.hid (show IsB ((((W.setCell ⟨b1, 8, none⟩ (.slice (some ad) a9 dc)).setCell ⟨b2, 8, none⟩ (.slice xa n2 c2)).setCell ⟨b3, 3, none⟩ (.slice none 0 0)).drew) (bx + 1) 42 #[.slice va vn vc, .slice fa fn fc, .slice ta tn tc, .slice pa pn pc] from P2.out)
      replace GS := Lib.hid (show w.grownBy ((((W.setCell ⟨b1, 8, none⟩ (.slice (some ad) a9 dc)).setCell ⟨b2, 8, none⟩ (.slice xa n2 c2)).setCell ⟨b3, 3, none⟩ (.slice none 0 0)).drew) none from GS.out)
      generalize (((W.setCell ⟨b1, 8, none⟩ (.slice (some ad) a9 dc)).setCell ⟨b2, 8, none⟩ (.slice xa n2 c2)).setCell ⟨b3, 3, none⟩ (.slice none 0 0)).drew = w6 at *
      clear i1 i2 i3
      obtain ⟨bs1, hb1⟩ : ∃ b, b = emit H M (D.take a9) ⟨L.V, L.F, L.T, []⟩ := ⟨_, rfl⟩
      obtain ⟨bs2, hb2⟩ : ∃ b, b = emit H M (D.drop a9) L := ⟨_, rfl⟩
      obtain ⟨bs, hb⟩ : ∃ b, b = emit H M D L := ⟨_, rfl⟩
      have CS := Lib.hid (show bs1 ++ bs2 = bs by rw [hb1, hb2, hb]; exact cut_same DVh.out a9)
      have M1 := Lib.hid hb1
      have M2 := Lib.hid hb2
      have M3 := Lib.hid hb
      have LE := Lib.hid (show bs.length ≤ 60000 by
        have q := emit_len DVh.out
        have q2 := S0.out.2.2.2.p.len
        have q3 := R.out.p
        dsimp only at q2
        rw [hb]; omega)
      clear hb1 hb2 hb
      have PZh := Lib.hid (R.out.pz S0.out.1 S0.out.2.1 S0.out.2.2.2 NM.out)
      have ER0 := Lib.hid (show ER w ⟨va, fa, ta, none, vn, vc, fn, fc, tn, tc, 0, 0⟩ ⟨L.V, L.F, L.T, []⟩ from ⟨S0.out.2.2.2.v, S0.out.2.2.2.f, S0.out.2.2.2.t, ⟨⟨rfl, fun _ => ⟨rfl, rfl⟩, fun ad e => by cases e⟩, Nat.le_refl _, fun x hx => by cases hx⟩⟩)
      have PZ0 := Lib.hid (show PZ hn H M ⟨va, fa, ta, none, vn, vc, fn, fc, tn, tc, 0, 0⟩ ⟨L.V, L.F, L.T, []⟩ from ⟨PZh.out.h, PZh.out.n, PZh.out.m, ⟨PZh.out.e.v, PZh.out.e.f, PZh.out.e.t, Nat.zero_le _, PZh.out.e.r⟩⟩)
      have EA := Lib.hid (fun (W : World) (q : w6.grownBy W none) => demit_any W (.string nm) (.slice r1 r2 r3) (.slice a1 a2 a3) (.slice t1 t2 t3) (.slice s1 s2 s3) (.slice k1 k2 k3) ha ma (some ad) hn hc mn mc a9 dc va fa ta none vn vc fn fc tn tc 0 0 H M (D.take a9) ⟨L.V, L.F, L.T, []⟩ (S0.out.1.keep0 (gb_trans GS.out q)) (S0.out.2.1.keep0 (gb_trans GS.out q)) (SX1.out.keep0 (gb_trans GS.out q)) (ER0.out.keep0 (gb_trans GS.out q)) PZ0.out bs1 M1.out)
      have EB := Lib.hid (fun (W : World) (q : w6.grownBy W none) => demit_any W (.string nm) (.slice r1 r2 r3) (.slice a1 a2 a3) (.slice t1 t2 t3) (.slice s1 s2 s3) (.slice k1 k2 k3) ha ma xa hn hc mn mc n2 c2 va fa ta pa vn vc fn fc tn tc pn pc H M (D.drop a9) L (S0.out.1.keep0 (gb_trans GS.out q)) (S0.out.2.1.keep0 (gb_trans GS.out q)) (SX.out.keep0 (gb_trans GS.out q)) (S0.out.2.2.2.keep0 (gb_trans GS.out q)) PZh.out bs2 M2.out)
      have EC := Lib.hid (fun (W : World) (q : w6.grownBy W none) => demit_any W (.string nm) (.slice r1 r2 r3) (.slice a1 a2 a3) (.slice t1 t2 t3) (.slice s1 s2 s3) (.slice k1 k2 k3) ha ma (some ad) hn hc mn mc dn dc va fa ta pa vn vc fn fc tn tc pn pc H M D L (S0.out.1.keep0 (gb_trans GS.out q)) (S0.out.2.1.keep0 (gb_trans GS.out q)) (S0.out.2.2.1.keep0 (gb_trans GS.out q)) (S0.out.2.2.2.keep0 (gb_trans GS.out q)) PZh.out bs M3.out)
      have ZA := Lib.hid (fun (W : World) (q : w6.grownBy W none) => dsize_any W (.string nm) (.slice r1 r2 r3) (.slice a1 a2 a3) (.slice t1 t2 t3) (.slice s1 s2 s3) (.slice k1 k2 k3) ha ma (some ad) hn hc mn mc a9 dc va fa ta none vn vc fn fc tn tc 0 0 H M (D.take a9) ⟨L.V, L.F, L.T, []⟩ (S0.out.1.keep0 (gb_trans GS.out q)) (S0.out.2.1.keep0 (gb_trans GS.out q)) (SX1.out.keep0 (gb_trans GS.out q)) (ER0.out.keep0 (gb_trans GS.out q)) PZ0.out bs1 M1.out)
      have ZB := Lib.hid (fun (W : World) (q : w6.grownBy W none) => dsize_any W (.string nm) (.slice r1 r2 r3) (.slice a1 a2 a3) (.slice t1 t2 t3) (.slice s1 s2 s3) (.slice k1 k2 k3) ha ma xa hn hc mn mc n2 c2 va fa ta pa vn vc fn fc tn tc pn pc H M (D.drop a9) L (S0.out.1.keep0 (gb_trans GS.out q)) (S0.out.2.1.keep0 (gb_trans GS.out q)) (SX.out.keep0 (gb_trans GS.out q)) (S0.out.2.2.2.keep0 (gb_trans GS.out q)) PZh.out bs2 M2.out)
      have ZC := Lib.hid (fun (W : World) (q : w6.grownBy W none) => dsize_any W (.string nm) (.slice r1 r2 r3) (.slice a1 a2 a3) (.slice t1 t2 t3) (.slice s1 s2 s3) (.slice k1 k2 k3) ha ma (some ad) hn hc mn mc dn dc va fa ta pa vn vc fn fc tn tc pn pc H M D L (S0.out.1.keep0 (gb_trans GS.out q)) (S0.out.2.1.keep0 (gb_trans GS.out q)) (S0.out.2.2.1.keep0 (gb_trans GS.out q)) (S0.out.2.2.2.keep0 (gb_trans GS.out q)) PZh.out bs M3.out)
      have sc : strOf bs1 ++ strOf bs2 = strOf bs := by rw [strOf_app', CS.out]
      have sq : ((strOf bs).toList == (strOf bs).toList) = true := by simp
      have LS := Lib.hid (show bs1.length + bs2.length = bs.length by rw [← CS.out, List.length_append])
      have zs : IntKind.i64.wrap ((bs1.length : Int) + (bs2.length : Int)) = (bs.length : Int) := by have := LS.out; have := LE.out; rw [IntKind.wrap_i64]; omega
      have zq : ((bs.length : Int) == (bs.length : Int)) = true := by simp
      have z1 : (strOf bs1).size = bs1.length := Lx.strOf_size _
      have z2 : (strOf bs2).size = bs2.length := Lx.strOf_size _
      have z3 : (strOf bs).size = bs.length := Lx.strOf_size _
      have zl : ¬ 9223372036854775807 < bs1.length + bs2.length := by have := LS.out; have := LE.out; omega
      have KJ := Lib.hid (fun (w' : World) (q0 : w6.grownBy w' none) => (⟨(P1.out.keep0 q0).cell 0, (P1.out.keep0 q0).cell 1, (P1.out.keep0 q0).cell 2, (P1.out.keep0 q0).cell 3, (P1.out.keep0 q0).cell 4, (P1.out.keep0 q0).cell 5, (P1.out.keep0 q0).cell 6, (P1.out.keep0 q0).cell 7, (P1.out.keep0 q0).cell 8, (P2.out.keep0 q0).cell 0, (P2.out.keep0 q0).cell 1, (P2.out.keep0 q0).cell 2, (P2.out.keep0 q0).cell 3, (D1.out.keep0 q0).cell 0, (D1.out.keep0 q0).cell 1, (D1.out.keep0 q0).cell 2, (D1.out.keep0 q0).cell 3, (D1.out.keep0 q0).cell 4, (D1.out.keep0 q0).cell 5, (D1.out.keep0 q0).cell 6, (D1.out.keep0 q0).cell 7, (D1.out.keep0 q0).cell 8, (D2.out.keep0 q0).cell 0, (D2.out.keep0 q0).cell 1, (D2.out.keep0 q0).cell 2, (D2.out.keep0 q0).cell 3, (D2.out.keep0 q0).cell 4, (D2.out.keep0 q0).cell 5, (D2.out.keep0 q0).cell 6, (D2.out.keep0 q0).cell 7, (D2.out.keep0 q0).cell 8, (D3.out.keep0 q0).cell 0, (D3.out.keep0 q0).cell 1, (D3.out.keep0 q0).cell 2, (D3.out.keep0 q0).cell 3, q0⟩ : (fun w' : World => w'.cell? ⟨bx, 0, none⟩ = some (.string nm) ∧ w'.cell? ⟨bx, 1, none⟩ = some (.slice ha hn hc) ∧ w'.cell? ⟨bx, 2, none⟩ = some (.slice ma mn mc) ∧ w'.cell? ⟨bx, 3, none⟩ = some (.slice r1 r2 r3) ∧ w'.cell? ⟨bx, 4, none⟩ = some (.slice a1 a2 a3) ∧ w'.cell? ⟨bx, 5, none⟩ = some (.slice t1 t2 t3) ∧ w'.cell? ⟨bx, 6, none⟩ = some (.slice s1 s2 s3) ∧ w'.cell? ⟨bx, 7, none⟩ = some (.slice k1 k2 k3) ∧ w'.cell? ⟨bx, 8, none⟩ = some (.slice (some ad) dn dc) ∧ w'.cell? ⟨bx + 1, 0, none⟩ = some (.slice va vn vc) ∧ w'.cell? ⟨bx + 1, 1, none⟩ = some (.slice fa fn fc) ∧ w'.cell? ⟨bx + 1, 2, none⟩ = some (.slice ta tn tc) ∧ w'.cell? ⟨bx + 1, 3, none⟩ = some (.slice pa pn pc) ∧ w'.cell? ⟨b1, 0, none⟩ = some (.string nm) ∧ w'.cell? ⟨b1, 1, none⟩ = some (.slice ha hn hc) ∧ w'.cell? ⟨b1, 2, none⟩ = some (.slice ma mn mc) ∧ w'.cell? ⟨b1, 3, none⟩ = some (.slice r1 r2 r3) ∧ w'.cell? ⟨b1, 4, none⟩ = some (.slice a1 a2 a3) ∧ w'.cell? ⟨b1, 5, none⟩ = some (.slice t1 t2 t3) ∧ w'.cell? ⟨b1, 6, none⟩ = some (.slice s1 s2 s3) ∧ w'.cell? ⟨b1, 7, none⟩ = some (.slice k1 k2 k3) ∧ w'.cell? ⟨b1, 8, none⟩ = some (.slice (some ad) a9 dc) ∧ w'.cell? ⟨b2, 0, none⟩ = some (.string nm) ∧ w'.cell? ⟨b2, 1, none⟩ = some (.slice ha hn hc) ∧ w'.cell? ⟨b2, 2, none⟩ = some (.slice ma mn mc) ∧ w'.cell? ⟨b2, 3, none⟩ = some (.slice r1 r2 r3) ∧ w'.cell? ⟨b2, 4, none⟩ = some (.slice a1 a2 a3) ∧ w'.cell? ⟨b2, 5, none⟩ = some (.slice t1 t2 t3) ∧ w'.cell? ⟨b2, 6, none⟩ = some (.slice s1 s2 s3) ∧ w'.cell? ⟨b2, 7, none⟩ = some (.slice k1 k2 k3) ∧ w'.cell? ⟨b2, 8, none⟩ = some (.slice xa n2 c2) ∧ w'.cell? ⟨b3, 0, none⟩ = some (.slice va vn vc) ∧ w'.cell? ⟨b3, 1, none⟩ = some (.slice fa fn fc) ∧ w'.cell? ⟨b3, 2, none⟩ = some (.slice ta tn tc) ∧ w'.cell? ⟨b3, 3, none⟩ = some (.slice none 0 0) ∧ w6.grownBy w' none) w'))
      have J0 := Lib.hid (gb_drew w6 none)
      refine wp_region_held_drew (S := (fun w' : World => w'.cell? ⟨bx, 0, none⟩ = some (.string nm) ∧ w'.cell? ⟨bx, 1, none⟩ = some (.slice ha hn hc) ∧ w'.cell? ⟨bx, 2, none⟩ = some (.slice ma mn mc) ∧ w'.cell? ⟨bx, 3, none⟩ = some (.slice r1 r2 r3) ∧ w'.cell? ⟨bx, 4, none⟩ = some (.slice a1 a2 a3) ∧ w'.cell? ⟨bx, 5, none⟩ = some (.slice t1 t2 t3) ∧ w'.cell? ⟨bx, 6, none⟩ = some (.slice s1 s2 s3) ∧ w'.cell? ⟨bx, 7, none⟩ = some (.slice k1 k2 k3) ∧ w'.cell? ⟨bx, 8, none⟩ = some (.slice (some ad) dn dc) ∧ w'.cell? ⟨bx + 1, 0, none⟩ = some (.slice va vn vc) ∧ w'.cell? ⟨bx + 1, 1, none⟩ = some (.slice fa fn fc) ∧ w'.cell? ⟨bx + 1, 2, none⟩ = some (.slice ta tn tc) ∧ w'.cell? ⟨bx + 1, 3, none⟩ = some (.slice pa pn pc) ∧ w'.cell? ⟨b1, 0, none⟩ = some (.string nm) ∧ w'.cell? ⟨b1, 1, none⟩ = some (.slice ha hn hc) ∧ w'.cell? ⟨b1, 2, none⟩ = some (.slice ma mn mc) ∧ w'.cell? ⟨b1, 3, none⟩ = some (.slice r1 r2 r3) ∧ w'.cell? ⟨b1, 4, none⟩ = some (.slice a1 a2 a3) ∧ w'.cell? ⟨b1, 5, none⟩ = some (.slice t1 t2 t3) ∧ w'.cell? ⟨b1, 6, none⟩ = some (.slice s1 s2 s3) ∧ w'.cell? ⟨b1, 7, none⟩ = some (.slice k1 k2 k3) ∧ w'.cell? ⟨b1, 8, none⟩ = some (.slice (some ad) a9 dc) ∧ w'.cell? ⟨b2, 0, none⟩ = some (.string nm) ∧ w'.cell? ⟨b2, 1, none⟩ = some (.slice ha hn hc) ∧ w'.cell? ⟨b2, 2, none⟩ = some (.slice ma mn mc) ∧ w'.cell? ⟨b2, 3, none⟩ = some (.slice r1 r2 r3) ∧ w'.cell? ⟨b2, 4, none⟩ = some (.slice a1 a2 a3) ∧ w'.cell? ⟨b2, 5, none⟩ = some (.slice t1 t2 t3) ∧ w'.cell? ⟨b2, 6, none⟩ = some (.slice s1 s2 s3) ∧ w'.cell? ⟨b2, 7, none⟩ = some (.slice k1 k2 k3) ∧ w'.cell? ⟨b2, 8, none⟩ = some (.slice xa n2 c2) ∧ w'.cell? ⟨b3, 0, none⟩ = some (.slice va vn vc) ∧ w'.cell? ⟨b3, 1, none⟩ = some (.slice fa fn fc) ∧ w'.cell? ⟨b3, 2, none⟩ = some (.slice ta tn tc) ∧ w'.cell? ⟨b3, 3, none⟩ = some (.slice none 0 0) ∧ w6.grownBy w' none)) (by kernel_rfl) (KJ.out _ J0.out) (fun hH0 => ?_)
      refine wpAnyH_take (i := 0) (v := ?v11) rfl (by kernel_rfl) (by kernel_rfl) (by kernel_rfl) (fun _ _ _ h => h) (Or.inl ⟨by rfl, ?hy11⟩) (by assumption) ?rest11
      case hy11 => (intro wz hSw; (try dsimp only at hSw); first | (go_simp; done) | (go_simp; with_reducible rfl))
      try simp only [Act.put, List.getElem_toArray, List.getElem_cons_zero, List.setIfInBounds_toArray, List.set_cons_zero, List.set_cons_succ]
      refine wpAnyH_take (i := 1) (v := ?v12) rfl (by kernel_rfl) (by kernel_rfl) (by kernel_rfl) (fun _ _ _ h => h) (Or.inl ⟨by rfl, ?hy12⟩) (by assumption) ?rest12
      case hy12 => (intro wz hSw; (try dsimp only at hSw); first | (go_simp; done) | (go_simp; with_reducible rfl))
      try simp only [Act.put, List.getElem_toArray, List.getElem_cons_succ, List.getElem_cons_zero, List.setIfInBounds_toArray, List.set_cons_zero, List.set_cons_succ]
      refine wpAnyH_take (i := 4) (v := ?v13) rfl (by kernel_rfl) (by kernel_rfl) (by kernel_rfl) (fun _ _ _ h => h) (Or.inl ⟨by rfl, ?hy13⟩) (by assumption) ?rest13
      case hy13 => (intro wz hSw; (try dsimp only at hSw); first | (go_simp; done) | (go_simp; with_reducible rfl))
      try simp only [Act.put, List.getElem_toArray, List.getElem_cons_succ, List.getElem_cons_zero, List.setIfInBounds_toArray, List.set_cons_zero, List.set_cons_succ]
      refine wpAnyH_take (i := 5) (v := ?v14) rfl (by kernel_rfl) (by kernel_rfl) (by kernel_rfl) (fun _ _ _ h => h) (Or.inl ⟨by rfl, ?hy14⟩) (by assumption) ?rest14
      case hy14 => (intro wz hSw; (try dsimp only at hSw); first | (go_simp; done) | (go_simp; with_reducible rfl))
      try simp only [Act.put, List.getElem_toArray, List.getElem_cons_succ, List.getElem_cons_zero, List.setIfInBounds_toArray, List.set_cons_zero, List.set_cons_succ]
      refine wpAnyH_take (i := 9) (v := ?v15) rfl (by kernel_rfl) (by kernel_rfl) (by kernel_rfl) (fun _ _ _ h => h) (Or.inl ⟨by rfl, ?hy15⟩) (by assumption) ?rest15
      case hy15 => (intro wz hSw; (try dsimp only at hSw); first | (go_simp; done) | (go_simp; with_reducible rfl))
      try simp only [Act.put, List.getElem_toArray, List.getElem_cons_succ, List.getElem_cons_zero, List.setIfInBounds_toArray, List.set_cons_zero, List.set_cons_succ]
      refine wpAnyH_take (i := 10) (v := ?v16) rfl (by kernel_rfl) (by kernel_rfl) (by kernel_rfl) (fun _ _ _ h => h) (Or.inl ⟨by rfl, ?hy16⟩) (by assumption) ?rest16
      case hy16 => (intro wz hSw; (try dsimp only at hSw); first | (go_simp; done) | (go_simp; with_reducible rfl))
      try simp only [Act.put, List.getElem_toArray, List.getElem_cons_succ, List.getElem_cons_zero, List.setIfInBounds_toArray, List.set_cons_zero, List.set_cons_succ]
      refine wpAnyH_ready (rs := [2]) (by kernel_rfl) (by simp) ?_
      refine AllReadyH.cons (o := _) rfl (fun K hK => ?_) AllReadyH.nil
      go_simp
      (with_reducible refine (EA.out _ J0.out).mono ?_)
      rintro e jw1 ⟨V1, rfl, o, g⟩
      have O1 := Lib.hid o
      clear o
      obtain ⟨o1, u1, rfl⟩ := own_shape O1.out
      have J1 := Lib.hid (gb_trans J0.out g)
      clear g
      try dsimp only
      refine hK.out _ _ (KJ.out _ J1.out) (fun hH1 => ?_)
      clear hK K hH0
      try simp only [Act.put, List.getElem_toArray, List.getElem_cons_succ, List.getElem_cons_zero, List.setIfInBounds_toArray, List.set_cons_zero, List.set_cons_succ]
      have KU := Lib.hid (fun (w' : World) (q0 : jw1.grownBy w' none) => (⟨(P1.out.keep0 (gb_trans J1.out q0)).cell 0, (P1.out.keep0 (gb_trans J1.out q0)).cell 1, (P1.out.keep0 (gb_trans J1.out q0)).cell 2, (P1.out.keep0 (gb_trans J1.out q0)).cell 3, (P1.out.keep0 (gb_trans J1.out q0)).cell 4, (P1.out.keep0 (gb_trans J1.out q0)).cell 5, (P1.out.keep0 (gb_trans J1.out q0)).cell 6, (P1.out.keep0 (gb_trans J1.out q0)).cell 7, (P1.out.keep0 (gb_trans J1.out q0)).cell 8, (P2.out.keep0 (gb_trans J1.out q0)).cell 0, (P2.out.keep0 (gb_trans J1.out q0)).cell 1, (P2.out.keep0 (gb_trans J1.out q0)).cell 2, (P2.out.keep0 (gb_trans J1.out q0)).cell 3, (D1.out.keep0 (gb_trans J1.out q0)).cell 0, (D1.out.keep0 (gb_trans J1.out q0)).cell 1, (D1.out.keep0 (gb_trans J1.out q0)).cell 2, (D1.out.keep0 (gb_trans J1.out q0)).cell 3, (D1.out.keep0 (gb_trans J1.out q0)).cell 4, (D1.out.keep0 (gb_trans J1.out q0)).cell 5, (D1.out.keep0 (gb_trans J1.out q0)).cell 6, (D1.out.keep0 (gb_trans J1.out q0)).cell 7, (D1.out.keep0 (gb_trans J1.out q0)).cell 8, (D2.out.keep0 (gb_trans J1.out q0)).cell 0, (D2.out.keep0 (gb_trans J1.out q0)).cell 1, (D2.out.keep0 (gb_trans J1.out q0)).cell 2, (D2.out.keep0 (gb_trans J1.out q0)).cell 3, (D2.out.keep0 (gb_trans J1.out q0)).cell 4, (D2.out.keep0 (gb_trans J1.out q0)).cell 5, (D2.out.keep0 (gb_trans J1.out q0)).cell 6, (D2.out.keep0 (gb_trans J1.out q0)).cell 7, (D2.out.keep0 (gb_trans J1.out q0)).cell 8, (D3.out.keep0 (gb_trans J1.out q0)).cell 0, (D3.out.keep0 (gb_trans J1.out q0)).cell 1, (D3.out.keep0 (gb_trans J1.out q0)).cell 2, (D3.out.keep0 (gb_trans J1.out q0)).cell 3, q0⟩ : (fun w' : World => w'.cell? ⟨bx, 0, none⟩ = some (.string nm) ∧ w'.cell? ⟨bx, 1, none⟩ = some (.slice ha hn hc) ∧ w'.cell? ⟨bx, 2, none⟩ = some (.slice ma mn mc) ∧ w'.cell? ⟨bx, 3, none⟩ = some (.slice r1 r2 r3) ∧ w'.cell? ⟨bx, 4, none⟩ = some (.slice a1 a2 a3) ∧ w'.cell? ⟨bx, 5, none⟩ = some (.slice t1 t2 t3) ∧ w'.cell? ⟨bx, 6, none⟩ = some (.slice s1 s2 s3) ∧ w'.cell? ⟨bx, 7, none⟩ = some (.slice k1 k2 k3) ∧ w'.cell? ⟨bx, 8, none⟩ = some (.slice (some ad) dn dc) ∧ w'.cell? ⟨bx + 1, 0, none⟩ = some (.slice va vn vc) ∧ w'.cell? ⟨bx + 1, 1, none⟩ = some (.slice fa fn fc) ∧ w'.cell? ⟨bx + 1, 2, none⟩ = some (.slice ta tn tc) ∧ w'.cell? ⟨bx + 1, 3, none⟩ = some (.slice pa pn pc) ∧ w'.cell? ⟨b1, 0, none⟩ = some (.string nm) ∧ w'.cell? ⟨b1, 1, none⟩ = some (.slice ha hn hc) ∧ w'.cell? ⟨b1, 2, none⟩ = some (.slice ma mn mc) ∧ w'.cell? ⟨b1, 3, none⟩ = some (.slice r1 r2 r3) ∧ w'.cell? ⟨b1, 4, none⟩ = some (.slice a1 a2 a3) ∧ w'.cell? ⟨b1, 5, none⟩ = some (.slice t1 t2 t3) ∧ w'.cell? ⟨b1, 6, none⟩ = some (.slice s1 s2 s3) ∧ w'.cell? ⟨b1, 7, none⟩ = some (.slice k1 k2 k3) ∧ w'.cell? ⟨b1, 8, none⟩ = some (.slice (some ad) a9 dc) ∧ w'.cell? ⟨b2, 0, none⟩ = some (.string nm) ∧ w'.cell? ⟨b2, 1, none⟩ = some (.slice ha hn hc) ∧ w'.cell? ⟨b2, 2, none⟩ = some (.slice ma mn mc) ∧ w'.cell? ⟨b2, 3, none⟩ = some (.slice r1 r2 r3) ∧ w'.cell? ⟨b2, 4, none⟩ = some (.slice a1 a2 a3) ∧ w'.cell? ⟨b2, 5, none⟩ = some (.slice t1 t2 t3) ∧ w'.cell? ⟨b2, 6, none⟩ = some (.slice s1 s2 s3) ∧ w'.cell? ⟨b2, 7, none⟩ = some (.slice k1 k2 k3) ∧ w'.cell? ⟨b2, 8, none⟩ = some (.slice xa n2 c2) ∧ w'.cell? ⟨b3, 0, none⟩ = some (.slice va vn vc) ∧ w'.cell? ⟨b3, 1, none⟩ = some (.slice fa fn fc) ∧ w'.cell? ⟨b3, 2, none⟩ = some (.slice ta tn tc) ∧ w'.cell? ⟨b3, 3, none⟩ = some (.slice none 0 0) ∧ jw1.grownBy w' none) w'))
      refine wpAnyH_more (S2 := (fun w' : World => w'.cell? ⟨bx, 0, none⟩ = some (.string nm) ∧ w'.cell? ⟨bx, 1, none⟩ = some (.slice ha hn hc) ∧ w'.cell? ⟨bx, 2, none⟩ = some (.slice ma mn mc) ∧ w'.cell? ⟨bx, 3, none⟩ = some (.slice r1 r2 r3) ∧ w'.cell? ⟨bx, 4, none⟩ = some (.slice a1 a2 a3) ∧ w'.cell? ⟨bx, 5, none⟩ = some (.slice t1 t2 t3) ∧ w'.cell? ⟨bx, 6, none⟩ = some (.slice s1 s2 s3) ∧ w'.cell? ⟨bx, 7, none⟩ = some (.slice k1 k2 k3) ∧ w'.cell? ⟨bx, 8, none⟩ = some (.slice (some ad) dn dc) ∧ w'.cell? ⟨bx + 1, 0, none⟩ = some (.slice va vn vc) ∧ w'.cell? ⟨bx + 1, 1, none⟩ = some (.slice fa fn fc) ∧ w'.cell? ⟨bx + 1, 2, none⟩ = some (.slice ta tn tc) ∧ w'.cell? ⟨bx + 1, 3, none⟩ = some (.slice pa pn pc) ∧ w'.cell? ⟨b1, 0, none⟩ = some (.string nm) ∧ w'.cell? ⟨b1, 1, none⟩ = some (.slice ha hn hc) ∧ w'.cell? ⟨b1, 2, none⟩ = some (.slice ma mn mc) ∧ w'.cell? ⟨b1, 3, none⟩ = some (.slice r1 r2 r3) ∧ w'.cell? ⟨b1, 4, none⟩ = some (.slice a1 a2 a3) ∧ w'.cell? ⟨b1, 5, none⟩ = some (.slice t1 t2 t3) ∧ w'.cell? ⟨b1, 6, none⟩ = some (.slice s1 s2 s3) ∧ w'.cell? ⟨b1, 7, none⟩ = some (.slice k1 k2 k3) ∧ w'.cell? ⟨b1, 8, none⟩ = some (.slice (some ad) a9 dc) ∧ w'.cell? ⟨b2, 0, none⟩ = some (.string nm) ∧ w'.cell? ⟨b2, 1, none⟩ = some (.slice ha hn hc) ∧ w'.cell? ⟨b2, 2, none⟩ = some (.slice ma mn mc) ∧ w'.cell? ⟨b2, 3, none⟩ = some (.slice r1 r2 r3) ∧ w'.cell? ⟨b2, 4, none⟩ = some (.slice a1 a2 a3) ∧ w'.cell? ⟨b2, 5, none⟩ = some (.slice t1 t2 t3) ∧ w'.cell? ⟨b2, 6, none⟩ = some (.slice s1 s2 s3) ∧ w'.cell? ⟨b2, 7, none⟩ = some (.slice k1 k2 k3) ∧ w'.cell? ⟨b2, 8, none⟩ = some (.slice xa n2 c2) ∧ w'.cell? ⟨b3, 0, none⟩ = some (.slice va vn vc) ∧ w'.cell? ⟨b3, 1, none⟩ = some (.slice fa fn fc) ∧ w'.cell? ⟨b3, 2, none⟩ = some (.slice ta tn tc) ∧ w'.cell? ⟨b3, 3, none⟩ = some (.slice none 0 0) ∧ jw1.grownBy w' none)) (fun _ h => ⟨h.1, h.2.1, h.2.2.1, h.2.2.2.1, h.2.2.2.2.1, h.2.2.2.2.2.1, h.2.2.2.2.2.2.1, h.2.2.2.2.2.2.2.1, h.2.2.2.2.2.2.2.2.1, h.2.2.2.2.2.2.2.2.2.1, h.2.2.2.2.2.2.2.2.2.2.1, h.2.2.2.2.2.2.2.2.2.2.2.1, h.2.2.2.2.2.2.2.2.2.2.2.2.1, h.2.2.2.2.2.2.2.2.2.2.2.2.2.1, h.2.2.2.2.2.2.2.2.2.2.2.2.2.2.1, h.2.2.2.2.2.2.2.2.2.2.2.2.2.2.2.1, h.2.2.2.2.2.2.2.2.2.2.2.2.2.2.2.2.1, h.2.2.2.2.2.2.2.2.2.2.2.2.2.2.2.2.2.1, h.2.2.2.2.2.2.2.2.2.2.2.2.2.2.2.2.2.2.1, h.2.2.2.2.2.2.2.2.2.2.2.2.2.2.2.2.2.2.2.1, h.2.2.2.2.2.2.2.2.2.2.2.2.2.2.2.2.2.2.2.2.1, h.2.2.2.2.2.2.2.2.2.2.2.2.2.2.2.2.2.2.2.2.2.1, h.2.2.2.2.2.2.2.2.2.2.2.2.2.2.2.2.2.2.2.2.2.2.1, h.2.2.2.2.2.2.2.2.2.2.2.2.2.2.2.2.2.2.2.2.2.2.2.1, h.2.2.2.2.2.2.2.2.2.2.2.2.2.2.2.2.2.2.2.2.2.2.2.2.1, h.2.2.2.2.2.2.2.2.2.2.2.2.2.2.2.2.2.2.2.2.2.2.2.2.2.1, h.2.2.2.2.2.2.2.2.2.2.2.2.2.2.2.2.2.2.2.2.2.2.2.2.2.2.1, h.2.2.2.2.2.2.2.2.2.2.2.2.2.2.2.2.2.2.2.2.2.2.2.2.2.2.2.1, h.2.2.2.2.2.2.2.2.2.2.2.2.2.2.2.2.2.2.2.2.2.2.2.2.2.2.2.2.1, h.2.2.2.2.2.2.2.2.2.2.2.2.2.2.2.2.2.2.2.2.2.2.2.2.2.2.2.2.2.1, h.2.2.2.2.2.2.2.2.2.2.2.2.2.2.2.2.2.2.2.2.2.2.2.2.2.2.2.2.2.2.1, h.2.2.2.2.2.2.2.2.2.2.2.2.2.2.2.2.2.2.2.2.2.2.2.2.2.2.2.2.2.2.2.1, h.2.2.2.2.2.2.2.2.2.2.2.2.2.2.2.2.2.2.2.2.2.2.2.2.2.2.2.2.2.2.2.2.1, h.2.2.2.2.2.2.2.2.2.2.2.2.2.2.2.2.2.2.2.2.2.2.2.2.2.2.2.2.2.2.2.2.2.1, h.2.2.2.2.2.2.2.2.2.2.2.2.2.2.2.2.2.2.2.2.2.2.2.2.2.2.2.2.2.2.2.2.2.2.1, gb_trans J1.out (h.2.2.2.2.2.2.2.2.2.2.2.2.2.2.2.2.2.2.2.2.2.2.2.2.2.2.2.2.2.2.2.2.2.2.2)⟩) _ _ _ _ ?_
      have U0 := Lib.hid (gb_refl jw1 none)
      have hX0 : (fun w' : World => w'.cell? ⟨bx, 0, none⟩ = some (.string nm) ∧ w'.cell? ⟨bx, 1, none⟩ = some (.slice ha hn hc) ∧ w'.cell? ⟨bx, 2, none⟩ = some (.slice ma mn mc) ∧ w'.cell? ⟨bx, 3, none⟩ = some (.slice r1 r2 r3) ∧ w'.cell? ⟨bx, 4, none⟩ = some (.slice a1 a2 a3) ∧ w'.cell? ⟨bx, 5, none⟩ = some (.slice t1 t2 t3) ∧ w'.cell? ⟨bx, 6, none⟩ = some (.slice s1 s2 s3) ∧ w'.cell? ⟨bx, 7, none⟩ = some (.slice k1 k2 k3) ∧ w'.cell? ⟨bx, 8, none⟩ = some (.slice (some ad) dn dc) ∧ w'.cell? ⟨bx + 1, 0, none⟩ = some (.slice va vn vc) ∧ w'.cell? ⟨bx + 1, 1, none⟩ = some (.slice fa fn fc) ∧ w'.cell? ⟨bx + 1, 2, none⟩ = some (.slice ta tn tc) ∧ w'.cell? ⟨bx + 1, 3, none⟩ = some (.slice pa pn pc) ∧ w'.cell? ⟨b1, 0, none⟩ = some (.string nm) ∧ w'.cell? ⟨b1, 1, none⟩ = some (.slice ha hn hc) ∧ w'.cell? ⟨b1, 2, none⟩ = some (.slice ma mn mc) ∧ w'.cell? ⟨b1, 3, none⟩ = some (.slice r1 r2 r3) ∧ w'.cell? ⟨b1, 4, none⟩ = some (.slice a1 a2 a3) ∧ w'.cell? ⟨b1, 5, none⟩ = some (.slice t1 t2 t3) ∧ w'.cell? ⟨b1, 6, none⟩ = some (.slice s1 s2 s3) ∧ w'.cell? ⟨b1, 7, none⟩ = some (.slice k1 k2 k3) ∧ w'.cell? ⟨b1, 8, none⟩ = some (.slice (some ad) a9 dc) ∧ w'.cell? ⟨b2, 0, none⟩ = some (.string nm) ∧ w'.cell? ⟨b2, 1, none⟩ = some (.slice ha hn hc) ∧ w'.cell? ⟨b2, 2, none⟩ = some (.slice ma mn mc) ∧ w'.cell? ⟨b2, 3, none⟩ = some (.slice r1 r2 r3) ∧ w'.cell? ⟨b2, 4, none⟩ = some (.slice a1 a2 a3) ∧ w'.cell? ⟨b2, 5, none⟩ = some (.slice t1 t2 t3) ∧ w'.cell? ⟨b2, 6, none⟩ = some (.slice s1 s2 s3) ∧ w'.cell? ⟨b2, 7, none⟩ = some (.slice k1 k2 k3) ∧ w'.cell? ⟨b2, 8, none⟩ = some (.slice xa n2 c2) ∧ w'.cell? ⟨b3, 0, none⟩ = some (.slice va vn vc) ∧ w'.cell? ⟨b3, 1, none⟩ = some (.slice fa fn fc) ∧ w'.cell? ⟨b3, 2, none⟩ = some (.slice ta tn tc) ∧ w'.cell? ⟨b3, 3, none⟩ = some (.slice none 0 0) ∧ jw1.grownBy w' none) jw1 := KU.out _ (gb_refl _ _)
      clear hH1
      have hH0 := hX0
      clear hX0
      refine wpAnyH_take (i := 3) (v := ?v17) rfl (by kernel_rfl) (by kernel_rfl) (by kernel_rfl) (fun _ _ _ h => h) (Or.inl ⟨by rfl, ?hy17⟩) (by assumption) ?rest17
      case hy17 => (intro wz hSw; (try dsimp only at hSw); have gz : jw1.grownBy wz none := hSw.2.2.2.2.2.2.2.2.2.2.2.2.2.2.2.2.2.2.2.2.2.2.2.2.2.2.2.2.2.2.2.2.2.2.2; have cz := conv_str wz o1 bs1.length u1 bs1 ((own_slr O1.out).keep0 gz); first | (go_simp; done) | (go_simp; with_reducible rfl))
      try simp only [Act.put, List.getElem_toArray, List.getElem_cons_succ, List.getElem_cons_zero, List.setIfInBounds_toArray, List.set_cons_zero, List.set_cons_succ]
      refine wpAnyH_ready (rs := [6]) (by kernel_rfl) (by simp) ?_
      refine AllReadyH.cons (o := _) rfl (fun K hK => ?_) AllReadyH.nil
      go_simp
      (with_reducible refine (EB.out _ (gb_trans J1.out U0.out)).mono ?_)
      rintro e uw1 ⟨V2, rfl, o, g⟩
      have O2 := Lib.hid o
      clear o
      obtain ⟨o2, u2, rfl⟩ := own_shape O2.out
      have U1 := Lib.hid (gb_trans U0.out g)
      clear g
      try dsimp only
      refine hK.out _ _ (KU.out _ U1.out) (fun hH1 => ?_)
      clear hK K hH0
      try simp only [Act.put, List.getElem_toArray, List.getElem_cons_succ, List.getElem_cons_zero, List.setIfInBounds_toArray, List.set_cons_zero, List.set_cons_succ]
      have KY := Lib.hid (fun (w' : World) (q0 : uw1.grownBy w' none) => (⟨(P1.out.keep0 (gb_trans J1.out (gb_trans U1.out q0))).cell 0, (P1.out.keep0 (gb_trans J1.out (gb_trans U1.out q0))).cell 1, (P1.out.keep0 (gb_trans J1.out (gb_trans U1.out q0))).cell 2, (P1.out.keep0 (gb_trans J1.out (gb_trans U1.out q0))).cell 3, (P1.out.keep0 (gb_trans J1.out (gb_trans U1.out q0))).cell 4, (P1.out.keep0 (gb_trans J1.out (gb_trans U1.out q0))).cell 5, (P1.out.keep0 (gb_trans J1.out (gb_trans U1.out q0))).cell 6, (P1.out.keep0 (gb_trans J1.out (gb_trans U1.out q0))).cell 7, (P1.out.keep0 (gb_trans J1.out (gb_trans U1.out q0))).cell 8, (P2.out.keep0 (gb_trans J1.out (gb_trans U1.out q0))).cell 0, (P2.out.keep0 (gb_trans J1.out (gb_trans U1.out q0))).cell 1, (P2.out.keep0 (gb_trans J1.out (gb_trans U1.out q0))).cell 2, (P2.out.keep0 (gb_trans J1.out (gb_trans U1.out q0))).cell 3, (D1.out.keep0 (gb_trans J1.out (gb_trans U1.out q0))).cell 0, (D1.out.keep0 (gb_trans J1.out (gb_trans U1.out q0))).cell 1, (D1.out.keep0 (gb_trans J1.out (gb_trans U1.out q0))).cell 2, (D1.out.keep0 (gb_trans J1.out (gb_trans U1.out q0))).cell 3, (D1.out.keep0 (gb_trans J1.out (gb_trans U1.out q0))).cell 4, (D1.out.keep0 (gb_trans J1.out (gb_trans U1.out q0))).cell 5, (D1.out.keep0 (gb_trans J1.out (gb_trans U1.out q0))).cell 6, (D1.out.keep0 (gb_trans J1.out (gb_trans U1.out q0))).cell 7, (D1.out.keep0 (gb_trans J1.out (gb_trans U1.out q0))).cell 8, (D2.out.keep0 (gb_trans J1.out (gb_trans U1.out q0))).cell 0, (D2.out.keep0 (gb_trans J1.out (gb_trans U1.out q0))).cell 1, (D2.out.keep0 (gb_trans J1.out (gb_trans U1.out q0))).cell 2, (D2.out.keep0 (gb_trans J1.out (gb_trans U1.out q0))).cell 3, (D2.out.keep0 (gb_trans J1.out (gb_trans U1.out q0))).cell 4, (D2.out.keep0 (gb_trans J1.out (gb_trans U1.out q0))).cell 5, (D2.out.keep0 (gb_trans J1.out (gb_trans U1.out q0))).cell 6, (D2.out.keep0 (gb_trans J1.out (gb_trans U1.out q0))).cell 7, (D2.out.keep0 (gb_trans J1.out (gb_trans U1.out q0))).cell 8, (D3.out.keep0 (gb_trans J1.out (gb_trans U1.out q0))).cell 0, (D3.out.keep0 (gb_trans J1.out (gb_trans U1.out q0))).cell 1, (D3.out.keep0 (gb_trans J1.out (gb_trans U1.out q0))).cell 2, (D3.out.keep0 (gb_trans J1.out (gb_trans U1.out q0))).cell 3, q0⟩ : (fun w' : World => w'.cell? ⟨bx, 0, none⟩ = some (.string nm) ∧ w'.cell? ⟨bx, 1, none⟩ = some (.slice ha hn hc) ∧ w'.cell? ⟨bx, 2, none⟩ = some (.slice ma mn mc) ∧ w'.cell? ⟨bx, 3, none⟩ = some (.slice r1 r2 r3) ∧ w'.cell? ⟨bx, 4, none⟩ = some (.slice a1 a2 a3) ∧ w'.cell? ⟨bx, 5, none⟩ = some (.slice t1 t2 t3) ∧ w'.cell? ⟨bx, 6, none⟩ = some (.slice s1 s2 s3) ∧ w'.cell? ⟨bx, 7, none⟩ = some (.slice k1 k2 k3) ∧ w'.cell? ⟨bx, 8, none⟩ = some (.slice (some ad) dn dc) ∧ w'.cell? ⟨bx + 1, 0, none⟩ = some (.slice va vn vc) ∧ w'.cell? ⟨bx + 1, 1, none⟩ = some (.slice fa fn fc) ∧ w'.cell? ⟨bx + 1, 2, none⟩ = some (.slice ta tn tc) ∧ w'.cell? ⟨bx + 1, 3, none⟩ = some (.slice pa pn pc) ∧ w'.cell? ⟨b1, 0, none⟩ = some (.string nm) ∧ w'.cell? ⟨b1, 1, none⟩ = some (.slice ha hn hc) ∧ w'.cell? ⟨b1, 2, none⟩ = some (.slice ma mn mc) ∧ w'.cell? ⟨b1, 3, none⟩ = some (.slice r1 r2 r3) ∧ w'.cell? ⟨b1, 4, none⟩ = some (.slice a1 a2 a3) ∧ w'.cell? ⟨b1, 5, none⟩ = some (.slice t1 t2 t3) ∧ w'.cell? ⟨b1, 6, none⟩ = some (.slice s1 s2 s3) ∧ w'.cell? ⟨b1, 7, none⟩ = some (.slice k1 k2 k3) ∧ w'.cell? ⟨b1, 8, none⟩ = some (.slice (some ad) a9 dc) ∧ w'.cell? ⟨b2, 0, none⟩ = some (.string nm) ∧ w'.cell? ⟨b2, 1, none⟩ = some (.slice ha hn hc) ∧ w'.cell? ⟨b2, 2, none⟩ = some (.slice ma mn mc) ∧ w'.cell? ⟨b2, 3, none⟩ = some (.slice r1 r2 r3) ∧ w'.cell? ⟨b2, 4, none⟩ = some (.slice a1 a2 a3) ∧ w'.cell? ⟨b2, 5, none⟩ = some (.slice t1 t2 t3) ∧ w'.cell? ⟨b2, 6, none⟩ = some (.slice s1 s2 s3) ∧ w'.cell? ⟨b2, 7, none⟩ = some (.slice k1 k2 k3) ∧ w'.cell? ⟨b2, 8, none⟩ = some (.slice xa n2 c2) ∧ w'.cell? ⟨b3, 0, none⟩ = some (.slice va vn vc) ∧ w'.cell? ⟨b3, 1, none⟩ = some (.slice fa fn fc) ∧ w'.cell? ⟨b3, 2, none⟩ = some (.slice ta tn tc) ∧ w'.cell? ⟨b3, 3, none⟩ = some (.slice none 0 0) ∧ uw1.grownBy w' none) w'))
      refine wpAnyH_more (S2 := (fun w' : World => w'.cell? ⟨bx, 0, none⟩ = some (.string nm) ∧ w'.cell? ⟨bx, 1, none⟩ = some (.slice ha hn hc) ∧ w'.cell? ⟨bx, 2, none⟩ = some (.slice ma mn mc) ∧ w'.cell? ⟨bx, 3, none⟩ = some (.slice r1 r2 r3) ∧ w'.cell? ⟨bx, 4, none⟩ = some (.slice a1 a2 a3) ∧ w'.cell? ⟨bx, 5, none⟩ = some (.slice t1 t2 t3) ∧ w'.cell? ⟨bx, 6, none⟩ = some (.slice s1 s2 s3) ∧ w'.cell? ⟨bx, 7, none⟩ = some (.slice k1 k2 k3) ∧ w'.cell? ⟨bx, 8, none⟩ = some (.slice (some ad) dn dc) ∧ w'.cell? ⟨bx + 1, 0, none⟩ = some (.slice va vn vc) ∧ w'.cell? ⟨bx + 1, 1, none⟩ = some (.slice fa fn fc) ∧ w'.cell? ⟨bx + 1, 2, none⟩ = some (.slice ta tn tc) ∧ w'.cell? ⟨bx + 1, 3, none⟩ = some (.slice pa pn pc) ∧ w'.cell? ⟨b1, 0, none⟩ = some (.string nm) ∧ w'.cell? ⟨b1, 1, none⟩ = some (.slice ha hn hc) ∧ w'.cell? ⟨b1, 2, none⟩ = some (.slice ma mn mc) ∧ w'.cell? ⟨b1, 3, none⟩ = some (.slice r1 r2 r3) ∧ w'.cell? ⟨b1, 4, none⟩ = some (.slice a1 a2 a3) ∧ w'.cell? ⟨b1, 5, none⟩ = some (.slice t1 t2 t3) ∧ w'.cell? ⟨b1, 6, none⟩ = some (.slice s1 s2 s3) ∧ w'.cell? ⟨b1, 7, none⟩ = some (.slice k1 k2 k3) ∧ w'.cell? ⟨b1, 8, none⟩ = some (.slice (some ad) a9 dc) ∧ w'.cell? ⟨b2, 0, none⟩ = some (.string nm) ∧ w'.cell? ⟨b2, 1, none⟩ = some (.slice ha hn hc) ∧ w'.cell? ⟨b2, 2, none⟩ = some (.slice ma mn mc) ∧ w'.cell? ⟨b2, 3, none⟩ = some (.slice r1 r2 r3) ∧ w'.cell? ⟨b2, 4, none⟩ = some (.slice a1 a2 a3) ∧ w'.cell? ⟨b2, 5, none⟩ = some (.slice t1 t2 t3) ∧ w'.cell? ⟨b2, 6, none⟩ = some (.slice s1 s2 s3) ∧ w'.cell? ⟨b2, 7, none⟩ = some (.slice k1 k2 k3) ∧ w'.cell? ⟨b2, 8, none⟩ = some (.slice xa n2 c2) ∧ w'.cell? ⟨b3, 0, none⟩ = some (.slice va vn vc) ∧ w'.cell? ⟨b3, 1, none⟩ = some (.slice fa fn fc) ∧ w'.cell? ⟨b3, 2, none⟩ = some (.slice ta tn tc) ∧ w'.cell? ⟨b3, 3, none⟩ = some (.slice none 0 0) ∧ uw1.grownBy w' none)) (fun _ h => ⟨h.1, h.2.1, h.2.2.1, h.2.2.2.1, h.2.2.2.2.1, h.2.2.2.2.2.1, h.2.2.2.2.2.2.1, h.2.2.2.2.2.2.2.1, h.2.2.2.2.2.2.2.2.1, h.2.2.2.2.2.2.2.2.2.1, h.2.2.2.2.2.2.2.2.2.2.1, h.2.2.2.2.2.2.2.2.2.2.2.1, h.2.2.2.2.2.2.2.2.2.2.2.2.1, h.2.2.2.2.2.2.2.2.2.2.2.2.2.1, h.2.2.2.2.2.2.2.2.2.2.2.2.2.2.1, h.2.2.2.2.2.2.2.2.2.2.2.2.2.2.2.1, h.2.2.2.2.2.2.2.2.2.2.2.2.2.2.2.2.1, h.2.2.2.2.2.2.2.2.2.2.2.2.2.2.2.2.2.1, h.2.2.2.2.2.2.2.2.2.2.2.2.2.2.2.2.2.2.1, h.2.2.2.2.2.2.2.2.2.2.2.2.2.2.2.2.2.2.2.1, h.2.2.2.2.2.2.2.2.2.2.2.2.2.2.2.2.2.2.2.2.1, h.2.2.2.2.2.2.2.2.2.2.2.2.2.2.2.2.2.2.2.2.2.1, h.2.2.2.2.2.2.2.2.2.2.2.2.2.2.2.2.2.2.2.2.2.2.1, h.2.2.2.2.2.2.2.2.2.2.2.2.2.2.2.2.2.2.2.2.2.2.2.1, h.2.2.2.2.2.2.2.2.2.2.2.2.2.2.2.2.2.2.2.2.2.2.2.2.1, h.2.2.2.2.2.2.2.2.2.2.2.2.2.2.2.2.2.2.2.2.2.2.2.2.2.1, h.2.2.2.2.2.2.2.2.2.2.2.2.2.2.2.2.2.2.2.2.2.2.2.2.2.2.1, h.2.2.2.2.2.2.2.2.2.2.2.2.2.2.2.2.2.2.2.2.2.2.2.2.2.2.2.1, h.2.2.2.2.2.2.2.2.2.2.2.2.2.2.2.2.2.2.2.2.2.2.2.2.2.2.2.2.1, h.2.2.2.2.2.2.2.2.2.2.2.2.2.2.2.2.2.2.2.2.2.2.2.2.2.2.2.2.2.1, h.2.2.2.2.2.2.2.2.2.2.2.2.2.2.2.2.2.2.2.2.2.2.2.2.2.2.2.2.2.2.1, h.2.2.2.2.2.2.2.2.2.2.2.2.2.2.2.2.2.2.2.2.2.2.2.2.2.2.2.2.2.2.2.1, h.2.2.2.2.2.2.2.2.2.2.2.2.2.2.2.2.2.2.2.2.2.2.2.2.2.2.2.2.2.2.2.2.1, h.2.2.2.2.2.2.2.2.2.2.2.2.2.2.2.2.2.2.2.2.2.2.2.2.2.2.2.2.2.2.2.2.2.1, h.2.2.2.2.2.2.2.2.2.2.2.2.2.2.2.2.2.2.2.2.2.2.2.2.2.2.2.2.2.2.2.2.2.2.1, gb_trans U1.out (h.2.2.2.2.2.2.2.2.2.2.2.2.2.2.2.2.2.2.2.2.2.2.2.2.2.2.2.2.2.2.2.2.2.2.2)⟩) _ _ _ _ ?_
      have Y0 := Lib.hid (gb_refl uw1 none)
      have hX0 : (fun w' : World => w'.cell? ⟨bx, 0, none⟩ = some (.string nm) ∧ w'.cell? ⟨bx, 1, none⟩ = some (.slice ha hn hc) ∧ w'.cell? ⟨bx, 2, none⟩ = some (.slice ma mn mc) ∧ w'.cell? ⟨bx, 3, none⟩ = some (.slice r1 r2 r3) ∧ w'.cell? ⟨bx, 4, none⟩ = some (.slice a1 a2 a3) ∧ w'.cell? ⟨bx, 5, none⟩ = some (.slice t1 t2 t3) ∧ w'.cell? ⟨bx, 6, none⟩ = some (.slice s1 s2 s3) ∧ w'.cell? ⟨bx, 7, none⟩ = some (.slice k1 k2 k3) ∧ w'.cell? ⟨bx, 8, none⟩ = some (.slice (some ad) dn dc) ∧ w'.cell? ⟨bx + 1, 0, none⟩ = some (.slice va vn vc) ∧ w'.cell? ⟨bx + 1, 1, none⟩ = some (.slice fa fn fc) ∧ w'.cell? ⟨bx + 1, 2, none⟩ = some (.slice ta tn tc) ∧ w'.cell? ⟨bx + 1, 3, none⟩ = some (.slice pa pn pc) ∧ w'.cell? ⟨b1, 0, none⟩ = some (.string nm) ∧ w'.cell? ⟨b1, 1, none⟩ = some (.slice ha hn hc) ∧ w'.cell? ⟨b1, 2, none⟩ = some (.slice ma mn mc) ∧ w'.cell? ⟨b1, 3, none⟩ = some (.slice r1 r2 r3) ∧ w'.cell? ⟨b1, 4, none⟩ = some (.slice a1 a2 a3) ∧ w'.cell? ⟨b1, 5, none⟩ = some (.slice t1 t2 t3) ∧ w'.cell? ⟨b1, 6, none⟩ = some (.slice s1 s2 s3) ∧ w'.cell? ⟨b1, 7, none⟩ = some (.slice k1 k2 k3) ∧ w'.cell? ⟨b1, 8, none⟩ = some (.slice (some ad) a9 dc) ∧ w'.cell? ⟨b2, 0, none⟩ = some (.string nm) ∧ w'.cell? ⟨b2, 1, none⟩ = some (.slice ha hn hc) ∧ w'.cell? ⟨b2, 2, none⟩ = some (.slice ma mn mc) ∧ w'.cell? ⟨b2, 3, none⟩ = some (.slice r1 r2 r3) ∧ w'.cell? ⟨b2, 4, none⟩ = some (.slice a1 a2 a3) ∧ w'.cell? ⟨b2, 5, none⟩ = some (.slice t1 t2 t3) ∧ w'.cell? ⟨b2, 6, none⟩ = some (.slice s1 s2 s3) ∧ w'.cell? ⟨b2, 7, none⟩ = some (.slice k1 k2 k3) ∧ w'.cell? ⟨b2, 8, none⟩ = some (.slice xa n2 c2) ∧ w'.cell? ⟨b3, 0, none⟩ = some (.slice va vn vc) ∧ w'.cell? ⟨b3, 1, none⟩ = some (.slice fa fn fc) ∧ w'.cell? ⟨b3, 2, none⟩ = some (.slice ta tn tc) ∧ w'.cell? ⟨b3, 3, none⟩ = some (.slice none 0 0) ∧ uw1.grownBy w' none) uw1 := KY.out _ (gb_refl _ _)
      clear hH1
      have hH0 := hX0
      clear hX0
      refine wpAnyH_take (i := 7) (v := ?v18) rfl (by kernel_rfl) (by kernel_rfl) (by kernel_rfl) (fun _ _ _ h => h) (Or.inl ⟨by rfl, ?hy18⟩) (by assumption) ?rest18
      case hy18 => (intro wz hSw; (try dsimp only at hSw); have gz : uw1.grownBy wz none := hSw.2.2.2.2.2.2.2.2.2.2.2.2.2.2.2.2.2.2.2.2.2.2.2.2.2.2.2.2.2.2.2.2.2.2.2; have cz := conv_str wz o2 bs2.length u2 bs2 ((own_slr O2.out).keep0 gz); first | (go_simp; done) | (go_simp; with_reducible rfl))
      try simp only [Act.put, List.getElem_toArray, List.getElem_cons_succ, List.getElem_cons_zero, List.setIfInBounds_toArray, List.set_cons_zero, List.set_cons_succ]
      refine wpAnyH_take (i := 8) (v := ?v19) rfl (by kernel_rfl) (by kernel_rfl) (by kernel_rfl) (fun _ _ _ h => h) (Or.inl ⟨by rfl, ?hy19⟩) (by assumption) ?rest19
      case hy19 => (intro wz hSw; (try dsimp only at hSw); first | (go_simp; done) | (go_simp; with_reducible rfl))
      try simp only [Act.put, List.getElem_toArray, List.getElem_cons_succ, List.getElem_cons_zero, List.setIfInBounds_toArray, List.set_cons_zero, List.set_cons_succ]
      refine wpAnyH_ready (rs := [11]) (by kernel_rfl) (by simp) ?_
      refine AllReadyH.cons (o := _) rfl (fun K hK => ?_) AllReadyH.nil
      go_simp
      (with_reducible refine (EC.out _ (gb_trans J1.out (gb_trans U1.out Y0.out))).mono ?_)
      rintro e yw1 ⟨V3, rfl, o, g⟩
      have O3 := Lib.hid o
      clear o
      obtain ⟨o3, u3, rfl⟩ := own_shape O3.out
      have Y1 := Lib.hid (gb_trans Y0.out g)
      clear g
      try dsimp only
      refine hK.out _ _ (KY.out _ Y1.out) (fun hH1 => ?_)
      clear hK K hH0
      try simp only [Act.put, List.getElem_toArray, List.getElem_cons_succ, List.getElem_cons_zero, List.setIfInBounds_toArray, List.set_cons_zero, List.set_cons_succ]
      have KX := Lib.hid (fun (w' : World) (q0 : yw1.grownBy w' none) => (⟨(P1.out.keep0 (gb_trans J1.out (gb_trans U1.out (gb_trans Y1.out q0)))).cell 0, (P1.out.keep0 (gb_trans J1.out (gb_trans U1.out (gb_trans Y1.out q0)))).cell 1, (P1.out.keep0 (gb_trans J1.out (gb_trans U1.out (gb_trans Y1.out q0)))).cell 2, (P1.out.keep0 (gb_trans J1.out (gb_trans U1.out (gb_trans Y1.out q0)))).cell 3, (P1.out.keep0 (gb_trans J1.out (gb_trans U1.out (gb_trans Y1.out q0)))).cell 4, (P1.out.keep0 (gb_trans J1.out (gb_trans U1.out (gb_trans Y1.out q0)))).cell 5, (P1.out.keep0 (gb_trans J1.out (gb_trans U1.out (gb_trans Y1.out q0)))).cell 6, (P1.out.keep0 (gb_trans J1.out (gb_trans U1.out (gb_trans Y1.out q0)))).cell 7, (P1.out.keep0 (gb_trans J1.out (gb_trans U1.out (gb_trans Y1.out q0)))).cell 8, (P2.out.keep0 (gb_trans J1.out (gb_trans U1.out (gb_trans Y1.out q0)))).cell 0, (P2.out.keep0 (gb_trans J1.out (gb_trans U1.out (gb_trans Y1.out q0)))).cell 1, (P2.out.keep0 (gb_trans J1.out (gb_trans U1.out (gb_trans Y1.out q0)))).cell 2, (P2.out.keep0 (gb_trans J1.out (gb_trans U1.out (gb_trans Y1.out q0)))).cell 3, (D1.out.keep0 (gb_trans J1.out (gb_trans U1.out (gb_trans Y1.out q0)))).cell 0, (D1.out.keep0 (gb_trans J1.out (gb_trans U1.out (gb_trans Y1.out q0)))).cell 1, (D1.out.keep0 (gb_trans J1.out (gb_trans U1.out (gb_trans Y1.out q0)))).cell 2, (D1.out.keep0 (gb_trans J1.out (gb_trans U1.out (gb_trans Y1.out q0)))).cell 3, (D1.out.keep0 (gb_trans J1.out (gb_trans U1.out (gb_trans Y1.out q0)))).cell 4, (D1.out.keep0 (gb_trans J1.out (gb_trans U1.out (gb_trans Y1.out q0)))).cell 5, (D1.out.keep0 (gb_trans J1.out (gb_trans U1.out (gb_trans Y1.out q0)))).cell 6, (D1.out.keep0 (gb_trans J1.out (gb_trans U1.out (gb_trans Y1.out q0)))).cell 7, (D1.out.keep0 (gb_trans J1.out (gb_trans U1.out (gb_trans Y1.out q0)))).cell 8, (D2.out.keep0 (gb_trans J1.out (gb_trans U1.out (gb_trans Y1.out q0)))).cell 0, (D2.out.keep0 (gb_trans J1.out (gb_trans U1.out (gb_trans Y1.out q0)))).cell 1, (D2.out.keep0 (gb_trans J1.out (gb_trans U1.out (gb_trans Y1.out q0)))).cell 2, (D2.out.keep0 (gb_trans J1.out (gb_trans U1.out (gb_trans Y1.out q0)))).cell 3, (D2.out.keep0 (gb_trans J1.out (gb_trans U1.out (gb_trans Y1.out q0)))).cell 4, (D2.out.keep0 (gb_trans J1.out (gb_trans U1.out (gb_trans Y1.out q0)))).cell 5, (D2.out.keep0 (gb_trans J1.out (gb_trans U1.out (gb_trans Y1.out q0)))).cell 6, (D2.out.keep0 (gb_trans J1.out (gb_trans U1.out (gb_trans Y1.out q0)))).cell 7, (D2.out.keep0 (gb_trans J1.out (gb_trans U1.out (gb_trans Y1.out q0)))).cell 8, (D3.out.keep0 (gb_trans J1.out (gb_trans U1.out (gb_trans Y1.out q0)))).cell 0, (D3.out.keep0 (gb_trans J1.out (gb_trans U1.out (gb_trans Y1.out q0)))).cell 1, (D3.out.keep0 (gb_trans J1.out (gb_trans U1.out (gb_trans Y1.out q0)))).cell 2, (D3.out.keep0 (gb_trans J1.out (gb_trans U1.out (gb_trans Y1.out q0)))).cell 3, q0⟩ : (fun w' : World => w'.cell? ⟨bx, 0, none⟩ = some (.string nm) ∧ w'.cell? ⟨bx, 1, none⟩ = some (.slice ha hn hc) ∧ w'.cell? ⟨bx, 2, none⟩ = some (.slice ma mn mc) ∧ w'.cell? ⟨bx, 3, none⟩ = some (.slice r1 r2 r3) ∧ w'.cell? ⟨bx, 4, none⟩ = some (.slice a1 a2 a3) ∧ w'.cell? ⟨bx, 5, none⟩ = some (.slice t1 t2 t3) ∧ w'.cell? ⟨bx, 6, none⟩ = some (.slice s1 s2 s3) ∧ w'.cell? ⟨bx, 7, none⟩ = some (.slice k1 k2 k3) ∧ w'.cell? ⟨bx, 8, none⟩ = some (.slice (some ad) dn dc) ∧ w'.cell? ⟨bx + 1, 0, none⟩ = some (.slice va vn vc) ∧ w'.cell? ⟨bx + 1, 1, none⟩ = some (.slice fa fn fc) ∧ w'.cell? ⟨bx + 1, 2, none⟩ = some (.slice ta tn tc) ∧ w'.cell? ⟨bx + 1, 3, none⟩ = some (.slice pa pn pc) ∧ w'.cell? ⟨b1, 0, none⟩ = some (.string nm) ∧ w'.cell? ⟨b1, 1, none⟩ = some (.slice ha hn hc) ∧ w'.cell? ⟨b1, 2, none⟩ = some (.slice ma mn mc) ∧ w'.cell? ⟨b1, 3, none⟩ = some (.slice r1 r2 r3) ∧ w'.cell? ⟨b1, 4, none⟩ = some (.slice a1 a2 a3) ∧ w'.cell? ⟨b1, 5, none⟩ = some (.slice t1 t2 t3) ∧ w'.cell? ⟨b1, 6, none⟩ = some (.slice s1 s2 s3) ∧ w'.cell? ⟨b1, 7, none⟩ = some (.slice k1 k2 k3) ∧ w'.cell? ⟨b1, 8, none⟩ = some (.slice (some ad) a9 dc) ∧ w'.cell? ⟨b2, 0, none⟩ = some (.string nm) ∧ w'.cell? ⟨b2, 1, none⟩ = some (.slice ha hn hc) ∧ w'.cell? ⟨b2, 2, none⟩ = some (.slice ma mn mc) ∧ w'.cell? ⟨b2, 3, none⟩ = some (.slice r1 r2 r3) ∧ w'.cell? ⟨b2, 4, none⟩ = some (.slice a1 a2 a3) ∧ w'.cell? ⟨b2, 5, none⟩ = some (.slice t1 t2 t3) ∧ w'.cell? ⟨b2, 6, none⟩ = some (.slice s1 s2 s3) ∧ w'.cell? ⟨b2, 7, none⟩ = some (.slice k1 k2 k3) ∧ w'.cell? ⟨b2, 8, none⟩ = some (.slice xa n2 c2) ∧ w'.cell? ⟨b3, 0, none⟩ = some (.slice va vn vc) ∧ w'.cell? ⟨b3, 1, none⟩ = some (.slice fa fn fc) ∧ w'.cell? ⟨b3, 2, none⟩ = some (.slice ta tn tc) ∧ w'.cell? ⟨b3, 3, none⟩ = some (.slice none 0 0) ∧ yw1.grownBy w' none) w'))
      refine wpAnyH_more (S2 := (fun w' : World => w'.cell? ⟨bx, 0, none⟩ = some (.string nm) ∧ w'.cell? ⟨bx, 1, none⟩ = some (.slice ha hn hc) ∧ w'.cell? ⟨bx, 2, none⟩ = some (.slice ma mn mc) ∧ w'.cell? ⟨bx, 3, none⟩ = some (.slice r1 r2 r3) ∧ w'.cell? ⟨bx, 4, none⟩ = some (.slice a1 a2 a3) ∧ w'.cell? ⟨bx, 5, none⟩ = some (.slice t1 t2 t3) ∧ w'.cell? ⟨bx, 6, none⟩ = some (.slice s1 s2 s3) ∧ w'.cell? ⟨bx, 7, none⟩ = some (.slice k1 k2 k3) ∧ w'.cell? ⟨bx, 8, none⟩ = some (.slice (some ad) dn dc) ∧ w'.cell? ⟨bx + 1, 0, none⟩ = some (.slice va vn vc) ∧ w'.cell? ⟨bx + 1, 1, none⟩ = some (.slice fa fn fc) ∧ w'.cell? ⟨bx + 1, 2, none⟩ = some (.slice ta tn tc) ∧ w'.cell? ⟨bx + 1, 3, none⟩ = some (.slice pa pn pc) ∧ w'.cell? ⟨b1, 0, none⟩ = some (.string nm) ∧ w'.cell? ⟨b1, 1, none⟩ = some (.slice ha hn hc) ∧ w'.cell? ⟨b1, 2, none⟩ = some (.slice ma mn mc) ∧ w'.cell? ⟨b1, 3, none⟩ = some (.slice r1 r2 r3) ∧ w'.cell? ⟨b1, 4, none⟩ = some (.slice a1 a2 a3) ∧ w'.cell? ⟨b1, 5, none⟩ = some (.slice t1 t2 t3) ∧ w'.cell? ⟨b1, 6, none⟩ = some (.slice s1 s2 s3) ∧ w'.cell? ⟨b1, 7, none⟩ = some (.slice k1 k2 k3) ∧ w'.cell? ⟨b1, 8, none⟩ = some (.slice (some ad) a9 dc) ∧ w'.cell? ⟨b2, 0, none⟩ = some (.string nm) ∧ w'.cell? ⟨b2, 1, none⟩ = some (.slice ha hn hc) ∧ w'.cell? ⟨b2, 2, none⟩ = some (.slice ma mn mc) ∧ w'.cell? ⟨b2, 3, none⟩ = some (.slice r1 r2 r3) ∧ w'.cell? ⟨b2, 4, none⟩ = some (.slice a1 a2 a3) ∧ w'.cell? ⟨b2, 5, none⟩ = some (.slice t1 t2 t3) ∧ w'.cell? ⟨b2, 6, none⟩ = some (.slice s1 s2 s3) ∧ w'.cell? ⟨b2, 7, none⟩ = some (.slice k1 k2 k3) ∧ w'.cell? ⟨b2, 8, none⟩ = some (.slice xa n2 c2) ∧ w'.cell? ⟨b3, 0, none⟩ = some (.slice va vn vc) ∧ w'.cell? ⟨b3, 1, none⟩ = some (.slice fa fn fc) ∧ w'.cell? ⟨b3, 2, none⟩ = some (.slice ta tn tc) ∧ w'.cell? ⟨b3, 3, none⟩ = some (.slice none 0 0) ∧ yw1.grownBy w' none)) (fun _ h => ⟨h.1, h.2.1, h.2.2.1, h.2.2.2.1, h.2.2.2.2.1, h.2.2.2.2.2.1, h.2.2.2.2.2.2.1, h.2.2.2.2.2.2.2.1, h.2.2.2.2.2.2.2.2.1, h.2.2.2.2.2.2.2.2.2.1, h.2.2.2.2.2.2.2.2.2.2.1, h.2.2.2.2.2.2.2.2.2.2.2.1, h.2.2.2.2.2.2.2.2.2.2.2.2.1, h.2.2.2.2.2.2.2.2.2.2.2.2.2.1, h.2.2.2.2.2.2.2.2.2.2.2.2.2.2.1, h.2.2.2.2.2.2.2.2.2.2.2.2.2.2.2.1, h.2.2.2.2.2.2.2.2.2.2.2.2.2.2.2.2.1, h.2.2.2.2.2.2.2.2.2.2.2.2.2.2.2.2.2.1, h.2.2.2.2.2.2.2.2.2.2.2.2.2.2.2.2.2.2.1, h.2.2.2.2.2.2.2.2.2.2.2.2.2.2.2.2.2.2.2.1, h.2.2.2.2.2.2.2.2.2.2.2.2.2.2.2.2.2.2.2.2.1, h.2.2.2.2.2.2.2.2.2.2.2.2.2.2.2.2.2.2.2.2.2.1, h.2.2.2.2.2.2.2.2.2.2.2.2.2.2.2.2.2.2.2.2.2.2.1, h.2.2.2.2.2.2.2.2.2.2.2.2.2.2.2.2.2.2.2.2.2.2.2.1, h.2.2.2.2.2.2.2.2.2.2.2.2.2.2.2.2.2.2.2.2.2.2.2.2.1, h.2.2.2.2.2.2.2.2.2.2.2.2.2.2.2.2.2.2.2.2.2.2.2.2.2.1, h.2.2.2.2.2.2.2.2.2.2.2.2.2.2.2.2.2.2.2.2.2.2.2.2.2.2.1, h.2.2.2.2.2.2.2.2.2.2.2.2.2.2.2.2.2.2.2.2.2.2.2.2.2.2.2.1, h.2.2.2.2.2.2.2.2.2.2.2.2.2.2.2.2.2.2.2.2.2.2.2.2.2.2.2.2.1, h.2.2.2.2.2.2.2.2.2.2.2.2.2.2.2.2.2.2.2.2.2.2.2.2.2.2.2.2.2.1, h.2.2.2.2.2.2.2.2.2.2.2.2.2.2.2.2.2.2.2.2.2.2.2.2.2.2.2.2.2.2.1, h.2.2.2.2.2.2.2.2.2.2.2.2.2.2.2.2.2.2.2.2.2.2.2.2.2.2.2.2.2.2.2.1, h.2.2.2.2.2.2.2.2.2.2.2.2.2.2.2.2.2.2.2.2.2.2.2.2.2.2.2.2.2.2.2.2.1, h.2.2.2.2.2.2.2.2.2.2.2.2.2.2.2.2.2.2.2.2.2.2.2.2.2.2.2.2.2.2.2.2.2.1, h.2.2.2.2.2.2.2.2.2.2.2.2.2.2.2.2.2.2.2.2.2.2.2.2.2.2.2.2.2.2.2.2.2.2.1, gb_trans Y1.out (h.2.2.2.2.2.2.2.2.2.2.2.2.2.2.2.2.2.2.2.2.2.2.2.2.2.2.2.2.2.2.2.2.2.2.2)⟩) _ _ _ _ ?_
      have X0 := Lib.hid (gb_refl yw1 none)
      have hX0 : (fun w' : World => w'.cell? ⟨bx, 0, none⟩ = some (.string nm) ∧ w'.cell? ⟨bx, 1, none⟩ = some (.slice ha hn hc) ∧ w'.cell? ⟨bx, 2, none⟩ = some (.slice ma mn mc) ∧ w'.cell? ⟨bx, 3, none⟩ = some (.slice r1 r2 r3) ∧ w'.cell? ⟨bx, 4, none⟩ = some (.slice a1 a2 a3) ∧ w'.cell? ⟨bx, 5, none⟩ = some (.slice t1 t2 t3) ∧ w'.cell? ⟨bx, 6, none⟩ = some (.slice s1 s2 s3) ∧ w'.cell? ⟨bx, 7, none⟩ = some (.slice k1 k2 k3) ∧ w'.cell? ⟨bx, 8, none⟩ = some (.slice (some ad) dn dc) ∧ w'.cell? ⟨bx + 1, 0, none⟩ = some (.slice va vn vc) ∧ w'.cell? ⟨bx + 1, 1, none⟩ = some (.slice fa fn fc) ∧ w'.cell? ⟨bx + 1, 2, none⟩ = some (.slice ta tn tc) ∧ w'.cell? ⟨bx + 1, 3, none⟩ = some (.slice pa pn pc) ∧ w'.cell? ⟨b1, 0, none⟩ = some (.string nm) ∧ w'.cell? ⟨b1, 1, none⟩ = some (.slice ha hn hc) ∧ w'.cell? ⟨b1, 2, none⟩ = some (.slice ma mn mc) ∧ w'.cell? ⟨b1, 3, none⟩ = some (.slice r1 r2 r3) ∧ w'.cell? ⟨b1, 4, none⟩ = some (.slice a1 a2 a3) ∧ w'.cell? ⟨b1, 5, none⟩ = some (.slice t1 t2 t3) ∧ w'.cell? ⟨b1, 6, none⟩ = some (.slice s1 s2 s3) ∧ w'.cell? ⟨b1, 7, none⟩ = some (.slice k1 k2 k3) ∧ w'.cell? ⟨b1, 8, none⟩ = some (.slice (some ad) a9 dc) ∧ w'.cell? ⟨b2, 0, none⟩ = some (.string nm) ∧ w'.cell? ⟨b2, 1, none⟩ = some (.slice ha hn hc) ∧ w'.cell? ⟨b2, 2, none⟩ = some (.slice ma mn mc) ∧ w'.cell? ⟨b2, 3, none⟩ = some (.slice r1 r2 r3) ∧ w'.cell? ⟨b2, 4, none⟩ = some (.slice a1 a2 a3) ∧ w'.cell? ⟨b2, 5, none⟩ = some (.slice t1 t2 t3) ∧ w'.cell? ⟨b2, 6, none⟩ = some (.slice s1 s2 s3) ∧ w'.cell? ⟨b2, 7, none⟩ = some (.slice k1 k2 k3) ∧ w'.cell? ⟨b2, 8, none⟩ = some (.slice xa n2 c2) ∧ w'.cell? ⟨b3, 0, none⟩ = some (.slice va vn vc) ∧ w'.cell? ⟨b3, 1, none⟩ = some (.slice fa fn fc) ∧ w'.cell? ⟨b3, 2, none⟩ = some (.slice ta tn tc) ∧ w'.cell? ⟨b3, 3, none⟩ = some (.slice none 0 0) ∧ yw1.grownBy w' none) yw1 := KX.out _ (gb_refl _ _)
      clear hH1
      have hH0 := hX0
      clear hX0
      refine wpAnyH_take (i := 12) (v := ?v20) rfl (by kernel_rfl) (by kernel_rfl) (by kernel_rfl) (fun _ _ _ h => h) (Or.inl ⟨by rfl, ?hy20⟩) (by assumption) ?rest20
      case hy20 => (intro wz hSw; (try dsimp only at hSw); have gz : yw1.grownBy wz none := hSw.2.2.2.2.2.2.2.2.2.2.2.2.2.2.2.2.2.2.2.2.2.2.2.2.2.2.2.2.2.2.2.2.2.2.2; have cz := conv_str wz o3 bs.length u3 bs ((own_slr O3.out).keep0 gz); first | (go_simp; done) | (go_simp; with_reducible rfl))
      try simp only [Act.put, List.getElem_toArray, List.getElem_cons_succ, List.getElem_cons_zero, List.setIfInBounds_toArray, List.set_cons_zero, List.set_cons_succ]
      refine wpAnyH_take (i := 13) (v := ?v21) rfl (by kernel_rfl) (by kernel_rfl) (by kernel_rfl) (fun _ _ _ h => h) (Or.inl ⟨by rfl, ?hy21⟩) (by assumption) ?rest21
      case hy21 => (intro wz hSw; (try dsimp only at hSw); first | (go_simp; done) | (go_simp; with_reducible rfl))
      try simp only [Act.put, List.getElem_toArray, List.getElem_cons_succ, List.getElem_cons_zero, List.setIfInBounds_toArray, List.set_cons_zero, List.set_cons_succ]
      refine wpAnyH_take (i := 14) (v := ?v22) rfl (by kernel_rfl) (by kernel_rfl) (by kernel_rfl) (fun _ _ _ h => h) (Or.inl ⟨by rfl, ?hy22⟩) (by assumption) ?rest22
      case hy22 => (intro wz hSw; (try dsimp only at hSw); first | (go_simp; done) | (go_simp; with_reducible rfl))
      try simp only [Act.put, List.getElem_toArray, List.getElem_cons_succ, List.getElem_cons_zero, List.setIfInBounds_toArray, List.set_cons_zero, List.set_cons_succ]
      refine wpAnyH_take (i := 15) (v := ?v23) rfl (by kernel_rfl) (by kernel_rfl) (by kernel_rfl) (fun _ _ _ h => h) (Or.inl ⟨by rfl, ?hy23⟩) (by assumption) ?rest23
      case hy23 => (intro wz hSw; (try dsimp only at hSw); first | (go_simp; done) | (go_simp; with_reducible rfl))
      try simp only [Act.put, List.getElem_toArray, List.getElem_cons_succ, List.getElem_cons_zero, List.setIfInBounds_toArray, List.set_cons_zero, List.set_cons_succ]
      refine wpAnyH_take (i := 16) (v := ?v24) rfl (by kernel_rfl) (by kernel_rfl) (by kernel_rfl) (fun _ _ _ h => h) (Or.inl ⟨by rfl, ?hy24⟩) (by assumption) ?rest24
      case hy24 => (intro wz hSw; (try dsimp only at hSw); first | (go_simp; done) | (go_simp; with_reducible rfl))
      try simp only [Act.put, List.getElem_toArray, List.getElem_cons_succ, List.getElem_cons_zero, List.setIfInBounds_toArray, List.set_cons_zero, List.set_cons_succ]
      refine wpAnyH_take (i := 18) (v := ?v25) rfl (by kernel_rfl) (by kernel_rfl) (by kernel_rfl) (fun _ _ _ h => h) (Or.inl ⟨by rfl, ?hy25⟩) (by assumption) ?rest25
      case hy25 => (intro wz hSw; (try dsimp only at hSw); first | (go_simp; done) | (go_simp; with_reducible rfl))
      try simp only [Act.put, List.getElem_toArray, List.getElem_cons_succ, List.getElem_cons_zero, List.setIfInBounds_toArray, List.set_cons_zero, List.set_cons_succ]
      refine wpAnyH_take (i := 19) (v := ?v26) rfl (by kernel_rfl) (by kernel_rfl) (by kernel_rfl) (fun _ _ _ h => h) (Or.inl ⟨by rfl, ?hy26⟩) (by assumption) ?rest26
      case hy26 => (intro wz hSw; (try dsimp only at hSw); first | (go_simp; done) | (go_simp; with_reducible rfl))
      try simp only [Act.put, List.getElem_toArray, List.getElem_cons_succ, List.getElem_cons_zero, List.setIfInBounds_toArray, List.set_cons_zero, List.set_cons_succ]
      refine wpAnyH_take (i := 22) (v := ?v27) rfl (by kernel_rfl) (by kernel_rfl) (by kernel_rfl) (fun _ _ _ h => h) (Or.inl ⟨by rfl, ?hy27⟩) (by assumption) ?rest27
      case hy27 => (intro wz hSw; (try dsimp only at hSw); first | (go_simp; done) | (go_simp; with_reducible rfl))
      try simp only [Act.put, List.getElem_toArray, List.getElem_cons_succ, List.getElem_cons_zero, List.setIfInBounds_toArray, List.set_cons_zero, List.set_cons_succ]
      refine wpAnyH_take (i := 23) (v := ?v28) rfl (by kernel_rfl) (by kernel_rfl) (by kernel_rfl) (fun _ _ _ h => h) (Or.inl ⟨by rfl, ?hy28⟩) (by assumption) ?rest28
      case hy28 => (intro wz hSw; (try dsimp only at hSw); first | (go_simp; done) | (go_simp; with_reducible rfl))
      try simp only [Act.put, List.getElem_toArray, List.getElem_cons_succ, List.getElem_cons_zero, List.setIfInBounds_toArray, List.set_cons_zero, List.set_cons_succ]
      refine wpAnyH_ready (rs := [17]) (by kernel_rfl) (by simp) ?_
      refine AllReadyH.cons (o := _) rfl (fun K hK => ?_) AllReadyH.nil
      go_simp
      (with_reducible refine (ZA.out _ (gb_trans J1.out (gb_trans U1.out (gb_trans Y1.out X0.out)))).mono ?_)
      rintro e xw1 ⟨rfl, g⟩
      have X1 := Lib.hid (gb_trans X0.out g)
      clear g
      try dsimp only
      refine hK.out _ _ (KX.out _ X1.out) (fun hH1 => ?_)
      clear hK K hH0
      try simp only [Act.put, List.getElem_toArray, List.getElem_cons_succ, List.getElem_cons_zero, List.setIfInBounds_toArray, List.set_cons_zero, List.set_cons_succ]
      refine wpAnyH_ready (rs := [20]) (by kernel_rfl) (by simp) ?_
      refine AllReadyH.cons (o := _) rfl (fun K hK => ?_) AllReadyH.nil
      go_simp
      (with_reducible refine (ZB.out _ (gb_trans J1.out (gb_trans U1.out (gb_trans Y1.out X1.out)))).mono ?_)
      rintro e xw2 ⟨rfl, g⟩
      have X2 := Lib.hid (gb_trans X1.out g)
      clear g
      try dsimp only
      refine hK.out _ _ (KX.out _ X2.out) (fun hH2 => ?_)
      clear hK K hH1
      try simp only [Act.put, List.getElem_toArray, List.getElem_cons_succ, List.getElem_cons_zero, List.setIfInBounds_toArray, List.set_cons_zero, List.set_cons_succ]
      refine wpAnyH_take (i := 21) (v := ?v29) rfl (by kernel_rfl) (by kernel_rfl) (by kernel_rfl) (fun _ _ _ h => h) (Or.inl ⟨by rfl, ?hy29⟩) (by assumption) ?rest29
      case hy29 => (intro wz hSw; (try dsimp only at hSw); first | (go_simp; done) | (go_simp; with_reducible rfl))
      try simp only [Act.put, List.getElem_toArray, List.getElem_cons_succ, List.getElem_cons_zero, List.setIfInBounds_toArray, List.set_cons_zero, List.set_cons_succ]
      refine wpAnyH_ready (rs := [24]) (by kernel_rfl) (by simp) ?_
      refine AllReadyH.cons (o := _) rfl (fun K hK => ?_) AllReadyH.nil
      go_simp
      (with_reducible refine (ZC.out _ (gb_trans J1.out (gb_trans U1.out (gb_trans Y1.out X2.out)))).mono ?_)
      rintro e xw3 ⟨rfl, g⟩
      have X3 := Lib.hid (gb_trans X2.out g)
      clear g
      try dsimp only
      refine hK.out _ _ (KX.out _ X3.out) (fun hH3 => ?_)
      clear hK K hH2
      try simp only [Act.put, List.getElem_toArray, List.getElem_cons_succ, List.getElem_cons_zero, List.setIfInBounds_toArray, List.set_cons_zero, List.set_cons_succ]
      refine wpAnyH_take (i := 25) (v := ?v30) rfl (by kernel_rfl) (by kernel_rfl) (by kernel_rfl) (fun _ _ _ h => h) (Or.inl ⟨by rfl, ?hy30⟩) (by assumption) ?rest30
      case hy30 => (intro wz hSw; (try dsimp only at hSw); first | (go_simp; done) | (go_simp; with_reducible rfl))
      try simp only [Act.put, List.getElem_toArray, List.getElem_cons_succ, List.getElem_cons_zero, List.setIfInBounds_toArray, List.set_cons_zero, List.set_cons_succ]
      refine wpAnyH_take (i := 26) (v := ?v31) rfl (by kernel_rfl) (by kernel_rfl) (by kernel_rfl) (fun _ _ _ h => h) (Or.inl ⟨by rfl, ?hy31⟩) (by assumption) ?rest31
      case hy31 => (intro wz hSw; (try dsimp only at hSw); first | (go_simp; done) | (go_simp; with_reducible rfl))
      try simp only [Act.put, List.getElem_toArray, List.getElem_cons_succ, List.getElem_cons_zero, List.setIfInBounds_toArray, List.set_cons_zero, List.set_cons_succ]
      refine wpAnyH_take (i := 27) (v := ?v32) rfl (by kernel_rfl) (by kernel_rfl) (by kernel_rfl) (fun _ _ _ h => h) (Or.inl ⟨by rfl, ?hy32⟩) (by assumption) ?rest32
      case hy32 => (intro wz hSw; (try dsimp only at hSw); first | (go_simp; done) | (go_simp; with_reducible rfl))
      try simp only [Act.put, List.getElem_toArray, List.getElem_cons_succ, List.getElem_cons_zero, List.setIfInBounds_toArray, List.set_cons_zero, List.set_cons_succ]
      refine wpAnyH_ready (rs := [28]) (by kernel_rfl) (by simp) ?_
      refine AllReadyH.cons (o := _) rfl (fun K hK => ?_) AllReadyH.nil
      go_simp
      (with_reducible refine (awake_any _).mono ?_)
      rintro e xw4 ⟨rfl, g⟩
      have X4 := Lib.hid (gb_trans X3.out g)
      clear g
      try dsimp only
      refine hK.out _ _ (KX.out _ X4.out) (fun hH4 => ?_)
      clear hK K hH3
      try simp only [Act.put, List.getElem_toArray, List.getElem_cons_succ, List.getElem_cons_zero, List.setIfInBounds_toArray, List.set_cons_zero, List.set_cons_succ]
      refine wpAnyH_take (i := 29) (v := ?v33) rfl (by kernel_rfl) (by kernel_rfl) (by kernel_rfl) (fun _ _ _ h => h) (Or.inl ⟨by rfl, ?hy33⟩) (by assumption) ?rest33
      case hy33 => (intro wz hSw; (try dsimp only at hSw); first | (go_simp; done) | (go_simp; with_reducible rfl))
      try simp only [Act.put, List.getElem_toArray, List.getElem_cons_succ, List.getElem_cons_zero, List.setIfInBounds_toArray, List.set_cons_zero, List.set_cons_succ]
      refine wpAnyH_take (i := 30) (v := ?v34) rfl (by kernel_rfl) (by kernel_rfl) (by kernel_rfl) (fun _ _ _ h => h) (Or.inl ⟨by rfl, ?hy34⟩) (by assumption) ?rest34
      case hy34 => (intro wz hSw; (try dsimp only at hSw); first | (go_simp; done) | (go_simp; with_reducible rfl))
      try simp only [Act.put, List.getElem_toArray, List.getElem_cons_succ, List.getElem_cons_zero, List.setIfInBounds_toArray, List.set_cons_zero, List.set_cons_succ]
      refine wpAnyH_done (by kernel_rfl) ?_ _
      clear hH4
      go_wp2
      go_ret
      exact ⟨rfl, gb_trans GS.out (gb_trans J1.out (gb_trans U1.out (gb_trans Y1.out X4.out)))⟩
    | none =>
      have Z0 := Lib.hid (S0.out.2.2.1.nil rfl)
      obtain rfl : dn = 0 := Z0.out.1
      obtain rfl : dc = 0 := Z0.out.2
      obtain rfl : a9 = 0 := by have := AL.out; omega
      go_upto_region 4 with fail
      have c8 := (B1.out.keep0 (gb_drew W none)).cell 8
      dsimp at c8
      have hS0 : (fun w' : World => w'.cell? ⟨bx, 8, none⟩ = some (.slice none 0 0)) W.drew := c8
      clear c8
      refine wp_region_held_drew (S := (fun w' : World => w'.cell? ⟨bx, 8, none⟩ = some (.slice none 0 0))) (by kernel_rfl) hS0 (fun hH0 => ?_)
      refine wpAnyH_take (i := 0) (v := ?v35) rfl (by kernel_rfl) (by kernel_rfl) (by kernel_rfl) (fun _ _ _ h => h) (Or.inl ⟨by rfl, ?hy35⟩) (by assumption) ?rest35
      case hy35 => (intro wz hSw; (try dsimp only at hSw); first | (go_simp; done) | (go_simp; with_reducible rfl))
      try simp only [Act.put, List.getElem_toArray, List.getElem_cons_zero, List.setIfInBounds_toArray, List.set_cons_zero, List.set_cons_succ]
      refine wpAnyH_take (i := 1) (v := ?v36) rfl (by kernel_rfl) (by kernel_rfl) (by kernel_rfl) (fun _ _ _ h => h) (Or.inl ⟨by rfl, ?hy36⟩) (by assumption) ?rest36
      case hy36 => (intro wz hSw; (try dsimp only at hSw); first | (go_simp; done) | (go_simp; with_reducible rfl))
      try simp only [Act.put, List.getElem_toArray, List.getElem_cons_succ, List.getElem_cons_zero, List.setIfInBounds_toArray, List.set_cons_zero, List.set_cons_succ]
      refine wpAnyH_take (i := 2) (v := ?v37) rfl (by kernel_rfl) (by kernel_rfl) (by kernel_rfl) (fun _ _ _ h => h) (Or.inl ⟨by rfl, ?hy37⟩) (by assumption) ?rest37
      case hy37 => (intro wz hSw; (try dsimp only at hSw); first | (go_simp; done) | (go_simp; with_reducible rfl))
      try simp only [Act.put, List.getElem_toArray, List.getElem_cons_succ, List.getElem_cons_zero, List.setIfInBounds_toArray, List.set_cons_zero, List.set_cons_succ]
      refine wpAnyH_take (i := 3) (v := ?v38) rfl (by kernel_rfl) (by kernel_rfl) (by kernel_rfl) (fun _ _ _ h => h) (Or.inl ⟨by rfl, ?hy38⟩) (by assumption) ?rest38
      case hy38 => (intro wz hSw; (try dsimp only at hSw); first | (go_simp; done) | (go_simp; with_reducible rfl))
      try simp only [Act.put, List.getElem_toArray, List.getElem_cons_succ, List.getElem_cons_zero, List.setIfInBounds_toArray, List.set_cons_zero, List.set_cons_succ]
      refine wpAnyH_take (i := 4) (v := ?v39) rfl (by kernel_rfl) (by kernel_rfl) (by kernel_rfl) (fun _ _ _ h => h) (Or.inl ⟨by rfl, ?hy39⟩) (by assumption) ?rest39
      case hy39 => (intro wz hSw; (try dsimp only at hSw); first | (go_simp; done) | (go_simp; with_reducible rfl))
      try simp only [Act.put, List.getElem_toArray, List.getElem_cons_succ, List.getElem_cons_zero, List.setIfInBounds_toArray, List.set_cons_zero, List.set_cons_succ]
      refine wpAnyH_take (i := 5) (v := ?v40) rfl (by kernel_rfl) (by kernel_rfl) (by kernel_rfl) (fun _ _ _ h => h) (Or.inl ⟨by rfl, ?hy40⟩) (by assumption) ?rest40
      case hy40 => (intro wz hSw; (try dsimp only at hSw); first | (go_simp; done) | (go_simp; with_reducible rfl))
      try simp only [Act.put, List.getElem_toArray, List.getElem_cons_succ, List.getElem_cons_zero, List.setIfInBounds_toArray, List.set_cons_zero, List.set_cons_succ]
      refine wpAnyH_take (i := 6) (v := ?v41) rfl (by kernel_rfl) (by kernel_rfl) (by kernel_rfl) (fun _ _ _ h => h) (Or.inl ⟨by rfl, ?hy41⟩) (by assumption) ?rest41
      case hy41 => (intro wz hSw; (try dsimp only at hSw); first | (go_simp; done) | (go_simp; with_reducible rfl))
      try simp only [Act.put, List.getElem_toArray, List.getElem_cons_succ, List.getElem_cons_zero, List.setIfInBounds_toArray, List.set_cons_zero, List.set_cons_succ]
      refine wpAnyH_take (i := 7) (v := ?v42) rfl (by kernel_rfl) (by kernel_rfl) (by kernel_rfl) (fun _ _ _ h => h) (Or.inl ⟨by rfl, ?hy42⟩) (by assumption) ?rest42
      case hy42 => (intro wz hSw; (try dsimp only at hSw); first | (go_simp; done) | (go_simp; with_reducible rfl))
      try simp only [Act.put, List.getElem_toArray, List.getElem_cons_succ, List.getElem_cons_zero, List.setIfInBounds_toArray, List.set_cons_zero, List.set_cons_succ]
      refine wpAnyH_take (i := 8) (v := ?v43) rfl (by kernel_rfl) (by kernel_rfl) (by kernel_rfl) (fun _ _ _ h => h) (Or.inl ⟨by rfl, ?hy43⟩) (by assumption) ?rest43
      case hy43 => (intro wz hSw; (try dsimp only at hSw); first | (go_simp; done) | (go_simp; with_reducible rfl))
      try simp only [Act.put, List.getElem_toArray, List.getElem_cons_succ, List.getElem_cons_zero, List.setIfInBounds_toArray, List.set_cons_zero, List.set_cons_succ]
      have D1 := Lib.hid (E1.out.keep0 (gb_drew W none))
      have D2 := Lib.hid (E2.out.keep0 (gb_drew W none))
      have D3 := Lib.hid (E3.out.keep0 (gb_drew W none))
      have P1 := Lib.hid (B1.out.keep0 (gb_drew W none))
      have P2 := Lib.hid (B2.out.keep0 (gb_drew W none))
      have N31 := Lib.hid (D3.out.ne D1.out (by decide))
      have N32 := Lib.hid (D3.out.ne D2.out (by decide))
      have Q21 := Lib.hid (P2.out.ne D1.out (by decide))
      have Q22 := Lib.hid (P2.out.ne D2.out (by decide))
      have Q23 := Lib.hid (show bx ≠ b3 from (P1.out.ne D3.out (by decide)))
      clear E1 E2 E3 B1 B2
      have d8 := D1.out.cell 8
      have f8 := D1.out.free 8
      dsimp at d8
      refine wpAnyH_ready (rs := [9]) (by kernel_rfl) (by simp) ?_
      refine AllReadyH.cons (o := _) rfl (fun K hK => ?_) AllReadyH.nil
      go_simp
      replace D2 := Lib.hid (D2.out.set_far (Ne.symm N12.out) 8 (.slice none 0 0))
      replace D3 := Lib.hid (D3.out.set_far N31.out 8 (.slice none 0 0))
      replace P1 := Lib.hid (P1.out.set_far NB.out.1 8 (.slice none 0 0))
      replace P2 := Lib.hid (P2.out.set_far Q21.out 8 (.slice none 0 0))
      replace D1 := Lib.hid (D1.out.set 8 (.slice none 0 0))
      have GS := Lib.hid (gb_put (gb_trans FX.out (gb_drew W none)) LB.out.1 (i := 8) (u := .slice none 0 0))
      refine hK.out _ _ (P1.out.cell 8) (fun hH1 => ?_)
      clear hK K hH0 hS0 d8 f8
      try simp only [Act.put, List.getElem_toArray, List.getElem_cons_succ, List.getElem_cons_zero, List.setIfInBounds_toArray, List.set_cons_zero, List.set_cons_succ]
      refine wpAnyH_take (i := 10) (v := ?v44) rfl (by kernel_rfl) (by kernel_rfl) (by kernel_rfl) (fun _ _ _ h => h) (Or.inl ⟨by rfl, ?hy44⟩) (by assumption) ?rest44
      case hy44 => (intro wz hSw; (try dsimp only at hSw); first | (go_simp; done) | (go_simp; with_reducible rfl))
      try simp only [Act.put, List.getElem_toArray, List.getElem_cons_succ, List.getElem_cons_zero, List.setIfInBounds_toArray, List.set_cons_zero, List.set_cons_succ]
      have d8 : ((W.setCell ⟨b1, 8, none⟩ (.slice none 0 0)).drew).cell? ⟨b2, 8, none⟩ = some (.slice none 0 0) := D2.out.cell 8
      have f8 : ((W.setCell ⟨b1, 8, none⟩ (.slice none 0 0)).drew).frozen? ⟨b2, 8, none⟩ = false := D2.out.free 8
      refine wpAnyH_ready (rs := [11]) (by kernel_rfl) (by simp) ?_
      refine AllReadyH.cons (o := _) rfl (fun K hK => ?_) AllReadyH.nil
      go_simp
      replace D1 := Lib.hid (D1.out.set_far N12.out 8 (.slice none 0 0))
      replace D3 := Lib.hid (D3.out.set_far N32.out 8 (.slice none 0 0))
      replace P1 := Lib.hid (P1.out.set_far NB.out.2 8 (.slice none 0 0))
      replace P2 := Lib.hid (P2.out.set_far Q22.out 8 (.slice none 0 0))
      replace D2 := Lib.hid (D2.out.set 8 (.slice none 0 0))
      replace GS := Lib.hid (gb_put GS.out LB.out.2.1 (i := 8) (u := .slice none 0 0))
      refine hK.out _ _ (P1.out.cell 8) (fun hH2 => ?_)
      clear hK K hH1 d8 f8
      try simp only [Act.put, List.getElem_toArray, List.getElem_cons_succ, List.getElem_cons_zero, List.setIfInBounds_toArray, List.set_cons_zero, List.set_cons_succ]
      refine wpAnyH_done (by kernel_rfl) ?_ _
      clear hH2
      have SX := Lib.hid (show SI w none 0 0 (D.drop 0) from S0.out.2.2.1)
      have SX1 := Lib.hid (S0.out.2.2.1.cut 0 (Nat.le_refl 0))
      have d3 : (((W.setCell ⟨b1, 8, none⟩ (.slice none 0 0)).setCell ⟨b2, 8, none⟩ (.slice none 0 0)).drew).cell? ⟨b3, 3, none⟩ = some (.slice pa pn pc) := D3.out.cell 3
      have f3 : (((W.setCell ⟨b1, 8, none⟩ (.slice none 0 0)).setCell ⟨b2, 8, none⟩ (.slice none 0 0)).drew).frozen? ⟨b3, 3, none⟩ = false := D3.out.free 3
      replace D1 := Lib.hid (D1.out.set_far (Ne.symm N31.out) 3 (.slice none 0 0))
      replace D2 := Lib.hid (D2.out.set_far (Ne.symm N32.out) 3 (.slice none 0 0))
      replace P1 := Lib.hid (P1.out.set_far Q23.out 3 (.slice none 0 0))
      have N2B := Lib.hid (show bx + 1 ≠ b3 from NB3.out)
      replace P2 := Lib.hid (P2.out.set_far N2B.out 3 (.slice none 0 0))
      replace D3 := Lib.hid (D3.out.set 3 (.slice none 0 0))
      replace GS := Lib.hid (gb_put GS.out LB.out.2.2 (i := 3) (u := .slice none 0 0))
      go_upto_region 6 with fail
      clear d3 f3
      replace D1 := Lib.hid (show IsB ((((W.setCell ⟨b1, 8, none⟩ (.slice none 0 0)).setCell ⟨b2, 8, none⟩ (.slice none 0 0)).setCell ⟨b3, 3, none⟩ (.slice none 0 0)).drew) b1 31 #[.string nm, .slice ha hn hc, .slice ma mn mc, .slice r1 r2 r3, .slice a1 a2 a3, .slice t1 t2 t3, .slice s1 s2 s3, .slice k1 k2 k3, .slice none 0 0] from D1.out)
      replace D2 := Lib.hid (show IsB ((((W.setCell ⟨b1, 8, none⟩ (.slice none 0 0)).setCell ⟨b2, 8, none⟩ (.slice none 0 0)).setCell ⟨b3, 3, none⟩ (.slice none 0 0)).drew) b2 31 #[.string nm, .slice ha hn hc, .slice ma mn mc, .slice r1 r2 r3, .slice a1 a2 a3, .slice t1 t2 t3, .slice s1 s2 s3, .slice k1 k2 k3, .slice none 0 0] from D2.out)
      replace D3 := Lib.hid (show IsB ((((W.setCell ⟨b1, 8, none⟩ (.slice none 0 0)).setCell ⟨b2, 8, none⟩ (.slice none 0 0)).setCell ⟨b3, 3, none⟩ (.slice none 0 0)).drew) b3 42 #[.slice va vn vc, .slice fa fn fc, .slice ta tn tc, .slice none 0 0] from D3.out)
      replace P1 := Lib.hid (show IsB ((((W.setCell ⟨b1, 8, none⟩ (.slice none 0 0)).setCell ⟨b2, 8, none⟩ (.slice none 0 0)).setCell ⟨b3, 3, none⟩ (.slice none 0 0)).drew) bx 31 #[.string nm, .slice ha hn hc, .slice ma mn mc, .slice r1 r2 r3, .slice a1 a2 a3, .slice t1 t2 t3, .slice s1 s2 s3, .slice k1 k2 k3, .slice none 0 0] from P1.out)
      replace P2 := Lib.hid (show IsB ((((W.setCell ⟨b1, 8, none⟩ (.slice none 0 0)).setCell ⟨b2, 8, none⟩ (.slice none 0 0)).setCell ⟨b3, 3, none⟩ (.slice none 0 0)).drew) (bx + 1) 42 #[.slice va vn vc, .slice fa fn fc, .slice ta tn tc, .slice pa pn pc] from P2.out)
      replace GS := Lib.hid (show w.grownBy ((((W.setCell ⟨b1, 8, none⟩ (.slice none 0 0)).setCell ⟨b2, 8, none⟩ (.slice none 0 0)).setCell ⟨b3, 3, none⟩ (.slice none 0 0)).drew) none from GS.out)
      generalize (((W.setCell ⟨b1, 8, none⟩ (.slice none 0 0)).setCell ⟨b2, 8, none⟩ (.slice none 0 0)).setCell ⟨b3, 3, none⟩ (.slice none 0 0)).drew = w6 at *
      obtain ⟨bs1, hb1⟩ : ∃ b, b = emit H M (D.take 0) ⟨L.V, L.F, L.T, []⟩ := ⟨_, rfl⟩
      obtain ⟨bs2, hb2⟩ : ∃ b, b = emit H M (D.drop 0) L := ⟨_, rfl⟩
      obtain ⟨bs, hb⟩ : ∃ b, b = emit H M D L := ⟨_, rfl⟩
      have CS := Lib.hid (show bs1 ++ bs2 = bs by rw [hb1, hb2, hb]; exact cut_same DVh.out 0)
      have M1 := Lib.hid hb1
      have M2 := Lib.hid hb2
      have M3 := Lib.hid hb
      have LE := Lib.hid (show bs.length ≤ 60000 by
        have q := emit_len DVh.out
        have q2 := S0.out.2.2.2.p.len
        have q3 := R.out.p
        dsimp only at q2
        rw [hb]; omega)
      clear hb1 hb2 hb
      have PZh := Lib.hid (R.out.pz S0.out.1 S0.out.2.1 S0.out.2.2.2 NM.out)
      have ER0 := Lib.hid (show ER w ⟨va, fa, ta, none, vn, vc, fn, fc, tn, tc, 0, 0⟩ ⟨L.V, L.F, L.T, []⟩ from ⟨S0.out.2.2.2.v, S0.out.2.2.2.f, S0.out.2.2.2.t, ⟨⟨rfl, fun _ => ⟨rfl, rfl⟩, fun ad e => by cases e⟩, Nat.le_refl _, fun x hx => by cases hx⟩⟩)
      have PZ0 := Lib.hid (show PZ hn H M ⟨va, fa, ta, none, vn, vc, fn, fc, tn, tc, 0, 0⟩ ⟨L.V, L.F, L.T, []⟩ from ⟨PZh.out.h, PZh.out.n, PZh.out.m, ⟨PZh.out.e.v, PZh.out.e.f, PZh.out.e.t, Nat.zero_le _, PZh.out.e.r⟩⟩)
      have EA := Lib.hid (fun (W : World) (q : w6.grownBy W none) => demit_any W (.string nm) (.slice r1 r2 r3) (.slice a1 a2 a3) (.slice t1 t2 t3) (.slice s1 s2 s3) (.slice k1 k2 k3) ha ma none hn hc mn mc 0 0 va fa ta none vn vc fn fc tn tc 0 0 H M (D.take 0) ⟨L.V, L.F, L.T, []⟩ (S0.out.1.keep0 (gb_trans GS.out q)) (S0.out.2.1.keep0 (gb_trans GS.out q)) (SX1.out.keep0 (gb_trans GS.out q)) (ER0.out.keep0 (gb_trans GS.out q)) PZ0.out bs1 M1.out)
      have EB := Lib.hid (fun (W : World) (q : w6.grownBy W none) => demit_any W (.string nm) (.slice r1 r2 r3) (.slice a1 a2 a3) (.slice t1 t2 t3) (.slice s1 s2 s3) (.slice k1 k2 k3) ha ma none hn hc mn mc 0 0 va fa ta pa vn vc fn fc tn tc pn pc H M (D.drop 0) L (S0.out.1.keep0 (gb_trans GS.out q)) (S0.out.2.1.keep0 (gb_trans GS.out q)) (SX.out.keep0 (gb_trans GS.out q)) (S0.out.2.2.2.keep0 (gb_trans GS.out q)) PZh.out bs2 M2.out)
      have EC := Lib.hid (fun (W : World) (q : w6.grownBy W none) => demit_any W (.string nm) (.slice r1 r2 r3) (.slice a1 a2 a3) (.slice t1 t2 t3) (.slice s1 s2 s3) (.slice k1 k2 k3) ha ma none hn hc mn mc 0 0 va fa ta pa vn vc fn fc tn tc pn pc H M D L (S0.out.1.keep0 (gb_trans GS.out q)) (S0.out.2.1.keep0 (gb_trans GS.out q)) (S0.out.2.2.1.keep0 (gb_trans GS.out q)) (S0.out.2.2.2.keep0 (gb_trans GS.out q)) PZh.out bs M3.out)
      have ZA := Lib.hid (fun (W : World) (q : w6.grownBy W none) => dsize_any W (.string nm) (.slice r1 r2 r3) (.slice a1 a2 a3) (.slice t1 t2 t3) (.slice s1 s2 s3) (.slice k1 k2 k3) ha ma none hn hc mn mc 0 0 va fa ta none vn vc fn fc tn tc 0 0 H M (D.take 0) ⟨L.V, L.F, L.T, []⟩ (S0.out.1.keep0 (gb_trans GS.out q)) (S0.out.2.1.keep0 (gb_trans GS.out q)) (SX1.out.keep0 (gb_trans GS.out q)) (ER0.out.keep0 (gb_trans GS.out q)) PZ0.out bs1 M1.out)
      have ZB := Lib.hid (fun (W : World) (q : w6.grownBy W none) => dsize_any W (.string nm) (.slice r1 r2 r3) (.slice a1 a2 a3) (.slice t1 t2 t3) (.slice s1 s2 s3) (.slice k1 k2 k3) ha ma none hn hc mn mc 0 0 va fa ta pa vn vc fn fc tn tc pn pc H M (D.drop 0) L (S0.out.1.keep0 (gb_trans GS.out q)) (S0.out.2.1.keep0 (gb_trans GS.out q)) (SX.out.keep0 (gb_trans GS.out q)) (S0.out.2.2.2.keep0 (gb_trans GS.out q)) PZh.out bs2 M2.out)
      have ZC := Lib.hid (fun (W : World) (q : w6.grownBy W none) => dsize_any W (.string nm) (.slice r1 r2 r3) (.slice a1 a2 a3) (.slice t1 t2 t3) (.slice s1 s2 s3) (.slice k1 k2 k3) ha ma none hn hc mn mc 0 0 va fa ta pa vn vc fn fc tn tc pn pc H M D L (S0.out.1.keep0 (gb_trans GS.out q)) (S0.out.2.1.keep0 (gb_trans GS.out q)) (S0.out.2.2.1.keep0 (gb_trans GS.out q)) (S0.out.2.2.2.keep0 (gb_trans GS.out q)) PZh.out bs M3.out)
      have sc : strOf bs1 ++ strOf bs2 = strOf bs := by rw [strOf_app', CS.out]
      have sq : ((strOf bs).toList == (strOf bs).toList) = true := by simp
      have LS := Lib.hid (show bs1.length + bs2.length = bs.length by rw [← CS.out, List.length_append])
      have zs : IntKind.i64.wrap ((bs1.length : Int) + (bs2.length : Int)) = (bs.length : Int) := by have := LS.out; have := LE.out; rw [IntKind.wrap_i64]; omega
      have zq : ((bs.length : Int) == (bs.length : Int)) = true := by simp
      have z1 : (strOf bs1).size = bs1.length := Lx.strOf_size _
      have z2 : (strOf bs2).size = bs2.length := Lx.strOf_size _
      have z3 : (strOf bs).size = bs.length := Lx.strOf_size _
      have zl : ¬ 9223372036854775807 < bs1.length + bs2.length := by have := LS.out; have := LE.out; omega
      have KJ := Lib.hid (fun (w' : World) (q0 : w6.grownBy w' none) => (⟨(P1.out.keep0 q0).cell 0, (P1.out.keep0 q0).cell 1, (P1.out.keep0 q0).cell 2, (P1.out.keep0 q0).cell 3, (P1.out.keep0 q0).cell 4, (P1.out.keep0 q0).cell 5, (P1.out.keep0 q0).cell 6, (P1.out.keep0 q0).cell 7, (P1.out.keep0 q0).cell 8, (P2.out.keep0 q0).cell 0, (P2.out.keep0 q0).cell 1, (P2.out.keep0 q0).cell 2, (P2.out.keep0 q0).cell 3, (D1.out.keep0 q0).cell 0, (D1.out.keep0 q0).cell 1, (D1.out.keep0 q0).cell 2, (D1.out.keep0 q0).cell 3, (D1.out.keep0 q0).cell 4, (D1.out.keep0 q0).cell 5, (D1.out.keep0 q0).cell 6, (D1.out.keep0 q0).cell 7, (D1.out.keep0 q0).cell 8, (D2.out.keep0 q0).cell 0, (D2.out.keep0 q0).cell 1, (D2.out.keep0 q0).cell 2, (D2.out.keep0 q0).cell 3, (D2.out.keep0 q0).cell 4, (D2.out.keep0 q0).cell 5, (D2.out.keep0 q0).cell 6, (D2.out.keep0 q0).cell 7, (D2.out.keep0 q0).cell 8, (D3.out.keep0 q0).cell 0, (D3.out.keep0 q0).cell 1, (D3.out.keep0 q0).cell 2, (D3.out.keep0 q0).cell 3, q0⟩ : (fun w' : World => w'.cell? ⟨bx, 0, none⟩ = some (.string nm) ∧ w'.cell? ⟨bx, 1, none⟩ = some (.slice ha hn hc) ∧ w'.cell? ⟨bx, 2, none⟩ = some (.slice ma mn mc) ∧ w'.cell? ⟨bx, 3, none⟩ = some (.slice r1 r2 r3) ∧ w'.cell? ⟨bx, 4, none⟩ = some (.slice a1 a2 a3) ∧ w'.cell? ⟨bx, 5, none⟩ = some (.slice t1 t2 t3) ∧ w'.cell? ⟨bx, 6, none⟩ = some (.slice s1 s2 s3) ∧ w'.cell? ⟨bx, 7, none⟩ = some (.slice k1 k2 k3) ∧ w'.cell? ⟨bx, 8, none⟩ = some (.slice none 0 0) ∧ w'.cell? ⟨bx + 1, 0, none⟩ = some (.slice va vn vc) ∧ w'.cell? ⟨bx + 1, 1, none⟩ = some (.slice fa fn fc) ∧ w'.cell? ⟨bx + 1, 2, none⟩ = some (.slice ta tn tc) ∧ w'.cell? ⟨bx + 1, 3, none⟩ = some (.slice pa pn pc) ∧ w'.cell? ⟨b1, 0, none⟩ = some (.string nm) ∧ w'.cell? ⟨b1, 1, none⟩ = some (.slice ha hn hc) ∧ w'.cell? ⟨b1, 2, none⟩ = some (.slice ma mn mc) ∧ w'.cell? ⟨b1, 3, none⟩ = some (.slice r1 r2 r3) ∧ w'.cell? ⟨b1, 4, none⟩ = some (.slice a1 a2 a3) ∧ w'.cell? ⟨b1, 5, none⟩ = some (.slice t1 t2 t3) ∧ w'.cell? ⟨b1, 6, none⟩ = some (.slice s1 s2 s3) ∧ w'.cell? ⟨b1, 7, none⟩ = some (.slice k1 k2 k3) ∧ w'.cell? ⟨b1, 8, none⟩ = some (.slice none 0 0) ∧ w'.cell? ⟨b2, 0, none⟩ = some (.string nm) ∧ w'.cell? ⟨b2, 1, none⟩ = some (.slice ha hn hc) ∧ w'.cell? ⟨b2, 2, none⟩ = some (.slice ma mn mc) ∧ w'.cell? ⟨b2, 3, none⟩ = some (.slice r1 r2 r3) ∧ w'.cell? ⟨b2, 4, none⟩ = some (.slice a1 a2 a3) ∧ w'.cell? ⟨b2, 5, none⟩ = some (.slice t1 t2 t3) ∧ w'.cell? ⟨b2, 6, none⟩ = some (.slice s1 s2 s3) ∧ w'.cell? ⟨b2, 7, none⟩ = some (.slice k1 k2 k3) ∧ w'.cell? ⟨b2, 8, none⟩ = some (.slice none 0 0) ∧ w'.cell? ⟨b3, 0, none⟩ = some (.slice va vn vc) ∧ w'.cell? ⟨b3, 1, none⟩ = some (.slice fa fn fc) ∧ w'.cell? ⟨b3, 2, none⟩ = some (.slice ta tn tc) ∧ w'.cell? ⟨b3, 3, none⟩ = some (.slice none 0 0) ∧ w6.grownBy w' none) w'))
      have J0 := Lib.hid (gb_drew w6 none)
      refine wp_region_held_drew (S := (fun w' : World => w'.cell? ⟨bx, 0, none⟩ = some (.string nm) ∧ w'.cell? ⟨bx, 1, none⟩ = some (.slice ha hn hc) ∧ w'.cell? ⟨bx, 2, none⟩ = some (.slice ma mn mc) ∧ w'.cell? ⟨bx, 3, none⟩ = some (.slice r1 r2 r3) ∧ w'.cell? ⟨bx, 4, none⟩ = some (.slice a1 a2 a3) ∧ w'.cell? ⟨bx, 5, none⟩ = some (.slice t1 t2 t3) ∧ w'.cell? ⟨bx, 6, none⟩ = some (.slice s1 s2 s3) ∧ w'.cell? ⟨bx, 7, none⟩ = some (.slice k1 k2 k3) ∧ w'.cell? ⟨bx, 8, none⟩ = some (.slice none 0 0) ∧ w'.cell? ⟨bx + 1, 0, none⟩ = some (.slice va vn vc) ∧ w'.cell? ⟨bx + 1, 1, none⟩ = some (.slice fa fn fc) ∧ w'.cell? ⟨bx + 1, 2, none⟩ = some (.slice ta tn tc) ∧ w'.cell? ⟨bx + 1, 3, none⟩ = some (.slice pa pn pc) ∧ w'.cell? ⟨b1, 0, none⟩ = some (.string nm) ∧ w'.cell? ⟨b1, 1, none⟩ = some (.slice ha hn hc) ∧ w'.cell? ⟨b1, 2, none⟩ = some (.slice ma mn mc) ∧ w'.cell? ⟨b1, 3, none⟩ = some (.slice r1 r2 r3) ∧ w'.cell? ⟨b1, 4, none⟩ = some (.slice a1 a2 a3) ∧ w'.cell? ⟨b1, 5, none⟩ = some (.slice t1 t2 t3) ∧ w'.cell? ⟨b1, 6, none⟩ = some (.slice s1 s2 s3) ∧ w'.cell? ⟨b1, 7, none⟩ = some (.slice k1 k2 k3) ∧ w'.cell? ⟨b1, 8, none⟩ = some (.slice none 0 0) ∧ w'.cell? ⟨b2, 0, none⟩ = some (.string nm) ∧ w'.cell? ⟨b2, 1, none⟩ = some (.slice ha hn hc) ∧ w'.cell? ⟨b2, 2, none⟩ = some (.slice ma mn mc) ∧ w'.cell? ⟨b2, 3, none⟩ = some (.slice r1 r2 r3) ∧ w'.cell? ⟨b2, 4, none⟩ = some (.slice a1 a2 a3) ∧ w'.cell? ⟨b2, 5, none⟩ = some (.slice t1 t2 t3) ∧ w'.cell? ⟨b2, 6, none⟩ = some (.slice s1 s2 s3) ∧ w'.cell? ⟨b2, 7, none⟩ = some (.slice k1 k2 k3) ∧ w'.cell? ⟨b2, 8, none⟩ = some (.slice none 0 0) ∧ w'.cell? ⟨b3, 0, none⟩ = some (.slice va vn vc) ∧ w'.cell? ⟨b3, 1, none⟩ = some (.slice fa fn fc) ∧ w'.cell? ⟨b3, 2, none⟩ = some (.slice ta tn tc) ∧ w'.cell? ⟨b3, 3, none⟩ = some (.slice none 0 0) ∧ w6.grownBy w' none)) (by kernel_rfl) (KJ.out _ J0.out) (fun hH0 => ?_)
      refine wpAnyH_take (i := 0) (v := ?v45) rfl (by kernel_rfl) (by kernel_rfl) (by kernel_rfl) (fun _ _ _ h => h) (Or.inl ⟨by rfl, ?hy45⟩) (by assumption) ?rest45
      case hy45 => (intro wz hSw; (try dsimp only at hSw); first | (go_simp; done) | (go_simp; with_reducible rfl))
      try simp only [Act.put, List.getElem_toArray, List.getElem_cons_zero, List.setIfInBounds_toArray, List.set_cons_zero, List.set_cons_succ]
      refine wpAnyH_take (i := 1) (v := ?v46) rfl (by kernel_rfl) (by kernel_rfl) (by kernel_rfl) (fun _ _ _ h => h) (Or.inl ⟨by rfl, ?hy46⟩) (by assumption) ?rest46
      case hy46 => (intro wz hSw; (try dsimp only at hSw); first | (go_simp; done) | (go_simp; with_reducible rfl))
      try simp only [Act.put, List.getElem_toArray, List.getElem_cons_succ, List.getElem_cons_zero, List.setIfInBounds_toArray, List.set_cons_zero, List.set_cons_succ]
      refine wpAnyH_take (i := 4) (v := ?v47) rfl (by kernel_rfl) (by kernel_rfl) (by kernel_rfl) (fun _ _ _ h => h) (Or.inl ⟨by rfl, ?hy47⟩) (by assumption) ?rest47
      case hy47 => (intro wz hSw; (try dsimp only at hSw); first | (go_simp; done) | (go_simp; with_reducible rfl))
      try simp only [Act.put, List.getElem_toArray, List.getElem_cons_succ, List.getElem_cons_zero, List.setIfInBounds_toArray, List.set_cons_zero, List.set_cons_succ]
      refine wpAnyH_take (i := 5) (v := ?v48) rfl (by kernel_rfl) (by kernel_rfl) (by kernel_rfl) (fun _ _ _ h => h) (Or.inl ⟨by rfl, ?hy48⟩) (by assumption) ?rest48
      case hy48 => (intro wz hSw; (try dsimp only at hSw); first | (go_simp; done) | (go_simp; with_reducible rfl))
      try simp only [Act.put, List.getElem_toArray, List.getElem_cons_succ, List.getElem_cons_zero, List.setIfInBounds_toArray, List.set_cons_zero, List.set_cons_succ]
      refine wpAnyH_take (i := 9) (v := ?v49) rfl (by kernel_rfl) (by kernel_rfl) (by kernel_rfl) (fun _ _ _ h => h) (Or.inl ⟨by rfl, ?hy49⟩) (by assumption) ?rest49
      case hy49 => (intro wz hSw; (try dsimp only at hSw); first | (go_simp; done) | (go_simp; with_reducible rfl))
      try simp only [Act.put, List.getElem_toArray, List.getElem_cons_succ, List.getElem_cons_zero, List.setIfInBounds_toArray, List.set_cons_zero, List.set_cons_succ]
      refine wpAnyH_take (i := 10) (v := ?v50) rfl (by kernel_rfl) (by kernel_rfl) (by kernel_rfl) (fun _ _ _ h => h) (Or.inl ⟨by rfl, ?hy50⟩) (by assumption) ?rest50
      case hy50 => (intro wz hSw; (try dsimp only at hSw); first | (go_simp; done) | (go_simp; with_reducible rfl))
      try simp only [Act.put, List.getElem_toArray, List.getElem_cons_succ, List.getElem_cons_zero, List.setIfInBounds_toArray, List.set_cons_zero, List.set_cons_succ]
      refine wpAnyH_ready (rs := [2]) (by kernel_rfl) (by simp) ?_
      refine AllReadyH.cons (o := _) rfl (fun K hK => ?_) AllReadyH.nil
      go_simp
      (with_reducible refine (EA.out _ J0.out).mono ?_)
      rintro e jw1 ⟨V1, rfl, o, g⟩
      have O1 := Lib.hid o
      clear o
      obtain ⟨o1, u1, rfl⟩ := own_shape O1.out
      have J1 := Lib.hid (gb_trans J0.out g)
      clear g
      try dsimp only
      refine hK.out _ _ (KJ.out _ J1.out) (fun hH1 => ?_)
      clear hK K hH0
      try simp only [Act.put, List.getElem_toArray, List.getElem_cons_succ, List.getElem_cons_zero, List.setIfInBounds_toArray, List.set_cons_zero, List.set_cons_succ]
      have KU := Lib.hid (fun (w' : World) (q0 : jw1.grownBy w' none) => (⟨(P1.out.keep0 (gb_trans J1.out q0)).cell 0, (P1.out.keep0 (gb_trans J1.out q0)).cell 1, (P1.out.keep0 (gb_trans J1.out q0)).cell 2, (P1.out.keep0 (gb_trans J1.out q0)).cell 3, (P1.out.keep0 (gb_trans J1.out q0)).cell 4, (P1.out.keep0 (gb_trans J1.out q0)).cell 5, (P1.out.keep0 (gb_trans J1.out q0)).cell 6, (P1.out.keep0 (gb_trans J1.out q0)).cell 7, (P1.out.keep0 (gb_trans J1.out q0)).cell 8, (P2.out.keep0 (gb_trans J1.out q0)).cell 0, (P2.out.keep0 (gb_trans J1.out q0)).cell 1, (P2.out.keep0 (gb_trans J1.out q0)).cell 2, (P2.out.keep0 (gb_trans J1.out q0)).cell 3, (D1.out.keep0 (gb_trans J1.out q0)).cell 0, (D1.out.keep0 (gb_trans J1.out q0)).cell 1, (D1.out.keep0 (gb_trans J1.out q0)).cell 2, (D1.out.keep0 (gb_trans J1.out q0)).cell 3, (D1.out.keep0 (gb_trans J1.out q0)).cell 4, (D1.out.keep0 (gb_trans J1.out q0)).cell 5, (D1.out.keep0 (gb_trans J1.out q0)).cell 6, (D1.out.keep0 (gb_trans J1.out q0)).cell 7, (D1.out.keep0 (gb_trans J1.out q0)).cell 8, (D2.out.keep0 (gb_trans J1.out q0)).cell 0, (D2.out.keep0 (gb_trans J1.out q0)).cell 1, (D2.out.keep0 (gb_trans J1.out q0)).cell 2, (D2.out.keep0 (gb_trans J1.out q0)).cell 3, (D2.out.keep0 (gb_trans J1.out q0)).cell 4, (D2.out.keep0 (gb_trans J1.out q0)).cell 5, (D2.out.keep0 (gb_trans J1.out q0)).cell 6, (D2.out.keep0 (gb_trans J1.out q0)).cell 7, (D2.out.keep0 (gb_trans J1.out q0)).cell 8, (D3.out.keep0 (gb_trans J1.out q0)).cell 0, (D3.out.keep0 (gb_trans J1.out q0)).cell 1, (D3.out.keep0 (gb_trans J1.out q0)).cell 2, (D3.out.keep0 (gb_trans J1.out q0)).cell 3, q0⟩ : (fun w' : World => w'.cell? ⟨bx, 0, none⟩ = some (.string nm) ∧ w'.cell? ⟨bx, 1, none⟩ = some (.slice ha hn hc) ∧ w'.cell? ⟨bx, 2, none⟩ = some (.slice ma mn mc) ∧ w'.cell? ⟨bx, 3, none⟩ = some (.slice r1 r2 r3) ∧ w'.cell? ⟨bx, 4, none⟩ = some (.slice a1 a2 a3) ∧ w'.cell? ⟨bx, 5, none⟩ = some (.slice t1 t2 t3) ∧ w'.cell? ⟨bx, 6, none⟩ = some (.slice s1 s2 s3) ∧ w'.cell? ⟨bx, 7, none⟩ = some (.slice k1 k2 k3) ∧ w'.cell? ⟨bx, 8, none⟩ = some (.slice none 0 0) ∧ w'.cell? ⟨bx + 1, 0, none⟩ = some (.slice va vn vc) ∧ w'.cell? ⟨bx + 1, 1, none⟩ = some (.slice fa fn fc) ∧ w'.cell? ⟨bx + 1, 2, none⟩ = some (.slice ta tn tc) ∧ w'.cell? ⟨bx + 1, 3, none⟩ = some (.slice pa pn pc) ∧ w'.cell? ⟨b1, 0, none⟩ = some (.string nm) ∧ w'.cell? ⟨b1, 1, none⟩ = some (.slice ha hn hc) ∧ w'.cell? ⟨b1, 2, none⟩ = some (.slice ma mn mc) ∧ w'.cell? ⟨b1, 3, none⟩ = some (.slice r1 r2 r3) ∧ w'.cell? ⟨b1, 4, none⟩ = some (.slice a1 a2 a3) ∧ w'.cell? ⟨b1, 5, none⟩ = some (.slice t1 t2 t3) ∧ w'.cell? ⟨b1, 6, none⟩ = some (.slice s1 s2 s3) ∧ w'.cell? ⟨b1, 7, none⟩ = some (.slice k1 k2 k3) ∧ w'.cell? ⟨b1, 8, none⟩ = some (.slice none 0 0) ∧ w'.cell? ⟨b2, 0, none⟩ = some (.string nm) ∧ w'.cell? ⟨b2, 1, none⟩ = some (.slice ha hn hc) ∧ w'.cell? ⟨b2, 2, none⟩ = some (.slice ma mn mc) ∧ w'.cell? ⟨b2, 3, none⟩ = some (.slice r1 r2 r3) ∧ w'.cell? ⟨b2, 4, none⟩ = some (.slice a1 a2 a3) ∧ w'.cell? ⟨b2, 5, none⟩ = some (.slice t1 t2 t3) ∧ w'.cell? ⟨b2, 6, none⟩ = some (.slice s1 s2 s3) ∧ w'.cell? ⟨b2, 7, none⟩ = some (.slice k1 k2 k3) ∧ w'.cell? ⟨b2, 8, none⟩ = some (.slice none 0 0) ∧ w'.cell? ⟨b3, 0, none⟩ = some (.slice va vn vc) ∧ w'.cell? ⟨b3, 1, none⟩ = some (.slice fa fn fc) ∧ w'.cell? ⟨b3, 2, none⟩ = some (.slice ta tn tc) ∧ w'.cell? ⟨b3, 3, none⟩ = some (.slice none 0 0) ∧ jw1.grownBy w' none) w'))
      refine wpAnyH_more (S2 := (fun w' : World => w'.cell? ⟨bx, 0, none⟩ = some (.string nm) ∧ w'.cell? ⟨bx, 1, none⟩ = some (.slice ha hn hc) ∧ w'.cell? ⟨bx, 2, none⟩ = some (.slice ma mn mc) ∧ w'.cell? ⟨bx, 3, none⟩ = some (.slice r1 r2 r3) ∧ w'.cell? ⟨bx, 4, none⟩ = some (.slice a1 a2 a3) ∧ w'.cell? ⟨bx, 5, none⟩ = some (.slice t1 t2 t3) ∧ w'.cell? ⟨bx, 6, none⟩ = some (.slice s1 s2 s3) ∧ w'.cell? ⟨bx, 7, none⟩ = some (.slice k1 k2 k3) ∧ w'.cell? ⟨bx, 8, none⟩ = some (.slice none 0 0) ∧ w'.cell? ⟨bx + 1, 0, none⟩ = some (.slice va vn vc) ∧ w'.cell? ⟨bx + 1, 1, none⟩ = some (.slice fa fn fc) ∧ w'.cell? ⟨bx + 1, 2, none⟩ = some (.slice ta tn tc) ∧ w'.cell? ⟨bx + 1, 3, none⟩ = some (.slice pa pn pc) ∧ w'.cell? ⟨b1, 0, none⟩ = some (.string nm) ∧ w'.cell? ⟨b1, 1, none⟩ = some (.slice ha hn hc) ∧ w'.cell? ⟨b1, 2, none⟩ = some (.slice ma mn mc) ∧ w'.cell? ⟨b1, 3, none⟩ = some (.slice r1 r2 r3) ∧ w'.cell? ⟨b1, 4, none⟩ = some (.slice a1 a2 a3) ∧ w'.cell? ⟨b1, 5, none⟩ = some (.slice t1 t2 t3) ∧ w'.cell? ⟨b1, 6, none⟩ = some (.slice s1 s2 s3) ∧ w'.cell? ⟨b1, 7, none⟩ = some (.slice k1 k2 k3) ∧ w'.cell? ⟨b1, 8, none⟩ = some (.slice none 0 0) ∧ w'.cell? ⟨b2, 0, none⟩ = some (.string nm) ∧ w'.cell? ⟨b2, 1, none⟩ = some (.slice ha hn hc) ∧ w'.cell? ⟨b2, 2, none⟩ = some (.slice ma mn mc) ∧ w'.cell? ⟨b2, 3, none⟩ = some (.slice r1 r2 r3) ∧ w'.cell? ⟨b2, 4, none⟩ = some (.slice a1 a2 a3) ∧ w'.cell? ⟨b2, 5, none⟩ = some (.slice t1 t2 t3) ∧ w'.cell? ⟨b2, 6, none⟩ = some (.slice s1 s2 s3) ∧ w'.cell? ⟨b2, 7, none⟩ = some (.slice k1 k2 k3) ∧ w'.cell? ⟨b2, 8, none⟩ = some (.slice none 0 0) ∧ w'.cell? ⟨b3, 0, none⟩ = some (.slice va vn vc) ∧ w'.cell? ⟨b3, 1, none⟩ = some (.slice fa fn fc) ∧ w'.cell? ⟨b3, 2, none⟩ = some (.slice ta tn tc) ∧ w'.cell? ⟨b3, 3, none⟩ = some (.slice none 0 0) ∧ jw1.grownBy w' none)) (fun _ h => ⟨h.1, h.2.1, h.2.2.1, h.2.2.2.1, h.2.2.2.2.1, h.2.2.2.2.2.1, h.2.2.2.2.2.2.1, h.2.2.2.2.2.2.2.1, h.2.2.2.2.2.2.2.2.1, h.2.2.2.2.2.2.2.2.2.1, h.2.2.2.2.2.2.2.2.2.2.1, h.2.2.2.2.2.2.2.2.2.2.2.1, h.2.2.2.2.2.2.2.2.2.2.2.2.1, h.2.2.2.2.2.2.2.2.2.2.2.2.2.1, h.2.2.2.2.2.2.2.2.2.2.2.2.2.2.1, h.2.2.2.2.2.2.2.2.2.2.2.2.2.2.2.1, h.2.2.2.2.2.2.2.2.2.2.2.2.2.2.2.2.1, h.2.2.2.2.2.2.2.2.2.2.2.2.2.2.2.2.2.1, h.2.2.2.2.2.2.2.2.2.2.2.2.2.2.2.2.2.2.1, h.2.2.2.2.2.2.2.2.2.2.2.2.2.2.2.2.2.2.2.1, h.2.2.2.2.2.2.2.2.2.2.2.2.2.2.2.2.2.2.2.2.1, h.2.2.2.2.2.2.2.2.2.2.2.2.2.2.2.2.2.2.2.2.2.1, h.2.2.2.2.2.2.2.2.2.2.2.2.2.2.2.2.2.2.2.2.2.2.1, h.2.2.2.2.2.2.2.2.2.2.2.2.2.2.2.2.2.2.2.2.2.2.2.1, h.2.2.2.2.2.2.2.2.2.2.2.2.2.2.2.2.2.2.2.2.2.2.2.2.1, h.2.2.2.2.2.2.2.2.2.2.2.2.2.2.2.2.2.2.2.2.2.2.2.2.2.1, h.2.2.2.2.2.2.2.2.2.2.2.2.2.2.2.2.2.2.2.2.2.2.2.2.2.2.1, h.2.2.2.2.2.2.2.2.2.2.2.2.2.2.2.2.2.2.2.2.2.2.2.2.2.2.2.1, h.2.2.2.2.2.2.2.2.2.2.2.2.2.2.2.2.2.2.2.2.2.2.2.2.2.2.2.2.1, h.2.2.2.2.2.2.2.2.2.2.2.2.2.2.2.2.2.2.2.2.2.2.2.2.2.2.2.2.2.1, h.2.2.2.2.2.2.2.2.2.2.2.2.2.2.2.2.2.2.2.2.2.2.2.2.2.2.2.2.2.2.1, h.2.2.2.2.2.2.2.2.2.2.2.2.2.2.2.2.2.2.2.2.2.2.2.2.2.2.2.2.2.2.2.1, h.2.2.2.2.2.2.2.2.2.2.2.2.2.2.2.2.2.2.2.2.2.2.2.2.2.2.2.2.2.2.2.2.1, h.2.2.2.2.2.2.2.2.2.2.2.2.2.2.2.2.2.2.2.2.2.2.2.2.2.2.2.2.2.2.2.2.2.1, h.2.2.2.2.2.2.2.2.2.2.2.2.2.2.2.2.2.2.2.2.2.2.2.2.2.2.2.2.2.2.2.2.2.2.1, gb_trans J1.out (h.2.2.2.2.2.2.2.2.2.2.2.2.2.2.2.2.2.2.2.2.2.2.2.2.2.2.2.2.2.2.2.2.2.2.2)⟩) _ _ _ _ ?_
      have U0 := Lib.hid (gb_refl jw1 none)
      have hX0 : (fun w' : World => w'.cell? ⟨bx, 0, none⟩ = some (.string nm) ∧ w'.cell? ⟨bx, 1, none⟩ = some (.slice ha hn hc) ∧ w'.cell? ⟨bx, 2, none⟩ = some (.slice ma mn mc) ∧ w'.cell? ⟨bx, 3, none⟩ = some (.slice r1 r2 r3) ∧ w'.cell? ⟨bx, 4, none⟩ = some (.slice a1 a2 a3) ∧ w'.cell? ⟨bx, 5, none⟩ = some (.slice t1 t2 t3) ∧ w'.cell? ⟨bx, 6, none⟩ = some (.slice s1 s2 s3) ∧ w'.cell? ⟨bx, 7, none⟩ = some (.slice k1 k2 k3) ∧ w'.cell? ⟨bx, 8, none⟩ = some (.slice none 0 0) ∧ w'.cell? ⟨bx + 1, 0, none⟩ = some (.slice va vn vc) ∧ w'.cell? ⟨bx + 1, 1, none⟩ = some (.slice fa fn fc) ∧ w'.cell? ⟨bx + 1, 2, none⟩ = some (.slice ta tn tc) ∧ w'.cell? ⟨bx + 1, 3, none⟩ = some (.slice pa pn pc) ∧ w'.cell? ⟨b1, 0, none⟩ = some (.string nm) ∧ w'.cell? ⟨b1, 1, none⟩ = some (.slice ha hn hc) ∧ w'.cell? ⟨b1, 2, none⟩ = some (.slice ma mn mc) ∧ w'.cell? ⟨b1, 3, none⟩ = some (.slice r1 r2 r3) ∧ w'.cell? ⟨b1, 4, none⟩ = some (.slice a1 a2 a3) ∧ w'.cell? ⟨b1, 5, none⟩ = some (.slice t1 t2 t3) ∧ w'.cell? ⟨b1, 6, none⟩ = some (.slice s1 s2 s3) ∧ w'.cell? ⟨b1, 7, none⟩ = some (.slice k1 k2 k3) ∧ w'.cell? ⟨b1, 8, none⟩ = some (.slice none 0 0) ∧ w'.cell? ⟨b2, 0, none⟩ = some (.string nm) ∧ w'.cell? ⟨b2, 1, none⟩ = some (.slice ha hn hc) ∧ w'.cell? ⟨b2, 2, none⟩ = some (.slice ma mn mc) ∧ w'.cell? ⟨b2, 3, none⟩ = some (.slice r1 r2 r3) ∧ w'.cell? ⟨b2, 4, none⟩ = some (.slice a1 a2 a3) ∧ w'.cell? ⟨b2, 5, none⟩ = some (.slice t1 t2 t3) ∧ w'.cell? ⟨b2, 6, none⟩ = some (.slice s1 s2 s3) ∧ w'.cell? ⟨b2, 7, none⟩ = some (.slice k1 k2 k3) ∧ w'.cell? ⟨b2, 8, none⟩ = some (.slice none 0 0) ∧ w'.cell? ⟨b3, 0, none⟩ = some (.slice va vn vc) ∧ w'.cell? ⟨b3, 1, none⟩ = some (.slice fa fn fc) ∧ w'.cell? ⟨b3, 2, none⟩ = some (.slice ta tn tc) ∧ w'.cell? ⟨b3, 3, none⟩ = some (.slice none 0 0) ∧ jw1.grownBy w' none) jw1 := KU.out _ (gb_refl _ _)
      clear hH1
      have hH0 := hX0
      clear hX0
      refine wpAnyH_take (i := 3) (v := ?v51) rfl (by kernel_rfl) (by kernel_rfl) (by kernel_rfl) (fun _ _ _ h => h) (Or.inl ⟨by rfl, ?hy51⟩) (by assumption) ?rest51
      case hy51 => (intro wz hSw; (try dsimp only at hSw); have gz : jw1.grownBy wz none := hSw.2.2.2.2.2.2.2.2.2.2.2.2.2.2.2.2.2.2.2.2.2.2.2.2.2.2.2.2.2.2.2.2.2.2.2; have cz := conv_str wz o1 bs1.length u1 bs1 ((own_slr O1.out).keep0 gz); first | (go_simp; done) | (go_simp; with_reducible rfl))
      try simp only [Act.put, List.getElem_toArray, List.getElem_cons_succ, List.getElem_cons_zero, List.setIfInBounds_toArray, List.set_cons_zero, List.set_cons_succ]
      refine wpAnyH_ready (rs := [6]) (by kernel_rfl) (by simp) ?_
      refine AllReadyH.cons (o := _) rfl (fun K hK => ?_) AllReadyH.nil
      go_simp
      (with_reducible refine (EB.out _ (gb_trans J1.out U0.out)).mono ?_)
      rintro e uw1 ⟨V2, rfl, o, g⟩
      have O2 := Lib.hid o
      clear o
      obtain ⟨o2, u2, rfl⟩ := own_shape O2.out
      have U1 := Lib.hid (gb_trans U0.out g)
      clear g
      try dsimp only
      refine hK.out _ _ (KU.out _ U1.out) (fun hH1 => ?_)
      clear hK K hH0
      try simp only [Act.put, List.getElem_toArray, List.getElem_cons_succ, List.getElem_cons_zero, List.setIfInBounds_toArray, List.set_cons_zero, List.set_cons_succ]
      have KY := Lib.hid (fun (w' : World) (q0 : uw1.grownBy w' none) => (⟨(P1.out.keep0 (gb_trans J1.out (gb_trans U1.out q0))).cell 0, (P1.out.keep0 (gb_trans J1.out (gb_trans U1.out q0))).cell 1, (P1.out.keep0 (gb_trans J1.out (gb_trans U1.out q0))).cell 2, (P1.out.keep0 (gb_trans J1.out (gb_trans U1.out q0))).cell 3, (P1.out.keep0 (gb_trans J1.out (gb_trans U1.out q0))).cell 4, (P1.out.keep0 (gb_trans J1.out (gb_trans U1.out q0))).cell 5, (P1.out.keep0 (gb_trans J1.out (gb_trans U1.out q0))).cell 6, (P1.out.keep0 (gb_trans J1.out (gb_trans U1.out q0))).cell 7, (P1.out.keep0 (gb_trans J1.out (gb_trans U1.out q0))).cell 8, (P2.out.keep0 (gb_trans J1.out (gb_trans U1.out q0))).cell 0, (P2.out.keep0 (gb_trans J1.out (gb_trans U1.out q0))).cell 1, (P2.out.keep0 (gb_trans J1.out (gb_trans U1.out q0))).cell 2, (P2.out.keep0 (gb_trans J1.out (gb_trans U1.out q0))).cell 3, (D1.out.keep0 (gb_trans J1.out (gb_trans U1.out q0))).cell 0, (D1.out.keep0 (gb_trans J1.out (gb_trans U1.out q0))).cell 1, (D1.out.keep0 (gb_trans J1.out (gb_trans U1.out q0))).cell 2, (D1.out.keep0 (gb_trans J1.out (gb_trans U1.out q0))).cell 3, (D1.out.keep0 (gb_trans J1.out (gb_trans U1.out q0))).cell 4, (D1.out.keep0 (gb_trans J1.out (gb_trans U1.out q0))).cell 5, (D1.out.keep0 (gb_trans J1.out (gb_trans U1.out q0))).cell 6, (D1.out.keep0 (gb_trans J1.out (gb_trans U1.out q0))).cell 7, (D1.out.keep0 (gb_trans J1.out (gb_trans U1.out q0))).cell 8, (D2.out.keep0 (gb_trans J1.out (gb_trans U1.out q0))).cell 0, (D2.out.keep0 (gb_trans J1.out (gb_trans U1.out q0))).cell 1, (D2.out.keep0 (gb_trans J1.out (gb_trans U1.out q0))).cell 2, (D2.out.keep0 (gb_trans J1.out (gb_trans U1.out q0))).cell 3, (D2.out.keep0 (gb_trans J1.out (gb_trans U1.out q0))).cell 4, (D2.out.keep0 (gb_trans J1.out (gb_trans U1.out q0))).cell 5, (D2.out.keep0 (gb_trans J1.out (gb_trans U1.out q0))).cell 6, (D2.out.keep0 (gb_trans J1.out (gb_trans U1.out q0))).cell 7, (D2.out.keep0 (gb_trans J1.out (gb_trans U1.out q0))).cell 8, (D3.out.keep0 (gb_trans J1.out (gb_trans U1.out q0))).cell 0, (D3.out.keep0 (gb_trans J1.out (gb_trans U1.out q0))).cell 1, (D3.out.keep0 (gb_trans J1.out (gb_trans U1.out q0))).cell 2, (D3.out.keep0 (gb_trans J1.out (gb_trans U1.out q0))).cell 3, q0⟩ : (fun w' : World => w'.cell? ⟨bx, 0, none⟩ = some (.string nm) ∧ w'.cell? ⟨bx, 1, none⟩ = some (.slice ha hn hc) ∧ w'.cell? ⟨bx, 2, none⟩ = some (.slice ma mn mc) ∧ w'.cell? ⟨bx, 3, none⟩ = some (.slice r1 r2 r3) ∧ w'.cell? ⟨bx, 4, none⟩ = some (.slice a1 a2 a3) ∧ w'.cell? ⟨bx, 5, none⟩ = some (.slice t1 t2 t3) ∧ w'.cell? ⟨bx, 6, none⟩ = some (.slice s1 s2 s3) ∧ w'.cell? ⟨bx, 7, none⟩ = some (.slice k1 k2 k3) ∧ w'.cell? ⟨bx, 8, none⟩ = some (.slice none 0 0) ∧ w'.cell? ⟨bx + 1, 0, none⟩ = some (.slice va vn vc) ∧ w'.cell? ⟨bx + 1, 1, none⟩ = some (.slice fa fn fc) ∧ w'.cell? ⟨bx + 1, 2, none⟩ = some (.slice ta tn tc) ∧ w'.cell? ⟨bx + 1, 3, none⟩ = some (.slice pa pn pc) ∧ w'.cell? ⟨b1, 0, none⟩ = some (.string nm) ∧ w'.cell? ⟨b1, 1, none⟩ = some (.slice ha hn hc) ∧ w'.cell? ⟨b1, 2, none⟩ = some (.slice ma mn mc) ∧ w'.cell? ⟨b1, 3, none⟩ = some (.slice r1 r2 r3) ∧ w'.cell? ⟨b1, 4, none⟩ = some (.slice a1 a2 a3) ∧ w'.cell? ⟨b1, 5, none⟩ = some (.slice t1 t2 t3) ∧ w'.cell? ⟨b1, 6, none⟩ = some (.slice s1 s2 s3) ∧ w'.cell? ⟨b1, 7, none⟩ = some (.slice k1 k2 k3) ∧ w'.cell? ⟨b1, 8, none⟩ = some (.slice none 0 0) ∧ w'.cell? ⟨b2, 0, none⟩ = some (.string nm) ∧ w'.cell? ⟨b2, 1, none⟩ = some (.slice ha hn hc) ∧ w'.cell? ⟨b2, 2, none⟩ = some (.slice ma mn mc) ∧ w'.cell? ⟨b2, 3, none⟩ = some (.slice r1 r2 r3) ∧ w'.cell? ⟨b2, 4, none⟩ = some (.slice a1 a2 a3) ∧ w'.cell? ⟨b2, 5, none⟩ = some (.slice t1 t2 t3) ∧ w'.cell? ⟨b2, 6, none⟩ = some (.slice s1 s2 s3) ∧ w'.cell? ⟨b2, 7, none⟩ = some (.slice k1 k2 k3) ∧ w'.cell? ⟨b2, 8, none⟩ = some (.slice none 0 0) ∧ w'.cell? ⟨b3, 0, none⟩ = some (.slice va vn vc) ∧ w'.cell? ⟨b3, 1, none⟩ = some (.slice fa fn fc) ∧ w'.cell? ⟨b3, 2, none⟩ = some (.slice ta tn tc) ∧ w'.cell? ⟨b3, 3, none⟩ = some (.slice none 0 0) ∧ uw1.grownBy w' none) w'))
      refine wpAnyH_more (S2 := (fun w' : World => w'.cell? ⟨bx, 0, none⟩ = some (.string nm) ∧ w'.cell? ⟨bx, 1, none⟩ = some (.slice ha hn hc) ∧ w'.cell? ⟨bx, 2, none⟩ = some (.slice ma mn mc) ∧ w'.cell? ⟨bx, 3, none⟩ = some (.slice r1 r2 r3) ∧ w'.cell? ⟨bx, 4, none⟩ = some (.slice a1 a2 a3) ∧ w'.cell? ⟨bx, 5, none⟩ = some (.slice t1 t2 t3) ∧ w'.cell? ⟨bx, 6, none⟩ = some (.slice s1 s2 s3) ∧ w'.cell? ⟨bx, 7, none⟩ = some (.slice k1 k2 k3) ∧ w'.cell? ⟨bx, 8, none⟩ = some (.slice none 0 0) ∧ w'.cell? ⟨bx + 1, 0, none⟩ = some (.slice va vn vc) ∧ w'.cell? ⟨bx + 1, 1, none⟩ = some (.slice fa fn fc) ∧ w'.cell? ⟨bx + 1, 2, none⟩ = some (.slice ta tn tc) ∧ w'.cell? ⟨bx + 1, 3, none⟩ = some (.slice pa pn pc) ∧ w'.cell? ⟨b1, 0, none⟩ = some (.string nm) ∧ w'.cell? ⟨b1, 1, none⟩ = some (.slice ha hn hc) ∧ w'.cell? ⟨b1, 2, none⟩ = some (.slice ma mn mc) ∧ w'.cell? ⟨b1, 3, none⟩ = some (.slice r1 r2 r3) ∧ w'.cell? ⟨b1, 4, none⟩ = some (.slice a1 a2 a3) ∧ w'.cell? ⟨b1, 5, none⟩ = some (.slice t1 t2 t3) ∧ w'.cell? ⟨b1, 6, none⟩ = some (.slice s1 s2 s3) ∧ w'.cell? ⟨b1, 7, none⟩ = some (.slice k1 k2 k3) ∧ w'.cell? ⟨b1, 8, none⟩ = some (.slice none 0 0) ∧ w'.cell? ⟨b2, 0, none⟩ = some (.string nm) ∧ w'.cell? ⟨b2, 1, none⟩ = some (.slice ha hn hc) ∧ w'.cell? ⟨b2, 2, none⟩ = some (.slice ma mn mc) ∧ w'.cell? ⟨b2, 3, none⟩ = some (.slice r1 r2 r3) ∧ w'.cell? ⟨b2, 4, none⟩ = some (.slice a1 a2 a3) ∧ w'.cell? ⟨b2, 5, none⟩ = some (.slice t1 t2 t3) ∧ w'.cell? ⟨b2, 6, none⟩ = some (.slice s1 s2 s3) ∧ w'.cell? ⟨b2, 7, none⟩ = some (.slice k1 k2 k3) ∧ w'.cell? ⟨b2, 8, none⟩ = some (.slice none 0 0) ∧ w'.cell? ⟨b3, 0, none⟩ = some (.slice va vn vc) ∧ w'.cell? ⟨b3, 1, none⟩ = some (.slice fa fn fc) ∧ w'.cell? ⟨b3, 2, none⟩ = some (.slice ta tn tc) ∧ w'.cell? ⟨b3, 3, none⟩ = some (.slice none 0 0) ∧ uw1.grownBy w' none)) (fun _ h => ⟨h.1, h.2.1, h.2.2.1, h.2.2.2.1, h.2.2.2.2.1, h.2.2.2.2.2.1, h.2.2.2.2.2.2.1, h.2.2.2.2.2.2.2.1, h.2.2.2.2.2.2.2.2.1, h.2.2.2.2.2.2.2.2.2.1, h.2.2.2.2.2.2.2.2.2.2.1, h.2.2.2.2.2.2.2.2.2.2.2.1, h.2.2.2.2.2.2.2.2.2.2.2.2.1, h.2.2.2.2.2.2.2.2.2.2.2.2.2.1, h.2.2.2.2.2.2.2.2.2.2.2.2.2.2.1, h.2.2.2.2.2.2.2.2.2.2.2.2.2.2.2.1, h.2.2.2.2.2.2.2.2.2.2.2.2.2.2.2.2.1, h.2.2.2.2.2.2.2.2.2.2.2.2.2.2.2.2.2.1, h.2.2.2.2.2.2.2.2.2.2.2.2.2.2.2.2.2.2.1, h.2.2.2.2.2.2.2.2.2.2.2.2.2.2.2.2.2.2.2.1, h.2.2.2.2.2.2.2.2.2.2.2.2.2.2.2.2.2.2.2.2.1, h.2.2.2.2.2.2.2.2.2.2.2.2.2.2.2.2.2.2.2.2.2.1, h.2.2.2.2.2.2.2.2.2.2.2.2.2.2.2.2.2.2.2.2.2.2.1, h.2.2.2.2.2.2.2.2.2.2.2.2.2.2.2.2.2.2.2.2.2.2.2.1, h.2.2.2.2.2.2.2.2.2.2.2.2.2.2.2.2.2.2.2.2.2.2.2.2.1, h.2.2.2.2.2.2.2.2.2.2.2.2.2.2.2.2.2.2.2.2.2.2.2.2.2.1, h.2.2.2.2.2.2.2.2.2.2.2.2.2.2.2.2.2.2.2.2.2.2.2.2.2.2.1, h.2.2.2.2.2.2.2.2.2.2.2.2.2.2.2.2.2.2.2.2.2.2.2.2.2.2.2.1, h.2.2.2.2.2.2.2.2.2.2.2.2.2.2.2.2.2.2.2.2.2.2.2.2.2.2.2.2.1, h.2.2.2.2.2.2.2.2.2.2.2.2.2.2.2.2.2.2.2.2.2.2.2.2.2.2.2.2.2.1, h.2.2.2.2.2.2.2.2.2.2.2.2.2.2.2.2.2.2.2.2.2.2.2.2.2.2.2.2.2.2.1, h.2.2.2.2.2.2.2.2.2.2.2.2.2.2.2.2.2.2.2.2.2.2.2.2.2.2.2.2.2.2.2.1, h.2.2.2.2.2.2.2.2.2.2.2.2.2.2.2.2.2.2.2.2.2.2.2.2.2.2.2.2.2.2.2.2.1, h.2.2.2.2.2.2.2.2.2.2.2.2.2.2.2.2.2.2.2.2.2.2.2.2.2.2.2.2.2.2.2.2.2.1, h.2.2.2.2.2.2.2.2.2.2.2.2.2.2.2.2.2.2.2.2.2.2.2.2.2.2.2.2.2.2.2.2.2.2.1, gb_trans U1.out (h.2.2.2.2.2.2.2.2.2.2.2.2.2.2.2.2.2.2.2.2.2.2.2.2.2.2.2.2.2.2.2.2.2.2.2)⟩) _ _ _ _ ?_
      have Y0 := Lib.hid (gb_refl uw1 none)
      have hX0 : (fun w' : World => w'.cell? ⟨bx, 0, none⟩ = some (.string nm) ∧ w'.cell? ⟨bx, 1, none⟩ = some (.slice ha hn hc) ∧ w'.cell? ⟨bx, 2, none⟩ = some (.slice ma mn mc) ∧ w'.cell? ⟨bx, 3, none⟩ = some (.slice r1 r2 r3) ∧ w'.cell? ⟨bx, 4, none⟩ = some (.slice a1 a2 a3) ∧ w'.cell? ⟨bx, 5, none⟩ = some (.slice t1 t2 t3) ∧ w'.cell? ⟨bx, 6, none⟩ = some (.slice s1 s2 s3) ∧ w'.cell? ⟨bx, 7, none⟩ = some (.slice k1 k2 k3) ∧ w'.cell? ⟨bx, 8, none⟩ = some (.slice none 0 0) ∧ w'.cell? ⟨bx + 1, 0, none⟩ = some (.slice va vn vc) ∧ w'.cell? ⟨bx + 1, 1, none⟩ = some (.slice fa fn fc) ∧ w'.cell? ⟨bx + 1, 2, none⟩ = some (.slice ta tn tc) ∧ w'.cell? ⟨bx + 1, 3, none⟩ = some (.slice pa pn pc) ∧ w'.cell? ⟨b1, 0, none⟩ = some (.string nm) ∧ w'.cell? ⟨b1, 1, none⟩ = some (.slice ha hn hc) ∧ w'.cell? ⟨b1, 2, none⟩ = some (.slice ma mn mc) ∧ w'.cell? ⟨b1, 3, none⟩ = some (.slice r1 r2 r3) ∧ w'.cell? ⟨b1, 4, none⟩ = some (.slice a1 a2 a3) ∧ w'.cell? ⟨b1, 5, none⟩ = some (.slice t1 t2 t3) ∧ w'.cell? ⟨b1, 6, none⟩ = some (.slice s1 s2 s3) ∧ w'.cell? ⟨b1, 7, none⟩ = some (.slice k1 k2 k3) ∧ w'.cell? ⟨b1, 8, none⟩ = some (.slice none 0 0) ∧ w'.cell? ⟨b2, 0, none⟩ = some (.string nm) ∧ w'.cell? ⟨b2, 1, none⟩ = some (.slice ha hn hc) ∧ w'.cell? ⟨b2, 2, none⟩ = some (.slice ma mn mc) ∧ w'.cell? ⟨b2, 3, none⟩ = some (.slice r1 r2 r3) ∧ w'.cell? ⟨b2, 4, none⟩ = some (.slice a1 a2 a3) ∧ w'.cell? ⟨b2, 5, none⟩ = some (.slice t1 t2 t3) ∧ w'.cell? ⟨b2, 6, none⟩ = some (.slice s1 s2 s3) ∧ w'.cell? ⟨b2, 7, none⟩ = some (.slice k1 k2 k3) ∧ w'.cell? ⟨b2, 8, none⟩ = some (.slice none 0 0) ∧ w'.cell? ⟨b3, 0, none⟩ = some (.slice va vn vc) ∧ w'.cell? ⟨b3, 1, none⟩ = some (.slice fa fn fc) ∧ w'.cell? ⟨b3, 2, none⟩ = some (.slice ta tn tc) ∧ w'.cell? ⟨b3, 3, none⟩ = some (.slice none 0 0) ∧ uw1.grownBy w' none) uw1 := KY.out _ (gb_refl _ _)
      clear hH1
      have hH0 := hX0
      clear hX0
      refine wpAnyH_take (i := 7) (v := ?v52) rfl (by kernel_rfl) (by kernel_rfl) (by kernel_rfl) (fun _ _ _ h => h) (Or.inl ⟨by rfl, ?hy52⟩) (by assumption) ?rest52
      case hy52 => (intro wz hSw; (try dsimp only at hSw); have gz : uw1.grownBy wz none := hSw.2.2.2.2.2.2.2.2.2.2.2.2.2.2.2.2.2.2.2.2.2.2.2.2.2.2.2.2.2.2.2.2.2.2.2; have cz := conv_str wz o2 bs2.length u2 bs2 ((own_slr O2.out).keep0 gz); first | (go_simp; done) | (go_simp; with_reducible rfl))
      try simp only [Act.put, List.getElem_toArray, List.getElem_cons_succ, List.getElem_cons_zero, List.setIfInBounds_toArray, List.set_cons_zero, List.set_cons_succ]
      refine wpAnyH_take (i := 8) (v := ?v53) rfl (by kernel_rfl) (by kernel_rfl) (by kernel_rfl) (fun _ _ _ h => h) (Or.inl ⟨by rfl, ?hy53⟩) (by assumption) ?rest53
      case hy53 => (intro wz hSw; (try dsimp only at hSw); first | (go_simp; done) | (go_simp; with_reducible rfl))
      try simp only [Act.put, List.getElem_toArray, List.getElem_cons_succ, List.getElem_cons_zero, List.setIfInBounds_toArray, List.set_cons_zero, List.set_cons_succ]
      refine wpAnyH_ready (rs := [11]) (by kernel_rfl) (by simp) ?_
      refine AllReadyH.cons (o := _) rfl (fun K hK => ?_) AllReadyH.nil
      go_simp
      (with_reducible refine (EC.out _ (gb_trans J1.out (gb_trans U1.out Y0.out))).mono ?_)
      rintro e yw1 ⟨V3, rfl, o, g⟩
      have O3 := Lib.hid o
      clear o
      obtain ⟨o3, u3, rfl⟩ := own_shape O3.out
      have Y1 := Lib.hid (gb_trans Y0.out g)
      clear g
      try dsimp only
      refine hK.out _ _ (KY.out _ Y1.out) (fun hH1 => ?_)
      clear hK K hH0
      try simp only [Act.put, List.getElem_toArray, List.getElem_cons_succ, List.getElem_cons_zero, List.setIfInBounds_toArray, List.set_cons_zero, List.set_cons_succ]
      have KX := Lib.hid (fun (w' : World) (q0 : yw1.grownBy w' none) => (⟨(P1.out.keep0 (gb_trans J1.out (gb_trans U1.out (gb_trans Y1.out q0)))).cell 0, (P1.out.keep0 (gb_trans J1.out (gb_trans U1.out (gb_trans Y1.out q0)))).cell 1, (P1.out.keep0 (gb_trans J1.out (gb_trans U1.out (gb_trans Y1.out q0)))).cell 2, (P1.out.keep0 (gb_trans J1.out (gb_trans U1.out (gb_trans Y1.out q0)))).cell 3, (P1.out.keep0 (gb_trans J1.out (gb_trans U1.out (gb_trans Y1.out q0)))).cell 4, (P1.out.keep0 (gb_trans J1.out (gb_trans U1.out (gb_trans Y1.out q0)))).cell 5, (P1.out.keep0 (gb_trans J1.out (gb_trans U1.out (gb_trans Y1.out q0)))).cell 6, (P1.out.keep0 (gb_trans J1.out (gb_trans U1.out (gb_trans Y1.out q0)))).cell 7, (P1.out.keep0 (gb_trans J1.out (gb_trans U1.out (gb_trans Y1.out q0)))).cell 8, (P2.out.keep0 (gb_trans J1.out (gb_trans U1.out (gb_trans Y1.out q0)))).cell 0, (P2.out.keep0 (gb_trans J1.out (gb_trans U1.out (gb_trans Y1.out q0)))).cell 1, (P2.out.keep0 (gb_trans J1.out (gb_trans U1.out (gb_trans Y1.out q0)))).cell 2, (P2.out.keep0 (gb_trans J1.out (gb_trans U1.out (gb_trans Y1.out q0)))).cell 3, (D1.out.keep0 (gb_trans J1.out (gb_trans U1.out (gb_trans Y1.out q0)))).cell 0, (D1.out.keep0 (gb_trans J1.out (gb_trans U1.out (gb_trans Y1.out q0)))).cell 1, (D1.out.keep0 (gb_trans J1.out (gb_trans U1.out (gb_trans Y1.out q0)))).cell 2, (D1.out.keep0 (gb_trans J1.out (gb_trans U1.out (gb_trans Y1.out q0)))).cell 3, (D1.out.keep0 (gb_trans J1.out (gb_trans U1.out (gb_trans Y1.out q0)))).cell 4, (D1.out.keep0 (gb_trans J1.out (gb_trans U1.out (gb_trans Y1.out q0)))).cell 5, (D1.out.keep0 (gb_trans J1.out (gb_trans U1.out (gb_trans Y1.out q0)))).cell 6, (D1.out.keep0 (gb_trans J1.out (gb_trans U1.out (gb_trans Y1.out q0)))).cell 7, (D1.out.keep0 (gb_trans J1.out (gb_trans U1.out (gb_trans Y1.out q0)))).cell 8, (D2.out.keep0 (gb_trans J1.out (gb_trans U1.out (gb_trans Y1.out q0)))).cell 0, (D2.out.keep0 (gb_trans J1.out (gb_trans U1.out (gb_trans Y1.out q0)))).cell 1, (D2.out.keep0 (gb_trans J1.out (gb_trans U1.out (gb_trans Y1.out q0)))).cell 2, (D2.out.keep0 (gb_trans J1.out (gb_trans U1.out (gb_trans Y1.out q0)))).cell 3, (D2.out.keep0 (gb_trans J1.out (gb_trans U1.out (gb_trans Y1.out q0)))).cell 4, (D2.out.keep0 (gb_trans J1.out (gb_trans U1.out (gb_trans Y1.out q0)))).cell 5, (D2.out.keep0 (gb_trans J1.out (gb_trans U1.out (gb_trans Y1.out q0)))).cell 6, (D2.out.keep0 (gb_trans J1.out (gb_trans U1.out (gb_trans Y1.out q0)))).cell 7, (D2.out.keep0 (gb_trans J1.out (gb_trans U1.out (gb_trans Y1.out q0)))).cell 8, (D3.out.keep0 (gb_trans J1.out (gb_trans U1.out (gb_trans Y1.out q0)))).cell 0, (D3.out.keep0 (gb_trans J1.out (gb_trans U1.out (gb_trans Y1.out q0)))).cell 1, (D3.out.keep0 (gb_trans J1.out (gb_trans U1.out (gb_trans Y1.out q0)))).cell 2, (D3.out.keep0 (gb_trans J1.out (gb_trans U1.out (gb_trans Y1.out q0)))).cell 3, q0⟩ : (fun w' : World => w'.cell? ⟨bx, 0, none⟩ = some (.string nm) ∧ w'.cell? ⟨bx, 1, none⟩ = some (.slice ha hn hc) ∧ w'.cell? ⟨bx, 2, none⟩ = some (.slice ma mn mc) ∧ w'.cell? ⟨bx, 3, none⟩ = some (.slice r1 r2 r3) ∧ w'.cell? ⟨bx, 4, none⟩ = some (.slice a1 a2 a3) ∧ w'.cell? ⟨bx, 5, none⟩ = some (.slice t1 t2 t3) ∧ w'.cell? ⟨bx, 6, none⟩ = some (.slice s1 s2 s3) ∧ w'.cell? ⟨bx, 7, none⟩ = some (.slice k1 k2 k3) ∧ w'.cell? ⟨bx, 8, none⟩ = some (.slice none 0 0) ∧ w'.cell? ⟨bx + 1, 0, none⟩ = some (.slice va vn vc) ∧ w'.cell? ⟨bx + 1, 1, none⟩ = some (.slice fa fn fc) ∧ w'.cell? ⟨bx + 1, 2, none⟩ = some (.slice ta tn tc) ∧ w'.cell? ⟨bx + 1, 3, none⟩ = some (.slice pa pn pc) ∧ w'.cell? ⟨b1, 0, none⟩ = some (.string nm) ∧ w'.cell? ⟨b1, 1, none⟩ = some (.slice ha hn hc) ∧ w'.cell? ⟨b1, 2, none⟩ = some (.slice ma mn mc) ∧ w'.cell? ⟨b1, 3, none⟩ = some (.slice r1 r2 r3) ∧ w'.cell? ⟨b1, 4, none⟩ = some (.slice a1 a2 a3) ∧ w'.cell? ⟨b1, 5, none⟩ = some (.slice t1 t2 t3) ∧ w'.cell? ⟨b1, 6, none⟩ = some (.slice s1 s2 s3) ∧ w'.cell? ⟨b1, 7, none⟩ = some (.slice k1 k2 k3) ∧ w'.cell? ⟨b1, 8, none⟩ = some (.slice none 0 0) ∧ w'.cell? ⟨b2, 0, none⟩ = some (.string nm) ∧ w'.cell? ⟨b2, 1, none⟩ = some (.slice ha hn hc) ∧ w'.cell? ⟨b2, 2, none⟩ = some (.slice ma mn mc) ∧ w'.cell? ⟨b2, 3, none⟩ = some (.slice r1 r2 r3) ∧ w'.cell? ⟨b2, 4, none⟩ = some (.slice a1 a2 a3) ∧ w'.cell? ⟨b2, 5, none⟩ = some (.slice t1 t2 t3) ∧ w'.cell? ⟨b2, 6, none⟩ = some (.slice s1 s2 s3) ∧ w'.cell? ⟨b2, 7, none⟩ = some (.slice k1 k2 k3) ∧ w'.cell? ⟨b2, 8, none⟩ = some (.slice none 0 0) ∧ w'.cell? ⟨b3, 0, none⟩ = some (.slice va vn vc) ∧ w'.cell? ⟨b3, 1, none⟩ = some (.slice fa fn fc) ∧ w'.cell? ⟨b3, 2, none⟩ = some (.slice ta tn tc) ∧ w'.cell? ⟨b3, 3, none⟩ = some (.slice none 0 0) ∧ yw1.grownBy w' none) w'))
      refine wpAnyH_more (S2 := (fun w' : World => w'.cell? ⟨bx, 0, none⟩ = some (.string nm) ∧ w'.cell? ⟨bx, 1, none⟩ = some (.slice ha hn hc) ∧ w'.cell? ⟨bx, 2, none⟩ = some (.slice ma mn mc) ∧ w'.cell? ⟨bx, 3, none⟩ = some (.slice r1 r2 r3) ∧ w'.cell? ⟨bx, 4, none⟩ = some (.slice a1 a2 a3) ∧ w'.cell? ⟨bx, 5, none⟩ = some (.slice t1 t2 t3) ∧ w'.cell? ⟨bx, 6, none⟩ = some (.slice s1 s2 s3) ∧ w'.cell? ⟨bx, 7, none⟩ = some (.slice k1 k2 k3) ∧ w'.cell? ⟨bx, 8, none⟩ = some (.slice none 0 0) ∧ w'.cell? ⟨bx + 1, 0, none⟩ = some (.slice va vn vc) ∧ w'.cell? ⟨bx + 1, 1, none⟩ = some (.slice fa fn fc) ∧ w'.cell? ⟨bx + 1, 2, none⟩ = some (.slice ta tn tc) ∧ w'.cell? ⟨bx + 1, 3, none⟩ = some (.slice pa pn pc) ∧ w'.cell? ⟨b1, 0, none⟩ = some (.string nm) ∧ w'.cell? ⟨b1, 1, none⟩ = some (.slice ha hn hc) ∧ w'.cell? ⟨b1, 2, none⟩ = some (.slice ma mn mc) ∧ w'.cell? ⟨b1, 3, none⟩ = some (.slice r1 r2 r3) ∧ w'.cell? ⟨b1, 4, none⟩ = some (.slice a1 a2 a3) ∧ w'.cell? ⟨b1, 5, none⟩ = some (.slice t1 t2 t3) ∧ w'.cell? ⟨b1, 6, none⟩ = some (.slice s1 s2 s3) ∧ w'.cell? ⟨b1, 7, none⟩ = some (.slice k1 k2 k3) ∧ w'.cell? ⟨b1, 8, none⟩ = some (.slice none 0 0) ∧ w'.cell? ⟨b2, 0, none⟩ = some (.string nm) ∧ w'.cell? ⟨b2, 1, none⟩ = some (.slice ha hn hc) ∧ w'.cell? ⟨b2, 2, none⟩ = some (.slice ma mn mc) ∧ w'.cell? ⟨b2, 3, none⟩ = some (.slice r1 r2 r3) ∧ w'.cell? ⟨b2, 4, none⟩ = some (.slice a1 a2 a3) ∧ w'.cell? ⟨b2, 5, none⟩ = some (.slice t1 t2 t3) ∧ w'.cell? ⟨b2, 6, none⟩ = some (.slice s1 s2 s3) ∧ w'.cell? ⟨b2, 7, none⟩ = some (.slice k1 k2 k3) ∧ w'.cell? ⟨b2, 8, none⟩ = some (.slice none 0 0) ∧ w'.cell? ⟨b3, 0, none⟩ = some (.slice va vn vc) ∧ w'.cell? ⟨b3, 1, none⟩ = some (.slice fa fn fc) ∧ w'.cell? ⟨b3, 2, none⟩ = some (.slice ta tn tc) ∧ w'.cell? ⟨b3, 3, none⟩ = some (.slice none 0 0) ∧ yw1.grownBy w' none)) (fun _ h => ⟨h.1, h.2.1, h.2.2.1, h.2.2.2.1, h.2.2.2.2.1, h.2.2.2.2.2.1, h.2.2.2.2.2.2.1, h.2.2.2.2.2.2.2.1, h.2.2.2.2.2.2.2.2.1, h.2.2.2.2.2.2.2.2.2.1, h.2.2.2.2.2.2.2.2.2.2.1, h.2.2.2.2.2.2.2.2.2.2.2.1, h.2.2.2.2.2.2.2.2.2.2.2.2.1, h.2.2.2.2.2.2.2.2.2.2.2.2.2.1, h.2.2.2.2.2.2.2.2.2.2.2.2.2.2.1, h.2.2.2.2.2.2.2.2.2.2.2.2.2.2.2.1, h.2.2.2.2.2.2.2.2.2.2.2.2.2.2.2.2.1, h.2.2.2.2.2.2.2.2.2.2.2.2.2.2.2.2.2.1, h.2.2.2.2.2.2.2.2.2.2.2.2.2.2.2.2.2.2.1, h.2.2.2.2.2.2.2.2.2.2.2.2.2.2.2.2.2.2.2.1, h.2.2.2.2.2.2.2.2.2.2.2.2.2.2.2.2.2.2.2.2.1, h.2.2.2.2.2.2.2.2.2.2.2.2.2.2.2.2.2.2.2.2.2.1, h.2.2.2.2.2.2.2.2.2.2.2.2.2.2.2.2.2.2.2.2.2.2.1, h.2.2.2.2.2.2.2.2.2.2.2.2.2.2.2.2.2.2.2.2.2.2.2.1, h.2.2.2.2.2.2.2.2.2.2.2.2.2.2.2.2.2.2.2.2.2.2.2.2.1, h.2.2.2.2.2.2.2.2.2.2.2.2.2.2.2.2.2.2.2.2.2.2.2.2.2.1, h.2.2.2.2.2.2.2.2.2.2.2.2.2.2.2.2.2.2.2.2.2.2.2.2.2.2.1, h.2.2.2.2.2.2.2.2.2.2.2.2.2.2.2.2.2.2.2.2.2.2.2.2.2.2.2.1, h.2.2.2.2.2.2.2.2.2.2.2.2.2.2.2.2.2.2.2.2.2.2.2.2.2.2.2.2.1, h.2.2.2.2.2.2.2.2.2.2.2.2.2.2.2.2.2.2.2.2.2.2.2.2.2.2.2.2.2.1, h.2.2.2.2.2.2.2.2.2.2.2.2.2.2.2.2.2.2.2.2.2.2.2.2.2.2.2.2.2.2.1, h.2.2.2.2.2.2.2.2.2.2.2.2.2.2.2.2.2.2.2.2.2.2.2.2.2.2.2.2.2.2.2.1, h.2.2.2.2.2.2.2.2.2.2.2.2.2.2.2.2.2.2.2.2.2.2.2.2.2.2.2.2.2.2.2.2.1, h.2.2.2.2.2.2.2.2.2.2.2.2.2.2.2.2.2.2.2.2.2.2.2.2.2.2.2.2.2.2.2.2.2.1, h.2.2.2.2.2.2.2.2.2.2.2.2.2.2.2.2.2.2.2.2.2.2.2.2.2.2.2.2.2.2.2.2.2.2.1, gb_trans Y1.out (h.2.2.2.2.2.2.2.2.2.2.2.2.2.2.2.2.2.2.2.2.2.2.2.2.2.2.2.2.2.2.2.2.2.2.2)⟩) _ _ _ _ ?_
      have X0 := Lib.hid (gb_refl yw1 none)
      have hX0 : (fun w' : World => w'.cell? ⟨bx, 0, none⟩ = some (.string nm) ∧ w'.cell? ⟨bx, 1, none⟩ = some (.slice ha hn hc) ∧ w'.cell? ⟨bx, 2, none⟩ = some (.slice ma mn mc) ∧ w'.cell? ⟨bx, 3, none⟩ = some (.slice r1 r2 r3) ∧ w'.cell? ⟨bx, 4, none⟩ = some (.slice a1 a2 a3) ∧ w'.cell? ⟨bx, 5, none⟩ = some (.slice t1 t2 t3) ∧ w'.cell? ⟨bx, 6, none⟩ = some (.slice s1 s2 s3) ∧ w'.cell? ⟨bx, 7, none⟩ = some (.slice k1 k2 k3) ∧ w'.cell? ⟨bx, 8, none⟩ = some (.slice none 0 0) ∧ w'.cell? ⟨bx + 1, 0, none⟩ = some (.slice va vn vc) ∧ w'.cell? ⟨bx + 1, 1, none⟩ = some (.slice fa fn fc) ∧ w'.cell? ⟨bx + 1, 2, none⟩ = some (.slice ta tn tc) ∧ w'.cell? ⟨bx + 1, 3, none⟩ = some (.slice pa pn pc) ∧ w'.cell? ⟨b1, 0, none⟩ = some (.string nm) ∧ w'.cell? ⟨b1, 1, none⟩ = some (.slice ha hn hc) ∧ w'.cell? ⟨b1, 2, none⟩ = some (.slice ma mn mc) ∧ w'.cell? ⟨b1, 3, none⟩ = some (.slice r1 r2 r3) ∧ w'.cell? ⟨b1, 4, none⟩ = some (.slice a1 a2 a3) ∧ w'.cell? ⟨b1, 5, none⟩ = some (.slice t1 t2 t3) ∧ w'.cell? ⟨b1, 6, none⟩ = some (.slice s1 s2 s3) ∧ w'.cell? ⟨b1, 7, none⟩ = some (.slice k1 k2 k3) ∧ w'.cell? ⟨b1, 8, none⟩ = some (.slice none 0 0) ∧ w'.cell? ⟨b2, 0, none⟩ = some (.string nm) ∧ w'.cell? ⟨b2, 1, none⟩ = some (.slice ha hn hc) ∧ w'.cell? ⟨b2, 2, none⟩ = some (.slice ma mn mc) ∧ w'.cell? ⟨b2, 3, none⟩ = some (.slice r1 r2 r3) ∧ w'.cell? ⟨b2, 4, none⟩ = some (.slice a1 a2 a3) ∧ w'.cell? ⟨b2, 5, none⟩ = some (.slice t1 t2 t3) ∧ w'.cell? ⟨b2, 6, none⟩ = some (.slice s1 s2 s3) ∧ w'.cell? ⟨b2, 7, none⟩ = some (.slice k1 k2 k3) ∧ w'.cell? ⟨b2, 8, none⟩ = some (.slice none 0 0) ∧ w'.cell? ⟨b3, 0, none⟩ = some (.slice va vn vc) ∧ w'.cell? ⟨b3, 1, none⟩ = some (.slice fa fn fc) ∧ w'.cell? ⟨b3, 2, none⟩ = some (.slice ta tn tc) ∧ w'.cell? ⟨b3, 3, none⟩ = some (.slice none 0 0) ∧ yw1.grownBy w' none) yw1 := KX.out _ (gb_refl _ _)
      clear hH1
      have hH0 := hX0
      clear hX0
      refine wpAnyH_take (i := 12) (v := ?v54) rfl (by kernel_rfl) (by kernel_rfl) (by kernel_rfl) (fun _ _ _ h => h) (Or.inl ⟨by rfl, ?hy54⟩) (by assumption) ?rest54
      case hy54 => (intro wz hSw; (try dsimp only at hSw); have gz : yw1.grownBy wz none := hSw.2.2.2.2.2.2.2.2.2.2.2.2.2.2.2.2.2.2.2.2.2.2.2.2.2.2.2.2.2.2.2.2.2.2.2; have cz := conv_str wz o3 bs.length u3 bs ((own_slr O3.out).keep0 gz); first | (go_simp; done) | (go_simp; with_reducible rfl))
      try simp only [Act.put, List.getElem_toArray, List.getElem_cons_succ, List.getElem_cons_zero, List.setIfInBounds_toArray, List.set_cons_zero, List.set_cons_succ]
      refine wpAnyH_take (i := 13) (v := ?v55) rfl (by kernel_rfl) (by kernel_rfl) (by kernel_rfl) (fun _ _ _ h => h) (Or.inl ⟨by rfl, ?hy55⟩) (by assumption) ?rest55
      case hy55 => (intro wz hSw; (try dsimp only at hSw); first | (go_simp; done) | (go_simp; with_reducible rfl))
      try simp only [Act.put, List.getElem_toArray, List.getElem_cons_succ, List.getElem_cons_zero, List.setIfInBounds_toArray, List.set_cons_zero, List.set_cons_succ]
      refine wpAnyH_take (i := 14) (v := ?v56) rfl (by kernel_rfl) (by kernel_rfl) (by kernel_rfl) (fun _ _ _ h => h) (Or.inl ⟨by rfl, ?hy56⟩) (by assumption) ?rest56
      case hy56 => (intro wz hSw; (try dsimp only at hSw); first | (go_simp; done) | (go_simp; with_reducible rfl))
      try simp only [Act.put, List.getElem_toArray, List.getElem_cons_succ, List.getElem_cons_zero, List.setIfInBounds_toArray, List.set_cons_zero, List.set_cons_succ]
      refine wpAnyH_take (i := 15) (v := ?v57) rfl (by kernel_rfl) (by kernel_rfl) (by kernel_rfl) (fun _ _ _ h => h) (Or.inl ⟨by rfl, ?hy57⟩) (by assumption) ?rest57
      case hy57 => (intro wz hSw; (try dsimp only at hSw); first | (go_simp; done) | (go_simp; with_reducible rfl))
      try simp only [Act.put, List.getElem_toArray, List.getElem_cons_succ, List.getElem_cons_zero, List.setIfInBounds_toArray, List.set_cons_zero, List.set_cons_succ]
      refine wpAnyH_take (i := 16) (v := ?v58) rfl (by kernel_rfl) (by kernel_rfl) (by kernel_rfl) (fun _ _ _ h => h) (Or.inl ⟨by rfl, ?hy58⟩) (by assumption) ?rest58
      case hy58 => (intro wz hSw; (try dsimp only at hSw); first | (go_simp; done) | (go_simp; with_reducible rfl))
      try simp only [Act.put, List.getElem_toArray, List.getElem_cons_succ, List.getElem_cons_zero, List.setIfInBounds_toArray, List.set_cons_zero, List.set_cons_succ]
      refine wpAnyH_take (i := 18) (v := ?v59) rfl (by kernel_rfl) (by kernel_rfl) (by kernel_rfl) (fun _ _ _ h => h) (Or.inl ⟨by rfl, ?hy59⟩) (by assumption) ?rest59
      case hy59 => (intro wz hSw; (try dsimp only at hSw); first | (go_simp; done) | (go_simp; with_reducible rfl))
      try simp only [Act.put, List.getElem_toArray, List.getElem_cons_succ, List.getElem_cons_zero, List.setIfInBounds_toArray, List.set_cons_zero, List.set_cons_succ]
      refine wpAnyH_take (i := 19) (v := ?v60) rfl (by kernel_rfl) (by kernel_rfl) (by kernel_rfl) (fun _ _ _ h => h) (Or.inl ⟨by rfl, ?hy60⟩) (by assumption) ?rest60
      case hy60 => (intro wz hSw; (try dsimp only at hSw); first | (go_simp; done) | (go_simp; with_reducible rfl))
      try simp only [Act.put, List.getElem_toArray, List.getElem_cons_succ, List.getElem_cons_zero, List.setIfInBounds_toArray, List.set_cons_zero, List.set_cons_succ]
      refine wpAnyH_take (i := 22) (v := ?v61) rfl (by kernel_rfl) (by kernel_rfl) (by kernel_rfl) (fun _ _ _ h => h) (Or.inl ⟨by rfl, ?hy61⟩) (by assumption) ?rest61
      case hy61 => (intro wz hSw; (try dsimp only at hSw); first | (go_simp; done) | (go_simp; with_reducible rfl))
      try simp only [Act.put, List.getElem_toArray, List.getElem_cons_succ, List.getElem_cons_zero, List.setIfInBounds_toArray, List.set_cons_zero, List.set_cons_succ]
      refine wpAnyH_take (i := 23) (v := ?v62) rfl (by kernel_rfl) (by kernel_rfl) (by kernel_rfl) (fun _ _ _ h => h) (Or.inl ⟨by rfl, ?hy62⟩) (by assumption) ?rest62
      case hy62 => (intro wz hSw; (try dsimp only at hSw); first | (go_simp; done) | (go_simp; with_reducible rfl))
      try simp only [Act.put, List.getElem_toArray, List.getElem_cons_succ, List.getElem_cons_zero, List.setIfInBounds_toArray, List.set_cons_zero, List.set_cons_succ]
      refine wpAnyH_ready (rs := [17]) (by kernel_rfl) (by simp) ?_
      refine AllReadyH.cons (o := _) rfl (fun K hK => ?_) AllReadyH.nil
      go_simp
      (with_reducible refine (ZA.out _ (gb_trans J1.out (gb_trans U1.out (gb_trans Y1.out X0.out)))).mono ?_)
      rintro e xw1 ⟨rfl, g⟩
      have X1 := Lib.hid (gb_trans X0.out g)
      clear g
      try dsimp only
      refine hK.out _ _ (KX.out _ X1.out) (fun hH1 => ?_)
      clear hK K hH0
      try simp only [Act.put, List.getElem_toArray, List.getElem_cons_succ, List.getElem_cons_zero, List.setIfInBounds_toArray, List.set_cons_zero, List.set_cons_succ]
      refine wpAnyH_ready (rs := [20]) (by kernel_rfl) (by simp) ?_
      refine AllReadyH.cons (o := _) rfl (fun K hK => ?_) AllReadyH.nil
      go_simp
      (with_reducible refine (ZB.out _ (gb_trans J1.out (gb_trans U1.out (gb_trans Y1.out X1.out)))).mono ?_)
      rintro e xw2 ⟨rfl, g⟩
      have X2 := Lib.hid (gb_trans X1.out g)
      clear g
      try dsimp only
      refine hK.out _ _ (KX.out _ X2.out) (fun hH2 => ?_)
      clear hK K hH1
      try simp only [Act.put, List.getElem_toArray, List.getElem_cons_succ, List.getElem_cons_zero, List.setIfInBounds_toArray, List.set_cons_zero, List.set_cons_succ]
      refine wpAnyH_take (i := 21) (v := ?v63) rfl (by kernel_rfl) (by kernel_rfl) (by kernel_rfl) (fun _ _ _ h => h) (Or.inl ⟨by rfl, ?hy63⟩) (by assumption) ?rest63
      case hy63 => (intro wz hSw; (try dsimp only at hSw); first | (go_simp; done) | (go_simp; with_reducible rfl))
      try simp only [Act.put, List.getElem_toArray, List.getElem_cons_succ, List.getElem_cons_zero, List.setIfInBounds_toArray, List.set_cons_zero, List.set_cons_succ]
      refine wpAnyH_ready (rs := [24]) (by kernel_rfl) (by simp) ?_
      refine AllReadyH.cons (o := _) rfl (fun K hK => ?_) AllReadyH.nil
      go_simp
      (with_reducible refine (ZC.out _ (gb_trans J1.out (gb_trans U1.out (gb_trans Y1.out X2.out)))).mono ?_)
      rintro e xw3 ⟨rfl, g⟩
      have X3 := Lib.hid (gb_trans X2.out g)
      clear g
      try dsimp only
      refine hK.out _ _ (KX.out _ X3.out) (fun hH3 => ?_)
      clear hK K hH2
      try simp only [Act.put, List.getElem_toArray, List.getElem_cons_succ, List.getElem_cons_zero, List.setIfInBounds_toArray, List.set_cons_zero, List.set_cons_succ]
      refine wpAnyH_take (i := 25) (v := ?v64) rfl (by kernel_rfl) (by kernel_rfl) (by kernel_rfl) (fun _ _ _ h => h) (Or.inl ⟨by rfl, ?hy64⟩) (by assumption) ?rest64
      case hy64 => (intro wz hSw; (try dsimp only at hSw); first | (go_simp; done) | (go_simp; with_reducible rfl))
      try simp only [Act.put, List.getElem_toArray, List.getElem_cons_succ, List.getElem_cons_zero, List.setIfInBounds_toArray, List.set_cons_zero, List.set_cons_succ]
      refine wpAnyH_take (i := 26) (v := ?v65) rfl (by kernel_rfl) (by kernel_rfl) (by kernel_rfl) (fun _ _ _ h => h) (Or.inl ⟨by rfl, ?hy65⟩) (by assumption) ?rest65
      case hy65 => (intro wz hSw; (try dsimp only at hSw); first | (go_simp; done) | (go_simp; with_reducible rfl))
      try simp only [Act.put, List.getElem_toArray, List.getElem_cons_succ, List.getElem_cons_zero, List.setIfInBounds_toArray, List.set_cons_zero, List.set_cons_succ]
      refine wpAnyH_take (i := 27) (v := ?v66) rfl (by kernel_rfl) (by kernel_rfl) (by kernel_rfl) (fun _ _ _ h => h) (Or.inl ⟨by rfl, ?hy66⟩) (by assumption) ?rest66
      case hy66 => (intro wz hSw; (try dsimp only at hSw); first | (go_simp; done) | (go_simp; with_reducible rfl))
      try simp only [Act.put, List.getElem_toArray, List.getElem_cons_succ, List.getElem_cons_zero, List.setIfInBounds_toArray, List.set_cons_zero, List.set_cons_succ]
      refine wpAnyH_ready (rs := [28]) (by kernel_rfl) (by simp) ?_
      refine AllReadyH.cons (o := _) rfl (fun K hK => ?_) AllReadyH.nil
      go_simp
      (with_reducible refine (awake_any _).mono ?_)
      rintro e xw4 ⟨rfl, g⟩
      have X4 := Lib.hid (gb_trans X3.out g)
      clear g
      try dsimp only
      refine hK.out _ _ (KX.out _ X4.out) (fun hH4 => ?_)
      clear hK K hH3
      try simp only [Act.put, List.getElem_toArray, List.getElem_cons_succ, List.getElem_cons_zero, List.setIfInBounds_toArray, List.set_cons_zero, List.set_cons_succ]
      refine wpAnyH_take (i := 29) (v := ?v67) rfl (by kernel_rfl) (by kernel_rfl) (by kernel_rfl) (fun _ _ _ h => h) (Or.inl ⟨by rfl, ?hy67⟩) (by assumption) ?rest67
      case hy67 => (intro wz hSw; (try dsimp only at hSw); first | (go_simp; done) | (go_simp; with_reducible rfl))
      try simp only [Act.put, List.getElem_toArray, List.getElem_cons_succ, List.getElem_cons_zero, List.setIfInBounds_toArray, List.set_cons_zero, List.set_cons_succ]
      refine wpAnyH_take (i := 30) (v := ?v68) rfl (by kernel_rfl) (by kernel_rfl) (by kernel_rfl) (fun _ _ _ h => h) (Or.inl ⟨by rfl, ?hy68⟩) (by assumption) ?rest68
      case hy68 => (intro wz hSw; (try dsimp only at hSw); first | (go_simp; done) | (go_simp; with_reducible rfl))
      try simp only [Act.put, List.getElem_toArray, List.getElem_cons_succ, List.getElem_cons_zero, List.setIfInBounds_toArray, List.set_cons_zero, List.set_cons_succ]
      refine wpAnyH_done (by kernel_rfl) ?_ _
      clear hH4
      go_wp2
      go_ret
      exact ⟨rfl, gb_trans GS.out (gb_trans J1.out (gb_trans U1.out (gb_trans Y1.out X4.out)))⟩
end Go.Proofs.Ytglgjkggjpfahaa
