/- Entries: the law Exact; no condition. -/
import Derived.Test.YtgdefahnmgonlaaEnN
import Derived.Test.YtgdefahnmgonlaaOrU
import Derived.Test.YtgdefahnmgonlaaOwnU
import Derived.Test.YtgdefahnmgonlaaOrS
import Derived.Test.YtgdefahnmgonlaaTbI
import Derived.Deep.QuietTactic
import Derived.BigQuiet
namespace Go.Proofs.Ytgdefahnmgonlaa
open Go.RowKit
set_option linter.unusedVariables false
theorem far4 {w : World} {g b : Nat} {t : TypeId} {cs : Array Value} {u0 u1 u2 u3 : Value} (h : IsB w g t cs) (hn : g ≠ b) : IsB ((((w.setCell ⟨b, 0, none⟩ u0).setCell ⟨b, 1, none⟩ u1).setCell ⟨b, 2, none⟩ u2).setCell ⟨b, 3, none⟩ u3) g t cs :=
  (((h.set_far hn 0 u0).set_far hn 1 u1).set_far hn 2 u2).set_far hn 3 u3
theorem fill4 {w : World} {b : Nat} {t : TypeId} {z0 z1 z2 z3 : Value} (h : IsB w b t #[z0, z1, z2, z3]) (u0 u1 u2 u3 : Value) : IsB ((((w.setCell ⟨b, 0, none⟩ u0).setCell ⟨b, 1, none⟩ u1).setCell ⟨b, 2, none⟩ u2).setCell ⟨b, 3, none⟩ u3) b t #[u0, u1, u2, u3] :=
  (((h.set 0 u0).set 1 u1).set 2 u2).set 3 u3
theorem grow4 {w0 w : World} {b : Nat} {u0 u1 u2 u3 : Value} (g : w0.grownBy w none) (h : w0.heap.size ≤ b) : w0.grownBy ((((w.setCell ⟨b, 0, none⟩ u0).setCell ⟨b, 1, none⟩ u1).setCell ⟨b, 2, none⟩ u2).setCell ⟨b, 3, none⟩ u3) none :=
  gb_put (gb_put (gb_put (gb_put g h) h) h) h
theorem own_some23 {w : World} {base n c : Nat} {a : Option Addr} {L : List Int} (h : NU w base (.slice a n c) L) (hn : 0 < n) : ∃ g, a = some ⟨g, 0, none⟩ := by
  rcases h.2 with ⟨q, _⟩ | ⟨g, cap, cur, q, _⟩
  · injection q with q1 q2 _
    omega
  · injection q with q1 _ _
    exact ⟨g, q1⟩
set_option maxRecDepth 100000 in
set_option maxHeartbeats 40000000 in
theorem exact_walk (w : World) (X : PX) (P : Pg) (hp : SP w X P) (t : Int) (Ya Yb : EX) (a b : En) (ka : Option Addr) (kn kc : Nat) (key : List Int) (ha : SE w Ya a) (hb : SE w Yb b) (hk : SU w ka kn kc key) : Calls Try.prog 8 #[.agg #[.string X.nm, .slice X.ha X.hn X.hc, .slice X.ma X.mn X.mc, .slice X.ra X.rn X.rc, .slice X.aa X.an X.ac, .slice X.ta X.tn X.tc, .slice X.sa X.sn X.sc, .slice X.ca X.cn X.cc, .slice X.da X.dn X.dc], .int .i64 t, .agg #[.slice Ya.ka Ya.kn Ya.kc, .int .i64 a.pr, .int .i64 a.ac, .slice Ya.ra Ya.rn Ya.rc, .slice Yb.ka Yb.kn Yb.kc, .int .i64 b.pr, .int .i64 b.ac, .slice Yb.ra Yb.rn Yb.rc, .slice ka kn kc]] w (RetV (.bool true) w) := by
  have HP := Lib.hid hp
  have HA := Lib.hid ha
  have HB := Lib.hid hb
  have HK := Lib.hid hk
  have G1 := Lib.hid (gb_trans (gb_alloc w (.cells #[.string X.nm, .slice X.ha X.hn X.hc, .slice X.ma X.mn X.mc, .slice X.ra X.rn X.rc, .slice X.aa X.an X.ac, .slice X.ta X.tn X.tc, .slice X.sa X.sn X.sc, .slice X.ca X.cn X.cc, .slice X.da X.dn X.dc] 31) none) (gb_alloc _ (.cells #[.slice Ya.ka Ya.kn Ya.kc, .int .i64 a.pr, .int .i64 a.ac, .slice Ya.ra Ya.rn Ya.rc, .slice Yb.ka Yb.kn Yb.kc, .int .i64 b.pr, .int .i64 b.ac, .slice Yb.ra Yb.rn Yb.rc, .slice ka kn kc] 54) none))
  have B1 := (IsB.new w 31 #[.string X.nm, .slice X.ha X.hn X.hc, .slice X.ma X.mn X.mc, .slice X.ra X.rn X.rc, .slice X.aa X.an X.ac, .slice X.ta X.tn X.tc, .slice X.sa X.sn X.sc, .slice X.ca X.cn X.cc, .slice X.da X.dn X.dc]).alloc (.cells #[.slice Ya.ka Ya.kn Ya.kc, .int .i64 a.pr, .int .i64 a.ac, .slice Ya.ra Ya.rn Ya.rc, .slice Yb.ka Yb.kn Yb.kc, .int .i64 b.pr, .int .i64 b.ac, .slice Yb.ra Yb.rn Yb.rc, .slice ka kn kc] 54)
  have B2 := IsB.new (w.alloc (.cells #[.string X.nm, .slice X.ha X.hn X.hc, .slice X.ma X.mn X.mc, .slice X.ra X.rn X.rc, .slice X.aa X.an X.ac, .slice X.ta X.tn X.tc, .slice X.sa X.sn X.sc, .slice X.ca X.cn X.cc, .slice X.da X.dn X.dc] 31)) 54 #[.slice Ya.ka Ya.kn Ya.kc, .int .i64 a.pr, .int .i64 a.ac, .slice Ya.ra Ya.rn Ya.rc, .slice Yb.ka Yb.kn Yb.kc, .int .i64 b.pr, .int .i64 b.ac, .slice Yb.ra Yb.rn Yb.rc, .slice ka kn kc]
  simp only [sz_al] at B2
  replace B1 := Lib.hid B1
  replace B2 := Lib.hid B2
  clear hp ha hb hk
  go_enter Try.func8, Try.ntmps8
  go_upto_region 1 with fail
  generalize (w.alloc (.cells #[.string X.nm, .slice X.ha X.hn X.hc, .slice X.ma X.mn X.mc, .slice X.ra X.rn X.rc, .slice X.aa X.an X.ac, .slice X.ta X.tn X.tc, .slice X.sa X.sn X.sc, .slice X.ca X.cn X.cc, .slice X.da X.dn X.dc] 31)).alloc (.cells #[.slice Ya.ka Ya.kn Ya.kc, .int .i64 a.pr, .int .i64 a.ac, .slice Ya.ra Ya.rn Ya.rc, .slice Yb.ka Yb.kn Yb.kc, .int .i64 b.pr, .int .i64 b.ac, .slice Yb.ra Yb.rn Yb.rc, .slice ka kn kc] 54) = w1 at *
  obtain ⟨bx, hbx⟩ : ∃ b, b = w.heap.size := ⟨_, rfl⟩
  have Lbx := Lib.hid (show w.heap.size ≤ bx by rw [hbx]; exact Nat.le_refl _)
  rw [← hbx] at B1 B2 ⊢
  clear hbx
  have KV := Lib.hid (fun (w' : World) (q0 : w1.grownBy w' none) => (⟨(B2.out.keep0 q0).cell 0, (B2.out.keep0 q0).cell 1, (B2.out.keep0 q0).cell 2, (B2.out.keep0 q0).cell 3, (B2.out.keep0 q0).cell 4, (B2.out.keep0 q0).cell 5, (B2.out.keep0 q0).cell 6, (B2.out.keep0 q0).cell 7, q0⟩ : (fun w' : World => w'.cell? ⟨bx + 1, 0, none⟩ = some (.slice Ya.ka Ya.kn Ya.kc) ∧ w'.cell? ⟨bx + 1, 1, none⟩ = some (.int .i64 a.pr) ∧ w'.cell? ⟨bx + 1, 2, none⟩ = some (.int .i64 a.ac) ∧ w'.cell? ⟨bx + 1, 3, none⟩ = some (.slice Ya.ra Ya.rn Ya.rc) ∧ w'.cell? ⟨bx + 1, 4, none⟩ = some (.slice Yb.ka Yb.kn Yb.kc) ∧ w'.cell? ⟨bx + 1, 5, none⟩ = some (.int .i64 b.pr) ∧ w'.cell? ⟨bx + 1, 6, none⟩ = some (.int .i64 b.ac) ∧ w'.cell? ⟨bx + 1, 7, none⟩ = some (.slice Yb.ra Yb.rn Yb.rc) ∧ w1.grownBy w' none) w'))
  have V0 := Lib.hid (gb_drew w1 none)
  refine wp_region_held_drew (S := (fun w' : World => w'.cell? ⟨bx + 1, 0, none⟩ = some (.slice Ya.ka Ya.kn Ya.kc) ∧ w'.cell? ⟨bx + 1, 1, none⟩ = some (.int .i64 a.pr) ∧ w'.cell? ⟨bx + 1, 2, none⟩ = some (.int .i64 a.ac) ∧ w'.cell? ⟨bx + 1, 3, none⟩ = some (.slice Ya.ra Ya.rn Ya.rc) ∧ w'.cell? ⟨bx + 1, 4, none⟩ = some (.slice Yb.ka Yb.kn Yb.kc) ∧ w'.cell? ⟨bx + 1, 5, none⟩ = some (.int .i64 b.pr) ∧ w'.cell? ⟨bx + 1, 6, none⟩ = some (.int .i64 b.ac) ∧ w'.cell? ⟨bx + 1, 7, none⟩ = some (.slice Yb.ra Yb.rn Yb.rc) ∧ w1.grownBy w' none)) (by kernel_rfl) (KV.out _ V0.out) (fun hH0 => ?_)
  refine wpAnyH_take (i := 0) (v := ?v77) rfl (by kernel_rfl) (by kernel_rfl) (by kernel_rfl) (fun _ _ _ h => h) (Or.inl ⟨by rfl, ?hy77⟩) (by assumption) ?rest77
  case hy77 => (intro wz hSw; (try dsimp only at hSw); first | (go_simp; done) | (go_simp; with_reducible rfl))
  try simp only [Act.put, List.getElem_toArray, List.getElem_cons_zero, List.setIfInBounds_toArray, List.set_cons_zero, List.set_cons_succ]
  refine wpAnyH_take (i := 1) (v := ?v78) rfl (by kernel_rfl) (by kernel_rfl) (by kernel_rfl) (fun _ _ _ h => h) (Or.inl ⟨by rfl, ?hy78⟩) (by assumption) ?rest78
  case hy78 => (intro wz hSw; (try dsimp only at hSw); first | (go_simp; done) | (go_simp; with_reducible rfl))
  try simp only [Act.put, List.getElem_toArray, List.getElem_cons_succ, List.getElem_cons_zero, List.setIfInBounds_toArray, List.set_cons_zero, List.set_cons_succ]
  refine wpAnyH_take (i := 2) (v := ?v79) rfl (by kernel_rfl) (by kernel_rfl) (by kernel_rfl) (fun _ _ _ h => h) (Or.inl ⟨by rfl, ?hy79⟩) (by assumption) ?rest79
  case hy79 => (intro wz hSw; (try dsimp only at hSw); first | (go_simp; done) | (go_simp; with_reducible rfl))
  try simp only [Act.put, List.getElem_toArray, List.getElem_cons_succ, List.getElem_cons_zero, List.setIfInBounds_toArray, List.set_cons_zero, List.set_cons_succ]
  refine wpAnyH_take (i := 3) (v := ?v80) rfl (by kernel_rfl) (by kernel_rfl) (by kernel_rfl) (fun _ _ _ h => h) (Or.inl ⟨by rfl, ?hy80⟩) (by assumption) ?rest80
  case hy80 => (intro wz hSw; (try dsimp only at hSw); first | (go_simp; done) | (go_simp; with_reducible rfl))
  try simp only [Act.put, List.getElem_toArray, List.getElem_cons_succ, List.getElem_cons_zero, List.setIfInBounds_toArray, List.set_cons_zero, List.set_cons_succ]
  refine wp_two (r1 := #[.slice Ya.ka Ya.kn Ya.kc, .int .i64 a.pr, .int .i64 a.ac, .slice Ya.ra Ya.rn Ya.rc]) (r2 := #[.slice Yb.ka Yb.kn Yb.kc, .int .i64 b.pr, .int .i64 b.ac, .slice Yb.ra Yb.rn Yb.rc]) (z := #[.slice none 0 0, .int .i64 0, .int .i64 0, .slice none 0 0]) (s1 := 7) (s2 := 8) (t := 37) w1.drew _ _ ?step ?fin (gb_refl _ _) rfl
  case step =>
    clear hH0
    rintro l A W ⟨f1, f2, g1, g2, v1, v2, rfl, rfl, gw, h1, h2, d1, z1, z2⟩ i hi
    obtain ⟨un, o, ho, hall⟩ := mem_ready.1 hi
    clear hi
    have GW := Lib.hid gw
    have H1 := Lib.hid h1
    have H2 := Lib.hid h2
    clear gw h1 h2
    have hlt : i < 8 := by
      obtain ⟨q, _⟩ := Array.getElem?_eq_some_iff.1 ho
      exact q
    rcases (show i = 0 ∨ i = 1 ∨ i = 2 ∨ i = 3 ∨ i = 4 ∨ i = 5 ∨ i = 6 ∨ i = 7 by omega) with rfl | rfl | rfl | rfl | rfl | rfl | rfl | rfl
    · exact absurd un (by simp)
    · exact absurd un (by simp)
    · exact absurd un (by simp)
    · exact absurd un (by simp)
    · have un : f1 = false := by simpa using un
      subst un
      obtain rfl : g1 = false := z1 rfl
      refine wpOp_step (o := _) rfl (fun K2 hK2 => ?_)
      have HK2 := Lib.hid hK2
      clear hK2 ho hall
      simp only [Act.put, List.getElem_toArray, List.setIfInBounds_toArray, List.set_cons_zero, List.set_cons_succ]
      go_simp
      refine HK2.out _ _ ⟨KV.out _ (gb_trans (gb_drew w1 none) (gb_trans GW.out (gb_alloc _ _ none))), true, f2, false, g2, (.pointer (some ⟨W.heap.size, 0, none⟩)), v2, by simp, by first | rfl | (simp [Act.put]; done), gb_trans GW.out (gb_alloc _ _ none), CH3.new GW.out, H2.out.alloc _, (fun _ e => Ne.symm (H2.out.ne e)), (fun e => by cases e), z2⟩
    · have un : f2 = false := by simpa using un
      subst un
      obtain rfl : g2 = false := z2 rfl
      refine wpOp_step (o := _) rfl (fun K2 hK2 => ?_)
      have HK2 := Lib.hid hK2
      clear hK2 ho hall
      simp only [Act.put, List.getElem_toArray, List.setIfInBounds_toArray, List.set_cons_zero, List.set_cons_succ]
      go_simp
      refine HK2.out _ _ ⟨KV.out _ (gb_trans (gb_drew w1 none) (gb_trans GW.out (gb_alloc _ _ none))), f1, true, g1, false, v1, (.pointer (some ⟨W.heap.size, 0, none⟩)), by simp, by first | rfl | (simp [Act.put]; done), gb_trans GW.out (gb_alloc _ _ none), H1.out.alloc _, CH3.new GW.out, (fun e _ => H1.out.ne e), z1, (fun e => by cases e)⟩
    · have un : g1 = false := by simpa using un
      subst un
      have fl : f1 = true := by
        have o2 : o = _ := (Option.some.inj ho).symm
        subst o2
        have q := hall ⟨4, .data⟩ (by simp) rfl
        simpa using q
      subst fl
      obtain ⟨bq, rfl, hb2, hb3⟩ := H1.out rfl
      have HB3 := Lib.hid (show IsB W bq 37 #[.slice none 0 0, .int .i64 0, .int .i64 0, .slice none 0 0] from hb3)
      have SB := Lib.hid (fill4 HB3.out (.slice Ya.ka Ya.kn Ya.kc) (.int .i64 a.pr) (.int .i64 a.ac) (.slice Ya.ra Ya.rn Ya.rc))
      have fr0 := HB3.out.free 0
      have fr1 := HB3.out.free 1
      have fr2 := HB3.out.free 2
      have fr3 := HB3.out.free 3
      have cr0 := HB3.out.cell 0
      have cr1 := HB3.out.cell 1
      have cr2 := HB3.out.cell 2
      have cr3 := HB3.out.cell 3
      dsimp at cr0 cr1 cr2 cr3
      refine wpOp_step (o := _) rfl (fun K2 hK2 => ?_)
      have HK2 := Lib.hid hK2
      clear hK2 ho hall hb3
      simp only [Act.put, List.getElem_toArray, List.setIfInBounds_toArray, List.set_cons_zero, List.set_cons_succ]
      go_simp
      refine HK2.out _ _ ⟨KV.out _ (gb_trans (gb_drew w1 none) (grow4 GW.out hb2)), true, f2, true, g2, (.pointer (some ⟨bq, 0, none⟩)), v2, by simp, by first | rfl | (simp [Act.put]; done), grow4 GW.out hb2, (fun _ => ⟨bq, rfl, hb2, SB.out⟩), (fun e => by obtain ⟨b2, q1, q2, q3⟩ := H2.out e; exact ⟨b2, q1, q2, by have NN : b2 ≠ bq := (fun ee => (Ne.symm (d1 rfl e)) (by rw [q1, ee])); exact far4 q3 NN⟩), d1, (fun e => by cases e), z2⟩
    · have un : g2 = false := by simpa using un
      subst un
      have fl : f2 = true := by
        have o2 : o = _ := (Option.some.inj ho).symm
        subst o2
        have q := hall ⟨5, .data⟩ (by simp) rfl
        simpa using q
      subst fl
      obtain ⟨bq, rfl, hb2, hb3⟩ := H2.out rfl
      have HB3 := Lib.hid (show IsB W bq 37 #[.slice none 0 0, .int .i64 0, .int .i64 0, .slice none 0 0] from hb3)
      have SB := Lib.hid (fill4 HB3.out (.slice Yb.ka Yb.kn Yb.kc) (.int .i64 b.pr) (.int .i64 b.ac) (.slice Yb.ra Yb.rn Yb.rc))
      have fr0 := HB3.out.free 0
      have fr1 := HB3.out.free 1
      have fr2 := HB3.out.free 2
      have fr3 := HB3.out.free 3
      have cr0 := HB3.out.cell 0
      have cr1 := HB3.out.cell 1
      have cr2 := HB3.out.cell 2
      have cr3 := HB3.out.cell 3
      dsimp at cr0 cr1 cr2 cr3
      refine wpOp_step (o := _) rfl (fun K2 hK2 => ?_)
      have HK2 := Lib.hid hK2
      clear hK2 ho hall hb3
      simp only [Act.put, List.getElem_toArray, List.setIfInBounds_toArray, List.set_cons_zero, List.set_cons_succ]
      go_simp
      refine HK2.out _ _ ⟨KV.out _ (gb_trans (gb_drew w1 none) (grow4 GW.out hb2)), f1, true, g1, true, v1, (.pointer (some ⟨bq, 0, none⟩)), by simp, by first | rfl | (simp [Act.put]; done), grow4 GW.out hb2, (fun e => by obtain ⟨b2, q1, q2, q3⟩ := H1.out e; exact ⟨b2, q1, q2, by have NN : b2 ≠ bq := (fun ee => (d1 e rfl) (by rw [q1, ee])); exact far4 q3 NN⟩), (fun _ => ⟨bq, rfl, hb2, SB.out⟩), d1, z1, (fun e => by cases e)⟩
  case fin =>
    clear hH0
    rintro l A W ⟨f1, f2, g1, g2, v1, v2, rfl, rfl, gw, h1, h2, d1, z1, z2⟩ hr
    obtain ⟨rfl, rfl, rfl, rfl⟩ : f1 = true ∧ f2 = true ∧ g1 = true ∧ g2 = true := by
      clear h1 h2 d1 z1 z2 gw
      revert hr
      cases f1 <;> cases f2 <;> cases g1 <;> cases g2 <;> first | exact fun _ => ⟨rfl, rfl, rfl, rfl⟩ | exact fun hr => absurd hr (by decide +kernel)
    obtain ⟨b1, rfl, _, e1⟩ := h1 rfl
    obtain ⟨b2, rfl, _, e2⟩ := h2 rfl
    have E1 := Lib.hid (show IsB W b1 37 #[.slice Ya.ka Ya.kn Ya.kc, .int .i64 a.pr, .int .i64 a.ac, .slice Ya.ra Ya.rn Ya.rc] from e1)
    have E2 := Lib.hid (show IsB W b2 37 #[.slice Yb.ka Yb.kn Yb.kc, .int .i64 b.pr, .int .i64 b.ac, .slice Yb.ra Yb.rn Yb.rc] from e2)
    have GW := Lib.hid (gb_trans (gb_drew w1 none) gw)
    replace B1 := Lib.hid (B1.out.keep0 GW.out)
    have KY := Lib.hid (B2.out.keep0 GW.out)
    have GZ := Lib.hid (gb_trans G1.out GW.out)
    have HI := Lib.hid (fun (V : World) (g : W.grownBy V none) => (⟨HP.out.keep0 (gb_trans GZ.out g), HA.out.keep0 (gb_trans GZ.out g), HB.out.keep0 (gb_trans GZ.out g), HK.out.keep0 (gb_trans GZ.out g)⟩ : SP V X P ∧ SE V Ya a ∧ SE V Yb b ∧ SU V ka kn kc key))
    clear e1 e2 gw d1 z1 z2 hr h1 h2 KV B2 HP HA HB HK
    simp only [Act.put, List.getElem_toArray, List.setIfInBounds_toArray, List.set_cons_zero, List.set_cons_succ]
    have Sa := Lib.hid (fun V => smallx_any V Ya a)
    have Sb := Lib.hid (fun V => smallx_any V Yb b)
    obtain ⟨sa, hsa⟩ : ∃ s, s = decide (Ya.kn ≤ 10 ∧ Ya.rn ≤ 10) := ⟨_, rfl⟩
    obtain ⟨sb, hsb⟩ : ∃ s, s = decide (Yb.kn ≤ 10 ∧ Yb.rn ≤ 10) := ⟨_, rfl⟩
    rw [← hsa] at Sa
    rw [← hsb] at Sb
    have NA := Lib.hid hsa
    have NB := Lib.hid hsb
    clear hsa hsb
    have c0 := (B1.out.keep0 (gb_refl _ _)).cell 0
    have c1 := (B1.out.keep0 (gb_refl _ _)).cell 1
    have c2 := (B1.out.keep0 (gb_refl _ _)).cell 2
    have c3 := (B1.out.keep0 (gb_refl _ _)).cell 3
    have c4 := (B1.out.keep0 (gb_refl _ _)).cell 4
    have c5 := (B1.out.keep0 (gb_refl _ _)).cell 5
    have c6 := (B1.out.keep0 (gb_refl _ _)).cell 6
    have c7 := (B1.out.keep0 (gb_refl _ _)).cell 7
    have c8 := (B1.out.keep0 (gb_refl _ _)).cell 8
    dsimp at c0 c1 c2 c3 c4 c5 c6 c7 c8
    have p8 := (KY.out.keep0 (gb_refl _ _)).cell 8
    dsimp at p8
    have d0 := (E1.out.keep0 (gb_refl _ _)).cell 0
    have d1 := (E1.out.keep0 (gb_refl _ _)).cell 1
    have d2 := (E1.out.keep0 (gb_refl _ _)).cell 2
    have d3 := (E1.out.keep0 (gb_refl _ _)).cell 3
    dsimp at d0 d1 d2 d3
    have e0 := (E2.out.keep0 (gb_refl _ _)).cell 0
    have e1 := (E2.out.keep0 (gb_refl _ _)).cell 1
    have e2 := (E2.out.keep0 (gb_refl _ _)).cell 2
    have e3 := (E2.out.keep0 (gb_refl _ _)).cell 3
    dsimp at e0 e1 e2 e3
    go_wp2_with fail
    refine (small_any W X P (HI.out _ (gb_refl _ _)).1).mono ?_
    rintro e w2 ⟨s0, rfl, g, hq⟩
    have G2 := Lib.hid g
    have HQ := Lib.hid hq
    clear g hq
    clear c0 c1 c2 c3 c4 c5 c6 c7 c8 p8 d0 d1 d2 d3 e0 e1 e2 e3
    cases s0
    · go_wp2_with fail
      refine (works_any _).mono ?_
      rintro e w9 ⟨rfl, g⟩
      have G9 := Lib.hid (gb_trans G2.out g)
      clear g
      go_wp2
      go_ret
      exact ⟨rfl, gb_trans GZ.out G9.out⟩
    · have ZZ := Lib.hid (HQ.out rfl).sz
      clear HQ
      have c0 := (B1.out.keep0 G2.out).cell 0
      have c1 := (B1.out.keep0 G2.out).cell 1
      have c2 := (B1.out.keep0 G2.out).cell 2
      have c3 := (B1.out.keep0 G2.out).cell 3
      have c4 := (B1.out.keep0 G2.out).cell 4
      have c5 := (B1.out.keep0 G2.out).cell 5
      have c6 := (B1.out.keep0 G2.out).cell 6
      have c7 := (B1.out.keep0 G2.out).cell 7
      have c8 := (B1.out.keep0 G2.out).cell 8
      dsimp at c0 c1 c2 c3 c4 c5 c6 c7 c8
      have p8 := (KY.out.keep0 G2.out).cell 8
      dsimp at p8
      have d0 := (E1.out.keep0 G2.out).cell 0
      have d1 := (E1.out.keep0 G2.out).cell 1
      have d2 := (E1.out.keep0 G2.out).cell 2
      have d3 := (E1.out.keep0 G2.out).cell 3
      dsimp at d0 d1 d2 d3
      have e0 := (E2.out.keep0 G2.out).cell 0
      have e1 := (E2.out.keep0 G2.out).cell 1
      have e2 := (E2.out.keep0 G2.out).cell 2
      have e3 := (E2.out.keep0 G2.out).cell 3
      dsimp at e0 e1 e2 e3
      go_wp2_with fail
      refine (Sa.out _).mono ?_
      rintro e y1 ⟨rfl, g⟩
      have M1 := Lib.hid (gb_trans G2.out g)
      clear g
      clear c0 c1 c2 c3 c4 c5 c6 c7 c8 p8 d0 d1 d2 d3 e0 e1 e2 e3
      cases sa
      · go_wp2_with fail
        refine (works_any _).mono ?_
        rintro e w9 ⟨rfl, g⟩
        have G9 := Lib.hid (gb_trans M1.out g)
        clear g
        go_wp2
        go_ret
        exact ⟨rfl, gb_trans GZ.out G9.out⟩
      · have c0 := (B1.out.keep0 M1.out).cell 0
        have c1 := (B1.out.keep0 M1.out).cell 1
        have c2 := (B1.out.keep0 M1.out).cell 2
        have c3 := (B1.out.keep0 M1.out).cell 3
        have c4 := (B1.out.keep0 M1.out).cell 4
        have c5 := (B1.out.keep0 M1.out).cell 5
        have c6 := (B1.out.keep0 M1.out).cell 6
        have c7 := (B1.out.keep0 M1.out).cell 7
        have c8 := (B1.out.keep0 M1.out).cell 8
        dsimp at c0 c1 c2 c3 c4 c5 c6 c7 c8
        have p8 := (KY.out.keep0 M1.out).cell 8
        dsimp at p8
        have d0 := (E1.out.keep0 M1.out).cell 0
        have d1 := (E1.out.keep0 M1.out).cell 1
        have d2 := (E1.out.keep0 M1.out).cell 2
        have d3 := (E1.out.keep0 M1.out).cell 3
        dsimp at d0 d1 d2 d3
        have e0 := (E2.out.keep0 M1.out).cell 0
        have e1 := (E2.out.keep0 M1.out).cell 1
        have e2 := (E2.out.keep0 M1.out).cell 2
        have e3 := (E2.out.keep0 M1.out).cell 3
        dsimp at e0 e1 e2 e3
        go_wp2_with fail
        refine (Sb.out _).mono ?_
        rintro e y2 ⟨rfl, g⟩
        have M2 := Lib.hid (gb_trans M1.out g)
        clear g
        clear c0 c1 c2 c3 c4 c5 c6 c7 c8 p8 d0 d1 d2 d3 e0 e1 e2 e3
        cases sb
        · go_wp2_with fail
          refine (works_any _).mono ?_
          rintro e w9 ⟨rfl, g⟩
          have G9 := Lib.hid (gb_trans M2.out g)
          clear g
          go_wp2
          go_ret
          exact ⟨rfl, gb_trans GZ.out G9.out⟩
        · have c0 := (B1.out.keep0 M2.out).cell 0
          have c1 := (B1.out.keep0 M2.out).cell 1
          have c2 := (B1.out.keep0 M2.out).cell 2
          have c3 := (B1.out.keep0 M2.out).cell 3
          have c4 := (B1.out.keep0 M2.out).cell 4
          have c5 := (B1.out.keep0 M2.out).cell 5
          have c6 := (B1.out.keep0 M2.out).cell 6
          have c7 := (B1.out.keep0 M2.out).cell 7
          have c8 := (B1.out.keep0 M2.out).cell 8
          dsimp at c0 c1 c2 c3 c4 c5 c6 c7 c8
          have p8 := (KY.out.keep0 M2.out).cell 8
          dsimp at p8
          have d0 := (E1.out.keep0 M2.out).cell 0
          have d1 := (E1.out.keep0 M2.out).cell 1
          have d2 := (E1.out.keep0 M2.out).cell 2
          have d3 := (E1.out.keep0 M2.out).cell 3
          dsimp at d0 d1 d2 d3
          have e0 := (E2.out.keep0 M2.out).cell 0
          have e1 := (E2.out.keep0 M2.out).cell 1
          have e2 := (E2.out.keep0 M2.out).cell 2
          have e3 := (E2.out.keep0 M2.out).cell 3
          dsimp at e0 e1 e2 e3
          by_cases h10 : (10 : Int) < (kn : Int)
          · go_wp2_with fail
            refine (works_any _).mono ?_
            rintro e w9 ⟨rfl, g⟩
            have G9 := Lib.hid (gb_trans M2.out g)
            clear g
            go_wp2
            go_ret
            exact ⟨rfl, gb_trans GZ.out G9.out⟩
          · have MA := Lib.hid (fun (V : World) (g : W.grownBy V none) => pmat_any V Ya a (HI.out V g).2.1 ka kn kc key (HI.out V g).2.2.2 (by have := of_decide_eq_true NA.out.symm; omega))
            have MB := Lib.hid (fun (V : World) (g : W.grownBy V none) => pmat_any V Yb b (HI.out V g).2.2.1 ka kn kc key (HI.out V g).2.2.2 (by have := of_decide_eq_true NB.out.symm; omega))
            have QL := Lib.hid (show key.length = kn from (HI.out _ (gb_refl _ _)).2.2.2.len)
            have AL := Lib.hid (show a.ks.length = Ya.kn from (HI.out _ (gb_refl _ _)).2.1.k.len)
            have K10 := Lib.hid (show kn ≤ 10 by omega)
            obtain ⟨ra, hra⟩ : ∃ r, r = matE a.ks key := ⟨_, rfl⟩
            rw [← hra] at MA
            have RA := Lib.hid hra.symm
            clear hra
            go_wp2_with fail
            refine (MA.out _ M2.out).mono ?_
            rintro e y3 ⟨rfl, g⟩
            have M3 := Lib.hid (gb_trans M2.out g)
            clear g
            clear c0 c1 c2 c3 c4 c5 c6 c7 c8 p8 d0 d1 d2 d3 e0 e1 e2 e3
            cases ra
            · have c0 := (B1.out.keep0 M3.out).cell 0
              have c1 := (B1.out.keep0 M3.out).cell 1
              have c2 := (B1.out.keep0 M3.out).cell 2
              have c3 := (B1.out.keep0 M3.out).cell 3
              have c4 := (B1.out.keep0 M3.out).cell 4
              have c5 := (B1.out.keep0 M3.out).cell 5
              have c6 := (B1.out.keep0 M3.out).cell 6
              have c7 := (B1.out.keep0 M3.out).cell 7
              have c8 := (B1.out.keep0 M3.out).cell 8
              dsimp at c0 c1 c2 c3 c4 c5 c6 c7 c8
              have p8 := (KY.out.keep0 M3.out).cell 8
              dsimp at p8
              have d0 := (E1.out.keep0 M3.out).cell 0
              have d1 := (E1.out.keep0 M3.out).cell 1
              have d2 := (E1.out.keep0 M3.out).cell 2
              have d3 := (E1.out.keep0 M3.out).cell 3
              dsimp at d0 d1 d2 d3
              have e0 := (E2.out.keep0 M3.out).cell 0
              have e1 := (E2.out.keep0 M3.out).cell 1
              have e2 := (E2.out.keep0 M3.out).cell 2
              have e3 := (E2.out.keep0 M3.out).cell 3
              dsimp at e0 e1 e2 e3
              go_wp2_with fail
              refine (MA.out _ M3.out).mono ?_
              rintro e y4 ⟨rfl, g⟩
              have M4 := Lib.hid (gb_trans M3.out g)
              clear g
              clear c0 c1 c2 c3 c4 c5 c6 c7 c8 p8 d0 d1 d2 d3 e0 e1 e2 e3
              have CA := Lib.hid (fun (V : World) (g : W.grownBy V none) => pcheck_any V X P (HI.out V g).1 ZZ.out t Ya a (HI.out V g).2.1 (by have := of_decide_eq_true NA.out.symm; omega))
              have CB := Lib.hid (fun (V : World) (g : W.grownBy V none) => pcheck_any V X P (HI.out V g).1 ZZ.out t Yb b (HI.out V g).2.2.1 (by have := of_decide_eq_true NB.out.symm; omega))
              obtain ⟨ca, hca⟩ : ∃ c, c = chkN P t a := ⟨_, rfl⟩
              obtain ⟨cb, hcb⟩ : ∃ c, c = chkN P t b := ⟨_, rfl⟩
              rw [← hca] at CA
              rw [← hcb] at CB
              have EQA := Lib.hid hca
              have EQB := Lib.hid hcb
              clear hca hcb
              have GT := Lib.hid M4.out
              by_cases n1 : t < 0
              · have c0 := (B1.out.keep0 GT.out).cell 0
                have c1 := (B1.out.keep0 GT.out).cell 1
                have c2 := (B1.out.keep0 GT.out).cell 2
                have c3 := (B1.out.keep0 GT.out).cell 3
                have c4 := (B1.out.keep0 GT.out).cell 4
                have c5 := (B1.out.keep0 GT.out).cell 5
                have c6 := (B1.out.keep0 GT.out).cell 6
                have c7 := (B1.out.keep0 GT.out).cell 7
                have c8 := (B1.out.keep0 GT.out).cell 8
                dsimp at c0 c1 c2 c3 c4 c5 c6 c7 c8
                have p8 := (KY.out.keep0 GT.out).cell 8
                dsimp at p8
                have d0 := (E1.out.keep0 GT.out).cell 0
                have d1 := (E1.out.keep0 GT.out).cell 1
                have d2 := (E1.out.keep0 GT.out).cell 2
                have d3 := (E1.out.keep0 GT.out).cell 3
                dsimp at d0 d1 d2 d3
                have e0 := (E2.out.keep0 GT.out).cell 0
                have e1 := (E2.out.keep0 GT.out).cell 1
                have e2 := (E2.out.keep0 GT.out).cell 2
                have e3 := (E2.out.keep0 GT.out).cell 3
                dsimp at e0 e1 e2 e3
                go_wp2_with fail
                refine (works_any _).mono ?_
                rintro e w9 ⟨rfl, g⟩
                have G9 := Lib.hid (gb_trans GT.out g)
                clear g
                go_wp2
                go_ret
                exact ⟨rfl, gb_trans GZ.out G9.out⟩
              · by_cases n2 : (X.tn : Int) ≤ t
                · have c0 := (B1.out.keep0 GT.out).cell 0
                  have c1 := (B1.out.keep0 GT.out).cell 1
                  have c2 := (B1.out.keep0 GT.out).cell 2
                  have c3 := (B1.out.keep0 GT.out).cell 3
                  have c4 := (B1.out.keep0 GT.out).cell 4
                  have c5 := (B1.out.keep0 GT.out).cell 5
                  have c6 := (B1.out.keep0 GT.out).cell 6
                  have c7 := (B1.out.keep0 GT.out).cell 7
                  have c8 := (B1.out.keep0 GT.out).cell 8
                  dsimp at c0 c1 c2 c3 c4 c5 c6 c7 c8
                  have p8 := (KY.out.keep0 GT.out).cell 8
                  dsimp at p8
                  have d0 := (E1.out.keep0 GT.out).cell 0
                  have d1 := (E1.out.keep0 GT.out).cell 1
                  have d2 := (E1.out.keep0 GT.out).cell 2
                  have d3 := (E1.out.keep0 GT.out).cell 3
                  dsimp at d0 d1 d2 d3
                  have e0 := (E2.out.keep0 GT.out).cell 0
                  have e1 := (E2.out.keep0 GT.out).cell 1
                  have e2 := (E2.out.keep0 GT.out).cell 2
                  have e3 := (E2.out.keep0 GT.out).cell 3
                  dsimp at e0 e1 e2 e3
                  go_wp2_with fail
                  refine (works_any _).mono ?_
                  rintro e w9 ⟨rfl, g⟩
                  have G9 := Lib.hid (gb_trans GT.out g)
                  clear g
                  go_wp2
                  go_ret
                  exact ⟨rfl, gb_trans GZ.out G9.out⟩
                · have c0 := (B1.out.keep0 GT.out).cell 0
                  have c1 := (B1.out.keep0 GT.out).cell 1
                  have c2 := (B1.out.keep0 GT.out).cell 2
                  have c3 := (B1.out.keep0 GT.out).cell 3
                  have c4 := (B1.out.keep0 GT.out).cell 4
                  have c5 := (B1.out.keep0 GT.out).cell 5
                  have c6 := (B1.out.keep0 GT.out).cell 6
                  have c7 := (B1.out.keep0 GT.out).cell 7
                  have c8 := (B1.out.keep0 GT.out).cell 8
                  dsimp at c0 c1 c2 c3 c4 c5 c6 c7 c8
                  have p8 := (KY.out.keep0 GT.out).cell 8
                  dsimp at p8
                  have d0 := (E1.out.keep0 GT.out).cell 0
                  have d1 := (E1.out.keep0 GT.out).cell 1
                  have d2 := (E1.out.keep0 GT.out).cell 2
                  have d3 := (E1.out.keep0 GT.out).cell 3
                  dsimp at d0 d1 d2 d3
                  have e0 := (E2.out.keep0 GT.out).cell 0
                  have e1 := (E2.out.keep0 GT.out).cell 1
                  have e2 := (E2.out.keep0 GT.out).cell 2
                  have e3 := (E2.out.keep0 GT.out).cell 3
                  dsimp at e0 e1 e2 e3
                  go_wp2_with fail
                  refine (CA.out _ GT.out).mono ?_
                  rintro e y5 ⟨rfl, g⟩
                  have M5 := Lib.hid (gb_trans GT.out g)
                  clear g
                  clear c0 c1 c2 c3 c4 c5 c6 c7 c8 p8 d0 d1 d2 d3 e0 e1 e2 e3
                  by_cases za : ca = 0
                  · subst za
                    have c0 := (B1.out.keep0 M5.out).cell 0
                    have c1 := (B1.out.keep0 M5.out).cell 1
                    have c2 := (B1.out.keep0 M5.out).cell 2
                    have c3 := (B1.out.keep0 M5.out).cell 3
                    have c4 := (B1.out.keep0 M5.out).cell 4
                    have c5 := (B1.out.keep0 M5.out).cell 5
                    have c6 := (B1.out.keep0 M5.out).cell 6
                    have c7 := (B1.out.keep0 M5.out).cell 7
                    have c8 := (B1.out.keep0 M5.out).cell 8
                    dsimp at c0 c1 c2 c3 c4 c5 c6 c7 c8
                    have p8 := (KY.out.keep0 M5.out).cell 8
                    dsimp at p8
                    have d0 := (E1.out.keep0 M5.out).cell 0
                    have d1 := (E1.out.keep0 M5.out).cell 1
                    have d2 := (E1.out.keep0 M5.out).cell 2
                    have d3 := (E1.out.keep0 M5.out).cell 3
                    dsimp at d0 d1 d2 d3
                    have e0 := (E2.out.keep0 M5.out).cell 0
                    have e1 := (E2.out.keep0 M5.out).cell 1
                    have e2 := (E2.out.keep0 M5.out).cell 2
                    have e3 := (E2.out.keep0 M5.out).cell 3
                    dsimp at e0 e1 e2 e3
                    go_wp2_with fail
                    refine (CB.out _ M5.out).mono ?_
                    rintro e y6 ⟨rfl, g⟩
                    have M6 := Lib.hid (gb_trans M5.out g)
                    clear g
                    clear c0 c1 c2 c3 c4 c5 c6 c7 c8 p8 d0 d1 d2 d3 e0 e1 e2 e3
                    by_cases zb : cb = 0
                    · subst zb
                      obtain ⟨ok, _, _⟩ := chk_parts EQA.out.symm
                      obtain ⟨k, hk0, hk⟩ := ok_in ok
                      subst hk0
                      have TV := ok_tabV ok
                      have HK := Lib.hid (show k < X.tn by rw [← (HI.out _ (gb_refl _ _)).1.t.len]; exact hk)
                      obtain ⟨tad, hta⟩ := (HI.out _ (gb_refl _ _)).1.t.some (by have := HK.out; omega)
                      obtain ⟨Y, st, a0, a1, a2, a3, a4, a5⟩ := (HI.out _ (gb_refl _ _)).1.tab HK.out hta
                      rw [← TV] at st
                      have KL := Lib.hid (show (tabV P k).ks.length = Y.kn from st.k.len)
                      have SK := Lib.hid st.k
                      have K3 := Lib.hid (show Y.kn ≤ 1000 by have := (tabV_sz ZZ.out (k : Int)).2.1; have := KL.out; omega)
                      have A1 := Lib.hid a1
                      have HTA := Lib.hid hta
                      clear st a0 a1 a2 a3 a4 a5 ok TV hk n1 n2
                      have k0 : (0 : Int) ≤ (k : Int) := by omega
                      have k1 : (k : Int) < X.tn := by have := HK.out; omega
                      go_wp2
                      go_loopw [12] (fun i wr => ∃ j : Nat, j ≤ Y.kn ∧ i = .int .i64 j ∧ (∀ i, i < j → ((tabV P k).ks.getD i tkz).k = 1) ∧ W.grownBy wr none) (fun i _ => Y.kn - (intOf i).toNat)
                      case atStart => exact ⟨0, Nat.zero_le _, rfl, (fun i hi => by omega), M6.out⟩
                      case round =>
                        obtain ⟨j, hj, rfl, hx, hg⟩ := hrel
                        have GL := Lib.hid hg
                        have HX := Lib.hid hx
                        clear hg hx
                        have c5 := (B1.out.keep0 GL.out).cell 5
                        dsimp at c5
                        rw [HTA.out] at c5
                        have u1 := GL.out.cell A1.out (by simp)
                        by_cases hlt : j < Y.kn
                        · have i1 : (j : Int) < Y.kn := by omega
                          have i0 : (0 : Int) ≤ (j : Int) := by omega
                          have hw : IntKind.i64.wrap ((j : Int) + 1) = ((j + 1 : Nat) : Int) := by have := K3.out; rw [IntKind.wrap_i64]; omega
                          obtain ⟨kad, hkd⟩ := SK.out.some (by omega)
                          obtain ⟨_, _, h2⟩ := (SK.out.keep0SKy GL.out).cells kad hkd j hlt
                          rw [hkd] at u1
                          obtain ⟨kk, hkk⟩ : ∃ c, c = ((tabV P k).ks.getD j tkz).k := ⟨_, rfl⟩
                          rw [← hkk] at h2
                          have HKK := Lib.hid hkk
                          clear hkk
                          by_cases e1 : kk = 1
                          · have ne : (kk != 1) = false := by rw [bne_eq_false_iff_eq]; exact e1
                            have NX := Lib.hid (fun (i : Nat) (hi : i < j + 1) => (by rcases (show i < j ∨ i = j by omega) with r | rfl; exact HX.out i r; exact HKK.out.symm.trans e1 : ((tabV P k).ks.getD i tkz).k = 1))
                            clear e1
                            go_wp2
                            exact ⟨⟨j + 1, by omega, by first | rfl | simp, NX.out, GL.out⟩, by simp [intOf]; omega⟩
                          · have ne : (kk != 1) = true := by rw [bne_iff_ne]; exact e1
                            clear e1
                            go_wp2_with fail
                            refine (works_any _).mono ?_
                            rintro e w9 ⟨rfl, g⟩
                            have G9 := Lib.hid (gb_trans GL.out g)
                            clear g
                            go_wp2
                            go_ret
                            exact ⟨rfl, gb_trans GZ.out G9.out⟩
                        · have i1 : ¬ (j : Int) < Y.kn := by omega
                          have KX := Lib.hid (fun (i : Nat) (hi : i < (tabV P k).ks.length) => HX.out i (by have := KL.out; omega))
                          have c0 := (B1.out.keep0 GL.out).cell 0
                          have c1 := (B1.out.keep0 GL.out).cell 1
                          have c2 := (B1.out.keep0 GL.out).cell 2
                          have c3 := (B1.out.keep0 GL.out).cell 3
                          have c4 := (B1.out.keep0 GL.out).cell 4
                          have c5 := (B1.out.keep0 GL.out).cell 5
                          have c6 := (B1.out.keep0 GL.out).cell 6
                          have c7 := (B1.out.keep0 GL.out).cell 7
                          have c8 := (B1.out.keep0 GL.out).cell 8
                          dsimp at c0 c1 c2 c3 c4 c5 c6 c7 c8
                          have p8 := (KY.out.keep0 GL.out).cell 8
                          dsimp at p8
                          have d0 := (E1.out.keep0 GL.out).cell 0
                          have d1 := (E1.out.keep0 GL.out).cell 1
                          have d2 := (E1.out.keep0 GL.out).cell 2
                          have d3 := (E1.out.keep0 GL.out).cell 3
                          dsimp at d0 d1 d2 d3
                          have e0 := (E2.out.keep0 GL.out).cell 0
                          have e1 := (E2.out.keep0 GL.out).cell 1
                          have e2 := (E2.out.keep0 GL.out).cell 2
                          have e3 := (E2.out.keep0 GL.out).cell 3
                          dsimp at e0 e1 e2 e3
                          go_wp2_with fail
                          refine (MA.out _ GL.out).mono ?_
                          rintro e y7 ⟨rfl, g⟩
                          have M7 := Lib.hid (gb_trans GL.out g)
                          clear g
                          clear c0 c1 c2 c3 c4 c5 c6 c7 c8 p8 d0 d1 d2 d3 e0 e1 e2 e3
                          go_wp2_with fail
                          refine (works_any _).mono ?_
                          rintro e w9 ⟨rfl, g⟩
                          have G9 := Lib.hid (gb_trans M7.out g)
                          clear g
                          go_wp2
                          go_ret
                          exact ⟨rfl, gb_trans GZ.out G9.out⟩
                    · have ne : (cb != 0) = true := by rw [bne_iff_ne]; exact zb
                      clear zb
                      go_wp2_with fail
                      refine (works_any _).mono ?_
                      rintro e w9 ⟨rfl, g⟩
                      have G9 := Lib.hid (gb_trans M6.out g)
                      clear g
                      go_wp2
                      go_ret
                      exact ⟨rfl, gb_trans GZ.out G9.out⟩
                  · have ne : (ca != 0) = true := by rw [bne_iff_ne]; exact za
                    clear za
                    go_wp2_with fail
                    refine (works_any _).mono ?_
                    rintro e w9 ⟨rfl, g⟩
                    have G9 := Lib.hid (gb_trans M5.out g)
                    clear g
                    go_wp2
                    go_ret
                    exact ⟨rfl, gb_trans GZ.out G9.out⟩
            · have hne : ((kn : Int) != (Ya.kn : Int)) = false := by
                rw [bne_eq_false_iff_eq]
                have := (mat_parts RA.out).1
                have := QL.out
                have := AL.out
                omega
              have c0 := (B1.out.keep0 M3.out).cell 0
              have c1 := (B1.out.keep0 M3.out).cell 1
              have c2 := (B1.out.keep0 M3.out).cell 2
              have c3 := (B1.out.keep0 M3.out).cell 3
              have c4 := (B1.out.keep0 M3.out).cell 4
              have c5 := (B1.out.keep0 M3.out).cell 5
              have c6 := (B1.out.keep0 M3.out).cell 6
              have c7 := (B1.out.keep0 M3.out).cell 7
              have c8 := (B1.out.keep0 M3.out).cell 8
              dsimp at c0 c1 c2 c3 c4 c5 c6 c7 c8
              have p8 := (KY.out.keep0 M3.out).cell 8
              dsimp at p8
              have d0 := (E1.out.keep0 M3.out).cell 0
              have d1 := (E1.out.keep0 M3.out).cell 1
              have d2 := (E1.out.keep0 M3.out).cell 2
              have d3 := (E1.out.keep0 M3.out).cell 3
              dsimp at d0 d1 d2 d3
              have e0 := (E2.out.keep0 M3.out).cell 0
              have e1 := (E2.out.keep0 M3.out).cell 1
              have e2 := (E2.out.keep0 M3.out).cell 2
              have e3 := (E2.out.keep0 M3.out).cell 3
              dsimp at e0 e1 e2 e3
              go_wp2_with fail
              refine (MA.out _ M3.out).mono ?_
              rintro e y4 ⟨rfl, g⟩
              have M4 := Lib.hid (gb_trans M3.out g)
              clear g
              clear c0 c1 c2 c3 c4 c5 c6 c7 c8 p8 d0 d1 d2 d3 e0 e1 e2 e3
              clear hne
              have GS := Lib.hid M4.out
              go_wp2
              go_loopw [9] (fun i wr => ∃ j : Nat, j ≤ kn ∧ i = .int .i64 j ∧ W.grownBy wr none) (fun i _ => kn - (intOf i).toNat)
              case atStart => exact ⟨0, Nat.zero_le _, rfl, GS.out⟩
              case round =>
                obtain ⟨j, hj, rfl, hg⟩ := hrel
                have GJ := Lib.hid hg
                clear hg
                by_cases hlt : j < kn
                · have i1 : (j : Int) < kn := by omega
                  have p8 := (KY.out.keep0 GJ.out).cell 8
                  dsimp at p8
                  have JA := Lib.hid (show j < a.ks.length by have := (mat_parts RA.out).1; have := QL.out; omega)
                  obtain ⟨ad, had⟩ := (HI.out _ (gb_refl _ _)).2.1.k.some (by have := JA.out; have := AL.out; omega)
                  have E1x := E1.out
                  rw [had] at E1x
                  have EX1 := Lib.hid E1x
                  have MX := Lib.hid (fun (V : World) (g : W.grownBy V none) (xa : Option Addr) (xn xc : Nat) (ky : List Int) (q : SU V xa xn xc ky) => (by have m := pmat_any V Ya a (HI.out V g).2.1 xa xn xc ky q (by have := of_decide_eq_true NA.out.symm; omega); rw [had] at m; exact m : Calls Try.prog 14 #[.agg #[.slice (some ad) Ya.kn Ya.kc, .int .i64 a.pr, .int .i64 a.ac, .slice Ya.ra Ya.rn Ya.rc], .slice xa xn xc] V (RetV (.bool (matE a.ks ky)) V)))
                  have CM := Lib.hid (fun (V : World) (g : W.grownBy V none) => ((HI.out V g).2.1.k.cells ad had j (by have := JA.out; have := AL.out; omega)).2.1)
                  have RM := Lib.hid (km_rng (HI.out _ (gb_refl _ _)).2.1.k j)
                  have MJ := Lib.hid ((mat_parts RA.out).2 j JA.out)
                  have SJ := Lib.hid (fun v => mat_set (v := v) RA.out JA.out)
                  have VJ := Lib.hid ((HI.out _ (gb_refl _ _)).2.2.2.at_ j)
                  clear E1x had
                  go_wp2
                  clear p8 i1
                  go_loopw [10] (fun i wr => ∃ k : Nat, k ≤ 32 ∧ i = .int .i64 k ∧ W.grownBy wr none) (fun i _ => 32 - (intOf i).toNat)
                  case atStart => exact ⟨0, Nat.zero_le _, rfl, GJ.out⟩
                  case round =>
                    obtain ⟨k, hk, rfl, hg⟩ := hrel
                    have GK := Lib.hid hg
                    clear hg
                    by_cases hlk : k < 32
                    · have i1 : (k : Int) < 32 := by omega
                      have p8 := (KY.out.keep0 GK.out).cell 8
                      dsimp at p8
                      have hw : IntKind.i64.wrap ((k : Int) + 1) = ((k + 1 : Nat) : Int) := by rw [IntKind.wrap_i64]; omega
                      have E0 := Lib.hid (show NU (wr.alloc (.cells #[] 55)) wr.heap.size (.slice (some ⟨wr.heap.size, 0, none⟩) 0 0) [] from World.ownsRow_lit (base := wr.heap.size) (e := 55) (size := 1) wr #[] 0 (Nat.le_refl _) (by unfold maxLen; omega) (by simp))
                      replace p8 := p8
                      have q8 := ((KY.out.keep0 GK.out).keep0 (gb_alloc wr (.cells #[] 55) none)).cell 8
                      dsimp at q8
                      go_wp2_with (at_builtin; refine upush_any rfl _ _ rfl wr.heap.size _ [] rfl E0.out ka kn kc key rfl ((HI.out _ GK.out).2.2.2.keep0 (gb_alloc _ _ _)) (by have := K10.out; have := QL.out; simp; omega) (by simp) ?_)
                      intro V1 wa n9 g9
                      have n9 : NU wa wr.heap.size V1 key := by simpa using n9
                      obtain ⟨f9, e9, rfl⟩ := nu_shape n9
                      have NZ := Lib.hid n9
                      have GA := Lib.hid (show wr.grownBy wa none from gb_new (gb_trans (gb_alloc wr (.cells #[] 55) (some wr.heap.size)) g9) (Nat.le_refl _))
                      clear n9 g9 p8 q8 E0
                      rw [QL.out] at NZ ⊢
                      obtain ⟨g, rfl⟩ : ∃ g, f9 = some ⟨g, 0, none⟩ := own_some23 NZ.out (by omega)
                      obtain ⟨z1, z2⟩ := nu_cell NZ.out QL.out j hlt
                      have LG := Lib.hid (show wr.heap.size ≤ g from (World.ownsRow.lt NZ.out g rfl).1)
                      have j0 : (0 : Int) ≤ (j : Int) := by omega
                      have j1 : (j : Int) < kn := by omega
                      have k0 : (0 : Int) ≤ (k : Int) := by omega
                      have sh := Nat.pow_lt_pow_right (show 1 < 2 by decide) hlk
                      clear sh
                      go_upto_region 14 with fail
                      have hF0 : (fun w' : World => w'.cell? ⟨g, j, none⟩ = some (.int .u32 (key.getD j 0))) wa.drew := z1
                      refine wp_region_S (fun w' : World => w'.cell? ⟨g, j, none⟩ = some (.int .u32 (key.getD j 0))) 8 (by kernel_rfl) ?_
                      refine wpAnyS_pure (i := 0) (v := ?v81) rfl (by kernel_rfl) (by kernel_rfl) (by kernel_rfl) (by decide) (fun _ _ _ h => h) (Or.inl ⟨by rfl, ?hy81⟩) (Or.inr (by assumption)) ?rest81
                      case hy81 => (intro wz hSw; (try dsimp only at hSw); first | (go_simp; done) | (go_simp; with_reducible rfl))
                      try simp only [Act.put, List.getElem_toArray, List.getElem_cons_zero, List.setIfInBounds_toArray, List.set_cons_zero, List.set_cons_succ]
                      refine wpAnyS_pure (i := 1) (v := ?v82) rfl (by kernel_rfl) (by kernel_rfl) (by kernel_rfl) (by decide) (fun _ _ _ h => h) (Or.inl ⟨by rfl, ?hy82⟩) (Or.inr (by assumption)) ?rest82
                      case hy82 => (intro wz hSw; (try dsimp only at hSw); first | (go_simp; done) | (go_simp; with_reducible rfl))
                      try simp only [Act.put, List.getElem_toArray, List.getElem_cons_succ, List.getElem_cons_zero, List.setIfInBounds_toArray, List.set_cons_zero, List.set_cons_succ]
                      refine wpAnyS_pure (i := 2) (v := ?v83) rfl (by kernel_rfl) (by kernel_rfl) (by kernel_rfl) (by decide) (fun _ _ _ h => h) (Or.inl ⟨by rfl, ?hy83⟩) (Or.inr (by assumption)) ?rest83
                      case hy83 => (intro wz hSw; (try dsimp only at hSw); first | (go_simp; done) | (go_simp; with_reducible rfl))
                      try simp only [Act.put, List.getElem_toArray, List.getElem_cons_succ, List.getElem_cons_zero, List.setIfInBounds_toArray, List.set_cons_zero, List.set_cons_succ]
                      refine wpAnyS_load 6 (i := 3) (v := ?v84) rfl (by kernel_rfl) (by kernel_rfl) (by kernel_rfl) (by kernel_rfl) (fun _ _ _ h => h) (Or.inl ⟨by rfl, ?hy84⟩) (by assumption) ?rest84
                      case hy84 => (intro wz hSw; (try dsimp only at hSw); first | (go_simp; done) | (go_simp; with_reducible rfl))
                      try simp only [Act.put, List.getElem_toArray, List.getElem_cons_succ, List.getElem_cons_zero, List.setIfInBounds_toArray, List.set_cons_zero, List.set_cons_succ]
                      refine wpAnyS_pure (i := 4) (v := ?v85) rfl (by kernel_rfl) (by kernel_rfl) (by kernel_rfl) (by decide) (fun _ _ _ h => h) (Or.inl ⟨by rfl, ?hy85⟩) (Or.inr (by assumption)) ?rest85
                      case hy85 => (intro wz hSw; (try dsimp only at hSw); first | (go_simp; done) | (go_simp; with_reducible rfl))
                      try simp only [Act.put, List.getElem_toArray, List.getElem_cons_succ, List.getElem_cons_zero, List.setIfInBounds_toArray, List.set_cons_zero, List.set_cons_succ]
                      refine wpAnyS_pure (i := 5) (v := ?v86) rfl (by kernel_rfl) (by kernel_rfl) (by kernel_rfl) (by decide) (fun _ _ _ h => h) (Or.inl ⟨by rfl, ?hy86⟩) (Or.inr (by assumption)) ?rest86
                      case hy86 => (intro wz hSw; (try dsimp only at hSw); first | (go_simp; done) | (go_simp; with_reducible rfl))
                      try simp only [Act.put, List.getElem_toArray, List.getElem_cons_succ, List.getElem_cons_zero, List.setIfInBounds_toArray, List.set_cons_zero, List.set_cons_succ]
                      refine wpAnyS_pure (i := 6) (v := ?v87) rfl (by kernel_rfl) (by kernel_rfl) (by kernel_rfl) (by decide) (fun _ _ _ h => h) (Or.inl ⟨by rfl, ?hy87⟩) (Or.inr (by assumption)) ?rest87
                      case hy87 => (intro wz hSw; (try dsimp only at hSw); first | (go_simp; done) | (go_simp; with_reducible rfl))
                      try simp only [Act.put, List.getElem_toArray, List.getElem_cons_succ, List.getElem_cons_zero, List.setIfInBounds_toArray, List.set_cons_zero, List.set_cons_succ]
                      refine wpAnyS_pure (i := 7) (v := ?v88) rfl (by kernel_rfl) (by kernel_rfl) (by kernel_rfl) (by decide) (fun _ _ _ h => h) (Or.inl ⟨by rfl, ?hy88⟩) (Or.inr (by assumption)) ?rest88
                      case hy88 => (intro wz hSw; (try dsimp only at hSw); first | (go_simp; done) | (go_simp; with_reducible rfl))
                      try simp only [Act.put, List.getElem_toArray, List.getElem_cons_succ, List.getElem_cons_zero, List.setIfInBounds_toArray, List.set_cons_zero, List.set_cons_succ]
                      have z3 : wa.drew.frozen? ⟨g, j, none⟩ = false := z2
                      have z4 : wa.drew.cell? ⟨g, j, none⟩ = some (.int .u32 (key.getD j 0)) := z1
                      refine wpAnyS_one (i := 8) (o := _) (by kernel_rfl) rfl (fun K hK => ?_)
                      go_simp
                      refine hK.out _ _ (Or.inl (by kernel_rfl)) (fun _ => ?_)
                      clear hK K
                      try simp only [Act.put, List.getElem_toArray, List.getElem_cons_succ, List.getElem_cons_zero, List.setIfInBounds_toArray, List.set_cons_zero, List.set_cons_succ]
                      refine wpAnyS_done (by kernel_rfl) ?_ _
                      clear hF0
                      rw [wrap_pow k hlk, ← List.getD_eq_getElem?_getD]
                      obtain ⟨v2, hv2⟩ : ∃ v, v = bits .xor .u32 (key.getD j 0) (2 ^ k) := ⟨_, rfl⟩
                      rw [← hv2]
                      have VR := Lib.hid (show 0 ≤ v2 ∧ v2 < 4294967296 by rw [hv2]; exact xor_rng VJ.out.1 VJ.out.2 k hlk)
                      have RZ := Lib.hid (show matE a.ks (key.set j v2) = (Int.tmod ((a.ks.getD j kmz).m / 2 ^ k) 2 == 0) by rw [SJ.out v2, hv2]; exact mat_bit VJ.out.1 VJ.out.2 RM.out.1.1 RM.out.1.2 RM.out.2.1 RM.out.2.2 MJ.out k hlk)
                      have SN := Lib.hid ((nu_su (NU.put NZ.out QL.out.symm j v2) (by rw [List.length_set]; exact QL.out) (set_rng23 (HI.out _ (gb_refl _ _)).2.2.2.rng j v2 VR.out.1 VR.out.2)).keep0 (gb_drew _ none))
                      have GB := Lib.hid (show wr.grownBy (wa.setCell ⟨g, j, none⟩ (.int .u32 v2)).drew none from gb_trans (gb_put GA.out LG.out) (gb_drew _ none))
                      clear hv2 z1 z2 z3 z4
                      generalize (wa.setCell ⟨g, j, none⟩ (.int .u32 v2)).drew = wb at *
                      have GX := Lib.hid (gb_trans GK.out GB.out)
                      have MQ := Lib.hid (fun (V : World) (q : wb.grownBy V none) => (by have m := MX.out V (gb_trans GX.out q) _ _ _ _ (SN.out.keep0 q); rw [RZ.out] at m; exact m : Calls Try.prog 14 #[.agg #[.slice (some ad) Ya.kn Ya.kc, .int .i64 a.pr, .int .i64 a.ac, .slice Ya.ra Ya.rn Ya.rc], .slice (some ⟨g, 0, none⟩) kn e9] V (RetV (.bool (Int.tmod ((a.ks.getD j kmz).m / 2 ^ k) 2 == 0)) V)))
                      have CX := Lib.hid (fun (V : World) (q : wb.grownBy V none) => CM.out V (gb_trans GX.out q))
                      generalize (a.ks.getD j kmz).m = mm at *
                      have j2 : (j : Int) < Ya.kn := by have := JA.out; have := AL.out; omega
                      have rr : ((Int.tmod (mm / 2 ^ k) 2 == 0) != (Int.tmod (mm / 2 ^ k) 2 == 0)) = false := by simp
                      go_upto_region 15 with fail
                      have KR := Lib.hid (fun (w' : World) (q0 : wb.grownBy w' none) => (⟨(EX1.out.keep0 (gb_trans GX.out q0)).cell 0, (EX1.out.keep0 (gb_trans GX.out q0)).cell 1, (EX1.out.keep0 (gb_trans GX.out q0)).cell 2, (EX1.out.keep0 (gb_trans GX.out q0)).cell 3, CX.out _ q0, q0⟩ : (fun w' : World => w'.cell? ⟨b1, 0, none⟩ = some (.slice (some ad) Ya.kn Ya.kc) ∧ w'.cell? ⟨b1, 1, none⟩ = some (.int .i64 a.pr) ∧ w'.cell? ⟨b1, 2, none⟩ = some (.int .i64 a.ac) ∧ w'.cell? ⟨b1, 3, none⟩ = some (.slice Ya.ra Ya.rn Ya.rc) ∧ w'.cell? ⟨(ad.add (j * 2)).block, (ad.add (j * 2)).off + 1, none⟩ = some (.int .u32 mm) ∧ wb.grownBy w' none) w'))
                      have QH0 := Lib.hid (gb_drew wb none)
                      refine wp_region_held_drew (S := (fun w' : World => w'.cell? ⟨b1, 0, none⟩ = some (.slice (some ad) Ya.kn Ya.kc) ∧ w'.cell? ⟨b1, 1, none⟩ = some (.int .i64 a.pr) ∧ w'.cell? ⟨b1, 2, none⟩ = some (.int .i64 a.ac) ∧ w'.cell? ⟨b1, 3, none⟩ = some (.slice Ya.ra Ya.rn Ya.rc) ∧ w'.cell? ⟨(ad.add (j * 2)).block, (ad.add (j * 2)).off + 1, none⟩ = some (.int .u32 mm) ∧ wb.grownBy w' none)) (by kernel_rfl) (KR.out _ QH0.out) (fun hH0 => ?_)
                      refine wpAnyH_take (i := 0) (v := ?v89) rfl (by kernel_rfl) (by kernel_rfl) (by kernel_rfl) (fun _ _ _ h => h) (Or.inl ⟨by rfl, ?hy89⟩) (by assumption) ?rest89
                      case hy89 => (intro wz hSw; (try dsimp only at hSw); first | (go_simp; done) | (go_simp; with_reducible rfl))
                      try simp only [Act.put, List.getElem_toArray, List.getElem_cons_zero, List.setIfInBounds_toArray, List.set_cons_zero, List.set_cons_succ]
                      refine wpAnyH_take (i := 1) (v := ?v90) rfl (by kernel_rfl) (by kernel_rfl) (by kernel_rfl) (fun _ _ _ h => h) (Or.inl ⟨by rfl, ?hy90⟩) (by assumption) ?rest90
                      case hy90 => (intro wz hSw; (try dsimp only at hSw); first | (go_simp; done) | (go_simp; with_reducible rfl))
                      try simp only [Act.put, List.getElem_toArray, List.getElem_cons_succ, List.getElem_cons_zero, List.setIfInBounds_toArray, List.set_cons_zero, List.set_cons_succ]
                      refine wpAnyH_take (i := 3) (v := ?v91) rfl (by kernel_rfl) (by kernel_rfl) (by kernel_rfl) (fun _ _ _ h => h) (Or.inl ⟨by rfl, ?hy91⟩) (by assumption) ?rest91
                      case hy91 => (intro wz hSw; (try dsimp only at hSw); first | (go_simp; done) | (go_simp; with_reducible rfl))
                      try simp only [Act.put, List.getElem_toArray, List.getElem_cons_succ, List.getElem_cons_zero, List.setIfInBounds_toArray, List.set_cons_zero, List.set_cons_succ]
                      refine wpAnyH_take (i := 4) (v := ?v92) rfl (by kernel_rfl) (by kernel_rfl) (by kernel_rfl) (fun _ _ _ h => h) (Or.inl ⟨by rfl, ?hy92⟩) (by assumption) ?rest92
                      case hy92 => (intro wz hSw; (try dsimp only at hSw); first | (go_simp; done) | (go_simp; with_reducible rfl))
                      try simp only [Act.put, List.getElem_toArray, List.getElem_cons_succ, List.getElem_cons_zero, List.setIfInBounds_toArray, List.set_cons_zero, List.set_cons_succ]
                      refine wpAnyH_take (i := 5) (v := ?v93) rfl (by kernel_rfl) (by kernel_rfl) (by kernel_rfl) (fun _ _ _ h => h) (Or.inl ⟨by rfl, ?hy93⟩) (by assumption) ?rest93
                      case hy93 => (intro wz hSw; (try dsimp only at hSw); first | (go_simp; done) | (go_simp; with_reducible rfl))
                      try simp only [Act.put, List.getElem_toArray, List.getElem_cons_succ, List.getElem_cons_zero, List.setIfInBounds_toArray, List.set_cons_zero, List.set_cons_succ]
                      refine wpAnyH_take (i := 6) (v := ?v94) rfl (by kernel_rfl) (by kernel_rfl) (by kernel_rfl) (fun _ _ _ h => h) (Or.inl ⟨by rfl, ?hy94⟩) (by assumption) ?rest94
                      case hy94 => (intro wz hSw; (try dsimp only at hSw); first | (go_simp; done) | (go_simp; with_reducible rfl))
                      try simp only [Act.put, List.getElem_toArray, List.getElem_cons_succ, List.getElem_cons_zero, List.setIfInBounds_toArray, List.set_cons_zero, List.set_cons_succ]
                      refine wpAnyH_take (i := 7) (v := ?v95) rfl (by kernel_rfl) (by kernel_rfl) (by kernel_rfl) (fun _ _ _ h => h) (Or.inl ⟨by rfl, ?hy95⟩) (by assumption) ?rest95
                      case hy95 => (intro wz hSw; (try dsimp only at hSw); first | (go_simp; done) | (go_simp; with_reducible rfl))
                      try simp only [Act.put, List.getElem_toArray, List.getElem_cons_succ, List.getElem_cons_zero, List.setIfInBounds_toArray, List.set_cons_zero, List.set_cons_succ]
                      refine wpAnyH_take (i := 8) (v := ?v96) rfl (by kernel_rfl) (by kernel_rfl) (by kernel_rfl) (fun _ _ _ h => h) (Or.inl ⟨by rfl, ?hy96⟩) (by assumption) ?rest96
                      case hy96 => (intro wz hSw; (try dsimp only at hSw); first | (go_simp; done) | (go_simp; with_reducible rfl))
                      try simp only [Act.put, List.getElem_toArray, List.getElem_cons_succ, List.getElem_cons_zero, List.setIfInBounds_toArray, List.set_cons_zero, List.set_cons_succ]
                      refine wpAnyH_take (i := 9) (v := ?v97) rfl (by kernel_rfl) (by kernel_rfl) (by kernel_rfl) (fun _ _ _ h => h) (Or.inl ⟨by rfl, ?hy97⟩) (by assumption) ?rest97
                      case hy97 => (intro wz hSw; (try dsimp only at hSw); first | (go_simp; done) | (go_simp; with_reducible rfl))
                      try simp only [Act.put, List.getElem_toArray, List.getElem_cons_succ, List.getElem_cons_zero, List.setIfInBounds_toArray, List.set_cons_zero, List.set_cons_succ]
                      refine wpAnyH_take (i := 10) (v := ?v98) rfl (by kernel_rfl) (by kernel_rfl) (by kernel_rfl) (fun _ _ _ h => h) (Or.inl ⟨by rfl, ?hy98⟩) (by assumption) ?rest98
                      case hy98 => (intro wz hSw; (try dsimp only at hSw); first | (go_simp; done) | (go_simp; with_reducible rfl))
                      try simp only [Act.put, List.getElem_toArray, List.getElem_cons_succ, List.getElem_cons_zero, List.setIfInBounds_toArray, List.set_cons_zero, List.set_cons_succ]
                      refine wpAnyH_take (i := 11) (v := ?v99) rfl (by kernel_rfl) (by kernel_rfl) (by kernel_rfl) (fun _ _ _ h => h) (Or.inl ⟨by rfl, ?hy99⟩) (by assumption) ?rest99
                      case hy99 => (intro wz hSw; (try dsimp only at hSw); first | (go_simp; done) | (go_simp; with_reducible rfl))
                      try simp only [Act.put, List.getElem_toArray, List.getElem_cons_succ, List.getElem_cons_zero, List.setIfInBounds_toArray, List.set_cons_zero, List.set_cons_succ]
                      refine wpAnyH_take (i := 12) (v := ?v100) rfl (by kernel_rfl) (by kernel_rfl) (by kernel_rfl) (fun _ _ _ h => h) (Or.inl ⟨by rfl, ?hy100⟩) (by assumption) ?rest100
                      case hy100 => (intro wz hSw; (try dsimp only at hSw); first | (go_simp; done) | (go_simp; with_reducible rfl))
                      try simp only [Act.put, List.getElem_toArray, List.getElem_cons_succ, List.getElem_cons_zero, List.setIfInBounds_toArray, List.set_cons_zero, List.set_cons_succ]
                      refine wpAnyH_ready (rs := [2]) (by kernel_rfl) (by simp) ?_
                      refine AllReadyH.cons (o := _) rfl (fun K hK => ?_) AllReadyH.nil
                      go_simp
                      (with_reducible refine (MQ.out _ QH0.out).mono ?_)
                      rintro e qhw1 ⟨rfl, g⟩
                      have QH1 := Lib.hid (gb_trans QH0.out g)
                      clear g
                      try dsimp only
                      refine hK.out _ _ (KR.out _ QH1.out) (fun hH1 => ?_)
                      clear hK K hH0
                      try simp only [Act.put, List.getElem_toArray, List.getElem_cons_succ, List.getElem_cons_zero, List.setIfInBounds_toArray, List.set_cons_zero, List.set_cons_succ]
                      refine wpAnyH_take (i := 13) (v := ?v101) rfl (by kernel_rfl) (by kernel_rfl) (by kernel_rfl) (fun _ _ _ h => h) (Or.inl ⟨by rfl, ?hy101⟩) (by assumption) ?rest101
                      case hy101 => (intro wz hSw; (try dsimp only at hSw); first | (go_simp; done) | (go_simp; with_reducible rfl))
                      try simp only [Act.put, List.getElem_toArray, List.getElem_cons_succ, List.getElem_cons_zero, List.setIfInBounds_toArray, List.set_cons_zero, List.set_cons_succ]
                      refine wpAnyH_done (by kernel_rfl) ?_ _
                      clear hH1
                      have GF := Lib.hid (gb_trans GX.out QH1.out)
                      clear KR
                      go_wp2
                      exact ⟨⟨k + 1, by omega, by first | rfl | simp, GF.out⟩, by simp [intOf]; omega⟩
                    · have i1 : ¬ (k : Int) < 32 := by omega
                      have hw : IntKind.i64.wrap ((j : Int) + 1) = ((j + 1 : Nat) : Int) := by have := K10.out; rw [IntKind.wrap_i64]; omega
                      go_wp2
                      exact ⟨⟨j + 1, by omega, by first | rfl | simp, GK.out⟩, by simp [intOf]; omega⟩
                · have i1 : ¬ (j : Int) < kn := by omega
                  have GE := Lib.hid GJ.out
                  have p8 := (KY.out.keep0 GJ.out).cell 8
                  dsimp at p8
                  have CA := Lib.hid (fun (V : World) (g : W.grownBy V none) => pcheck_any V X P (HI.out V g).1 ZZ.out t Ya a (HI.out V g).2.1 (by have := of_decide_eq_true NA.out.symm; omega))
                  have CB := Lib.hid (fun (V : World) (g : W.grownBy V none) => pcheck_any V X P (HI.out V g).1 ZZ.out t Yb b (HI.out V g).2.2.1 (by have := of_decide_eq_true NB.out.symm; omega))
                  obtain ⟨ca, hca⟩ : ∃ c, c = chkN P t a := ⟨_, rfl⟩
                  obtain ⟨cb, hcb⟩ : ∃ c, c = chkN P t b := ⟨_, rfl⟩
                  rw [← hca] at CA
                  rw [← hcb] at CB
                  have EQA := Lib.hid hca
                  have EQB := Lib.hid hcb
                  clear hca hcb
                  have GT := Lib.hid GE.out
                  by_cases n1 : t < 0
                  · have c0 := (B1.out.keep0 GT.out).cell 0
                    have c1 := (B1.out.keep0 GT.out).cell 1
                    have c2 := (B1.out.keep0 GT.out).cell 2
                    have c3 := (B1.out.keep0 GT.out).cell 3
                    have c4 := (B1.out.keep0 GT.out).cell 4
                    have c5 := (B1.out.keep0 GT.out).cell 5
                    have c6 := (B1.out.keep0 GT.out).cell 6
                    have c7 := (B1.out.keep0 GT.out).cell 7
                    have c8 := (B1.out.keep0 GT.out).cell 8
                    dsimp at c0 c1 c2 c3 c4 c5 c6 c7 c8
                    have p8 := (KY.out.keep0 GT.out).cell 8
                    dsimp at p8
                    have d0 := (E1.out.keep0 GT.out).cell 0
                    have d1 := (E1.out.keep0 GT.out).cell 1
                    have d2 := (E1.out.keep0 GT.out).cell 2
                    have d3 := (E1.out.keep0 GT.out).cell 3
                    dsimp at d0 d1 d2 d3
                    have e0 := (E2.out.keep0 GT.out).cell 0
                    have e1 := (E2.out.keep0 GT.out).cell 1
                    have e2 := (E2.out.keep0 GT.out).cell 2
                    have e3 := (E2.out.keep0 GT.out).cell 3
                    dsimp at e0 e1 e2 e3
                    go_wp2_with fail
                    refine (works_any _).mono ?_
                    rintro e w9 ⟨rfl, g⟩
                    have G9 := Lib.hid (gb_trans GT.out g)
                    clear g
                    go_wp2
                    go_ret
                    exact ⟨rfl, gb_trans GZ.out G9.out⟩
                  · by_cases n2 : (X.tn : Int) ≤ t
                    · have c0 := (B1.out.keep0 GT.out).cell 0
                      have c1 := (B1.out.keep0 GT.out).cell 1
                      have c2 := (B1.out.keep0 GT.out).cell 2
                      have c3 := (B1.out.keep0 GT.out).cell 3
                      have c4 := (B1.out.keep0 GT.out).cell 4
                      have c5 := (B1.out.keep0 GT.out).cell 5
                      have c6 := (B1.out.keep0 GT.out).cell 6
                      have c7 := (B1.out.keep0 GT.out).cell 7
                      have c8 := (B1.out.keep0 GT.out).cell 8
                      dsimp at c0 c1 c2 c3 c4 c5 c6 c7 c8
                      have p8 := (KY.out.keep0 GT.out).cell 8
                      dsimp at p8
                      have d0 := (E1.out.keep0 GT.out).cell 0
                      have d1 := (E1.out.keep0 GT.out).cell 1
                      have d2 := (E1.out.keep0 GT.out).cell 2
                      have d3 := (E1.out.keep0 GT.out).cell 3
                      dsimp at d0 d1 d2 d3
                      have e0 := (E2.out.keep0 GT.out).cell 0
                      have e1 := (E2.out.keep0 GT.out).cell 1
                      have e2 := (E2.out.keep0 GT.out).cell 2
                      have e3 := (E2.out.keep0 GT.out).cell 3
                      dsimp at e0 e1 e2 e3
                      go_wp2_with fail
                      refine (works_any _).mono ?_
                      rintro e w9 ⟨rfl, g⟩
                      have G9 := Lib.hid (gb_trans GT.out g)
                      clear g
                      go_wp2
                      go_ret
                      exact ⟨rfl, gb_trans GZ.out G9.out⟩
                    · have c0 := (B1.out.keep0 GT.out).cell 0
                      have c1 := (B1.out.keep0 GT.out).cell 1
                      have c2 := (B1.out.keep0 GT.out).cell 2
                      have c3 := (B1.out.keep0 GT.out).cell 3
                      have c4 := (B1.out.keep0 GT.out).cell 4
                      have c5 := (B1.out.keep0 GT.out).cell 5
                      have c6 := (B1.out.keep0 GT.out).cell 6
                      have c7 := (B1.out.keep0 GT.out).cell 7
                      have c8 := (B1.out.keep0 GT.out).cell 8
                      dsimp at c0 c1 c2 c3 c4 c5 c6 c7 c8
                      have p8 := (KY.out.keep0 GT.out).cell 8
                      dsimp at p8
                      have d0 := (E1.out.keep0 GT.out).cell 0
                      have d1 := (E1.out.keep0 GT.out).cell 1
                      have d2 := (E1.out.keep0 GT.out).cell 2
                      have d3 := (E1.out.keep0 GT.out).cell 3
                      dsimp at d0 d1 d2 d3
                      have e0 := (E2.out.keep0 GT.out).cell 0
                      have e1 := (E2.out.keep0 GT.out).cell 1
                      have e2 := (E2.out.keep0 GT.out).cell 2
                      have e3 := (E2.out.keep0 GT.out).cell 3
                      dsimp at e0 e1 e2 e3
                      go_wp2_with fail
                      refine (CA.out _ GT.out).mono ?_
                      rintro e y8 ⟨rfl, g⟩
                      have M8 := Lib.hid (gb_trans GT.out g)
                      clear g
                      clear c0 c1 c2 c3 c4 c5 c6 c7 c8 p8 d0 d1 d2 d3 e0 e1 e2 e3
                      by_cases za : ca = 0
                      · subst za
                        have c0 := (B1.out.keep0 M8.out).cell 0
                        have c1 := (B1.out.keep0 M8.out).cell 1
                        have c2 := (B1.out.keep0 M8.out).cell 2
                        have c3 := (B1.out.keep0 M8.out).cell 3
                        have c4 := (B1.out.keep0 M8.out).cell 4
                        have c5 := (B1.out.keep0 M8.out).cell 5
                        have c6 := (B1.out.keep0 M8.out).cell 6
                        have c7 := (B1.out.keep0 M8.out).cell 7
                        have c8 := (B1.out.keep0 M8.out).cell 8
                        dsimp at c0 c1 c2 c3 c4 c5 c6 c7 c8
                        have p8 := (KY.out.keep0 M8.out).cell 8
                        dsimp at p8
                        have d0 := (E1.out.keep0 M8.out).cell 0
                        have d1 := (E1.out.keep0 M8.out).cell 1
                        have d2 := (E1.out.keep0 M8.out).cell 2
                        have d3 := (E1.out.keep0 M8.out).cell 3
                        dsimp at d0 d1 d2 d3
                        have e0 := (E2.out.keep0 M8.out).cell 0
                        have e1 := (E2.out.keep0 M8.out).cell 1
                        have e2 := (E2.out.keep0 M8.out).cell 2
                        have e3 := (E2.out.keep0 M8.out).cell 3
                        dsimp at e0 e1 e2 e3
                        go_wp2_with fail
                        refine (CB.out _ M8.out).mono ?_
                        rintro e y9 ⟨rfl, g⟩
                        have M9 := Lib.hid (gb_trans M8.out g)
                        clear g
                        clear c0 c1 c2 c3 c4 c5 c6 c7 c8 p8 d0 d1 d2 d3 e0 e1 e2 e3
                        by_cases zb : cb = 0
                        · subst zb
                          obtain ⟨ok, _, _⟩ := chk_parts EQA.out.symm
                          obtain ⟨k, hk0, hk⟩ := ok_in ok
                          subst hk0
                          have TV := ok_tabV ok
                          have HK := Lib.hid (show k < X.tn by rw [← (HI.out _ (gb_refl _ _)).1.t.len]; exact hk)
                          obtain ⟨tad, hta⟩ := (HI.out _ (gb_refl _ _)).1.t.some (by have := HK.out; omega)
                          obtain ⟨Y, st, a0, a1, a2, a3, a4, a5⟩ := (HI.out _ (gb_refl _ _)).1.tab HK.out hta
                          rw [← TV] at st
                          have KL := Lib.hid (show (tabV P k).ks.length = Y.kn from st.k.len)
                          have SK := Lib.hid st.k
                          have K3 := Lib.hid (show Y.kn ≤ 1000 by have := (tabV_sz ZZ.out (k : Int)).2.1; have := KL.out; omega)
                          have A1 := Lib.hid a1
                          have HTA := Lib.hid hta
                          clear st a0 a1 a2 a3 a4 a5 ok TV hk n1 n2
                          have k0 : (0 : Int) ≤ (k : Int) := by omega
                          have k1 : (k : Int) < X.tn := by have := HK.out; omega
                          go_wp2
                          go_loopw [12] (fun i wr => ∃ j : Nat, j ≤ Y.kn ∧ i = .int .i64 j ∧ (∀ i, i < j → ((tabV P k).ks.getD i tkz).k = 1) ∧ W.grownBy wr none) (fun i _ => Y.kn - (intOf i).toNat)
                          case atStart => exact ⟨0, Nat.zero_le _, rfl, (fun i hi => by omega), M9.out⟩
                          case round =>
                            obtain ⟨j, hj, rfl, hx, hg⟩ := hrel
                            have GL := Lib.hid hg
                            have HX := Lib.hid hx
                            clear hg hx
                            have c5 := (B1.out.keep0 GL.out).cell 5
                            dsimp at c5
                            rw [HTA.out] at c5
                            have u1 := GL.out.cell A1.out (by simp)
                            by_cases hlt : j < Y.kn
                            · have i1 : (j : Int) < Y.kn := by omega
                              have i0 : (0 : Int) ≤ (j : Int) := by omega
                              have hw : IntKind.i64.wrap ((j : Int) + 1) = ((j + 1 : Nat) : Int) := by have := K3.out; rw [IntKind.wrap_i64]; omega
                              obtain ⟨kad, hkd⟩ := SK.out.some (by omega)
                              obtain ⟨_, _, h2⟩ := (SK.out.keep0SKy GL.out).cells kad hkd j hlt
                              rw [hkd] at u1
                              obtain ⟨kk, hkk⟩ : ∃ c, c = ((tabV P k).ks.getD j tkz).k := ⟨_, rfl⟩
                              rw [← hkk] at h2
                              have HKK := Lib.hid hkk
                              clear hkk
                              by_cases e1 : kk = 1
                              · have ne : (kk != 1) = false := by rw [bne_eq_false_iff_eq]; exact e1
                                have NX := Lib.hid (fun (i : Nat) (hi : i < j + 1) => (by rcases (show i < j ∨ i = j by omega) with r | rfl; exact HX.out i r; exact HKK.out.symm.trans e1 : ((tabV P k).ks.getD i tkz).k = 1))
                                clear e1
                                go_wp2
                                exact ⟨⟨j + 1, by omega, by first | rfl | simp, NX.out, GL.out⟩, by simp [intOf]; omega⟩
                              · have ne : (kk != 1) = true := by rw [bne_iff_ne]; exact e1
                                clear e1
                                go_wp2_with fail
                                refine (works_any _).mono ?_
                                rintro e w9 ⟨rfl, g⟩
                                have G9 := Lib.hid (gb_trans GL.out g)
                                clear g
                                go_wp2
                                go_ret
                                exact ⟨rfl, gb_trans GZ.out G9.out⟩
                            · have i1 : ¬ (j : Int) < Y.kn := by omega
                              have KX := Lib.hid (fun (i : Nat) (hi : i < (tabV P k).ks.length) => HX.out i (by have := KL.out; omega))
                              have c0 := (B1.out.keep0 GL.out).cell 0
                              have c1 := (B1.out.keep0 GL.out).cell 1
                              have c2 := (B1.out.keep0 GL.out).cell 2
                              have c3 := (B1.out.keep0 GL.out).cell 3
                              have c4 := (B1.out.keep0 GL.out).cell 4
                              have c5 := (B1.out.keep0 GL.out).cell 5
                              have c6 := (B1.out.keep0 GL.out).cell 6
                              have c7 := (B1.out.keep0 GL.out).cell 7
                              have c8 := (B1.out.keep0 GL.out).cell 8
                              dsimp at c0 c1 c2 c3 c4 c5 c6 c7 c8
                              have p8 := (KY.out.keep0 GL.out).cell 8
                              dsimp at p8
                              have d0 := (E1.out.keep0 GL.out).cell 0
                              have d1 := (E1.out.keep0 GL.out).cell 1
                              have d2 := (E1.out.keep0 GL.out).cell 2
                              have d3 := (E1.out.keep0 GL.out).cell 3
                              dsimp at d0 d1 d2 d3
                              have e0 := (E2.out.keep0 GL.out).cell 0
                              have e1 := (E2.out.keep0 GL.out).cell 1
                              have e2 := (E2.out.keep0 GL.out).cell 2
                              have e3 := (E2.out.keep0 GL.out).cell 3
                              dsimp at e0 e1 e2 e3
                              go_wp2_with fail
                              refine (MA.out _ GL.out).mono ?_
                              rintro e y10 ⟨rfl, g⟩
                              have M10 := Lib.hid (gb_trans GL.out g)
                              clear g
                              clear c0 c1 c2 c3 c4 c5 c6 c7 c8 p8 d0 d1 d2 d3 e0 e1 e2 e3
                              obtain ⟨rb, hrb⟩ : ∃ r, r = matE b.ks key := ⟨_, rfl⟩
                              rw [← hrb] at MB
                              have RB := Lib.hid hrb.symm
                              clear hrb
                              have SK2 := Lib.hid (fun (V : World) (g : W.grownBy V none) => psame_any V Ya Yb a b (HI.out V g).2.1 (HI.out V g).2.2.1 (by have := of_decide_eq_true NA.out.symm; omega))
                              have SS := Lib.hid (fun (e : matE b.ks key = true) => exact_same (P := P) (t := (k : Int)) (a := a) (b := b) (key := key) (fun i => (HI.out _ (gb_refl _ _)).2.2.2.at_ i) (km_rng (HI.out _ (gb_refl _ _)).2.1.k) (km_rng (HI.out _ (gb_refl _ _)).2.2.1.k) EQA.out.symm EQB.out.symm KX.out RA.out e)
                              generalize samE a b = sm at *
                              have c0 := (B1.out.keep0 M10.out).cell 0
                              have c1 := (B1.out.keep0 M10.out).cell 1
                              have c2 := (B1.out.keep0 M10.out).cell 2
                              have c3 := (B1.out.keep0 M10.out).cell 3
                              have c4 := (B1.out.keep0 M10.out).cell 4
                              have c5 := (B1.out.keep0 M10.out).cell 5
                              have c6 := (B1.out.keep0 M10.out).cell 6
                              have c7 := (B1.out.keep0 M10.out).cell 7
                              have c8 := (B1.out.keep0 M10.out).cell 8
                              dsimp at c0 c1 c2 c3 c4 c5 c6 c7 c8
                              have p8 := (KY.out.keep0 M10.out).cell 8
                              dsimp at p8
                              have d0 := (E1.out.keep0 M10.out).cell 0
                              have d1 := (E1.out.keep0 M10.out).cell 1
                              have d2 := (E1.out.keep0 M10.out).cell 2
                              have d3 := (E1.out.keep0 M10.out).cell 3
                              dsimp at d0 d1 d2 d3
                              have e0 := (E2.out.keep0 M10.out).cell 0
                              have e1 := (E2.out.keep0 M10.out).cell 1
                              have e2 := (E2.out.keep0 M10.out).cell 2
                              have e3 := (E2.out.keep0 M10.out).cell 3
                              dsimp at e0 e1 e2 e3
                              go_wp2_with fail
                              refine (MB.out _ M10.out).mono ?_
                              rintro e y11 ⟨rfl, g⟩
                              have M11 := Lib.hid (gb_trans M10.out g)
                              clear g
                              clear c0 c1 c2 c3 c4 c5 c6 c7 c8 p8 d0 d1 d2 d3 e0 e1 e2 e3
                              cases rb
                              · go_wp2_with fail
                                refine (works_any _).mono ?_
                                rintro e w9 ⟨rfl, g⟩
                                have G9 := Lib.hid (gb_trans M11.out g)
                                clear g
                                go_wp2
                                go_ret
                                exact ⟨rfl, gb_trans GZ.out G9.out⟩
                              · obtain rfl : sm = true := SS.out RB.out
                                have c0 := (B1.out.keep0 M11.out).cell 0
                                have c1 := (B1.out.keep0 M11.out).cell 1
                                have c2 := (B1.out.keep0 M11.out).cell 2
                                have c3 := (B1.out.keep0 M11.out).cell 3
                                have c4 := (B1.out.keep0 M11.out).cell 4
                                have c5 := (B1.out.keep0 M11.out).cell 5
                                have c6 := (B1.out.keep0 M11.out).cell 6
                                have c7 := (B1.out.keep0 M11.out).cell 7
                                have c8 := (B1.out.keep0 M11.out).cell 8
                                dsimp at c0 c1 c2 c3 c4 c5 c6 c7 c8
                                have p8 := (KY.out.keep0 M11.out).cell 8
                                dsimp at p8
                                have d0 := (E1.out.keep0 M11.out).cell 0
                                have d1 := (E1.out.keep0 M11.out).cell 1
                                have d2 := (E1.out.keep0 M11.out).cell 2
                                have d3 := (E1.out.keep0 M11.out).cell 3
                                dsimp at d0 d1 d2 d3
                                have e0 := (E2.out.keep0 M11.out).cell 0
                                have e1 := (E2.out.keep0 M11.out).cell 1
                                have e2 := (E2.out.keep0 M11.out).cell 2
                                have e3 := (E2.out.keep0 M11.out).cell 3
                                dsimp at e0 e1 e2 e3
                                go_wp2_with fail
                                refine (SK2.out _ M11.out).mono ?_
                                rintro e y12 ⟨rfl, g⟩
                                have M12 := Lib.hid (gb_trans M11.out g)
                                clear g
                                clear c0 c1 c2 c3 c4 c5 c6 c7 c8 p8 d0 d1 d2 d3 e0 e1 e2 e3
                                go_wp2_with fail
                                refine (works_any _).mono ?_
                                rintro e w9 ⟨rfl, g⟩
                                have G9 := Lib.hid (gb_trans M12.out g)
                                clear g
                                go_wp2
                                go_ret
                                exact ⟨rfl, gb_trans GZ.out G9.out⟩
                        · have ne : (cb != 0) = true := by rw [bne_iff_ne]; exact zb
                          clear zb
                          go_wp2_with fail
                          refine (works_any _).mono ?_
                          rintro e w9 ⟨rfl, g⟩
                          have G9 := Lib.hid (gb_trans M9.out g)
                          clear g
                          go_wp2
                          go_ret
                          exact ⟨rfl, gb_trans GZ.out G9.out⟩
                      · have ne : (ca != 0) = true := by rw [bne_iff_ne]; exact za
                        clear za
                        go_wp2_with fail
                        refine (works_any _).mono ?_
                        rintro e w9 ⟨rfl, g⟩
                        have G9 := Lib.hid (gb_trans M8.out g)
                        clear g
                        go_wp2
                        go_ret
                        exact ⟨rfl, gb_trans GZ.out G9.out⟩
end Go.Proofs.Ytgdefahnmgonlaa
