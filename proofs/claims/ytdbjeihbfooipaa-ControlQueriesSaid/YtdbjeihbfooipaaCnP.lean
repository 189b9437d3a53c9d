/- Control: the methods that check a node; what a node is; no condition but that the tables are not many. -/
import Derived.Test.YtdbjeihbfooipaaCnO
namespace Go.Proofs.Ytdbjeihbfooipaa
open Go.RowKit
set_option linter.unusedVariables false
/-- What a check of a node leaves. -/
def RetCh (w : World) (cb mb : Nat) (X : KX) (ap : List Int) (E : Int) (x : CV) (e : Ending) (w' : World) : Prop :=
  e = .returned (.int .i64 E) ∧ (E = 0 → CK w' cb mb X (if appl' x = true then ap ++ [x.t] else ap)) ∧ w.grownBy w' (some mb)
/-- The program's declarations that expressions read. -/
structure PR (w : World) (X : KX) (H : List (ByteArray × List Fld)) (M : List Fld) : Prop where
  h : SH w X.ha X.hn X.hc H
  m : SF w X.ma X.mn X.mc M
theorem PR.keep0 {w w2 : World} {X : KX} {H : List (ByteArray × List Fld)} {M : List Fld} (p : PR w X H M) (k : w.grownBy w2 none) : PR w2 X H M := ⟨p.h.keep0 k, p.m.keep0 k⟩
theorem pr_cr {w : World} {X : KX} {H : List (ByteArray × List Fld)} {M : List Fld} (p : PR w X H M) {c : Sl} {N : List Nd} (h : SN w c.a c.n c.c N) :
    CR w { X with na := c.a, nn := c.n, nc := c.c, pa := none, pn := 0, pc := 0, va := none, vn := 0, vc := 0, fa := none, fn := 0, fc := 0, ta := none, tn := 0, tc := 0, la := none, ln := 0, lc := 0, aa := none, an := 0, ac := 0 } (cxP H M) N :=
  ⟨h, p.h, p.m, sf_nil _, ⟨rfl, fun _ => ⟨rfl, rfl⟩, Nat.le_refl _, fun ad e => by cases e⟩, ⟨rfl, fun _ => ⟨rfl, rfl⟩, Nat.le_refl _, fun ad e => by cases e⟩, su_nil _, su_nil _⟩
set_option maxRecDepth 100000 in
set_option maxHeartbeats 8000000 in
theorem cif_any (w : World) (cb mb : Nat) (X : KX) (H : List (ByteArray × List Fld)) (M : List Fld) (ap : List Int) (h : CK w cb mb X ap) (hp : PR w X H M) (x : CV) (hx : SN w x.c.a x.c.n x.c.c x.N) (hk : x.k = 2) (tn : Nat) :
    Calls Try.prog 201 #[.agg #[.int .i64 x.k, .int .i64 x.t, .slice x.c.a x.c.n x.c.c, .slice x.s.a x.s.n x.s.c, .slice x.u.a x.u.n x.u.c], .pointer (some ⟨cb, 0, none⟩)] w (RetCh w cb mb X ap (nodE H M tn ap x) x) := by
  have NE := Lib.hid (show nodE H M tn ap x = cndE H M x.N by unfold nodE; rw [if_neg (by omega), if_pos hk])
  have AP := Lib.hid (show appl' x = false by unfold appl'; rw [hk]; rfl)
  have HC := Lib.hid h
  have KC := Lib.hid (fun (w2 : World) (g : w.grownBy w2 none) => kcheck_any w2 _ (cxP H M) x.N (CR.keep0 (pr_cr hp hx) g))
  unfold RetWE at KC
  dsimp only at KC
  have CE := Lib.hid (show cndE H M x.N = if rE (wholeT (cxP H M) x.N) = 0 then (if rW (wholeT (cxP H M) x.N) = 1 then 0 else 10) else rE (wholeT (cxP H M) x.N) from rfl)
  generalize rE (wholeT (cxP H M) x.N) = re at *
  generalize rW (wholeT (cxP H M) x.N) = rw' at *
  have G1 := Lib.hid (gb_alloc w (.cells #[.int .i64 x.k, .int .i64 x.t, .slice x.c.a x.c.n x.c.c, .slice x.s.a x.s.n x.s.c, .slice x.u.a x.u.n x.u.c] 174) none)
  have B1 := Lib.hid (IsB.new w 174 #[.int .i64 x.k, .int .i64 x.t, .slice x.c.a x.c.n x.c.c, .slice x.s.a x.s.n x.s.c, .slice x.u.a x.u.n x.u.c])
  have C1 := Lib.hid (h.c.keep0 (gb_alloc w (.cells #[.int .i64 x.k, .int .i64 x.t, .slice x.c.a x.c.n x.c.c, .slice x.s.a x.s.n x.s.c, .slice x.u.a x.u.n x.u.c] 174) none))
  clear h hp hx hk
  go_enter Try.func201, Try.ntmps201
  go_upto_region 1 with fail
  generalize w.alloc (.cells #[.int .i64 x.k, .int .i64 x.t, .slice x.c.a x.c.n x.c.c, .slice x.s.a x.s.n x.s.c, .slice x.u.a x.u.n x.u.c] 174) = w1 at *
  obtain ⟨b, hb⟩ : ∃ b, b = w.heap.size := ⟨_, rfl⟩
  rw [← hb] at B1 ⊢
  clear hb
  have KS := Lib.hid (fun (w' : World) (q0 : w1.grownBy w' none) => (⟨(B1.out.keep0 q0).cell 2, (C1.out.keep0 q0).cell 0, (C1.out.keep0 q0).cell 1, (C1.out.keep0 q0).cell 2, (C1.out.keep0 q0).cell 3, (C1.out.keep0 q0).cell 4, (C1.out.keep0 q0).cell 5, (C1.out.keep0 q0).cell 6, (C1.out.keep0 q0).cell 7, (C1.out.keep0 q0).cell 8, q0⟩ : (fun w' : World => w'.cell? ⟨b, 2, none⟩ = some (.slice x.c.a x.c.n x.c.c) ∧ w'.cell? ⟨cb, 0, none⟩ = some (.string X.nm) ∧ w'.cell? ⟨cb, 1, none⟩ = some (.slice X.ha X.hn X.hc) ∧ w'.cell? ⟨cb, 2, none⟩ = some (.slice X.ma X.mn X.mc) ∧ w'.cell? ⟨cb, 3, none⟩ = some (.slice X.a0 X.n0 X.c0) ∧ w'.cell? ⟨cb, 4, none⟩ = some (.slice X.a1 X.n1 X.c1) ∧ w'.cell? ⟨cb, 5, none⟩ = some (.slice X.a2 X.n2 X.c2) ∧ w'.cell? ⟨cb, 6, none⟩ = some (.slice X.a3 X.n3 X.c3) ∧ w'.cell? ⟨cb, 7, none⟩ = some (.slice X.a4 X.n4 X.c4) ∧ w'.cell? ⟨cb, 8, none⟩ = some (.slice X.a5 X.n5 X.c5) ∧ w1.grownBy w' none) w'))
  have H0 := Lib.hid (gb_drew w1 none)
  refine wp_region_held_drew (S := (fun w' : World => w'.cell? ⟨b, 2, none⟩ = some (.slice x.c.a x.c.n x.c.c) ∧ w'.cell? ⟨cb, 0, none⟩ = some (.string X.nm) ∧ w'.cell? ⟨cb, 1, none⟩ = some (.slice X.ha X.hn X.hc) ∧ w'.cell? ⟨cb, 2, none⟩ = some (.slice X.ma X.mn X.mc) ∧ w'.cell? ⟨cb, 3, none⟩ = some (.slice X.a0 X.n0 X.c0) ∧ w'.cell? ⟨cb, 4, none⟩ = some (.slice X.a1 X.n1 X.c1) ∧ w'.cell? ⟨cb, 5, none⟩ = some (.slice X.a2 X.n2 X.c2) ∧ w'.cell? ⟨cb, 6, none⟩ = some (.slice X.a3 X.n3 X.c3) ∧ w'.cell? ⟨cb, 7, none⟩ = some (.slice X.a4 X.n4 X.c4) ∧ w'.cell? ⟨cb, 8, none⟩ = some (.slice X.a5 X.n5 X.c5) ∧ w1.grownBy w' none)) (by kernel_rfl) (KS.out _ H0.out) (fun hH0 => ?_)
  refine wpAnyH_take (i := 0) (v := ?v12001) rfl (by kernel_rfl) (by kernel_rfl) (by kernel_rfl) (fun _ _ _ h => h) (Or.inl ⟨by rfl, ?hy12001⟩) (by assumption) ?rest12001
  case hy12001 => (intro wz hSw; (try dsimp only at hSw); first | (go_simp; done) | (go_simp; with_reducible rfl))
  try simp only [Act.put, List.getElem_toArray, List.getElem_cons_zero, List.setIfInBounds_toArray, List.set_cons_zero, List.set_cons_succ]
  refine wpAnyH_take (i := 1) (v := ?v12002) rfl (by kernel_rfl) (by kernel_rfl) (by kernel_rfl) (fun _ _ _ h => h) (Or.inl ⟨by rfl, ?hy12002⟩) (by assumption) ?rest12002
  case hy12002 => (intro wz hSw; (try dsimp only at hSw); first | (go_simp; done) | (go_simp; with_reducible rfl))
  try simp only [Act.put, List.getElem_toArray, List.getElem_cons_succ, List.getElem_cons_zero, List.setIfInBounds_toArray, List.set_cons_zero, List.set_cons_succ]
  refine wpAnyH_take (i := 2) (v := ?v12003) rfl (by kernel_rfl) (by kernel_rfl) (by kernel_rfl) (fun _ _ _ h => h) (Or.inl ⟨by rfl, ?hy12003⟩) (by assumption) ?rest12003
  case hy12003 => (intro wz hSw; (try dsimp only at hSw); first | (go_simp; done) | (go_simp; with_reducible rfl))
  try simp only [Act.put, List.getElem_toArray, List.getElem_cons_succ, List.getElem_cons_zero, List.setIfInBounds_toArray, List.set_cons_zero, List.set_cons_succ]
  refine wpAnyH_take (i := 3) (v := ?v12004) rfl (by kernel_rfl) (by kernel_rfl) (by kernel_rfl) (fun _ _ _ h => h) (Or.inl ⟨by rfl, ?hy12004⟩) (by assumption) ?rest12004
  case hy12004 => (intro wz hSw; (try dsimp only at hSw); first | (go_simp; done) | (go_simp; with_reducible rfl))
  try simp only [Act.put, List.getElem_toArray, List.getElem_cons_succ, List.getElem_cons_zero, List.setIfInBounds_toArray, List.set_cons_zero, List.set_cons_succ]
  refine wpAnyH_take (i := 4) (v := ?v12005) rfl (by kernel_rfl) (by kernel_rfl) (by kernel_rfl) (fun _ _ _ h => h) (Or.inl ⟨by rfl, ?hy12005⟩) (by assumption) ?rest12005
  case hy12005 => (intro wz hSw; (try dsimp only at hSw); first | (go_simp; done) | (go_simp; with_reducible rfl))
  try simp only [Act.put, List.getElem_toArray, List.getElem_cons_succ, List.getElem_cons_zero, List.setIfInBounds_toArray, List.set_cons_zero, List.set_cons_succ]
  refine wpAnyH_take (i := 5) (v := ?v12006) rfl (by kernel_rfl) (by kernel_rfl) (by kernel_rfl) (fun _ _ _ h => h) (Or.inl ⟨by rfl, ?hy12006⟩) (by assumption) ?rest12006
  case hy12006 => (intro wz hSw; (try dsimp only at hSw); first | (go_simp; done) | (go_simp; with_reducible rfl))
  try simp only [Act.put, List.getElem_toArray, List.getElem_cons_succ, List.getElem_cons_zero, List.setIfInBounds_toArray, List.set_cons_zero, List.set_cons_succ]
  refine wpAnyH_take (i := 6) (v := ?v12007) rfl (by kernel_rfl) (by kernel_rfl) (by kernel_rfl) (fun _ _ _ h => h) (Or.inl ⟨by rfl, ?hy12007⟩) (by assumption) ?rest12007
  case hy12007 => (intro wz hSw; (try dsimp only at hSw); first | (go_simp; done) | (go_simp; with_reducible rfl))
  try simp only [Act.put, List.getElem_toArray, List.getElem_cons_succ, List.getElem_cons_zero, List.setIfInBounds_toArray, List.set_cons_zero, List.set_cons_succ]
  refine wpAnyH_ready (rs := [7]) (by kernel_rfl) (by simp) ?_
  refine AllReadyH.cons (o := _) rfl (fun K hK => ?_) AllReadyH.nil
  go_simp
  (with_reducible refine (KC.out _ (gb_trans G1.out H0.out)).mono ?_)
  rintro e hw1 ⟨rfl, g⟩
  have H1 := Lib.hid (gb_trans H0.out g)
  clear g
  try dsimp only
  refine hK.out _ _ (KS.out _ H1.out) (fun hH1 => ?_)
  clear hK K hH0
  try simp only [Act.put, List.getElem_toArray, List.getElem_cons_succ, List.getElem_cons_zero, List.setIfInBounds_toArray, List.set_cons_zero, List.set_cons_succ]
  refine wpAnyH_take (i := 8) (v := ?v12008) rfl (by kernel_rfl) (by kernel_rfl) (by kernel_rfl) (fun _ _ _ h => h) (Or.inl ⟨by rfl, ?hy12008⟩) (by assumption) ?rest12008
  case hy12008 => (intro wz hSw; (try dsimp only at hSw); first | (go_simp; done) | (go_simp; with_reducible rfl))
  try simp only [Act.put, List.getElem_toArray, List.getElem_cons_succ, List.getElem_cons_zero, List.setIfInBounds_toArray, List.set_cons_zero, List.set_cons_succ]
  refine wpAnyH_take (i := 9) (v := ?v12009) rfl (by kernel_rfl) (by kernel_rfl) (by kernel_rfl) (fun _ _ _ h => h) (Or.inl ⟨by rfl, ?hy12009⟩) (by assumption) ?rest12009
  case hy12009 => (intro wz hSw; (try dsimp only at hSw); first | (go_simp; done) | (go_simp; with_reducible rfl))
  try simp only [Act.put, List.getElem_toArray, List.getElem_cons_succ, List.getElem_cons_zero, List.setIfInBounds_toArray, List.set_cons_zero, List.set_cons_succ]
  refine wpAnyH_take (i := 10) (v := ?v12010) rfl (by kernel_rfl) (by kernel_rfl) (by kernel_rfl) (fun _ _ _ h => h) (Or.inl ⟨by rfl, ?hy12010⟩) (by assumption) ?rest12010
  case hy12010 => (intro wz hSw; (try dsimp only at hSw); first | (go_simp; done) | (go_simp; with_reducible rfl))
  try simp only [Act.put, List.getElem_toArray, List.getElem_cons_succ, List.getElem_cons_zero, List.setIfInBounds_toArray, List.set_cons_zero, List.set_cons_succ]
  refine wpAnyH_take (i := 11) (v := ?v12011) rfl (by kernel_rfl) (by kernel_rfl) (by kernel_rfl) (fun _ _ _ h => h) (Or.inl ⟨by rfl, ?hy12011⟩) (by assumption) ?rest12011
  case hy12011 => (intro wz hSw; (try dsimp only at hSw); first | (go_simp; done) | (go_simp; with_reducible rfl))
  try simp only [Act.put, List.getElem_toArray, List.getElem_cons_succ, List.getElem_cons_zero, List.setIfInBounds_toArray, List.set_cons_zero, List.set_cons_succ]
  refine wpAnyH_take (i := 12) (v := ?v12012) rfl (by kernel_rfl) (by kernel_rfl) (by kernel_rfl) (fun _ _ _ h => h) (Or.inl ⟨by rfl, ?hy12012⟩) (by assumption) ?rest12012
  case hy12012 => (intro wz hSw; (try dsimp only at hSw); first | (go_simp; done) | (go_simp; with_reducible rfl))
  try simp only [Act.put, List.getElem_toArray, List.getElem_cons_succ, List.getElem_cons_zero, List.setIfInBounds_toArray, List.set_cons_zero, List.set_cons_succ]
  refine wpAnyH_done (by kernel_rfl) ?_ _
  clear hH1
  have GZ := Lib.hid (gb_trans G1.out H1.out)
  have CZ := Lib.hid (HC.out.keep0 GZ.out)
  clear KS
  by_cases e0 : re = 0
  · subst e0
    by_cases e1 : rw' = 1
    · subst e1
      have FE := Lib.hid (NE.out.trans (CE.out.trans rfl))
      go_wp2
      go_ret
      exact ⟨by rw [FE.out] <;> rfl, (fun _ => by rw [AP.out]; exact CZ.out), gb_any GZ.out⟩
    · have d1 : (rw' != 1) = true := by rw [bne_iff_ne]; exact e1
      have d2 : (rw' == 1) = false := by rw [beq_eq_false_iff_ne]; exact e1
      have FE := Lib.hid (show nodE H M tn ap x = 10 by rw [NE.out, CE.out, if_pos rfl, if_neg e1])
      go_wp2
      go_ret
      exact ⟨by rw [FE.out] <;> rfl, (fun q => by rw [FE.out] at q; cases q), gb_any GZ.out⟩
  · have d1 : (re != 0) = true := by rw [bne_iff_ne]; exact e0
    have d2 : (re == 0) = false := by rw [beq_eq_false_iff_ne]; exact e0
    have FE := Lib.hid (show nodE H M tn ap x = re by rw [NE.out, CE.out, if_neg e0])
    have E0 := Lib.hid e0
    go_wp2
    go_ret
    exact ⟨by rw [FE.out] <;> rfl, (fun q => by rw [FE.out] at q; exact absurd q E0.out), gb_any GZ.out⟩
set_option maxRecDepth 100000 in
set_option maxHeartbeats 8000000 in
theorem capply_any (w : World) (cb mb : Nat) (X : KX) (H : List (ByteArray × List Fld)) (M : List Fld) (ap : List Int) (h : CK w cb mb X ap) (hl : ap.length ≤ 1000) (hT : X.n2 ≤ 1000000) (x : CV) (hk : x.k = 1) :
    Calls Try.prog 199 #[.agg #[.int .i64 x.k, .int .i64 x.t, .slice x.c.a x.c.n x.c.c, .slice x.s.a x.s.n x.s.c, .slice x.u.a x.u.n x.u.c], .pointer (some ⟨cb, 0, none⟩)] w (RetCh w cb mb X ap (nodE H M X.n2 ap x) x) := by
  have NE := Lib.hid (show nodE H M X.n2 ap x = if tblE X.n2 ap x.t = 0 then (if 0 < x.s.n ∨ 0 < x.u.n then 5 else 0) else tblE X.n2 ap x.t by unfold nodE; rw [if_pos hk])
  have AP := Lib.hid (show appl' x = true by unfold appl'; rw [hk]; rfl)
  have G1 := Lib.hid (gb_alloc w (.cells #[.int .i64 x.k, .int .i64 x.t, .slice x.c.a x.c.n x.c.c, .slice x.s.a x.s.n x.s.c, .slice x.u.a x.u.n x.u.c] 173) none)
  have B1 := Lib.hid (IsB.new w 173 #[.int .i64 x.k, .int .i64 x.t, .slice x.c.a x.c.n x.c.c, .slice x.s.a x.s.n x.s.c, .slice x.u.a x.u.n x.u.c])
  have TB := Lib.hid (ctbl_any _ cb mb X ap (h.keep0 (gb_alloc w (.cells #[.int .i64 x.k, .int .i64 x.t, .slice x.c.a x.c.n x.c.c, .slice x.s.a x.s.n x.s.c, .slice x.u.a x.u.n x.u.c] 173) none)) hl hT x.t)
  have NB := Lib.hid (show w.heap.size ≠ mb by
    obtain ⟨D, n, o, _⟩ := h.m
    have := o.lt
    omega)
  unfold RetTb at TB
  generalize tblE X.n2 ap x.t = te at *
  clear h hk
  go_enter Try.func199, Try.ntmps199
  go_upto_region 1 with fail
  generalize w.alloc (.cells #[.int .i64 x.k, .int .i64 x.t, .slice x.c.a x.c.n x.c.c, .slice x.s.a x.s.n x.s.c, .slice x.u.a x.u.n x.u.c] 173) = w1 at *
  obtain ⟨b, hb⟩ : ∃ b, b = w.heap.size := ⟨_, rfl⟩
  rw [← hb] at B1 NB ⊢
  clear hb
  have b1 := B1.out.cell 1
  dsimp at b1
  go_upto_region 2 with (go_at_call 198; refine TB.out.mono ?_; rintro e w2 ⟨rfl, k2, g2⟩; have K2 := Lib.hid k2; have G2 := Lib.hid (gb_trans (gb_any G1.out) g2); have B2 := Lib.hid (B1.out.keep g2 (by intro q; injection q with q; exact NB.out q)); clear k2 g2)
  have b3 := B2.out.cell 3
  have b4 := B2.out.cell 4
  dsimp at b3 b4
  clear b1 TB
  by_cases e0 : te = 0
  · subst e0
    by_cases h3 : 0 < x.s.n
    · have i3 : (0 : Int) < (x.s.n : Int) := by omega
      have FE := Lib.hid (show nodE H M X.n2 ap x = 5 by rw [NE.out, if_pos rfl, if_pos (.inl h3)])
      go_wp2
      go_ret
      exact ⟨by rw [FE.out] <;> rfl, (fun q => by rw [FE.out] at q; cases q), G2.out⟩
    have i3 : ¬ (0 : Int) < (x.s.n : Int) := by omega
    by_cases h4 : 0 < x.u.n
    · have i4 : (0 : Int) < (x.u.n : Int) := by omega
      have FE := Lib.hid (show nodE H M X.n2 ap x = 5 by rw [NE.out, if_pos rfl, if_pos (.inr h4)])
      go_wp2
      go_ret
      exact ⟨by rw [FE.out] <;> rfl, (fun q => by rw [FE.out] at q; cases q), G2.out⟩
    have i4 : ¬ (0 : Int) < (x.u.n : Int) := by omega
    have FE := Lib.hid (show nodE H M X.n2 ap x = 0 by rw [NE.out, if_pos rfl, if_neg (by omega)])
    go_wp2
    go_ret
    exact ⟨by rw [FE.out] <;> rfl, (fun q => by rw [AP.out]; exact K2.out), G2.out⟩
  · have d1 : (te != 0) = true := by rw [bne_iff_ne]; exact e0
    have d2 : (te == 0) = false := by rw [beq_eq_false_iff_ne]; exact e0
    have FE := Lib.hid (show nodE H M X.n2 ap x = te by rw [NE.out, if_neg e0])
    have E0 := Lib.hid e0
    go_wp2
    go_ret
    exact ⟨by rw [FE.out] <;> rfl, (fun q => by rw [FE.out] at q; exact absurd q E0.out), G2.out⟩
set_option maxRecDepth 100000 in
set_option maxHeartbeats 8000000 in
theorem chit_any (w : World) (cb mb : Nat) (X : KX) (H : List (ByteArray × List Fld)) (M : List Fld) (ap : List Int) (h : CK w cb mb X ap) (hl : ap.length ≤ 1000) (hT : X.n2 ≤ 1000000) (x : CV) (hk : x.k = 3) :
    Calls Try.prog 204 #[.agg #[.int .i64 x.k, .int .i64 x.t, .slice x.c.a x.c.n x.c.c, .slice x.s.a x.s.n x.s.c, .slice x.u.a x.u.n x.u.c], .pointer (some ⟨cb, 0, none⟩)] w (RetCh w cb mb X ap (nodE H M X.n2 ap x) x) := by
  have NE := Lib.hid (show nodE H M X.n2 ap x = tblE X.n2 ap x.t by unfold nodE; rw [if_neg (by omega), if_neg (by omega), if_pos hk])
  have AP := Lib.hid (show appl' x = true by unfold appl'; rw [hk]; rfl)
  have G1 := Lib.hid (gb_alloc w (.cells #[.int .i64 x.k, .int .i64 x.t, .slice x.c.a x.c.n x.c.c, .slice x.s.a x.s.n x.s.c, .slice x.u.a x.u.n x.u.c] 175) none)
  have B1 := Lib.hid (IsB.new w 175 #[.int .i64 x.k, .int .i64 x.t, .slice x.c.a x.c.n x.c.c, .slice x.s.a x.s.n x.s.c, .slice x.u.a x.u.n x.u.c])
  have TB := Lib.hid (ctbl_any _ cb mb X ap (h.keep0 (gb_alloc w (.cells #[.int .i64 x.k, .int .i64 x.t, .slice x.c.a x.c.n x.c.c, .slice x.s.a x.s.n x.s.c, .slice x.u.a x.u.n x.u.c] 175) none)) hl hT x.t)
  unfold RetTb at TB
  generalize tblE X.n2 ap x.t = te at *
  clear h hk
  go_enter Try.func204, Try.ntmps204
  go_upto_region 1 with fail
  generalize w.alloc (.cells #[.int .i64 x.k, .int .i64 x.t, .slice x.c.a x.c.n x.c.c, .slice x.s.a x.s.n x.s.c, .slice x.u.a x.u.n x.u.c] 175) = w1 at *
  obtain ⟨b, hb⟩ : ∃ b, b = w.heap.size := ⟨_, rfl⟩
  rw [← hb] at B1 ⊢
  clear hb
  have b1 := B1.out.cell 1
  dsimp at b1
  go_wp2_with (go_at_call 198; refine TB.out.mono ?_; rintro e w2 ⟨rfl, k2, g2⟩; have K2 := Lib.hid k2; have G2 := Lib.hid (gb_trans (gb_any G1.out) g2); clear k2 g2)
  go_ret
  exact ⟨by rw [NE.out] <;> rfl, (fun q => by rw [NE.out] at q; have k := K2.out; rw [if_pos q] at k; rw [AP.out]; exact k), G2.out⟩
/-- A node as a value of its kind. -/
def nodV (x : CV) : Value :=
  if x.k = 1 then .iface 173 (.agg #[.int .i64 1, .int .i64 x.t, .slice x.c.a x.c.n x.c.c, .slice x.s.a x.s.n x.s.c, .slice x.u.a x.u.n x.u.c]) else if x.k = 2 then .iface 174 (.agg #[.int .i64 2, .int .i64 x.t, .slice x.c.a x.c.n x.c.c, .slice x.s.a x.s.n x.s.c, .slice x.u.a x.u.n x.u.c]) else if x.k = 3 then .iface 175 (.agg #[.int .i64 3, .int .i64 x.t, .slice x.c.a x.c.n x.c.c, .slice x.s.a x.s.n x.s.c, .slice x.u.a x.u.n x.u.c]) else .iface 177 (.agg #[])
set_option maxRecDepth 100000 in
set_option maxHeartbeats 8000000 in
theorem nodeOf_any (w : World) (x : CV) : Calls Try.prog 74 #[.agg #[.int .i64 x.k, .int .i64 x.t, .slice x.c.a x.c.n x.c.c, .slice x.s.a x.s.n x.s.c, .slice x.u.a x.u.n x.u.c]] w (fun e w' => e = .returned (nodV x) ∧ w.grownBy w' none) := by
  have G1 := Lib.hid (gb_alloc w (.cells #[.int .i64 x.k, .int .i64 x.t, .slice x.c.a x.c.n x.c.c, .slice x.s.a x.s.n x.s.c, .slice x.u.a x.u.n x.u.c] 67) none)
  have ND := Lib.hid (show nodV x = if x.k = 1 then .iface 173 (.agg #[.int .i64 1, .int .i64 x.t, .slice x.c.a x.c.n x.c.c, .slice x.s.a x.s.n x.s.c, .slice x.u.a x.u.n x.u.c]) else if x.k = 2 then .iface 174 (.agg #[.int .i64 2, .int .i64 x.t, .slice x.c.a x.c.n x.c.c, .slice x.s.a x.s.n x.s.c, .slice x.u.a x.u.n x.u.c]) else if x.k = 3 then .iface 175 (.agg #[.int .i64 3, .int .i64 x.t, .slice x.c.a x.c.n x.c.c, .slice x.s.a x.s.n x.s.c, .slice x.u.a x.u.n x.u.c]) else .iface 177 (.agg #[]) from rfl)
  obtain ⟨xk, xt, ⟨ca, cn, cc⟩, N, ⟨ta, tn, tc⟩, th, ⟨ea, en, ec⟩, el⟩ := x
  dsimp only at *
  by_cases h1 : xk = 1
  · subst h1
    rw [if_pos rfl] at ND
    go_enter Try.func74, Try.ntmps74
    go_wp2
    go_ret
    exact ⟨by rw [ND.out] <;> rfl, G1.out⟩
  have e1 : (xk == 1) = false := by rw [beq_eq_false_iff_ne]; exact h1
  have q1 : decide (xk = 1) = false := decide_eq_false h1
  rw [if_neg h1] at ND
  by_cases h2 : xk = 2
  · subst h2
    rw [if_pos rfl] at ND
    go_enter Try.func74, Try.ntmps74
    go_wp2
    go_ret
    exact ⟨by rw [ND.out] <;> rfl, G1.out⟩
  have e2 : (xk == 2) = false := by rw [beq_eq_false_iff_ne]; exact h2
  have q2 : decide (xk = 2) = false := decide_eq_false h2
  rw [if_neg h2] at ND
  by_cases h3 : xk = 3
  · subst h3
    rw [if_pos rfl] at ND
    go_enter Try.func74, Try.ntmps74
    go_wp2
    go_ret
    exact ⟨by rw [ND.out] <;> rfl, G1.out⟩
  have e3 : (xk == 3) = false := by rw [beq_eq_false_iff_ne]; exact h3
  have q3 : decide (xk = 3) = false := decide_eq_false h3
  rw [if_neg h3] at ND
  go_enter Try.func74, Try.ntmps74
  go_wp2
  go_ret
  exact ⟨by rw [ND.out] <;> rfl, G1.out⟩
set_option maxRecDepth 100000 in
theorem cunk_any (w : World) (cb mb : Nat) (X : KX) (H : List (ByteArray × List Fld)) (M : List Fld) (tn : Nat) (ap : List Int) (x : CV) (hk : ¬ x.k = 1 ∧ ¬ x.k = 2 ∧ ¬ x.k = 3) :
    Calls Try.prog 206 #[.agg #[], .pointer (some ⟨cb, 0, none⟩)] w (RetCh w cb mb X ap (nodE H M tn ap x) x) := by
  have NE := Lib.hid (show nodE H M tn ap x = 11 by unfold nodE; rw [if_neg hk.1, if_neg hk.2.1, if_neg hk.2.2])
  have G1 := Lib.hid (gb_alloc w (.cells #[] 177) none)
  clear hk
  go_enter Try.func206, Try.ntmps206
  go_wp2
  go_ret
  exact ⟨by rw [NE.out] <;> rfl, (fun q => by rw [NE.out] at q; cases q), gb_any (by first | exact G1.out | exact gb_refl _ _)⟩
end Go.Proofs.Ytdbjeihbfooipaa
