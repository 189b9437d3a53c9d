/- Env: the reference's validity; no condition but sizes. -/
import Derived.Test.YtolifmpnhflegaaEvR
namespace Go.Proofs.Ytolifmpnhflegaa
open Go.RowKit
set_option linter.unusedVariables false
theorem chL_same (g : Int → Int → Int) (l : List Int) (h : ∀ i x, g i x = x) : chL g l = l := by
  unfold chL
  apply List.ext_getElem (by simp)
  intro i a b
  simp [h]
theorem chL_zero (g : Int → Int → Int) (l : List Int) (h : ∀ i x, g i x = 0) : chL g l = List.replicate l.length 0 := by
  unfold chL
  apply List.ext_getElem (by simp)
  intro i a b
  simp [h]
/-- A validity set, its header's values zero. -/
def withV (L : EL) (j : Nat) (b : Bool) : EL := ⟨L.V.set j b, if j < L.F.length then L.F.set j (List.replicate (L.F.getD j []).length 0) else L.F, L.T, L.P⟩
theorem withV_eq (L : EL) (j : Nat) (b : Bool) : withV L j b = withE L j b := by
  unfold withV withE
  have e1 : chL (zerG j (-1)) L.T = L.T := chL_same _ _ fun i x => by unfold zerG; rw [if_neg (by omega)]
  have e2 : chF (zerG j) L.F = if j < L.F.length then L.F.set j (List.replicate (L.F.getD j []).length 0) else L.F := by
    by_cases hj : j < L.F.length
    · rw [if_pos hj]
      apply List.ext_getElem (by simp [chF])
      intro i a b
      have hi : i < L.F.length := by simpa [chF] using a
      simp only [chF, List.getElem_mapIdx]
      by_cases e : i = j
      · subst e
        rw [chL_zero _ _ (fun _ _ => by simp [zerG])]
        simp [hi]
      · rw [chL_same _ _ (fun _ _ => by unfold zerG; rw [if_neg (by omega)])]
        simp [Ne.symm e]
    · rw [if_neg hj]
      apply List.ext_getElem (by simp [chF])
      intro i a b
      have hi : i < L.F.length := by simpa [chF] using a
      simp only [chF, List.getElem_mapIdx]
      rw [chL_same _ _ (fun _ _ => by unfold zerG; rw [if_neg (by omega)])]
  rw [e1, e2]
theorem oe_setf {w w2 : World} {base g n c j : Nat} {V' : Value} {l : List Int} {X : EX} {L : EL} {Vs : List Value} (h : OE w base X L Vs) (hv : Value.slice X.fa X.fn X.fc = .slice (some ⟨g, 0, none⟩) n c) (hj : j < L.F.length) (k : w.grownBy w2 none) (o : NU w2 w.heap.size V' l) (hl : base ≤ w.heap.size) (hr : ∀ y ∈ l, 0 ≤ y ∧ y < 4294967296) :
    OE (w2.setCell ⟨g, j, none⟩ V') base X ⟨L.V, L.F.set j l, L.T, L.P⟩ (Vs.set j V') := by
  have h2 := h.keep0 k
  have hb := h2.f.out
  rw [hv] at hb
  have hn : n = L.F.length := by injection hv with _ q _; rw [h.fl]; exact q.symm
  subst hn
  obtain ⟨cs, ib⟩ := own_blk hb
  have kp : ∀ {e : TypeId} {base : Nat} {v : Value} {n : Nat} {xs : List Value}, w2.ownsRow base e 1 v n xs → e ≠ 34 → World.ownsRow (w2.setCell ⟨g, j, none⟩ V') base e 1 v n xs := fun h hn => own_keepS h (gb_set _ _ _ _) ib hn
  have P := OR.put (by have q := h.f; rw [hv] at q; exact q) rfl j hj V' l k (own_low o hl) (fun q e => (World.ownsRow.lt o q e).1) hr
  refine ⟨kp h2.v (by decide), (by show OR _ _ (Value.slice X.fa X.fn X.fc) _ _; rw [hv]; exact P), kp h2.t (by decide), kp h2.p (by decide), h.vl, (by show (L.F.set j l).length = _; rw [List.length_set]; exact h.fl), h.tl, h.pl, h.trng, h.prng, ?_⟩
  intro x hx q e e3
  have hx2 : x < L.F.length := by have hx : x < (L.F.set j l).length := hx; rw [List.length_set] at hx; exact hx
  by_cases ex : x = j
  · subst ex
    rw [getD_set_at _ _ _ _ (by rw [h.f.nV]; exact hx2)] at e
    have l1 := (World.ownsRow.lt o q e).1
    have l2 := (World.ownsRow.lt h.t q e3).2
    omega
  · rw [getD_set_off _ _ _ _ _ ex] at e
    exact h.dis x hx2 q e e3
set_option maxRecDepth 100000 in
set_option maxHeartbeats 8000000 in
theorem rvalid_any (w : World) (X : EX) (L : EL) (h : ER w X L) (hz : EZ X L) (j : Nat) (b : Bool) (hj : j < X.vn) : Calls Try.prog 52 #[.agg #[.slice X.va X.vn X.vc, .slice X.fa X.fn X.fc, .slice X.ta X.tn X.tc, .slice X.pa X.pn X.pc], .int .i64 (j : Int), .bool b] w (RetE (withV L j b) w) := by
  have HR := Lib.hid h
  have HZ := Lib.hid hz
  obtain ⟨iU, iu, iU0, iU1, iU2⟩ := info_parts infoU32
  have IU := Lib.hid iu
  clear iu
  have G3 := Lib.hid (gb_trans (gb_alloc w (.cells #[.slice X.va X.vn X.vc, .slice X.fa X.fn X.fc, .slice X.ta X.tn X.tc, .slice X.pa X.pn X.pc] 37) none) (gb_alloc _ (.cells #[.slice none 0 0, .slice none 0 0, .slice none 0 0, .slice none 0 0] 37) none))
  have B1 := (IsB.new w 37 #[.slice X.va X.vn X.vc, .slice X.fa X.fn X.fc, .slice X.ta X.tn X.tc, .slice X.pa X.pn X.pc]).alloc (.cells #[.slice none 0 0, .slice none 0 0, .slice none 0 0, .slice none 0 0] 37)
  have B2 := IsB.new (w.alloc (.cells #[.slice X.va X.vn X.vc, .slice X.fa X.fn X.fc, .slice X.ta X.tn X.tc, .slice X.pa X.pn X.pc] 37)) 37 #[.slice none 0 0, .slice none 0 0, .slice none 0 0, .slice none 0 0]
  simp only [sz_al] at B2
  replace B1 := Lib.hid B1
  replace B2 := Lib.hid B2
  clear h hz
  go_enter Try.func52, Try.ntmps52
  go_upto_region 1 with fail
  generalize (w.alloc (.cells #[.slice X.va X.vn X.vc, .slice X.fa X.fn X.fc, .slice X.ta X.tn X.tc, .slice X.pa X.pn X.pc] 37)).alloc (.cells #[.slice none 0 0, .slice none 0 0, .slice none 0 0, .slice none 0 0] 37) = w3 at *
  obtain ⟨bx, hbx⟩ : ∃ b, b = w.heap.size := ⟨_, rfl⟩
  have Lbx := Lib.hid (show w.heap.size ≤ bx by rw [hbx]; exact Nat.le_refl _)
  rw [← hbx] at B1 B2 ⊢
  clear hbx
  have CC := Lib.hid (rclone_any w3 X L (HR.out.keep0 G3.out) HZ.out)
  have c0 := B1.out.cell 0
  have c1 := B1.out.cell 1
  have c2 := B1.out.cell 2
  have c3 := B1.out.cell 3
  dsimp at c0 c1 c2 c3
  go_upto_region 2 with (go_at_call 31; refine CC.out.mono ?_; clear CC; rintro e wz ⟨Xz, Vz, rfl, oe, gz⟩)
  have GA := gb_alloc wz (.cells #[.slice Xz.va Xz.vn Xz.vc, .slice Xz.fa Xz.fn Xz.fc, .slice Xz.ta Xz.tn Xz.tc, .slice Xz.pa Xz.pn Xz.pc] 37) none
  have N7 := IsB.new wz 37 #[.slice Xz.va Xz.vn Xz.vc, .slice Xz.fa Xz.fn Xz.fc, .slice Xz.ta Xz.tn Xz.tc, .slice Xz.pa Xz.pn Xz.pc]
  have OA := oe.keep0 GA
  have G5 := Lib.hid (gb_trans gz GA)
  clear c0 c1 c2 c3
  generalize wz.alloc (.cells #[.slice Xz.va Xz.vn Xz.vc, .slice Xz.fa Xz.fn Xz.fc, .slice Xz.ta Xz.tn Xz.tc, .slice Xz.pa Xz.pn Xz.pc] 37) = w5 at *
  have S7 := Lib.hid gz.size
  generalize wz.heap.size = b7 at *
  have hvl : Xz.vn = X.vn := by have a1 := oe.vl; have a2 := HR.out.v.len; show Xz.vn = X.vn; rw [← a2]; exact a1.symm
  have hfl := Lib.hid (show L.F.length = Xz.fn from oe.fl)
  obtain ⟨g, c, hv⟩ := own_head (show w5.ownsRow w3.heap.size 4 1 (.slice Xz.va Xz.vn Xz.vc) Xz.vn (L.V.map Value.bool) by have k := OA.v; unfold NB at k; rw [OA.vl] at k; exact k) (by omega)
  obtain ⟨o2, cs, ibg⟩ := oe_setv (j := j) (b := b) OA hv
  have q1 := ibg.free j
  have GL := Lib.hid (show w3.heap.size ≤ g from by have k := OA.v; unfold NB at k; rw [hv] at k; exact (World.ownsRow.lt k g rfl).1)
  have ne : b7 ≠ g := IsB.ne N7 ibg (by decide)
  have N8 := Lib.hid (N7.set_far (g2 := g) ne j (.bool b))
  have e0 := N7.cell 0
  dsimp at e0
  have hva : Xz.va = some ⟨g, 0, none⟩ := by injection hv
  have q2 := (nb_sb OA.v OA.vl).cells ⟨g, 0, none⟩ hva j (by rw [hvl]; exact hj)
  rw [addr0] at q2
  have O2 := Lib.hid o2
  have G6 := Lib.hid (show w3.grownBy (w5.setCell ⟨g, j, none⟩ (.bool b)) none from gb_put G5.out GL.out)
  have i1 : (j : Int) < Xz.vn := by rw [hvl]; omega
  have i0 : (0 : Int) ≤ (j : Int) := by omega
  rw [hv] at e0
  clear oe gz OA o2 ibg ne N7 hva hvl GA
  go_upto_region 3 with fail
  clear e0 q1 q2 hv
  generalize w5.setCell ⟨g, j, none⟩ (.bool b) = w6 at *
  have n1 := N8.out.cell 1
  dsimp at n1
  by_cases hf : j < Xz.fn
  · have i2 : (j : Int) < Xz.fn := by omega
    go_upto_region 4 with fail
    clear n1
    have hjF : j < L.F.length := by rw [hfl.out]; exact hf
    obtain ⟨gf, cf, hvf⟩ := own_head O2.out.f.out (by show 0 < L.F.length; omega)
    have NU5 := O2.out.f.own j hjF
    have hjV : j < Vz.length := by rw [O2.out.f.nV]; exact hjF
    obtain ⟨ra, rc, hrow⟩ := nu_shape NU5
    obtain ⟨n5, hn5⟩ : ∃ n, n = (L.F.getD j []).length := ⟨_, rfl⟩
    have LN5 := Lib.hid (show n5 ≤ 100000 by rw [hn5]; exact HZ.out.r j)
    have RC := Lib.hid (show ∀ v, w6.grownBy v none → v.cell? ⟨gf, j, none⟩ = some (.slice ra n5 rc) from fun v q => by
      have k := (own_keep0 O2.out.f.out q)
      rw [hvf] at k
      have k2 := k.cells (g := gf) rfl j (Vz.getD j nilV) (by rw [List.getD_eq_getElem?_getD, List.getElem?_eq_getElem hjV]; rfl)
      rw [addr0, hrow] at k2
      rw [hn5]; exact k2)
    have IG := Lib.hid (show ∀ v, w6.grownBy v none → ∃ cs, IsB v gf 34 cs from fun v q => by
      have k := (own_keep0 O2.out.f.out q)
      rw [hvf] at k
      exact own_blk k)
    have PUT := Lib.hid (fun (v : World) (V' : Value) (q : w6.grownBy v none) (o : NU v w6.heap.size V' (List.replicate n5 0)) => oe_setf (j := j) O2.out hvf hjF q o G6.out.size (zero_rng n5))
    have GF := Lib.hid (show w3.heap.size ≤ gf from by have k := O2.out.f.out; rw [hvf] at k; exact (World.ownsRow.lt k gf rfl).1)
    have FX := Lib.hid hvf
    have FL := Lib.hid (show L.F.length = Xz.fn from hfl.out)
    have i3 : (j : Int) < (L.F.length : Nat) := by omega
    have RES := Lib.hid (show L.F.set j (List.replicate n5 0) = if j < L.F.length then L.F.set j (List.replicate (L.F.getD j []).length 0) else L.F by rw [if_pos hjF, hn5])
    clear hrow NU5 hvf hn5
    have KT := Lib.hid (fun (w' : World) (q : IsB w' b7 37 #[.slice Xz.va Xz.vn Xz.vc, .slice Xz.fa Xz.fn Xz.fc, .slice Xz.ta Xz.tn Xz.tc, .slice Xz.pa Xz.pn Xz.pc]) => (by have k := q.cell 1; dsimp at k; rw [FX.out] at k; exact k : (fun w' : World => w'.cell? ⟨b7, 1, none⟩ = some (.slice (some ⟨gf, 0, none⟩) L.F.length cf)) w'))
    have G := Lib.hid (gb_drew w6 none)
    refine wp_region_held_drew (S := (fun w' : World => w'.cell? ⟨b7, 1, none⟩ = some (.slice (some ⟨gf, 0, none⟩) L.F.length cf))) (by kernel_rfl) (KT.out _ (N8.out.keep0 G.out)) (fun hH0 => ?_)
    generalize w6.drew = v0 at *
    refine wpAnyH_take (i := 0) (v := ?v249) rfl (by kernel_rfl) (by kernel_rfl) (by kernel_rfl) (fun _ _ _ h => h) (Or.inl ⟨by rfl, ?hy249⟩) (by assumption) ?rest249
    case hy249 => (intro wz hSw; (try dsimp only at hSw); first | (go_simp; done) | (go_simp; with_reducible rfl))
    try simp only [Act.put, List.getElem_toArray, List.getElem_cons_zero, List.setIfInBounds_toArray, List.set_cons_zero, List.set_cons_succ]
    refine wpAnyH_take (i := 1) (v := ?v250) rfl (by kernel_rfl) (by kernel_rfl) (by kernel_rfl) (fun _ _ _ h => h) (Or.inl ⟨by rfl, ?hy250⟩) (by assumption) ?rest250
    case hy250 => (intro wz hSw; (try dsimp only at hSw); first | (go_simp; done) | (go_simp; with_reducible rfl))
    try simp only [Act.put, List.getElem_toArray, List.getElem_cons_succ, List.getElem_cons_zero, List.setIfInBounds_toArray, List.set_cons_zero, List.set_cons_succ]
    refine wpAnyH_take (i := 2) (v := ?v251) rfl (by kernel_rfl) (by kernel_rfl) (by kernel_rfl) (fun _ _ _ h => h) (Or.inl ⟨by rfl, ?hy251⟩) (by assumption) ?rest251
    case hy251 => (intro wz hSw; (try dsimp only at hSw); first | (go_simp; done) | (go_simp; with_reducible rfl))
    try simp only [Act.put, List.getElem_toArray, List.getElem_cons_succ, List.getElem_cons_zero, List.setIfInBounds_toArray, List.set_cons_zero, List.set_cons_succ]
    refine wpAnyH_take (i := 3) (v := ?v252) rfl (by kernel_rfl) (by kernel_rfl) (by kernel_rfl) (fun _ _ _ h => h) (Or.inl ⟨by rfl, ?hy252⟩) (by assumption) ?rest252
    case hy252 => (intro wz hSw; (try dsimp only at hSw); first | (go_simp; done) | (go_simp; with_reducible rfl))
    try simp only [Act.put, List.getElem_toArray, List.getElem_cons_succ, List.getElem_cons_zero, List.setIfInBounds_toArray, List.set_cons_zero, List.set_cons_succ]
    refine wpAnyH_take (i := 4) (v := ?v253) rfl (by kernel_rfl) (by kernel_rfl) (by kernel_rfl) (fun _ _ _ h => h) (Or.inl ⟨by rfl, ?hy253⟩) (by assumption) ?rest253
    case hy253 => (intro wz hSw; (try dsimp only at hSw); first | (go_simp; done) | (go_simp; with_reducible rfl))
    try simp only [Act.put, List.getElem_toArray, List.getElem_cons_succ, List.getElem_cons_zero, List.setIfInBounds_toArray, List.set_cons_zero, List.set_cons_succ]
    refine wpAnyH_take (i := 5) (v := ?v254) rfl (by kernel_rfl) (by kernel_rfl) (by kernel_rfl) (fun _ _ _ h => h) (Or.inl ⟨by rfl, ?hy254⟩) (by assumption) ?rest254
    case hy254 => (intro wz hSw; (try dsimp only at hSw); first | (go_simp; done) | (go_simp; with_reducible rfl))
    try simp only [Act.put, List.getElem_toArray, List.getElem_cons_succ, List.getElem_cons_zero, List.setIfInBounds_toArray, List.set_cons_zero, List.set_cons_succ]
    refine wpAnyH_take (i := 6) (v := ?v255) rfl (by kernel_rfl) (by kernel_rfl) (by kernel_rfl) (fun _ _ _ h => h) (Or.inl ⟨by rfl, ?hy255⟩) (by assumption) ?rest255
    case hy255 => (intro wz hSw; (try dsimp only at hSw); first | (go_simp; done) | (go_simp; with_reducible rfl))
    try simp only [Act.put, List.getElem_toArray, List.getElem_cons_succ, List.getElem_cons_zero, List.setIfInBounds_toArray, List.set_cons_zero, List.set_cons_succ]
    have r0 := RC.out _ G.out
    refine wpAnyH_ready (rs := [7]) (by kernel_rfl) (by simp) ?_
    refine AllReadyH.cons (o := _) rfl (fun K hK => ?_) AllReadyH.nil
    go_simp
    refine hK.out _ _ (KT.out _ (N8.out.keep0 G.out)) (fun hH1 => ?_)
    clear hK K r0
    try simp only [Act.put, List.getElem_toArray, List.getElem_cons_succ, List.getElem_cons_zero, List.setIfInBounds_toArray, List.set_cons_zero, List.set_cons_succ]
    refine wpAnyH_take (i := 8) (v := ?v256) rfl (by kernel_rfl) (by kernel_rfl) (by kernel_rfl) (fun _ _ _ h => h) (Or.inl ⟨by rfl, ?hy256⟩) (by assumption) ?rest256
    case hy256 => (intro wz hSw; (try dsimp only at hSw); first | (go_simp; done) | (go_simp; with_reducible rfl))
    try simp only [Act.put, List.getElem_toArray, List.getElem_cons_succ, List.getElem_cons_zero, List.setIfInBounds_toArray, List.set_cons_zero, List.set_cons_succ]
    refine wpAnyH_ready (rs := [9]) (by kernel_rfl) (by simp) ?_
    refine AllReadyH.cons (o := _) rfl (fun K hK => ?_) AllReadyH.nil
    refine mstep_any rfl _ _ 34 49 iU (.int .u32 0) 4 rfl Try.underlying34 IU.out iU0 iU1 iU2 (by decide) rfl n5 rfl rfl LN5.out ?_
    intro v1 o5 g5
    have R5 := Lib.hid (show NU v1 w6.heap.size (.slice (some ⟨v0.heap.size, 0, none⟩) n5 n5) (List.replicate n5 0) by have k := own_low o5 G.out.size; unfold NU; rw [List.length_replicate, List.map_replicate]; exact k)
    replace G := Lib.hid (gb_trans G.out g5)
    refine hK.out _ _ (KT.out _ (N8.out.keep0 G.out)) (fun hH2 => ?_)
    clear hK K o5 g5
    try simp only [Act.put, List.getElem_toArray, List.getElem_cons_succ, List.getElem_cons_zero, List.setIfInBounds_toArray, List.set_cons_zero, List.set_cons_succ]
    refine wpAnyH_take (i := 10) (v := ?v257) rfl (by kernel_rfl) (by kernel_rfl) (by kernel_rfl) (fun _ _ _ h => h) (Or.inl ⟨by rfl, ?hy257⟩) (by assumption) ?rest257
    case hy257 => (intro wz hSw; (try dsimp only at hSw); first | (go_simp; done) | (go_simp; with_reducible rfl))
    try simp only [Act.put, List.getElem_toArray, List.getElem_cons_succ, List.getElem_cons_zero, List.setIfInBounds_toArray, List.set_cons_zero, List.set_cons_succ]
    obtain ⟨b5, hb5⟩ : ∃ b, b = v0.heap.size := ⟨_, rfl⟩
    rw [← hb5] at R5 ⊢
    clear hb5
    obtain ⟨cs2, ib2⟩ := IG.out _ G.out
    have f9 := ib2.free j
    have r9 := RC.out _ G.out
    have NN := Lib.hid ((N8.out.keep0 G.out).set_far (g2 := gf) (IsB.ne (N8.out.keep0 G.out) ib2 (by decide)) j (.slice (some ⟨b5, 0, none⟩) n5 n5))
    have ON := Lib.hid (PUT.out v1 _ G.out R5.out)
    have GN := Lib.hid (gb_put (gb_trans G6.out G.out) GF.out (i := j) (u := .slice (some ⟨b5, 0, none⟩) n5 n5))
    refine wpAnyH_ready (rs := [11]) (by kernel_rfl) (by simp) ?_
    refine AllReadyH.cons (o := _) rfl (fun K hK => ?_) AllReadyH.nil
    go_simp
    refine hK.out _ _ (KT.out _ NN.out) (fun hH3 => ?_)
    clear hK K
    try simp only [Act.put, List.getElem_toArray, List.getElem_cons_succ, List.getElem_cons_zero, List.setIfInBounds_toArray, List.set_cons_zero, List.set_cons_succ]
    refine wpAnyH_done (by kernel_rfl) ?_ _
    clear hH3 hH2 hH1 hH0 f9 r9 ib2 R5
    generalize v1.setCell ⟨gf, j, none⟩ (.slice (some ⟨b5, 0, none⟩) n5 n5) = w9 at *
    obtain ⟨Wz, hWz, oz, iz⟩ := oe_store ON.out (B2.out.keep0 GN.out)
    have OZ := Lib.hid oz
    have L8 := Lib.hid (Nat.le_trans Lbx.out (Nat.le_add_right bx 1))
    have GW := Lib.hid (show w.grownBy Wz none by rw [hWz]; exact gb_put (gb_put (gb_put (gb_put (gb_trans G3.out GN.out) L8.out) L8.out) L8.out) L8.out)
    have n0 := NN.out.cell 0
    have n1 := NN.out.cell 1
    have n2 := NN.out.cell 2
    have n3 := NN.out.cell 3
    dsimp at n0 n1 n2 n3
    have b4x := B2.out.keep0 GN.out
    have z0 := b4x.cell 0
    have z1 := b4x.cell 1
    have z2 := b4x.cell 2
    have z3 := b4x.cell 3
    dsimp at z0 z1 z2 z3
    have f0 := b4x.free 0
    have f1 := b4x.free 1
    have f2 := b4x.free 2
    have f3 := b4x.free 3
    clear oz b4x
    go_wp2
    (try dsimp only at hWz)
    try rw [← hWz]
    have k0 := iz.cell 0
    have k1 := iz.cell 1
    have k2 := iz.cell 2
    have k3 := iz.cell 3
    dsimp at k0 k1 k2 k3
    have e : (⟨L.V.set j b, L.F.set j (List.replicate n5 0), L.T, L.P⟩ : EL) = withV L j b := by unfold withV; rw [← RES.out]
    have OF := OZ.out.low G3.out.size
    rw [e] at OF
    refine bodyPost_ret (v := .agg #[.slice Xz.va Xz.vn Xz.vc, .slice Xz.fa Xz.fn Xz.fc, .slice Xz.ta Xz.tn Xz.tc, .slice Xz.pa Xz.pn Xz.pc]) (by rw [results_cell1 rfl]; go_simp; try rfl) rfl ⟨Xz, _, rfl, OF, GW.out⟩
  · have i2 : ¬ (j : Int) < Xz.fn := by omega
    have hjF : ¬ j < L.F.length := by rw [hfl.out]; exact hf
    have ON := O2
    have NN := N8
    have GN := G6
    have RES := Lib.hid (show L.F = if j < L.F.length then L.F.set j (List.replicate (L.F.getD j []).length 0) else L.F by rw [if_neg hjF])
    go_upto_region 5 with fail
    clear n1
    obtain ⟨Wz, hWz, oz, iz⟩ := oe_store ON.out (B2.out.keep0 GN.out)
    have OZ := Lib.hid oz
    have L8 := Lib.hid (Nat.le_trans Lbx.out (Nat.le_add_right bx 1))
    have GW := Lib.hid (show w.grownBy Wz none by rw [hWz]; exact gb_put (gb_put (gb_put (gb_put (gb_trans G3.out GN.out) L8.out) L8.out) L8.out) L8.out)
    have n0 := NN.out.cell 0
    have n1 := NN.out.cell 1
    have n2 := NN.out.cell 2
    have n3 := NN.out.cell 3
    dsimp at n0 n1 n2 n3
    have b4x := B2.out.keep0 GN.out
    have z0 := b4x.cell 0
    have z1 := b4x.cell 1
    have z2 := b4x.cell 2
    have z3 := b4x.cell 3
    dsimp at z0 z1 z2 z3
    have f0 := b4x.free 0
    have f1 := b4x.free 1
    have f2 := b4x.free 2
    have f3 := b4x.free 3
    clear oz b4x
    go_wp2
    (try dsimp only at hWz)
    try rw [← hWz]
    have k0 := iz.cell 0
    have k1 := iz.cell 1
    have k2 := iz.cell 2
    have k3 := iz.cell 3
    dsimp at k0 k1 k2 k3
    have e : (⟨L.V.set j b, L.F, L.T, L.P⟩ : EL) = withV L j b := by unfold withV; rw [← RES.out]
    have OF := OZ.out.low G3.out.size
    rw [e] at OF
    refine bodyPost_ret (v := .agg #[.slice Xz.va Xz.vn Xz.vc, .slice Xz.fa Xz.fn Xz.fc, .slice Xz.ta Xz.tn Xz.tc, .slice Xz.pa Xz.pn Xz.pc]) (by rw [results_cell1 rfl]; go_simp; try rfl) rfl ⟨Xz, _, rfl, OF, GW.out⟩
end Go.Proofs.Ytolifmpnhflegaa
