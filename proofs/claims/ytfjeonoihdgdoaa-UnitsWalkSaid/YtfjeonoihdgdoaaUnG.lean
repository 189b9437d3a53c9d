/- Units: unitOf; no condition but the lists' sizes. -/
import Derived.Test.YtfjeonoihdgdoaaUnF
import Derived.Deep.RegionHeld
namespace Go.Proofs.Ytfjeonoihdgdoaa
open Go.RowKit
set_option linter.unusedVariables false
theorem own_len {w : World} {base n n2 c size : Nat} {e : TypeId} {a : Option Addr} {xs : List Value} (h : w.ownsRow base e size (.slice a n2 c) n xs) : n2 = n := by
  obtain ⟨a1, c1, hv⟩ := own_shape h
  injection hv
def utab (x : CV) : Int := if x.k = 2 then -1 else x.t
def ucnd (x : CV) : List Nd := if x.k = 2 then x.N else []
/-- The unit of a node: its condition and its guards in rows of their own. -/
def RetUn (x : CV) (G : List Gd) (w : World) (e : Ending) (w' : World) : Prop := ∃ (c g : Sl), e = .returned (.agg #[.int .i64 (utab x), .slice c.a c.n c.c, .slice g.a g.n g.c]) ∧ NDL w' w.heap.size (.slice c.a c.n c.c) (ucnd x) ∧ GL w' w.heap.size (.slice g.a g.n g.c) G ∧ w.grownBy w' none
set_option maxRecDepth 100000 in
set_option maxHeartbeats 8000000 in
theorem unitof_any (w : World) (x : CV) (hx : SN w x.c.a x.c.n x.c.c x.N) (hN : x.c.n ≤ 100000) (gs : Sl) (G : List Gd) (hg : SGd w gs G) (hn : gs.n ≤ 100000) : Calls Try.prog 56 #[.agg #[.int .i64 x.k, .int .i64 x.t, .slice x.c.a x.c.n x.c.c, .slice x.s.a x.s.n x.s.c, .slice x.u.a x.u.n x.u.c], .slice gs.a gs.n gs.c] w (RetUn x G w) := by
  have HX := Lib.hid hx
  have HG := Lib.hid hg
  have G2 := Lib.hid (gb_trans (gb_alloc w (.cells #[.int .i64 x.k, .int .i64 x.t, .slice x.c.a x.c.n x.c.c, .slice x.s.a x.s.n x.s.c, .slice x.u.a x.u.n x.u.c] 63) none) (gb_alloc _ (.cells #[.int .i64 0, .slice none 0 0, .slice none 0 0] 78) none))
  have B0 := (IsB.new w 63 #[.int .i64 x.k, .int .i64 x.t, .slice x.c.a x.c.n x.c.c, .slice x.s.a x.s.n x.s.c, .slice x.u.a x.u.n x.u.c]).alloc (.cells #[.int .i64 0, .slice none 0 0, .slice none 0 0] 78)
  have B1 := IsB.new (w.alloc (.cells #[.int .i64 x.k, .int .i64 x.t, .slice x.c.a x.c.n x.c.c, .slice x.s.a x.s.n x.s.c, .slice x.u.a x.u.n x.u.c] 63)) 78 #[.int .i64 0, .slice none 0 0, .slice none 0 0]
  rw [sz_al] at B1
  have SZ : ((w.alloc (.cells #[.int .i64 x.k, .int .i64 x.t, .slice x.c.a x.c.n x.c.c, .slice x.s.a x.s.n x.s.c, .slice x.u.a x.u.n x.u.c] 63)).alloc (.cells #[.int .i64 0, .slice none 0 0, .slice none 0 0] 78)).heap.size = w.heap.size + 1 + 1 := by rw [sz_al, sz_al]
  clear hx hg
  go_enter Try.func56, Try.ntmps56
  go_upto_region 1 with fail
  generalize (w.alloc (.cells #[.int .i64 x.k, .int .i64 x.t, .slice x.c.a x.c.n x.c.c, .slice x.s.a x.s.n x.s.c, .slice x.u.a x.u.n x.u.c] 63)).alloc (.cells #[.int .i64 0, .slice none 0 0, .slice none 0 0] 78) = w2 at *
  obtain ⟨b0, hb0⟩ : ∃ b, b = w.heap.size := ⟨_, rfl⟩
  have LB := Lib.hid (show w.heap.size ≤ b0 by omega)
  have L2 := Lib.hid (show w2.heap.size = b0 + 1 + 1 by rw [hb0]; exact SZ)
  rw [← hb0] at B0 B1 ⊢
  replace B0 := Lib.hid B0
  replace B1 := Lib.hid B1
  clear hb0 SZ
  have GC := Lib.hid (fun (wz : World) (gz : w2.grownBy wz none) => (gclone_any wz gs G (HG.out.keep0 (gb_trans G2.out gz)) hn).mono (R' := RetRow (fun w' V => GL w' w.heap.size V G) wz) (fun e w' h => by
    obtain ⟨a, n, c, h1, h2, h3⟩ := h
    exact ⟨a, n, c, h1, own_low h2 (by have := G2.out.size; have := gz.size; omega), h3⟩))
  unfold RetRow at GC
  go_cut [5] from 6 to 10 (fun s5 wx => ∃ (y : Nat) (ga : Option Addr) (gn gc : Nat), s5 = .pointer (some ⟨y, 0, none⟩) ∧ IsB wx y 78 #[.int .i64 x.t, .slice none 0 0, .slice ga gn gc] ∧ GL wx w.heap.size (.slice ga gn gc) G ∧ w2.grownBy wx none ∧ w2.heap.size ≤ y)
  case first =>
    have KS := Lib.hid (fun (w' : World) (q0 : w2.grownBy w' none) => (⟨(B0.out.keep0 q0).cell 1, q0⟩ : (fun w' : World => w'.cell? ⟨b0, 1, none⟩ = some (.int .i64 x.t) ∧ w2.grownBy w' none) w'))
    have H0 := Lib.hid (gb_drew w2 none)
    refine wp_region_held_drew (S := (fun w' : World => w'.cell? ⟨b0, 1, none⟩ = some (.int .i64 x.t) ∧ w2.grownBy w' none)) (by kernel_rfl) (KS.out _ H0.out) (fun hH0 => ?_)
    refine wpAnyH_take (i := 0) (v := ?v51001) rfl (by kernel_rfl) (by kernel_rfl) (by kernel_rfl) (fun _ _ _ h => h) (Or.inl ⟨by rfl, ?hy51001⟩) (by assumption) ?rest51001
    case hy51001 => (intro wz hSw; (try dsimp only at hSw); first | (go_simp; done) | (go_simp; with_reducible rfl))
    try simp only [Act.put, List.getElem_toArray, List.getElem_cons_zero, List.setIfInBounds_toArray, List.set_cons_zero, List.set_cons_succ]
    refine wpAnyH_take (i := 1) (v := ?v51002) rfl (by kernel_rfl) (by kernel_rfl) (by kernel_rfl) (fun _ _ _ h => h) (Or.inl ⟨by rfl, ?hy51002⟩) (by assumption) ?rest51002
    case hy51002 => (intro wz hSw; (try dsimp only at hSw); first | (go_simp; done) | (go_simp; with_reducible rfl))
    try simp only [Act.put, List.getElem_toArray, List.getElem_cons_succ, List.getElem_cons_zero, List.setIfInBounds_toArray, List.set_cons_zero, List.set_cons_succ]
    refine wpAnyH_take (i := 2) (v := ?v51003) rfl (by kernel_rfl) (by kernel_rfl) (by kernel_rfl) (fun _ _ _ h => h) (Or.inl ⟨by rfl, ?hy51003⟩) (by assumption) ?rest51003
    case hy51003 => (intro wz hSw; (try dsimp only at hSw); first | (go_simp; done) | (go_simp; with_reducible rfl))
    try simp only [Act.put, List.getElem_toArray, List.getElem_cons_succ, List.getElem_cons_zero, List.setIfInBounds_toArray, List.set_cons_zero, List.set_cons_succ]
    refine wpAnyH_ready (rs := [3, 5]) (by kernel_rfl) (by simp) ?_
    refine AllReadyH.cons (o := _) rfl (fun K hK => ?_) (AllReadyH.cons (o := _) rfl (fun K hK => ?_) AllReadyH.nil)
    · go_simp
      refine (GC.out _ H0.out).mono ?_
      rintro e wh1 ⟨a1, n1, c1, rfl, o1, g⟩
      have O1 := Lib.hid o1
      have H1 := Lib.hid (gb_trans H0.out g)
      clear g o1
      try dsimp only
      refine hK.out _ _ (KS.out _ H1.out) (fun hH1 => ?_)
      clear hK K hH0
      try simp only [Act.put, List.getElem_toArray, List.getElem_cons_succ, List.getElem_cons_zero, List.setIfInBounds_toArray, List.set_cons_zero, List.set_cons_succ]
      refine wpAnyH_take (i := 4) (v := ?v51004) rfl (by kernel_rfl) (by kernel_rfl) (by kernel_rfl) (fun _ _ _ h => h) (Or.inl ⟨by rfl, ?hy51004⟩) (by assumption) ?rest51004
      case hy51004 => (intro wz hSw; (try dsimp only at hSw); first | (go_simp; done) | (go_simp; with_reducible rfl))
      try simp only [Act.put, List.getElem_toArray, List.getElem_cons_succ, List.getElem_cons_zero, List.setIfInBounds_toArray, List.set_cons_zero, List.set_cons_succ]
      refine wpAnyH_ready (rs := [5]) (by kernel_rfl) (by simp) ?_
      refine AllReadyH.cons (o := _) rfl (fun K hK => ?_) AllReadyH.nil
      go_simp
      try dsimp only
      refine hK.out _ _ (KS.out _ (gb_trans H1.out (gb_alloc _ _ none))) (fun hH2 => ?_)
      clear hK K hH1
      try simp only [Act.put, List.getElem_toArray, List.getElem_cons_succ, List.getElem_cons_zero, List.setIfInBounds_toArray, List.set_cons_zero, List.set_cons_succ]
      have I := Lib.hid (IsB.new wh1 78 #[.int .i64 0, .slice none 0 0, .slice none 0 0])
      have le := H1.out.size
      have i0 := I.out.cell 0
      have i1 := I.out.cell 1
      have i2 := I.out.cell 2
      have f0 := I.out.free 0
      dsimp at i0 i1 i2
      refine wpAnyH_ready (rs := [6]) (by kernel_rfl) (by simp) ?_
      refine AllReadyH.cons (o := _) rfl (fun K hK => ?_) AllReadyH.nil
      go_simp
      try dsimp only
      refine hK.out _ _ (KS.out _ (gb_trans H1.out (gb_alloc _ _ none))) (fun hH3 => ?_)
      clear hK K hH2
      try simp only [Act.put, List.getElem_toArray, List.getElem_cons_succ, List.getElem_cons_zero, List.setIfInBounds_toArray, List.set_cons_zero, List.set_cons_succ]
      refine wpAnyH_done (by kernel_rfl) ?_ _
      clear hH3
      go_wp2_with fail
      go_meet
      exact ⟨_, a1, n1, c1, rfl, IsB.new _ _ _, own_keep0 O1.out (gb_alloc _ _ none), gb_trans H1.out (gb_alloc _ _ none), le⟩
    · go_simp
      try dsimp only
      refine hK.out _ _ (KS.out _ (gb_trans H0.out (gb_alloc _ _ none))) (fun hH1 => ?_)
      clear hK K hH0
      try simp only [Act.put, List.getElem_toArray, List.getElem_cons_succ, List.getElem_cons_zero, List.setIfInBounds_toArray, List.set_cons_zero, List.set_cons_succ]
      have I0 := Lib.hid ((IsB.new w2 78 #[.int .i64 0, .slice none 0 0, .slice none 0 0]).keep0 (gb_drew _ none))
      have H1 := Lib.hid (gb_trans (gb_alloc w2 (.cells #[.int .i64 0, .slice none 0 0, .slice none 0 0] 78) none) (gb_drew _ none))
      have le := H0.out.size
      refine wpAnyH_ready (rs := [3]) (by kernel_rfl) (by simp) ?_
      refine AllReadyH.cons (o := _) rfl (fun K hK => ?_) AllReadyH.nil
      go_simp
      refine (GC.out _ H1.out).mono ?_
      rintro e wh2 ⟨a1, n1, c1, rfl, o1, g⟩
      have O1 := Lib.hid o1
      have H2 := Lib.hid (gb_trans H1.out g)
      have I := Lib.hid (I0.out.keep0 g)
      clear g o1
      try dsimp only
      refine hK.out _ _ (KS.out _ H2.out) (fun hH2 => ?_)
      clear hK K hH1
      try simp only [Act.put, List.getElem_toArray, List.getElem_cons_succ, List.getElem_cons_zero, List.setIfInBounds_toArray, List.set_cons_zero, List.set_cons_succ]
      refine wpAnyH_take (i := 4) (v := ?v51005) rfl (by kernel_rfl) (by kernel_rfl) (by kernel_rfl) (fun _ _ _ h => h) (Or.inl ⟨by rfl, ?hy51005⟩) (by assumption) ?rest51005
      case hy51005 => (intro wz hSw; (try dsimp only at hSw); first | (go_simp; done) | (go_simp; with_reducible rfl))
      try simp only [Act.put, List.getElem_toArray, List.getElem_cons_succ, List.getElem_cons_zero, List.setIfInBounds_toArray, List.set_cons_zero, List.set_cons_succ]
      have i0 := I.out.cell 0
      have i1 := I.out.cell 1
      have i2 := I.out.cell 2
      have f0 := I.out.free 0
      have f1 := (I.out.set 0 (.int .i64 x.t)).free 1
      have f2 := ((I.out.set 0 (.int .i64 x.t)).set 1 (.slice none 0 0)).free 2
      dsimp at i0 i1 i2
      refine wpAnyH_ready (rs := [6]) (by kernel_rfl) (by simp) ?_
      refine AllReadyH.cons (o := _) rfl (fun K hK => ?_) AllReadyH.nil
      go_simp
      try dsimp only
      refine hK.out _ _ (KS.out _ (gb_put (gb_put (gb_put H2.out le) le) le)) (fun hH3 => ?_)
      clear hK K hH2
      try simp only [Act.put, List.getElem_toArray, List.getElem_cons_succ, List.getElem_cons_zero, List.setIfInBounds_toArray, List.set_cons_zero, List.set_cons_succ]
      refine wpAnyH_done (by kernel_rfl) ?_ _
      clear hH3
      go_wp2_with fail
      go_meet
      exact ⟨_, a1, n1, c1, rfl, ((I.out.set 0 _).set 1 _).set 2 _, own_keepS (own_keepS (own_keepS O1.out (gb_set _ _ _ _) I.out (by decide)) (gb_set _ _ _ _) (I.out.set 0 _) (by decide)) (gb_set _ _ _ _) ((I.out.set 0 _).set 1 _) (by decide), gb_put (gb_put (gb_put H2.out le) le) le, le⟩
  case rest =>
    obtain ⟨y, ga, gn, gc, rfl, iy, gl, gy, ly⟩ := hcut
    have IY := Lib.hid iy
    have GLy := Lib.hid gl
    have GY := Lib.hid gy
    have LY := Lib.hid ly
    have BC := Lib.hid (B0.out.keep0 gy)
    have BR := Lib.hid (B1.out.keep0 gy)
    have k0 := BC.out.cell 0
    have k2 := BC.out.cell 2
    have y0 := IY.out.cell 0
    have y1 := IY.out.cell 1
    have y2 := IY.out.cell 2
    have r0 := BR.out.cell 0
    have r1 := BR.out.cell 1
    have r2 := BR.out.cell 2
    have p0 := BR.out.free 0
    dsimp at k0 k2 y0 y1 y2 r0 r1 r2
    clear iy gl gy ly GC
    by_cases hk : x.k = 2
    · have UT1 := Lib.hid (show utab x = -1 by unfold utab; rw [if_pos hk])
      have UC1 := Lib.hid (show ucnd x = x.N by unfold ucnd; rw [if_pos hk])
      have NC := Lib.hid (nclone2_any wc x.c x.N (HX.out.keep0 (gb_trans G2.out GY.out)) hN)
      unfold RetRow at NC
      rw [hk] at k0
      go_wp2_with fail
      refine NC.out.mono ?_
      rintro e w5 ⟨a5, n5, c5, rfl, o5, g5⟩
      have IY5 := Lib.hid (IY.out.keep0 g5)
      have BR5 := Lib.hid (BR.out.keep0 g5)
      have GL5 := Lib.hid (own_keep0 GLy.out g5)
      have O5 := Lib.hid (own_low o5 (show w.heap.size ≤ wc.heap.size by have := G2.out.size; have := GY.out.size; omega))
      have G5 := Lib.hid (gb_trans G2.out (gb_trans GY.out g5))
      clear o5 g5 y0 y1 y2 r0 r1 r2 p0 k0 k2
      have y0 := IY5.out.cell 0
      have y1 := IY5.out.cell 1
      have y2 := IY5.out.cell 2
      have f0 := IY5.out.free 0
      have f1 := (IY5.out.set 0 (.int .i64 (-1))).free 1
      have IY6 := Lib.hid ((IY5.out.set 0 (.int .i64 (-1))).set 1 (.slice a5 n5 c5))
      have HNE := Lib.hid (show b0 + 1 ≠ y by have := LY.out; have := L2.out; omega)
      have BR6 := Lib.hid ((BR5.out.set_far HNE.out 0 (.int .i64 (-1))).set_far HNE.out 1 (.slice a5 n5 c5))
      have GL6 := Lib.hid (own_keepS (own_keepS GL5.out (gb_set _ _ 0 (.int .i64 (-1))) IY5.out (by decide)) (gb_set _ _ 1 (.slice a5 n5 c5)) (IY5.out.set 0 (.int .i64 (-1))) (by decide))
      have O6 := Lib.hid (own_keepS (own_keepS O5.out (gb_set _ _ 0 (.int .i64 (-1))) IY5.out (by decide)) (gb_set _ _ 1 (.slice a5 n5 c5)) (IY5.out.set 0 (.int .i64 (-1))) (by decide))
      have le : w.heap.size ≤ y := by have := LY.out; have := L2.out; have := LB.out; omega
      have G6 := Lib.hid (gb_put (gb_put G5.out le (i := 0) (u := .int .i64 (-1))) le (i := 1) (u := .slice a5 n5 c5))
      have z0 := IY6.out.cell 0
      have z1 := IY6.out.cell 1
      have z2 := IY6.out.cell 2
      have r0 := BR6.out.cell 0
      have r1 := BR6.out.cell 1
      have r2 := BR6.out.cell 2
      have p0 := BR6.out.free 0
      have p1 := (BR6.out.set 0 (.int .i64 (-1))).free 1
      have p2 := ((BR6.out.set 0 (.int .i64 (-1))).set 1 (.slice a5 n5 c5)).free 2
      dsimp at y0 y1 y2 z0 z1 z2 r0 r1 r2
      have GL7 := Lib.hid (own_keepS (own_keepS (own_keepS GL6.out (gb_set _ _ 0 (.int .i64 (-1))) BR6.out (by decide)) (gb_set _ _ 1 (.slice a5 n5 c5)) (BR6.out.set 0 (.int .i64 (-1))) (by decide)) (gb_set _ _ 2 (.slice ga gn gc)) ((BR6.out.set 0 (.int .i64 (-1))).set 1 (.slice a5 n5 c5)) (by decide))
      have O7 := Lib.hid (own_keepS (own_keepS (own_keepS O6.out (gb_set _ _ 0 (.int .i64 (-1))) BR6.out (by decide)) (gb_set _ _ 1 (.slice a5 n5 c5)) (BR6.out.set 0 (.int .i64 (-1))) (by decide)) (gb_set _ _ 2 (.slice ga gn gc)) ((BR6.out.set 0 (.int .i64 (-1))).set 1 (.slice a5 n5 c5)) (by decide))
      have lb1 : w.heap.size ≤ b0 + 1 := by have := LB.out; omega
      have G7 := Lib.hid (gb_put (gb_put (gb_put G6.out lb1 (i := 0) (u := .int .i64 (-1))) lb1 (i := 1) (u := .slice a5 n5 c5)) lb1 (i := 2) (u := .slice ga gn gc))
      have D7 := ((BR6.out.set 0 (.int .i64 (-1))).set 1 (.slice a5 n5 c5)).set 2 (.slice ga gn gc)
      have e0 := D7.cell 0
      have e1 := D7.cell 1
      have e2 := D7.cell 2
      try dsimp at e0 e1 e2
      clear D7
      go_wp2
      refine bodyPost_ret (v := .agg #[.int .i64 (-1), .slice a5 n5 c5, .slice ga gn gc]) (by rw [results_cell1 rfl]; go_simp) rfl ⟨⟨a5, n5, c5⟩, ⟨ga, gn, gc⟩, by rw [UT1.out], by rw [UC1.out]; exact O7.out, GL7.out, G7.out⟩
    · have UT1 := Lib.hid (show utab x = x.t by unfold utab; rw [if_neg hk])
      have UC1 := Lib.hid (show ucnd x = [] by unfold ucnd; rw [if_neg hk])
      have b2 : (x.k == 2) = false := by simpa using hk
      have p1 := (BR.out.set 0 (.int .i64 x.t)).free 1
      have p2 := ((BR.out.set 0 (.int .i64 x.t)).set 1 (.slice none 0 0)).free 2
      have GL7 := Lib.hid (own_keepS (own_keepS (own_keepS GLy.out (gb_set _ _ 0 (.int .i64 x.t)) BR.out (by decide)) (gb_set _ _ 1 (.slice none 0 0)) (BR.out.set 0 (.int .i64 x.t)) (by decide)) (gb_set _ _ 2 (.slice ga gn gc)) ((BR.out.set 0 (.int .i64 x.t)).set 1 (.slice none 0 0)) (by decide))
      have lb1 : w.heap.size ≤ b0 + 1 := by have := LB.out; omega
      have G7 := Lib.hid (gb_put (gb_put (gb_put (gb_trans G2.out GY.out) lb1 (i := 0) (u := .int .i64 x.t)) lb1 (i := 1) (u := .slice none 0 0)) lb1 (i := 2) (u := .slice ga gn gc))
      have D7 := ((BR.out.set 0 (.int .i64 x.t)).set 1 (.slice none 0 0)).set 2 (.slice ga gn gc)
      have e0 := D7.cell 0
      have e1 := D7.cell 1
      have e2 := D7.cell 2
      try dsimp at e0 e1 e2
      clear D7
      go_wp2
      refine bodyPost_ret (v := .agg #[.int .i64 x.t, .slice none 0 0, .slice ga gn gc]) (by rw [results_cell1 rfl]; go_simp) rfl ⟨⟨none, 0, 0⟩, ⟨ga, gn, gc⟩, by rw [UT1.out], by rw [UC1.out]; exact World.ownsRow_nil _ _ _ _, GL7.out, G7.out⟩
end Go.Proofs.Ytfjeonoihdgdoaa
