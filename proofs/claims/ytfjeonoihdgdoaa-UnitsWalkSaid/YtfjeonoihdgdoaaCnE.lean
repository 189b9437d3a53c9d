/- Control: the reference's Count and the nesting of both sides; no condition but that the tree lies in memory and is not large. -/
import Derived.Test.YtfjeonoihdgdoaaCnC
namespace Go.Proofs.Ytfjeonoihdgdoaa
open Go.RowKit
set_option linter.unusedVariables false
theorem CT.nest_cnt (T : CT) : T.nest ≤ T.cnt := by
  induction T with
  | nil => exact Nat.le_refl _
  | cons k t c N s th u el r i1 i2 i3 =>
    have e : (CT.cons k t c N s th u el r).cnt = 1 + th.cnt + el.cnt + r.cnt := CV.cnt_ct ⟨k, t, c, N, s, th, u, el⟩ r
    show max (1 + max th.nest el.nest) r.nest ≤ _
    omega
theorem nest_at {T : CT} {x : CV} {j : Nat} (h : T.drop j = x.ct (T.drop (j + 1))) : (T.drop j).nest = max (1 + max x.th.nest x.el.nest) (T.drop (j + 1)).nest := by
  conv => lhs; rw [h]
  exact CV.nest_ct _ _
theorem wrapi {x : Int} (h1 : -1000000000 ≤ x) (h2 : x ≤ 1000000000) : IntKind.i64.wrap x = x := by rw [IntKind.wrap_i64]; omega
theorem wrapj {x : Int} (h1 : -1000000000 ≤ x) (h2 : x ≤ 1000000000) : wrap64 x = x := IntWalk.wrap64_in _ (by omega)
set_option maxRecDepth 100000 in
set_option maxHeartbeats 4000000 in
theorem rcount_rec : ∀ (m : Nat) (T : CT) (s : Sl) (w : World), T.cnt < m → T.cnt ≤ 1000000 → ST w s T → Calls Try.prog 80 #[.slice s.a s.n s.c] w (RetV (.int .i64 (T.cnt : Nat)) w) := by
  intro m
  induction m with
  | zero => intro T s w h; omega
  | succ m ih =>
    intro T s w hm hc hS
    obtain ⟨sa, sn, sc⟩ := s
    have IH := Lib.hid ih
    have HM := Lib.hid hm
    have HC := Lib.hid hc
    have HS := Lib.hid hS
    have SL := Lib.hid hS.len
    have scap : sn ≤ sc := hS.cap
    have SB := Lib.hid (show sn ≤ 1000000 by have := hS.len; have := CT.len_cnt T; dsimp only at *; omega)
    clear ih hm hc hS
    dsimp only at *
    go_enter Try.func80, Try.ntmps80
    go_wp2
    go_loopw [3, 4] (fun s3 s4 wr => ∃ (j g : Nat), s4 = .int .i64 (j : Int) ∧ s3 = .int .i64 (g : Int) ∧ j ≤ sn ∧ g + (T.drop j).cnt = T.cnt ∧ w.grownBy wr none) (fun _ s4 _ => sn - (intOf s4).toNat)
    case atStart => exact ⟨0, 0, rfl, rfl, Nat.zero_le _, by rw [CT.drop_zero]; omega, gb_refl _ _⟩
    case round =>
      obtain ⟨j, g, rfl, rfl, hj, hg, hgr⟩ := hrel
      have HG := Lib.hid hg
      have GR := Lib.hid hgr
      clear hg hgr
      by_cases hlt : j < sn
      · have i1 : (j : Int) < sn := by omega
        have i0 : (0 : Int) ≤ (j : Int) := by omega
        obtain ⟨x, ad, hsa, hd, ⟨c0, c1, c2, c3, c4⟩, vm⟩ := HS.out.at_ j hlt
        dsimp only at hsa
        subst hsa
        have HD := Lib.hid hd
        have VMx := Lib.hid vm
        have hcn := cnt_th hd
        have CNx := Lib.hid (show x.th.cnt < m ∧ x.el.cnt < m ∧ x.th.cnt ≤ 1000000 ∧ x.el.cnt ≤ 1000000 by have := HM.out; have := HC.out; omega)
        have CA := Lib.hid (cnt_at hd)
        have CD := Lib.hid (CT.drop_cnt T j)
        have NA := Lib.hid (nest_at hd)
        have ND := Lib.hid (CT.nest_cnt x.th)
        have ND2 := Lib.hid (CT.nest_cnt x.el)
        have C3 := Lib.hid c3
        have C4 := Lib.hid c4
        have I1 := Lib.hid (fun (w2 : World) (g : w.grownBy w2 none) => IH.out x.th x.s w2 CNx.out.1 CNx.out.2.2.1 (VMx.out.s.keep0 g))
        have I2 := Lib.hid (fun (w2 : World) (g : w.grownBy w2 none) => IH.out x.el x.u w2 CNx.out.2.1 CNx.out.2.2.2 (VMx.out.u.keep0 g))
        unfold RetV at I1 I2
        clear hcn hd vm
        have HP := Lib.hid HG.out
        obtain ⟨tc, htc⟩ : ∃ q, q = x.th.cnt := ⟨_, rfl⟩
        obtain ⟨ec, hec⟩ : ∃ q, q = x.el.cnt := ⟨_, rfl⟩
        have HT := Lib.hid htc
        have HE := Lib.hid hec
        rw [← htc] at I1
        rw [← hec] at I2
        have WF := Lib.hid (show IntKind.i64.wrap ((g : Int) + IntKind.i64.wrap (IntKind.i64.wrap (1 + (tc : Int)) + (ec : Int))) = ((g + (1 + tc + ec) : Nat) : Int) by
          have := CA.out; have := HP.out; have := HC.out; have := HT.out; have := HE.out
          rw [wrapi (x := 1 + (tc : Int)) (by omega) (by omega), wrapi (x := 1 + (tc : Int) + (ec : Int)) (by omega) (by omega), wrapi (by omega) (by omega)]
          omega)
        clear c0 c1 c2 c3 c4 htc hec
        go_wp2
        have KS := Lib.hid (fun (w' : World) (q0 : wr.grownBy w' none) => (⟨(gb_trans GR.out q0).cell C3.out (by simp), (gb_trans GR.out q0).cell C4.out (by simp), q0⟩ : (fun w' : World => w'.cell? ⟨(ad.add (j * 5)).block, (ad.add (j * 5)).off + 3, none⟩ = some (.slice x.s.a x.s.n x.s.c) ∧ w'.cell? ⟨(ad.add (j * 5)).block, (ad.add (j * 5)).off + 4, none⟩ = some (.slice x.u.a x.u.n x.u.c) ∧ wr.grownBy w' none) w'))
        have H0 := Lib.hid (gb_drew wr none)
        refine wp_region_held_drew (S := (fun w' : World => w'.cell? ⟨(ad.add (j * 5)).block, (ad.add (j * 5)).off + 3, none⟩ = some (.slice x.s.a x.s.n x.s.c) ∧ w'.cell? ⟨(ad.add (j * 5)).block, (ad.add (j * 5)).off + 4, none⟩ = some (.slice x.u.a x.u.n x.u.c) ∧ wr.grownBy w' none)) (by kernel_rfl) (KS.out _ H0.out) (fun hH0 => ?_)
        refine wpAnyH_take (i := 0) (v := ?v101) rfl (by kernel_rfl) (by kernel_rfl) (by kernel_rfl) (fun _ _ _ h => h) (Or.inl ⟨by rfl, ?hy101⟩) (by assumption) ?rest101
        case hy101 => (intro wz hSw; (try dsimp only at hSw); first | (go_simp; done) | (go_simp; with_reducible rfl))
        try simp only [Act.put, List.getElem_toArray, List.getElem_cons_zero, List.setIfInBounds_toArray, List.set_cons_zero, List.set_cons_succ]
        refine wpAnyH_take (i := 1) (v := ?v102) rfl (by kernel_rfl) (by kernel_rfl) (by kernel_rfl) (fun _ _ _ h => h) (Or.inl ⟨by rfl, ?hy102⟩) (by assumption) ?rest102
        case hy102 => (intro wz hSw; (try dsimp only at hSw); first | (go_simp; done) | (go_simp; with_reducible rfl))
        try simp only [Act.put, List.getElem_toArray, List.getElem_cons_succ, List.getElem_cons_zero, List.setIfInBounds_toArray, List.set_cons_zero, List.set_cons_succ]
        refine wpAnyH_take (i := 2) (v := ?v103) rfl (by kernel_rfl) (by kernel_rfl) (by kernel_rfl) (fun _ _ _ h => h) (Or.inl ⟨by rfl, ?hy103⟩) (by assumption) ?rest103
        case hy103 => (intro wz hSw; (try dsimp only at hSw); first | (go_simp; done) | (go_simp; with_reducible rfl))
        try simp only [Act.put, List.getElem_toArray, List.getElem_cons_succ, List.getElem_cons_zero, List.setIfInBounds_toArray, List.set_cons_zero, List.set_cons_succ]
        refine wpAnyH_take (i := 3) (v := ?v104) rfl (by kernel_rfl) (by kernel_rfl) (by kernel_rfl) (fun _ _ _ h => h) (Or.inl ⟨by rfl, ?hy104⟩) (by assumption) ?rest104
        case hy104 => (intro wz hSw; (try dsimp only at hSw); first | (go_simp; done) | (go_simp; with_reducible rfl))
        try simp only [Act.put, List.getElem_toArray, List.getElem_cons_succ, List.getElem_cons_zero, List.setIfInBounds_toArray, List.set_cons_zero, List.set_cons_succ]
        refine wpAnyH_take (i := 4) (v := ?v105) rfl (by kernel_rfl) (by kernel_rfl) (by kernel_rfl) (fun _ _ _ h => h) (Or.inl ⟨by rfl, ?hy105⟩) (by assumption) ?rest105
        case hy105 => (intro wz hSw; (try dsimp only at hSw); first | (go_simp; done) | (go_simp; with_reducible rfl))
        try simp only [Act.put, List.getElem_toArray, List.getElem_cons_succ, List.getElem_cons_zero, List.setIfInBounds_toArray, List.set_cons_zero, List.set_cons_succ]
        refine wpAnyH_take (i := 5) (v := ?v106) rfl (by kernel_rfl) (by kernel_rfl) (by kernel_rfl) (fun _ _ _ h => h) (Or.inl ⟨by rfl, ?hy106⟩) (by assumption) ?rest106
        case hy106 => (intro wz hSw; (try dsimp only at hSw); first | (go_simp; done) | (go_simp; with_reducible rfl))
        try simp only [Act.put, List.getElem_toArray, List.getElem_cons_succ, List.getElem_cons_zero, List.setIfInBounds_toArray, List.set_cons_zero, List.set_cons_succ]
        refine wpAnyH_take (i := 8) (v := ?v107) rfl (by kernel_rfl) (by kernel_rfl) (by kernel_rfl) (fun _ _ _ h => h) (Or.inl ⟨by rfl, ?hy107⟩) (by assumption) ?rest107
        case hy107 => (intro wz hSw; (try dsimp only at hSw); first | (go_simp; done) | (go_simp; with_reducible rfl))
        try simp only [Act.put, List.getElem_toArray, List.getElem_cons_succ, List.getElem_cons_zero, List.setIfInBounds_toArray, List.set_cons_zero, List.set_cons_succ]
        refine wpAnyH_take (i := 9) (v := ?v108) rfl (by kernel_rfl) (by kernel_rfl) (by kernel_rfl) (fun _ _ _ h => h) (Or.inl ⟨by rfl, ?hy108⟩) (by assumption) ?rest108
        case hy108 => (intro wz hSw; (try dsimp only at hSw); first | (go_simp; done) | (go_simp; with_reducible rfl))
        try simp only [Act.put, List.getElem_toArray, List.getElem_cons_succ, List.getElem_cons_zero, List.setIfInBounds_toArray, List.set_cons_zero, List.set_cons_succ]
        refine wpAnyH_take (i := 10) (v := ?v109) rfl (by kernel_rfl) (by kernel_rfl) (by kernel_rfl) (fun _ _ _ h => h) (Or.inl ⟨by rfl, ?hy109⟩) (by assumption) ?rest109
        case hy109 => (intro wz hSw; (try dsimp only at hSw); first | (go_simp; done) | (go_simp; with_reducible rfl))
        try simp only [Act.put, List.getElem_toArray, List.getElem_cons_succ, List.getElem_cons_zero, List.setIfInBounds_toArray, List.set_cons_zero, List.set_cons_succ]
        refine wpAnyH_take (i := 11) (v := ?v110) rfl (by kernel_rfl) (by kernel_rfl) (by kernel_rfl) (fun _ _ _ h => h) (Or.inl ⟨by rfl, ?hy110⟩) (by assumption) ?rest110
        case hy110 => (intro wz hSw; (try dsimp only at hSw); first | (go_simp; done) | (go_simp; with_reducible rfl))
        try simp only [Act.put, List.getElem_toArray, List.getElem_cons_succ, List.getElem_cons_zero, List.setIfInBounds_toArray, List.set_cons_zero, List.set_cons_succ]
        refine wpAnyH_take (i := 12) (v := ?v111) rfl (by kernel_rfl) (by kernel_rfl) (by kernel_rfl) (fun _ _ _ h => h) (Or.inl ⟨by rfl, ?hy111⟩) (by assumption) ?rest111
        case hy111 => (intro wz hSw; (try dsimp only at hSw); first | (go_simp; done) | (go_simp; with_reducible rfl))
        try simp only [Act.put, List.getElem_toArray, List.getElem_cons_succ, List.getElem_cons_zero, List.setIfInBounds_toArray, List.set_cons_zero, List.set_cons_succ]
        refine wpAnyH_ready (rs := [6]) (by kernel_rfl) (by simp) ?_
        refine AllReadyH.cons (o := _) rfl (fun K hK => ?_) AllReadyH.nil
        go_simp
        (with_reducible refine (I1.out _ (gb_trans GR.out H0.out)).mono ?_)
        rintro e hw1 ⟨rfl, g⟩
        have H1 := Lib.hid (gb_trans H0.out g)
        clear g
        try dsimp only
        refine hK.out _ _ (KS.out _ H1.out) (fun hH1 => ?_)
        clear hK K hH0
        try simp only [Act.put, List.getElem_toArray, List.getElem_cons_succ, List.getElem_cons_zero, List.setIfInBounds_toArray, List.set_cons_zero, List.set_cons_succ]
        refine wpAnyH_take (i := 7) (v := ?v112) rfl (by kernel_rfl) (by kernel_rfl) (by kernel_rfl) (fun _ _ _ h => h) (Or.inl ⟨by rfl, ?hy112⟩) (by assumption) ?rest112
        case hy112 => (intro wz hSw; (try dsimp only at hSw); first | (go_simp; done) | (go_simp; with_reducible rfl))
        try simp only [Act.put, List.getElem_toArray, List.getElem_cons_succ, List.getElem_cons_zero, List.setIfInBounds_toArray, List.set_cons_zero, List.set_cons_succ]
        refine wpAnyH_ready (rs := [13]) (by kernel_rfl) (by simp) ?_
        refine AllReadyH.cons (o := _) rfl (fun K hK => ?_) AllReadyH.nil
        go_simp
        (with_reducible refine (I2.out _ (gb_trans GR.out H1.out)).mono ?_)
        rintro e hw2 ⟨rfl, g⟩
        have H2 := Lib.hid (gb_trans H1.out g)
        clear g
        try dsimp only
        refine hK.out _ _ (KS.out _ H2.out) (fun hH2 => ?_)
        clear hK K hH1
        try simp only [Act.put, List.getElem_toArray, List.getElem_cons_succ, List.getElem_cons_zero, List.setIfInBounds_toArray, List.set_cons_zero, List.set_cons_succ]
        refine wpAnyH_take (i := 14) (v := ?v113) rfl (by kernel_rfl) (by kernel_rfl) (by kernel_rfl) (fun _ _ _ h => h) (Or.inl ⟨by rfl, ?hy113⟩) (by assumption) ?rest113
        case hy113 => (intro wz hSw; (try dsimp only at hSw); first | (go_simp; done) | (go_simp; with_reducible rfl))
        try simp only [Act.put, List.getElem_toArray, List.getElem_cons_succ, List.getElem_cons_zero, List.setIfInBounds_toArray, List.set_cons_zero, List.set_cons_succ]
        refine wpAnyH_take (i := 15) (v := ?v114) rfl (by kernel_rfl) (by kernel_rfl) (by kernel_rfl) (fun _ _ _ h => h) (Or.inl ⟨by rfl, ?hy114⟩) (by assumption) ?rest114
        case hy114 => (intro wz hSw; (try dsimp only at hSw); first | (go_simp; done) | (go_simp; with_reducible rfl))
        try simp only [Act.put, List.getElem_toArray, List.getElem_cons_succ, List.getElem_cons_zero, List.setIfInBounds_toArray, List.set_cons_zero, List.set_cons_succ]
        refine wpAnyH_take (i := 16) (v := ?v115) rfl (by kernel_rfl) (by kernel_rfl) (by kernel_rfl) (fun _ _ _ h => h) (Or.inl ⟨by rfl, ?hy115⟩) (by assumption) ?rest115
        case hy115 => (intro wz hSw; (try dsimp only at hSw); first | (go_simp; done) | (go_simp; with_reducible rfl))
        try simp only [Act.put, List.getElem_toArray, List.getElem_cons_succ, List.getElem_cons_zero, List.setIfInBounds_toArray, List.set_cons_zero, List.set_cons_succ]
        refine wpAnyH_done (by kernel_rfl) ?_ _
        clear hH2

        go_wp2
        go_roundw
        case rel => have sb := SB.out; exact ⟨j + 1, g + (1 + tc + ec), by rw [wrapj (by omega) (by omega)] <;> rfl, by rw [← WF.out], by omega, by have := CA.out; have := HP.out; have := HT.out; have := HE.out; omega, gb_trans GR.out H2.out⟩
        case measure => have sb := SB.out; rw [wrapj (by omega) (by omega)]; simp [intOf]; omega
      · have hje : j = sn := by omega
        have i1 : ¬ (j : Int) < sn := by omega
        have DN := Lib.hid (CT.drop_all T j (by rw [SL.out]; omega))
        have FI := Lib.hid (show g = T.cnt by have h := HG.out; rw [DN.out] at h; rw [CT.cnt_nil] at h; omega)
        go_wp2
        go_ret
        exact ⟨by rw [← FI.out] <;> rfl, GR.out⟩
theorem rcount_any (w : World) (s : Sl) (T : CT) (hS : ST w s T) (hc : T.cnt ≤ 1000000) : Calls Try.prog 80 #[.slice s.a s.n s.c] w (RetV (.int .i64 (T.cnt : Nat)) w) := rcount_rec (T.cnt + 1) T s w (by omega) hc hS
end Go.Proofs.Ytfjeonoihdgdoaa
