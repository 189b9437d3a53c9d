/- Control: the nesting of both sides; no condition but that the tree lies in memory and is not large. -/
import Derived.Test.YtfjeonoihdgdoaaCnE
namespace Go.Proofs.Ytfjeonoihdgdoaa
open Go.RowKit
set_option linter.unusedVariables false
set_option maxRecDepth 100000 in
set_option maxHeartbeats 4000000 in
theorem rnest_rec : ∀ (m : Nat) (T : CT) (s : Sl) (w : World), T.cnt < m → T.cnt ≤ 1000000 → ST w s T → Calls Try.prog 81 #[.slice s.a s.n s.c] w (RetV (.int .i64 (T.nest : Nat)) w) := by
  intro m
  induction m with
  | zero => intro T s w h; omega
  | succ m ih =>
    intro T s w hm hc hS
    obtain ⟨sa, sn, sc⟩ := s
    have IH := Lib.hid ih
    have HM := Lib.hid hm
    have HC := Lib.hid hc
    have HS := Lib.hid hS
    have SL := Lib.hid hS.len
    have scap : sn ≤ sc := hS.cap
    have SB := Lib.hid (show sn ≤ 1000000 by have := hS.len; have := CT.len_cnt T; dsimp only at *; omega)
    clear ih hm hc hS
    dsimp only at *
    go_enter Try.func81, Try.ntmps81
    go_wp2
    go_loopw [3, 4] (fun s3 s4 wr => ∃ (j g : Nat), s4 = .int .i64 (j : Int) ∧ s3 = .int .i64 (g : Int) ∧ j ≤ sn ∧ max g (T.drop j).nest = T.nest ∧ w.grownBy wr none) (fun _ s4 _ => sn - (intOf s4).toNat)
    case atStart => exact ⟨0, 0, rfl, rfl, Nat.zero_le _, by rw [CT.drop_zero]; omega, gb_refl _ _⟩
    case round =>
      obtain ⟨j, g, rfl, rfl, hj, hg, hgr⟩ := hrel
      have HG := Lib.hid hg
      have GR := Lib.hid hgr
      clear hg hgr
      by_cases hlt : j < sn
      · have i1 : (j : Int) < sn := by omega
        have i0 : (0 : Int) ≤ (j : Int) := by omega
        obtain ⟨x, ad, hsa, hd, ⟨c0, c1, c2, c3, c4⟩, vm⟩ := HS.out.at_ j hlt
        dsimp only at hsa
        subst hsa
        have HD := Lib.hid hd
        have VMx := Lib.hid vm
        have hcn := cnt_th hd
        have CNx := Lib.hid (show x.th.cnt < m ∧ x.el.cnt < m ∧ x.th.cnt ≤ 1000000 ∧ x.el.cnt ≤ 1000000 by have := HM.out; have := HC.out; omega)
        have CA := Lib.hid (cnt_at hd)
        have CD := Lib.hid (CT.drop_cnt T j)
        have NA := Lib.hid (nest_at hd)
        have ND := Lib.hid (CT.nest_cnt x.th)
        have ND2 := Lib.hid (CT.nest_cnt x.el)
        have C3 := Lib.hid c3
        have C4 := Lib.hid c4
        have I1 := Lib.hid (fun (w2 : World) (g : w.grownBy w2 none) => IH.out x.th x.s w2 CNx.out.1 CNx.out.2.2.1 (VMx.out.s.keep0 g))
        have I2 := Lib.hid (fun (w2 : World) (g : w.grownBy w2 none) => IH.out x.el x.u w2 CNx.out.2.1 CNx.out.2.2.2 (VMx.out.u.keep0 g))
        unfold RetV at I1 I2
        clear hcn hd vm
        have HP := Lib.hid HG.out
        obtain ⟨tc, htc⟩ : ∃ q, q = x.th.nest := ⟨_, rfl⟩
        obtain ⟨ec, hec⟩ : ∃ q, q = x.el.nest := ⟨_, rfl⟩
        have HT := Lib.hid htc
        have HE := Lib.hid hec
        rw [← htc] at I1
        rw [← hec] at I2
        have TB := Lib.hid (show tc ≤ 1000000 ∧ ec ≤ 1000000 ∧ g ≤ 1000000 by
          have := CNx.out; have := ND.out; have := ND2.out; have := HT.out; have := HE.out; have := HP.out; have := CT.nest_cnt T; have := HC.out
          omega)
        have w1 : IntKind.i64.wrap (1 + (tc : Int)) = 1 + (tc : Int) := wrapi (by omega) (by have := TB.out; omega)
        have w2 : IntKind.i64.wrap (1 + (ec : Int)) = 1 + (ec : Int) := wrapi (by omega) (by have := TB.out; omega)
        clear c0 c1 c2 c3 c4 htc hec
        go_wp2
        have KS := Lib.hid (fun (w' : World) (q0 : wr.grownBy w' none) => (⟨(gb_trans GR.out q0).cell C3.out (by simp), (gb_trans GR.out q0).cell C4.out (by simp), q0⟩ : (fun w' : World => w'.cell? ⟨(ad.add (j * 5)).block, (ad.add (j * 5)).off + 3, none⟩ = some (.slice x.s.a x.s.n x.s.c) ∧ w'.cell? ⟨(ad.add (j * 5)).block, (ad.add (j * 5)).off + 4, none⟩ = some (.slice x.u.a x.u.n x.u.c) ∧ wr.grownBy w' none) w'))
        have H0 := Lib.hid (gb_drew wr none)
        refine wp_region_held_drew (S := (fun w' : World => w'.cell? ⟨(ad.add (j * 5)).block, (ad.add (j * 5)).off + 3, none⟩ = some (.slice x.s.a x.s.n x.s.c) ∧ w'.cell? ⟨(ad.add (j * 5)).block, (ad.add (j * 5)).off + 4, none⟩ = some (.slice x.u.a x.u.n x.u.c) ∧ wr.grownBy w' none)) (by kernel_rfl) (KS.out _ H0.out) (fun hH0 => ?_)
        refine wpAnyH_take (i := 0) (v := ?v116) rfl (by kernel_rfl) (by kernel_rfl) (by kernel_rfl) (fun _ _ _ h => h) (Or.inl ⟨by rfl, ?hy116⟩) (by assumption) ?rest116
        case hy116 => (intro wz hSw; (try dsimp only at hSw); first | (go_simp; done) | (go_simp; with_reducible rfl))
        try simp only [Act.put, List.getElem_toArray, List.getElem_cons_zero, List.setIfInBounds_toArray, List.set_cons_zero, List.set_cons_succ]
        refine wpAnyH_take (i := 1) (v := ?v117) rfl (by kernel_rfl) (by kernel_rfl) (by kernel_rfl) (fun _ _ _ h => h) (Or.inl ⟨by rfl, ?hy117⟩) (by assumption) ?rest117
        case hy117 => (intro wz hSw; (try dsimp only at hSw); first | (go_simp; done) | (go_simp; with_reducible rfl))
        try simp only [Act.put, List.getElem_toArray, List.getElem_cons_succ, List.getElem_cons_zero, List.setIfInBounds_toArray, List.set_cons_zero, List.set_cons_succ]
        refine wpAnyH_take (i := 2) (v := ?v118) rfl (by kernel_rfl) (by kernel_rfl) (by kernel_rfl) (fun _ _ _ h => h) (Or.inl ⟨by rfl, ?hy118⟩) (by assumption) ?rest118
        case hy118 => (intro wz hSw; (try dsimp only at hSw); first | (go_simp; done) | (go_simp; with_reducible rfl))
        try simp only [Act.put, List.getElem_toArray, List.getElem_cons_succ, List.getElem_cons_zero, List.setIfInBounds_toArray, List.set_cons_zero, List.set_cons_succ]
        refine wpAnyH_take (i := 3) (v := ?v119) rfl (by kernel_rfl) (by kernel_rfl) (by kernel_rfl) (fun _ _ _ h => h) (Or.inl ⟨by rfl, ?hy119⟩) (by assumption) ?rest119
        case hy119 => (intro wz hSw; (try dsimp only at hSw); first | (go_simp; done) | (go_simp; with_reducible rfl))
        try simp only [Act.put, List.getElem_toArray, List.getElem_cons_succ, List.getElem_cons_zero, List.setIfInBounds_toArray, List.set_cons_zero, List.set_cons_succ]
        refine wpAnyH_take (i := 4) (v := ?v120) rfl (by kernel_rfl) (by kernel_rfl) (by kernel_rfl) (fun _ _ _ h => h) (Or.inl ⟨by rfl, ?hy120⟩) (by assumption) ?rest120
        case hy120 => (intro wz hSw; (try dsimp only at hSw); first | (go_simp; done) | (go_simp; with_reducible rfl))
        try simp only [Act.put, List.getElem_toArray, List.getElem_cons_succ, List.getElem_cons_zero, List.setIfInBounds_toArray, List.set_cons_zero, List.set_cons_succ]
        refine wpAnyH_take (i := 5) (v := ?v121) rfl (by kernel_rfl) (by kernel_rfl) (by kernel_rfl) (fun _ _ _ h => h) (Or.inl ⟨by rfl, ?hy121⟩) (by assumption) ?rest121
        case hy121 => (intro wz hSw; (try dsimp only at hSw); first | (go_simp; done) | (go_simp; with_reducible rfl))
        try simp only [Act.put, List.getElem_toArray, List.getElem_cons_succ, List.getElem_cons_zero, List.setIfInBounds_toArray, List.set_cons_zero, List.set_cons_succ]
        refine wpAnyH_take (i := 8) (v := ?v122) rfl (by kernel_rfl) (by kernel_rfl) (by kernel_rfl) (fun _ _ _ h => h) (Or.inl ⟨by rfl, ?hy122⟩) (by assumption) ?rest122
        case hy122 => (intro wz hSw; (try dsimp only at hSw); first | (go_simp; done) | (go_simp; with_reducible rfl))
        try simp only [Act.put, List.getElem_toArray, List.getElem_cons_succ, List.getElem_cons_zero, List.setIfInBounds_toArray, List.set_cons_zero, List.set_cons_succ]
        refine wpAnyH_take (i := 9) (v := ?v123) rfl (by kernel_rfl) (by kernel_rfl) (by kernel_rfl) (fun _ _ _ h => h) (Or.inl ⟨by rfl, ?hy123⟩) (by assumption) ?rest123
        case hy123 => (intro wz hSw; (try dsimp only at hSw); first | (go_simp; done) | (go_simp; with_reducible rfl))
        try simp only [Act.put, List.getElem_toArray, List.getElem_cons_succ, List.getElem_cons_zero, List.setIfInBounds_toArray, List.set_cons_zero, List.set_cons_succ]
        refine wpAnyH_take (i := 10) (v := ?v124) rfl (by kernel_rfl) (by kernel_rfl) (by kernel_rfl) (fun _ _ _ h => h) (Or.inl ⟨by rfl, ?hy124⟩) (by assumption) ?rest124
        case hy124 => (intro wz hSw; (try dsimp only at hSw); first | (go_simp; done) | (go_simp; with_reducible rfl))
        try simp only [Act.put, List.getElem_toArray, List.getElem_cons_succ, List.getElem_cons_zero, List.setIfInBounds_toArray, List.set_cons_zero, List.set_cons_succ]
        refine wpAnyH_take (i := 11) (v := ?v125) rfl (by kernel_rfl) (by kernel_rfl) (by kernel_rfl) (fun _ _ _ h => h) (Or.inl ⟨by rfl, ?hy125⟩) (by assumption) ?rest125
        case hy125 => (intro wz hSw; (try dsimp only at hSw); first | (go_simp; done) | (go_simp; with_reducible rfl))
        try simp only [Act.put, List.getElem_toArray, List.getElem_cons_succ, List.getElem_cons_zero, List.setIfInBounds_toArray, List.set_cons_zero, List.set_cons_succ]
        refine wpAnyH_take (i := 12) (v := ?v126) rfl (by kernel_rfl) (by kernel_rfl) (by kernel_rfl) (fun _ _ _ h => h) (Or.inl ⟨by rfl, ?hy126⟩) (by assumption) ?rest126
        case hy126 => (intro wz hSw; (try dsimp only at hSw); first | (go_simp; done) | (go_simp; with_reducible rfl))
        try simp only [Act.put, List.getElem_toArray, List.getElem_cons_succ, List.getElem_cons_zero, List.setIfInBounds_toArray, List.set_cons_zero, List.set_cons_succ]
        refine wpAnyH_ready (rs := [6]) (by kernel_rfl) (by simp) ?_
        refine AllReadyH.cons (o := _) rfl (fun K hK => ?_) AllReadyH.nil
        go_simp
        (with_reducible refine (I1.out _ (gb_trans GR.out H0.out)).mono ?_)
        rintro e hw1 ⟨rfl, g⟩
        have H1 := Lib.hid (gb_trans H0.out g)
        clear g
        try dsimp only
        refine hK.out _ _ (KS.out _ H1.out) (fun hH1 => ?_)
        clear hK K hH0
        try simp only [Act.put, List.getElem_toArray, List.getElem_cons_succ, List.getElem_cons_zero, List.setIfInBounds_toArray, List.set_cons_zero, List.set_cons_succ]
        refine wpAnyH_take (i := 7) (v := ?v127) rfl (by kernel_rfl) (by kernel_rfl) (by kernel_rfl) (fun _ _ _ h => h) (Or.inl ⟨by rfl, ?hy127⟩) (by assumption) ?rest127
        case hy127 => (intro wz hSw; (try dsimp only at hSw); first | (go_simp; done) | (go_simp; with_reducible rfl))
        try simp only [Act.put, List.getElem_toArray, List.getElem_cons_succ, List.getElem_cons_zero, List.setIfInBounds_toArray, List.set_cons_zero, List.set_cons_succ]
        refine wpAnyH_ready (rs := [13]) (by kernel_rfl) (by simp) ?_
        refine AllReadyH.cons (o := _) rfl (fun K hK => ?_) AllReadyH.nil
        go_simp
        (with_reducible refine (I2.out _ (gb_trans GR.out H1.out)).mono ?_)
        rintro e hw2 ⟨rfl, g⟩
        have H2 := Lib.hid (gb_trans H1.out g)
        clear g
        try dsimp only
        refine hK.out _ _ (KS.out _ H2.out) (fun hH2 => ?_)
        clear hK K hH1
        try simp only [Act.put, List.getElem_toArray, List.getElem_cons_succ, List.getElem_cons_zero, List.setIfInBounds_toArray, List.set_cons_zero, List.set_cons_succ]
        refine wpAnyH_take (i := 14) (v := ?v128) rfl (by kernel_rfl) (by kernel_rfl) (by kernel_rfl) (fun _ _ _ h => h) (Or.inl ⟨by rfl, ?hy128⟩) (by assumption) ?rest128
        case hy128 => (intro wz hSw; (try dsimp only at hSw); first | (go_simp; done) | (go_simp; with_reducible rfl))
        try simp only [Act.put, List.getElem_toArray, List.getElem_cons_succ, List.getElem_cons_zero, List.setIfInBounds_toArray, List.set_cons_zero, List.set_cons_succ]
        refine wpAnyH_take (i := 15) (v := ?v129) rfl (by kernel_rfl) (by kernel_rfl) (by kernel_rfl) (fun _ _ _ h => h) (Or.inl ⟨by rfl, ?hy129⟩) (by assumption) ?rest129
        case hy129 => (intro wz hSw; (try dsimp only at hSw); first | (go_simp; done) | (go_simp; with_reducible rfl))
        try simp only [Act.put, List.getElem_toArray, List.getElem_cons_succ, List.getElem_cons_zero, List.setIfInBounds_toArray, List.set_cons_zero, List.set_cons_succ]
        refine wpAnyH_take (i := 16) (v := ?v130) rfl (by kernel_rfl) (by kernel_rfl) (by kernel_rfl) (fun _ _ _ h => h) (Or.inl ⟨by rfl, ?hy130⟩) (by assumption) ?rest130
        case hy130 => (intro wz hSw; (try dsimp only at hSw); first | (go_simp; done) | (go_simp; with_reducible rfl))
        try simp only [Act.put, List.getElem_toArray, List.getElem_cons_succ, List.getElem_cons_zero, List.setIfInBounds_toArray, List.set_cons_zero, List.set_cons_succ]
        refine wpAnyH_done (by kernel_rfl) ?_ _
        clear hH2

        go_wp2
        go_roundw
        case rel => have sb := SB.out; exact ⟨j + 1, max g (max (1 + tc) (1 + ec)), by rw [wrapj (by omega) (by omega)] <;> rfl, by congr 1; (repeat' split) <;> omega, by omega, by have := NA.out; have := HP.out; have := HT.out; have := HE.out; omega, gb_trans GR.out H2.out⟩
        case measure => have sb := SB.out; rw [wrapj (by omega) (by omega)]; simp [intOf]; omega
      · have hje : j = sn := by omega
        have i1 : ¬ (j : Int) < sn := by omega
        have DN := Lib.hid (CT.drop_all T j (by rw [SL.out]; omega))
        have FI := Lib.hid (show g = T.nest by have h := HG.out; rw [DN.out] at h; rw [show CT.nil.nest = 0 from rfl] at h; omega)
        go_wp2
        go_ret
        exact ⟨by rw [← FI.out] <;> rfl, GR.out⟩
set_option maxRecDepth 100000 in
set_option maxHeartbeats 4000000 in
theorem knest_rec : ∀ (m : Nat) (T : CT) (s : Sl) (w : World), T.cnt < m → T.cnt ≤ 1000000 → ST w s T → Calls Try.prog 44 #[.slice s.a s.n s.c] w (RetV (.int .i64 (T.nest : Nat)) w) := by
  intro m
  induction m with
  | zero => intro T s w h; omega
  | succ m ih =>
    intro T s w hm hc hS
    obtain ⟨sa, sn, sc⟩ := s
    have IH := Lib.hid ih
    have HM := Lib.hid hm
    have HC := Lib.hid hc
    have HS := Lib.hid hS
    have SL := Lib.hid hS.len
    have scap : sn ≤ sc := hS.cap
    have SB := Lib.hid (show sn ≤ 1000000 by have := hS.len; have := CT.len_cnt T; dsimp only at *; omega)
    clear ih hm hc hS
    dsimp only at *
    go_enter Try.func44, Try.ntmps44
    go_wp2
    go_loopw [3, 8] (fun s3 s8 wr => ∃ (j g : Nat), s8 = .int .i64 (j : Int) ∧ s3 = .int .i64 (g : Int) ∧ j ≤ sn ∧ max g (T.drop j).nest = T.nest ∧ w.grownBy wr none) (fun _ s8 _ => sn - (intOf s8).toNat)
    case atStart => exact ⟨0, 0, rfl, rfl, Nat.zero_le _, by rw [CT.drop_zero]; omega, gb_refl _ _⟩
    case round =>
      obtain ⟨j, g, rfl, rfl, hj, hg, hgr⟩ := hrel
      have HG := Lib.hid hg
      have GR := Lib.hid hgr
      clear hg hgr
      by_cases hlt : j < sn
      · have i1 : (j : Int) < sn := by omega
        have i0 : (0 : Int) ≤ (j : Int) := by omega
        obtain ⟨x, ad, hsa, hd, ⟨c0, c1, c2, c3, c4⟩, vm⟩ := HS.out.at_ j hlt
        dsimp only at hsa
        subst hsa
        have HD := Lib.hid hd
        have VMx := Lib.hid vm
        have hcn := cnt_th hd
        have CNx := Lib.hid (show x.th.cnt < m ∧ x.el.cnt < m ∧ x.th.cnt ≤ 1000000 ∧ x.el.cnt ≤ 1000000 by have := HM.out; have := HC.out; omega)
        have CA := Lib.hid (cnt_at hd)
        have CD := Lib.hid (CT.drop_cnt T j)
        have NA := Lib.hid (nest_at hd)
        have ND := Lib.hid (CT.nest_cnt x.th)
        have ND2 := Lib.hid (CT.nest_cnt x.el)
        have C3 := Lib.hid c3
        have C4 := Lib.hid c4
        have I1 := Lib.hid (fun (w2 : World) (g : w.grownBy w2 none) => IH.out x.th x.s w2 CNx.out.1 CNx.out.2.2.1 (VMx.out.s.keep0 g))
        have I2 := Lib.hid (fun (w2 : World) (g : w.grownBy w2 none) => IH.out x.el x.u w2 CNx.out.2.1 CNx.out.2.2.2 (VMx.out.u.keep0 g))
        unfold RetV at I1 I2
        clear hcn hd vm
        have HP := Lib.hid HG.out
        obtain ⟨tc, htc⟩ : ∃ q, q = x.th.nest := ⟨_, rfl⟩
        obtain ⟨ec, hec⟩ : ∃ q, q = x.el.nest := ⟨_, rfl⟩
        have HT := Lib.hid htc
        have HE := Lib.hid hec
        rw [← htc] at I1
        rw [← hec] at I2
        have TB := Lib.hid (show tc ≤ 1000000 ∧ ec ≤ 1000000 ∧ g ≤ 1000000 by
          have := CNx.out; have := ND.out; have := ND2.out; have := HT.out; have := HE.out; have := HP.out; have := CT.nest_cnt T; have := HC.out
          omega)
        have w1 : IntKind.i64.wrap (1 + (tc : Int)) = 1 + (tc : Int) := wrapi (by omega) (by have := TB.out; omega)
        have w2 : IntKind.i64.wrap (1 + (ec : Int)) = 1 + (ec : Int) := wrapi (by omega) (by have := TB.out; omega)
        replace c0 := GR.out.cell c0 (by simp)
        replace c1 := GR.out.cell c1 (by simp)
        replace c2 := GR.out.cell c2 (by simp)
        replace c3 := GR.out.cell c3 (by simp)
        replace c4 := GR.out.cell c4 (by simp)
        have GA := Lib.hid (gb_al (o := .cells x.cs 63) GR.out)
        have BA := Lib.hid (IsB.new wr 63 x.cs)
        clear htc hec
        go_upto_region 5 with fail
        generalize wr.alloc (.cells x.cs 63) = wa at *
        obtain ⟨ba, hba⟩ : ∃ b, b = wr.heap.size := ⟨_, rfl⟩
        rw [← hba] at BA ⊢
        clear c0 c1 c2 c3 c4 hba
        have KS := Lib.hid (fun (w' : World) (q0 : wa.grownBy w' none) => (⟨(BA.out.keep0 q0).cell 3, (BA.out.keep0 q0).cell 4, q0⟩ : (fun w' : World => w'.cell? ⟨ba, 3, none⟩ = some (.slice x.s.a x.s.n x.s.c) ∧ w'.cell? ⟨ba, 4, none⟩ = some (.slice x.u.a x.u.n x.u.c) ∧ wa.grownBy w' none) w'))
        have H0 := Lib.hid (gb_drew wa none)
        refine wp_region_held_drew (S := (fun w' : World => w'.cell? ⟨ba, 3, none⟩ = some (.slice x.s.a x.s.n x.s.c) ∧ w'.cell? ⟨ba, 4, none⟩ = some (.slice x.u.a x.u.n x.u.c) ∧ wa.grownBy w' none)) (by kernel_rfl) (KS.out _ H0.out) (fun hH0 => ?_)
        refine wpAnyH_take (i := 0) (v := ?v131) rfl (by kernel_rfl) (by kernel_rfl) (by kernel_rfl) (fun _ _ _ h => h) (Or.inl ⟨by rfl, ?hy131⟩) (by assumption) ?rest131
        case hy131 => (intro wz hSw; (try dsimp only at hSw); first | (go_simp; done) | (go_simp; with_reducible rfl))
        try simp only [Act.put, List.getElem_toArray, List.getElem_cons_zero, List.setIfInBounds_toArray, List.set_cons_zero, List.set_cons_succ]
        refine wpAnyH_take (i := 1) (v := ?v132) rfl (by kernel_rfl) (by kernel_rfl) (by kernel_rfl) (fun _ _ _ h => h) (Or.inl ⟨by rfl, ?hy132⟩) (by assumption) ?rest132
        case hy132 => (intro wz hSw; (try dsimp only at hSw); first | (go_simp; done) | (go_simp; with_reducible rfl))
        try simp only [Act.put, List.getElem_toArray, List.getElem_cons_succ, List.getElem_cons_zero, List.setIfInBounds_toArray, List.set_cons_zero, List.set_cons_succ]
        refine wpAnyH_take (i := 2) (v := ?v133) rfl (by kernel_rfl) (by kernel_rfl) (by kernel_rfl) (fun _ _ _ h => h) (Or.inl ⟨by rfl, ?hy133⟩) (by assumption) ?rest133
        case hy133 => (intro wz hSw; (try dsimp only at hSw); first | (go_simp; done) | (go_simp; with_reducible rfl))
        try simp only [Act.put, List.getElem_toArray, List.getElem_cons_succ, List.getElem_cons_zero, List.setIfInBounds_toArray, List.set_cons_zero, List.set_cons_succ]
        refine wpAnyH_take (i := 4) (v := ?v134) rfl (by kernel_rfl) (by kernel_rfl) (by kernel_rfl) (fun _ _ _ h => h) (Or.inl ⟨by rfl, ?hy134⟩) (by assumption) ?rest134
        case hy134 => (intro wz hSw; (try dsimp only at hSw); first | (go_simp; done) | (go_simp; with_reducible rfl))
        try simp only [Act.put, List.getElem_toArray, List.getElem_cons_succ, List.getElem_cons_zero, List.setIfInBounds_toArray, List.set_cons_zero, List.set_cons_succ]
        refine wpAnyH_take (i := 5) (v := ?v135) rfl (by kernel_rfl) (by kernel_rfl) (by kernel_rfl) (fun _ _ _ h => h) (Or.inl ⟨by rfl, ?hy135⟩) (by assumption) ?rest135
        case hy135 => (intro wz hSw; (try dsimp only at hSw); first | (go_simp; done) | (go_simp; with_reducible rfl))
        try simp only [Act.put, List.getElem_toArray, List.getElem_cons_succ, List.getElem_cons_zero, List.setIfInBounds_toArray, List.set_cons_zero, List.set_cons_succ]
        refine wpAnyH_ready (rs := [3]) (by kernel_rfl) (by simp) ?_
        refine AllReadyH.cons (o := _) rfl (fun K hK => ?_) AllReadyH.nil
        go_simp
        (with_reducible refine (I1.out _ (gb_trans GA.out H0.out)).mono ?_)
        rintro e hw1 ⟨rfl, g⟩
        have H1 := Lib.hid (gb_trans H0.out g)
        clear g
        try dsimp only
        refine hK.out _ _ (KS.out _ H1.out) (fun hH1 => ?_)
        clear hK K hH0
        try simp only [Act.put, List.getElem_toArray, List.getElem_cons_succ, List.getElem_cons_zero, List.setIfInBounds_toArray, List.set_cons_zero, List.set_cons_succ]
        refine wpAnyH_ready (rs := [6]) (by kernel_rfl) (by simp) ?_
        refine AllReadyH.cons (o := _) rfl (fun K hK => ?_) AllReadyH.nil
        go_simp
        (with_reducible refine (I2.out _ (gb_trans GA.out H1.out)).mono ?_)
        rintro e hw2 ⟨rfl, g⟩
        have H2 := Lib.hid (gb_trans H1.out g)
        clear g
        try dsimp only
        refine hK.out _ _ (KS.out _ H2.out) (fun hH2 => ?_)
        clear hK K hH1
        try simp only [Act.put, List.getElem_toArray, List.getElem_cons_succ, List.getElem_cons_zero, List.setIfInBounds_toArray, List.set_cons_zero, List.set_cons_succ]
        refine wpAnyH_take (i := 7) (v := ?v136) rfl (by kernel_rfl) (by kernel_rfl) (by kernel_rfl) (fun _ _ _ h => h) (Or.inl ⟨by rfl, ?hy136⟩) (by assumption) ?rest136
        case hy136 => (intro wz hSw; (try dsimp only at hSw); first | (go_simp; done) | (go_simp; with_reducible rfl))
        try simp only [Act.put, List.getElem_toArray, List.getElem_cons_succ, List.getElem_cons_zero, List.setIfInBounds_toArray, List.set_cons_zero, List.set_cons_succ]
        refine wpAnyH_take (i := 8) (v := ?v137) rfl (by kernel_rfl) (by kernel_rfl) (by kernel_rfl) (fun _ _ _ h => h) (Or.inl ⟨by rfl, ?hy137⟩) (by assumption) ?rest137
        case hy137 => (intro wz hSw; (try dsimp only at hSw); first | (go_simp; done) | (go_simp; with_reducible rfl))
        try simp only [Act.put, List.getElem_toArray, List.getElem_cons_succ, List.getElem_cons_zero, List.setIfInBounds_toArray, List.set_cons_zero, List.set_cons_succ]
        refine wpAnyH_take (i := 9) (v := ?v138) rfl (by kernel_rfl) (by kernel_rfl) (by kernel_rfl) (fun _ _ _ h => h) (Or.inl ⟨by rfl, ?hy138⟩) (by assumption) ?rest138
        case hy138 => (intro wz hSw; (try dsimp only at hSw); first | (go_simp; done) | (go_simp; with_reducible rfl))
        try simp only [Act.put, List.getElem_toArray, List.getElem_cons_succ, List.getElem_cons_zero, List.setIfInBounds_toArray, List.set_cons_zero, List.set_cons_succ]
        refine wpAnyH_take (i := 10) (v := ?v139) rfl (by kernel_rfl) (by kernel_rfl) (by kernel_rfl) (fun _ _ _ h => h) (Or.inl ⟨by rfl, ?hy139⟩) (by assumption) ?rest139
        case hy139 => (intro wz hSw; (try dsimp only at hSw); first | (go_simp; done) | (go_simp; with_reducible rfl))
        try simp only [Act.put, List.getElem_toArray, List.getElem_cons_succ, List.getElem_cons_zero, List.setIfInBounds_toArray, List.set_cons_zero, List.set_cons_succ]
        refine wpAnyH_done (by kernel_rfl) ?_ _
        clear hH2

        go_wp2
        go_roundw
        case rel => have sb := SB.out; exact ⟨j + 1, max g (1 + max tc ec), by rw [wrapj (by omega) (by omega)] <;> rfl, by have tb := TB.out; congr 1; rw [wrapi (by split <;> omega) (by split <;> omega)]; (repeat' split) <;> omega, by omega, by have := NA.out; have := HP.out; have := HT.out; have := HE.out; omega, gb_trans GA.out H2.out⟩
        case measure => have sb := SB.out; rw [wrapj (by omega) (by omega)]; simp [intOf]; omega
      · have hje : j = sn := by omega
        have i1 : ¬ (j : Int) < sn := by omega
        have DN := Lib.hid (CT.drop_all T j (by rw [SL.out]; omega))
        have FI := Lib.hid (show g = T.nest by have h := HG.out; rw [DN.out] at h; rw [show CT.nil.nest = 0 from rfl] at h; omega)
        go_wp2
        go_ret
        exact ⟨by rw [← FI.out] <;> rfl, GR.out⟩
theorem rnest_any (w : World) (s : Sl) (T : CT) (hS : ST w s T) (hc : T.cnt ≤ 1000000) : Calls Try.prog 81 #[.slice s.a s.n s.c] w (RetV (.int .i64 (T.nest : Nat)) w) := rnest_rec (T.cnt + 1) T s w (by omega) hc hS
theorem knest_any (w : World) (s : Sl) (T : CT) (hS : ST w s T) (hc : T.cnt ≤ 1000000) : Calls Try.prog 44 #[.slice s.a s.n s.c] w (RetV (.int .i64 (T.nest : Nat)) w) := knest_rec (T.cnt + 1) T s w (by omega) hc hS
end Go.Proofs.Ytfjeonoihdgdoaa
