/- What patchbaylaw22 counts of a control flow; no condition but that the tree lies in memory and that its conditions fit the memory. -/
import Derived.Test.YtfjeonoihdgdoaaCnG
import Derived.Deep.RegionHeld
namespace Go.Proofs.Ytfjeonoihdgdoaa
open Go.RowKit
set_option linter.unusedVariables false
theorem drop_sub : ∀ (T : CT) (j : Nat), ∀ y ∈ (T.drop j).pre, y ∈ T.pre := by
  intro T
  induction T with
  | nil => intro j y hy; rw [CT.drop_nil] at hy; exact hy
  | cons k t c N s th u el r i1 i2 i3 =>
    intro j y hy
    cases j with
    | zero => exact hy
    | succ j => exact List.mem_cons_of_mem _ (List.mem_append_right _ (List.mem_append_right _ (i3 j y hy)))
/-- What the count of a block tells. -/
structure BkT (T : CT) (p : Nat) (v : Int) : Prop where
  lo : 0 ≤ v
  hi : v ≤ (p : Int) * 293203100852 - 293203100791
  ok : v ≤ 60 → (T.cnt : Int) ≤ v ∧ ∀ x ∈ T.pre, x.N.length ≤ 1219
set_option maxRecDepth 100000 in
set_option maxHeartbeats 16000000 in
theorem blocks_rec : ∀ (m : Nat) (T : CT) (s : Sl) (d : Nat) (w : World), T.cnt < m → d ≤ 21 → (∀ x ∈ T.pre, x.N.length ≤ 5864062014634) → ST w s T →
    Calls Try.prog 52 #[.slice s.a s.n s.c, .int .i64 (d : Int), .int .i64 60] w (fun e w' => (∃ v, e = .returned (.int .i64 v) ∧ BkT T (2 ^ (21 - d)) v) ∧ w.grownBy w' none) := by
  intro m
  induction m with
  | zero => intro T s d w h; omega
  | succ m ih =>
    intro T s d w hm hd hcl hS
    obtain ⟨sa, sn, sc⟩ := s
    obtain ⟨p, hp⟩ : ∃ p, p = 2 ^ (21 - d) := ⟨_, rfl⟩
    have hp1 : 1 ≤ p := by rw [hp]; exact Nat.one_le_two_pow
    have hp2 : p ≤ 2097152 := by rw [hp]; exact Nat.pow_le_pow_right (n := 2) (by decide) (show 21 - d ≤ 21 by omega)
    have HM := Lib.hid hm
    have HS := Lib.hid hS
    have HCL := Lib.hid hcl
    have SL := Lib.hid hS.len
    have scap : sn ≤ sc := hS.cap
    rw [← hp]
    by_cases h1 : (60 : Int) < sn
    · clear ih hm hS hcl hp
      dsimp only at *
      go_enter Try.func52, Try.ntmps52
      go_wp2
      go_ret
      exact ⟨⟨_, rfl, by omega, by omega, fun h => by omega⟩, gb_refl _ _⟩
    by_cases h2 : (20 : Int) < (d : Int)
    · clear ih hm hS hcl hp
      dsimp only at *
      go_enter Try.func52, Try.ntmps52
      go_wp2
      go_ret
      exact ⟨⟨_, rfl, by omega, by omega, fun h => by omega⟩, gb_refl _ _⟩
    obtain ⟨q, hq⟩ : ∃ q, q = 2 ^ (21 - (d + 1)) := ⟨_, rfl⟩
    have hpq : p = 2 * q := by rw [hp, hq, ← Nat.pow_succ']; congr 1; omega
    have hq1 : 1 ≤ q := by omega
    have IH := Lib.hid (fun (U : CT) (s : Sl) (w2 : World) (hu : U.cnt < m) (hc : ∀ x ∈ U.pre, x.N.length ≤ 5864062014634) (hst : ST w2 s U) => ih U s (d + 1) w2 hu (by omega) hc hst)
    rw [← hq] at IH
    simp only [show ((d + 1 : Nat) : Int) = (d : Int) + 1 from rfl] at IH
    have HPQ := Lib.hid hpq
    have HP2 := Lib.hid hp2
    have HQ1 := Lib.hid hq1
    clear ih hm hS hcl hp hq hpq hp1 hp2 hq1
    dsimp only at *
    have hwd : wrap64 ((d : Int) + 1) = (d : Int) + 1 := by rw [wrapj (by omega) (by omega)]
    have hwd2 : IntKind.i64.wrap ((d : Int) + 1) = (d : Int) + 1 := by rw [wrapi (by omega) (by omega)]
    go_enter Try.func52, Try.ntmps52
    go_wp2
    go_loopw [7, 8] (fun s7 s8 wr => ∃ (j : Nat) (n : Int), s8 = .int .i64 (j : Int) ∧ s7 = .int .i64 n ∧ j ≤ sn ∧ 0 ≤ n ∧ n ≤ (p : Int) * 293203100852 - 293203100791 ∧ (n ≤ 60 → (T.cnt : Int) + sn ≤ n + j + ((T.drop j).cnt : Int) ∧ ((∀ x ∈ (T.drop j).pre, x.N.length ≤ 1219) → ∀ x ∈ T.pre, x.N.length ≤ 1219)) ∧ w.grownBy wr none) (fun _ s8 _ => sn - (intOf s8).toNat)
    case atStart => have := HPQ.out; have := HQ1.out; exact ⟨0, sn, rfl, rfl, Nat.zero_le _, by omega, by omega, (fun _ => by rw [CT.drop_zero]; exact ⟨by omega, id⟩), gb_refl _ _⟩
    case round =>
      obtain ⟨j, n, rfl, rfl, hj, hn0, hn1, hok, hgr⟩ := hrel
      have OK := Lib.hid hok
      have GR := Lib.hid hgr
      clear hok hgr
      by_cases hlt : j < sn
      · have i1 : (j : Int) < sn := by omega
        have i0 : (0 : Int) ≤ (j : Int) := by omega
        by_cases hnl : n ≤ 60
        · obtain ⟨x, ad, hsa, hd', ⟨c0, c1, c2, c3, c4⟩, vm⟩ := HS.out.at_ j hlt
          dsimp only at hsa
          subst hsa
          have VMx := Lib.hid vm
          have hcn := cnt_th hd'
          have CNx := Lib.hid (show x.th.cnt < m ∧ x.el.cnt < m by have := HM.out; omega)
          have CA := Lib.hid (cnt_at hd')
          have PA := Lib.hid (pre_at hd')
          have MEM := Lib.hid (show ∀ y ∈ (T.drop j).pre, y ∈ T.pre from drop_sub T j)
          have XC := Lib.hid (show ∀ y ∈ (T.drop j).pre, y.N.length ≤ 5864062014634 from fun y hy => HCL.out y (MEM.out y hy))
          have CL := Lib.hid vm.c.len
          have K1 := Lib.hid (show (∀ y ∈ x.th.pre, y.N.length ≤ 5864062014634) ∧ (∀ y ∈ x.el.pre, y.N.length ≤ 5864062014634) ∧ x.N.length ≤ 5864062014634 by
            have q := XC.out
            rw [PA.out] at q
            exact ⟨fun y hy => q y (List.mem_cons_of_mem _ (List.mem_append_left _ hy)), fun y hy => q y (List.mem_cons_of_mem _ (List.mem_append_right _ (List.mem_append_left _ hy))), q x (List.mem_cons_self ..)⟩)
          have I1 := Lib.hid (fun (w2 : World) (g : w.grownBy w2 none) => IH.out x.th x.s w2 CNx.out.1 K1.out.1 (VMx.out.s.keep0 g))
          have I2 := Lib.hid (fun (w2 : World) (g : w.grownBy w2 none) => IH.out x.el x.u w2 CNx.out.2 K1.out.2.1 (VMx.out.u.keep0 g))
          have XL := Lib.hid (show x.c.n ≤ 5864062014634 by have := K1.out.2.2; have := CL.out; omega)
          have OKJ := Lib.hid (OK.out hnl)
          have KS := Lib.hid (fun (w' : World) (q0 : w.grownBy w' none) => (⟨q0.cell c2 (by simp), q0.cell c3 (by simp), q0.cell c4 (by simp), q0⟩ : (fun w' : World => w'.cell? ⟨(ad.add (j * 5)).block, (ad.add (j * 5)).off + 2, none⟩ = some (.slice x.c.a x.c.n x.c.c) ∧ w'.cell? ⟨(ad.add (j * 5)).block, (ad.add (j * 5)).off + 3, none⟩ = some (.slice x.s.a x.s.n x.s.c) ∧ w'.cell? ⟨(ad.add (j * 5)).block, (ad.add (j * 5)).off + 4, none⟩ = some (.slice x.u.a x.u.n x.u.c) ∧ w.grownBy w' none) w'))
          clear hcn hd' vm c0 c1 c2 c3 c4 OK
          have H0 := Lib.hid (gb_trans GR.out (gb_drew wr none))
          go_upto_region 7 with fail
          refine wp_region_held_drew (S := (fun w' : World => w'.cell? ⟨(ad.add (j * 5)).block, (ad.add (j * 5)).off + 2, none⟩ = some (.slice x.c.a x.c.n x.c.c) ∧ w'.cell? ⟨(ad.add (j * 5)).block, (ad.add (j * 5)).off + 3, none⟩ = some (.slice x.s.a x.s.n x.s.c) ∧ w'.cell? ⟨(ad.add (j * 5)).block, (ad.add (j * 5)).off + 4, none⟩ = some (.slice x.u.a x.u.n x.u.c) ∧ w.grownBy w' none)) (by kernel_rfl) (KS.out _ H0.out) (fun hH0 => ?_)
          refine wpAnyH_take (i := 0) (v := ?v5) rfl (by kernel_rfl) (by kernel_rfl) (by kernel_rfl) (fun _ _ _ h => h) (Or.inl ⟨by rfl, ?hy5⟩) (by assumption) ?rest5
          case hy5 => (intro wz hSw; (try dsimp only at hSw); first | (go_simp; done) | (go_simp; with_reducible rfl))
          try simp only [Act.put, List.getElem_toArray, List.getElem_cons_zero, List.setIfInBounds_toArray, List.set_cons_zero, List.set_cons_succ]
          refine wpAnyH_take (i := 1) (v := ?v6) rfl (by kernel_rfl) (by kernel_rfl) (by kernel_rfl) (fun _ _ _ h => h) (Or.inl ⟨by rfl, ?hy6⟩) (by assumption) ?rest6
          case hy6 => (intro wz hSw; (try dsimp only at hSw); first | (go_simp; done) | (go_simp; with_reducible rfl))
          try simp only [Act.put, List.getElem_toArray, List.getElem_cons_succ, List.getElem_cons_zero, List.setIfInBounds_toArray, List.set_cons_zero, List.set_cons_succ]
          refine wpAnyH_take (i := 2) (v := ?v7) rfl (by kernel_rfl) (by kernel_rfl) (by kernel_rfl) (fun _ _ _ h => h) (Or.inl ⟨by rfl, ?hy7⟩) (by assumption) ?rest7
          case hy7 => (intro wz hSw; (try dsimp only at hSw); first | (go_simp; done) | (go_simp; with_reducible rfl))
          try simp only [Act.put, List.getElem_toArray, List.getElem_cons_succ, List.getElem_cons_zero, List.setIfInBounds_toArray, List.set_cons_zero, List.set_cons_succ]
          refine wpAnyH_take (i := 3) (v := ?v8) rfl (by kernel_rfl) (by kernel_rfl) (by kernel_rfl) (fun _ _ _ h => h) (Or.inl ⟨by rfl, ?hy8⟩) (by assumption) ?rest8
          case hy8 => (intro wz hSw; (try dsimp only at hSw); first | (go_simp; done) | (go_simp; with_reducible rfl))
          try simp only [Act.put, List.getElem_toArray, List.getElem_cons_succ, List.getElem_cons_zero, List.setIfInBounds_toArray, List.set_cons_zero, List.set_cons_succ]
          refine wpAnyH_take (i := 4) (v := ?v9) rfl (by kernel_rfl) (by kernel_rfl) (by kernel_rfl) (fun _ _ _ h => h) (Or.inl ⟨by rfl, ?hy9⟩) (by assumption) ?rest9
          case hy9 => (intro wz hSw; (try dsimp only at hSw); first | (go_simp; done) | (go_simp; with_reducible rfl))
          try simp only [Act.put, List.getElem_toArray, List.getElem_cons_succ, List.getElem_cons_zero, List.setIfInBounds_toArray, List.set_cons_zero, List.set_cons_succ]
          refine wpAnyH_take (i := 5) (v := ?v10) rfl (by kernel_rfl) (by kernel_rfl) (by kernel_rfl) (fun _ _ _ h => h) (Or.inl ⟨by rfl, ?hy10⟩) (by assumption) ?rest10
          case hy10 => (intro wz hSw; (try dsimp only at hSw); first | (go_simp; done) | (go_simp; with_reducible rfl))
          try simp only [Act.put, List.getElem_toArray, List.getElem_cons_succ, List.getElem_cons_zero, List.setIfInBounds_toArray, List.set_cons_zero, List.set_cons_succ]
          refine wpAnyH_take (i := 6) (v := ?v11) rfl (by kernel_rfl) (by kernel_rfl) (by kernel_rfl) (fun _ _ _ h => h) (Or.inl ⟨by rfl, ?hy11⟩) (by assumption) ?rest11
          case hy11 => (intro wz hSw; (try dsimp only at hSw); first | (go_simp; done) | (go_simp; with_reducible rfl))
          try simp only [Act.put, List.getElem_toArray, List.getElem_cons_succ, List.getElem_cons_zero, List.setIfInBounds_toArray, List.set_cons_zero, List.set_cons_succ]
          refine wpAnyH_take (i := 7) (v := ?v12) rfl (by kernel_rfl) (by kernel_rfl) (by kernel_rfl) (fun _ _ _ h => h) (Or.inl ⟨by rfl, ?hy12⟩) (by assumption) ?rest12
          case hy12 => (intro wz hSw; (try dsimp only at hSw); first | (go_simp; done) | (go_simp; with_reducible rfl))
          try simp only [Act.put, List.getElem_toArray, List.getElem_cons_succ, List.getElem_cons_zero, List.setIfInBounds_toArray, List.set_cons_zero, List.set_cons_succ]
          refine wpAnyH_take (i := 8) (v := ?v13) rfl (by kernel_rfl) (by kernel_rfl) (by kernel_rfl) (fun _ _ _ h => h) (Or.inl ⟨by rfl, ?hy13⟩) (by assumption) ?rest13
          case hy13 => (intro wz hSw; (try dsimp only at hSw); first | (go_simp; done) | (go_simp; with_reducible rfl))
          try simp only [Act.put, List.getElem_toArray, List.getElem_cons_succ, List.getElem_cons_zero, List.setIfInBounds_toArray, List.set_cons_zero, List.set_cons_succ]
          refine wpAnyH_take (i := 10) (v := ?v14) rfl (by kernel_rfl) (by kernel_rfl) (by kernel_rfl) (fun _ _ _ h => h) (Or.inl ⟨by rfl, ?hy14⟩) (by assumption) ?rest14
          case hy14 => (intro wz hSw; (try dsimp only at hSw); first | (go_simp; done) | (go_simp; with_reducible rfl))
          try simp only [Act.put, List.getElem_toArray, List.getElem_cons_succ, List.getElem_cons_zero, List.setIfInBounds_toArray, List.set_cons_zero, List.set_cons_succ]
          refine wpAnyH_take (i := 11) (v := ?v15) rfl (by kernel_rfl) (by kernel_rfl) (by kernel_rfl) (fun _ _ _ h => h) (Or.inl ⟨by rfl, ?hy15⟩) (by assumption) ?rest15
          case hy15 => (intro wz hSw; (try dsimp only at hSw); first | (go_simp; done) | (go_simp; with_reducible rfl))
          try simp only [Act.put, List.getElem_toArray, List.getElem_cons_succ, List.getElem_cons_zero, List.setIfInBounds_toArray, List.set_cons_zero, List.set_cons_succ]
          refine wpAnyH_take (i := 12) (v := ?v16) rfl (by kernel_rfl) (by kernel_rfl) (by kernel_rfl) (fun _ _ _ h => h) (Or.inl ⟨by rfl, ?hy16⟩) (by assumption) ?rest16
          case hy16 => (intro wz hSw; (try dsimp only at hSw); first | (go_simp; done) | (go_simp; with_reducible rfl))
          try simp only [Act.put, List.getElem_toArray, List.getElem_cons_succ, List.getElem_cons_zero, List.setIfInBounds_toArray, List.set_cons_zero, List.set_cons_succ]
          refine wpAnyH_take (i := 13) (v := ?v17) rfl (by kernel_rfl) (by kernel_rfl) (by kernel_rfl) (fun _ _ _ h => h) (Or.inl ⟨by rfl, ?hy17⟩) (by assumption) ?rest17
          case hy17 => (intro wz hSw; (try dsimp only at hSw); first | (go_simp; done) | (go_simp; with_reducible rfl))
          try simp only [Act.put, List.getElem_toArray, List.getElem_cons_succ, List.getElem_cons_zero, List.setIfInBounds_toArray, List.set_cons_zero, List.set_cons_succ]
          refine wpAnyH_take (i := 14) (v := ?v18) rfl (by kernel_rfl) (by kernel_rfl) (by kernel_rfl) (fun _ _ _ h => h) (Or.inl ⟨by rfl, ?hy18⟩) (by assumption) ?rest18
          case hy18 => (intro wz hSw; (try dsimp only at hSw); first | (go_simp; done) | (go_simp; with_reducible rfl))
          try simp only [Act.put, List.getElem_toArray, List.getElem_cons_succ, List.getElem_cons_zero, List.setIfInBounds_toArray, List.set_cons_zero, List.set_cons_succ]
          refine wpAnyH_take (i := 15) (v := ?v19) rfl (by kernel_rfl) (by kernel_rfl) (by kernel_rfl) (fun _ _ _ h => h) (Or.inl ⟨by rfl, ?hy19⟩) (by assumption) ?rest19
          case hy19 => (intro wz hSw; (try dsimp only at hSw); first | (go_simp; done) | (go_simp; with_reducible rfl))
          try simp only [Act.put, List.getElem_toArray, List.getElem_cons_succ, List.getElem_cons_zero, List.setIfInBounds_toArray, List.set_cons_zero, List.set_cons_succ]
          refine wpAnyH_take (i := 16) (v := ?v20) rfl (by kernel_rfl) (by kernel_rfl) (by kernel_rfl) (fun _ _ _ h => h) (Or.inl ⟨by rfl, ?hy20⟩) (by assumption) ?rest20
          case hy20 => (intro wz hSw; (try dsimp only at hSw); first | (go_simp; done) | (go_simp; with_reducible rfl))
          try simp only [Act.put, List.getElem_toArray, List.getElem_cons_succ, List.getElem_cons_zero, List.setIfInBounds_toArray, List.set_cons_zero, List.set_cons_succ]
          refine wpAnyH_take (i := 17) (v := ?v21) rfl (by kernel_rfl) (by kernel_rfl) (by kernel_rfl) (fun _ _ _ h => h) (Or.inl ⟨by rfl, ?hy21⟩) (by assumption) ?rest21
          case hy21 => (intro wz hSw; (try dsimp only at hSw); first | (go_simp; done) | (go_simp; with_reducible rfl))
          try simp only [Act.put, List.getElem_toArray, List.getElem_cons_succ, List.getElem_cons_zero, List.setIfInBounds_toArray, List.set_cons_zero, List.set_cons_succ]
          refine wpAnyH_take (i := 20) (v := ?v22) rfl (by kernel_rfl) (by kernel_rfl) (by kernel_rfl) (fun _ _ _ h => h) (Or.inl ⟨by rfl, ?hy22⟩) (by assumption) ?rest22
          case hy22 => (intro wz hSw; (try dsimp only at hSw); first | (go_simp; done) | (go_simp; with_reducible rfl))
          try simp only [Act.put, List.getElem_toArray, List.getElem_cons_succ, List.getElem_cons_zero, List.setIfInBounds_toArray, List.set_cons_zero, List.set_cons_succ]
          refine wpAnyH_take (i := 21) (v := ?v23) rfl (by kernel_rfl) (by kernel_rfl) (by kernel_rfl) (fun _ _ _ h => h) (Or.inl ⟨by rfl, ?hy23⟩) (by assumption) ?rest23
          case hy23 => (intro wz hSw; (try dsimp only at hSw); first | (go_simp; done) | (go_simp; with_reducible rfl))
          try simp only [Act.put, List.getElem_toArray, List.getElem_cons_succ, List.getElem_cons_zero, List.setIfInBounds_toArray, List.set_cons_zero, List.set_cons_succ]
          refine wpAnyH_take (i := 22) (v := ?v24) rfl (by kernel_rfl) (by kernel_rfl) (by kernel_rfl) (fun _ _ _ h => h) (Or.inl ⟨by rfl, ?hy24⟩) (by assumption) ?rest24
          case hy24 => (intro wz hSw; (try dsimp only at hSw); first | (go_simp; done) | (go_simp; with_reducible rfl))
          try simp only [Act.put, List.getElem_toArray, List.getElem_cons_succ, List.getElem_cons_zero, List.setIfInBounds_toArray, List.set_cons_zero, List.set_cons_succ]
          refine wpAnyH_take (i := 23) (v := ?v25) rfl (by kernel_rfl) (by kernel_rfl) (by kernel_rfl) (fun _ _ _ h => h) (Or.inl ⟨by rfl, ?hy25⟩) (by assumption) ?rest25
          case hy25 => (intro wz hSw; (try dsimp only at hSw); first | (go_simp; done) | (go_simp; with_reducible rfl))
          try simp only [Act.put, List.getElem_toArray, List.getElem_cons_succ, List.getElem_cons_zero, List.setIfInBounds_toArray, List.set_cons_zero, List.set_cons_succ]
          refine wpAnyH_take (i := 24) (v := ?v26) rfl (by kernel_rfl) (by kernel_rfl) (by kernel_rfl) (fun _ _ _ h => h) (Or.inl ⟨by rfl, ?hy26⟩) (by assumption) ?rest26
          case hy26 => (intro wz hSw; (try dsimp only at hSw); first | (go_simp; done) | (go_simp; with_reducible rfl))
          try simp only [Act.put, List.getElem_toArray, List.getElem_cons_succ, List.getElem_cons_zero, List.setIfInBounds_toArray, List.set_cons_zero, List.set_cons_succ]
          refine wpAnyH_take (i := 25) (v := ?v27) rfl (by kernel_rfl) (by kernel_rfl) (by kernel_rfl) (fun _ _ _ h => h) (Or.inl ⟨by rfl, ?hy27⟩) (by assumption) ?rest27
          case hy27 => (intro wz hSw; (try dsimp only at hSw); first | (go_simp; done) | (go_simp; with_reducible rfl))
          try simp only [Act.put, List.getElem_toArray, List.getElem_cons_succ, List.getElem_cons_zero, List.setIfInBounds_toArray, List.set_cons_zero, List.set_cons_succ]
          refine wpAnyH_take (i := 26) (v := ?v28) rfl (by kernel_rfl) (by kernel_rfl) (by kernel_rfl) (fun _ _ _ h => h) (Or.inl ⟨by rfl, ?hy28⟩) (by assumption) ?rest28
          case hy28 => (intro wz hSw; (try dsimp only at hSw); first | (go_simp; done) | (go_simp; with_reducible rfl))
          try simp only [Act.put, List.getElem_toArray, List.getElem_cons_succ, List.getElem_cons_zero, List.setIfInBounds_toArray, List.set_cons_zero, List.set_cons_succ]
          refine wpAnyH_ready (rs := [9]) (by kernel_rfl) (by simp) ?_
          refine AllReadyH.cons (o := _) rfl (fun K hK => ?_) AllReadyH.nil
          go_simp
          (with_reducible refine (I1.out _ H0.out).mono ?_)
          rintro e hw9 ⟨⟨v1, rfl, bv1⟩, g⟩
          have Bv1 := Lib.hid bv1
          have H1 := Lib.hid (gb_trans H0.out g)
          clear g bv1
          try dsimp only
          refine hK.out _ _ (KS.out _ H1.out) (fun hH1 => ?_)
          clear hK K hH0
          try simp only [Act.put, List.getElem_toArray, List.getElem_cons_succ, List.getElem_cons_zero, List.setIfInBounds_toArray, List.set_cons_zero, List.set_cons_succ]
          refine wpAnyH_ready (rs := [18]) (by kernel_rfl) (by simp) ?_
          refine AllReadyH.cons (o := _) rfl (fun K hK => ?_) AllReadyH.nil
          go_simp
          (with_reducible refine (I2.out _ H1.out).mono ?_)
          rintro e hw18 ⟨⟨v2, rfl, bv2⟩, g⟩
          have Bv2 := Lib.hid bv2
          have H2 := Lib.hid (gb_trans H1.out g)
          clear g bv2
          try dsimp only
          refine hK.out _ _ (KS.out _ H2.out) (fun hH2 => ?_)
          clear hK K hH1
          try simp only [Act.put, List.getElem_toArray, List.getElem_cons_succ, List.getElem_cons_zero, List.setIfInBounds_toArray, List.set_cons_zero, List.set_cons_succ]
          refine wpAnyH_take (i := 19) (v := ?v1) rfl (by kernel_rfl) (by kernel_rfl) (by kernel_rfl) (fun _ _ _ h => h) (Or.inl ⟨by rfl, ?hy1⟩) (by assumption) ?rest1
          case hy1 => (intro wz hSw; (try dsimp only at hSw); first | (go_simp; done) | (go_simp; with_reducible rfl))
          try simp only [Act.put, List.getElem_toArray, List.getElem_cons_succ, List.getElem_cons_zero, List.setIfInBounds_toArray, List.set_cons_zero, List.set_cons_succ]
          refine wpAnyH_take (i := 27) (v := ?v2) rfl (by kernel_rfl) (by kernel_rfl) (by kernel_rfl) (fun _ _ _ h => h) (Or.inl ⟨by rfl, ?hy2⟩) (by assumption) ?rest2
          case hy2 => (intro wz hSw; (try dsimp only at hSw); first | (go_simp; done) | (go_simp; with_reducible rfl))
          try simp only [Act.put, List.getElem_toArray, List.getElem_cons_succ, List.getElem_cons_zero, List.setIfInBounds_toArray, List.set_cons_zero, List.set_cons_succ]
          refine wpAnyH_take (i := 28) (v := ?v3) rfl (by kernel_rfl) (by kernel_rfl) (by kernel_rfl) (fun _ _ _ h => h) (Or.inl ⟨by rfl, ?hy3⟩) (by assumption) ?rest3
          case hy3 => (intro wz hSw; (try dsimp only at hSw); first | (go_simp; done) | (go_simp; with_reducible rfl))
          try simp only [Act.put, List.getElem_toArray, List.getElem_cons_succ, List.getElem_cons_zero, List.setIfInBounds_toArray, List.set_cons_zero, List.set_cons_succ]
          refine wpAnyH_take (i := 29) (v := ?v4) rfl (by kernel_rfl) (by kernel_rfl) (by kernel_rfl) (fun _ _ _ h => h) (Or.inl ⟨by rfl, ?hy4⟩) (by assumption) ?rest4
          case hy4 => (intro wz hSw; (try dsimp only at hSw); first | (go_simp; done) | (go_simp; with_reducible rfl))
          try simp only [Act.put, List.getElem_toArray, List.getElem_cons_succ, List.getElem_cons_zero, List.setIfInBounds_toArray, List.set_cons_zero, List.set_cons_succ]
          refine wpAnyH_done (by kernel_rfl) ?_ _
          clear hH2
          go_wp2
          go_roundw
          case rel =>
            have b1 := Bv1.out.lo
            have b2 := Bv1.out.hi
            have b3 := Bv2.out.lo
            have b4 := Bv2.out.hi
            have pq := HPQ.out
            have q1 := HQ1.out
            have p2 := HP2.out
            have xl := XL.out
            have e1 : IntKind.i64.wrap ((x.c.n : Int) / 20) = (x.c.n : Int) / 20 := by rw [IntKind.wrap_i64]; omega
            have e2 : IntKind.i64.wrap (v1 + v2) = v1 + v2 := by rw [IntKind.wrap_i64]; omega
            have e3 : IntKind.i64.wrap (v1 + v2 + (x.c.n : Int) / 20) = v1 + v2 + (x.c.n : Int) / 20 := by rw [IntKind.wrap_i64]; omega
            have e4 : IntKind.i64.wrap (n + (v1 + v2 + (x.c.n : Int) / 20)) = n + (v1 + v2 + (x.c.n : Int) / 20) := by rw [IntKind.wrap_i64]; omega
            rw [e1, e2, e3, e4]
            refine ⟨j + 1, _, rfl, rfl, by omega, by omega, by omega, fun hle => ?_, H2.out⟩
            obtain ⟨r1, r2⟩ := OKJ.out
            obtain ⟨s1, s2⟩ := Bv1.out.ok (by omega)
            obtain ⟨t1, t2⟩ := Bv2.out.ok (by omega)
            have ca := CA.out
            have cl := CL.out
            refine ⟨by omega, fun h => r2 (fun y hy => ?_)⟩
            rw [PA.out] at hy
            rcases List.mem_cons.1 hy with rfl | hy
            · omega
            rcases List.mem_append.1 hy with hy | hy
            · exact s2 y hy
            rcases List.mem_append.1 hy with hy | hy
            · exact t2 y hy
            · exact h y hy
          case measure => simp [intOf]; omega
        · have k1 : ¬ n ≤ 60 := hnl
          go_wp2
          go_ret
          exact ⟨⟨_, rfl, hn0, hn1, fun h => by omega⟩, GR.out⟩
      · have hje : j = sn := by omega
        have i1 : ¬ (j : Int) < sn := by omega
        have DN := Lib.hid (CT.drop_all T j (by rw [SL.out]; omega))
        have FI := Lib.hid (show BkT T p n from ⟨hn0, hn1, fun h => by
          obtain ⟨r1, r2⟩ := OK.out h
          rw [DN.out] at r1 r2
          exact ⟨by rw [CT.cnt_nil] at r1; omega, r2 (by intro x hx; cases hx)⟩⟩)
        go_wp2
        go_ret
        exact ⟨⟨_, rfl, FI.out⟩, GR.out⟩
end Go.Proofs.Ytfjeonoihdgdoaa
