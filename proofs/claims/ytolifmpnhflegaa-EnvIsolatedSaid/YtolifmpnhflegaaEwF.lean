/- Env: the law Isolated; no condition. -/
import Derived.Test.YtolifmpnhflegaaEwC
import Derived.Test.YtolifmpnhflegaaEwE
import Derived.Test.YtolifmpnhflegaaEvP
import Derived.Test.YtolifmpnhflegaaEvS
import Derived.Test.YtolifmpnhflegaaEvU
namespace Go.Proofs.Ytolifmpnhflegaa
open Go.RowKit
set_option linter.unusedVariables false
theorem wid_okx (H : List (ByteArray × List Fld)) (M : List Fld) (h f : Int) (q : widE H M h f ≠ 0) : 1 ≤ widE H M h f ∧ widE H M h f ≤ 32 := by
  unfold widE at q ⊢
  split
  · rename_i a
    rw [if_pos a] at q
    split
    · rename_i b; simpa [okW] using b
    · rename_i b; rw [if_neg b] at q; exact absurd rfl q
  · rename_i a; rw [if_neg a] at q; exact absurd rfl q
theorem xor_red2 (v wd : Int) (v0 : 0 ≤ v) (v1 : v < 4294967296) (h : 1 ≤ wd ∧ wd ≤ 32) : bits .and .u32 (bits .xor .u32 v (redB v wd)) (mkB wd) = 0 := by
  obtain ⟨n, rfl⟩ := Int.eq_ofNat_of_zero_le v0
  have hn : n < 4294967296 := by omega
  obtain ⟨k, hk⟩ : ∃ k, k = wd.toNat := ⟨_, rfl⟩
  have e1 : redB (n : Int) wd = ((n % 2 ^ k : Nat) : Int) := by
    rw [redB_in _ wd h, ← hk]
    simp
  have hm : n % 2 ^ k < 4294967296 := Nat.lt_of_le_of_lt (Nat.mod_le _ _) hn
  have e2 := u32_xor_nat n (n % 2 ^ k) hn hm
  have hx : n ^^^ (n % 2 ^ k) < 4294967296 := Nat.xor_lt_two_pow (n := 32) hn hm
  rw [e1, e2, and_mask _ wd (by omega) (by omega), redB_in _ wd h, ← hk]
  have e3 : (n ^^^ (n % 2 ^ k)) % 2 ^ k = 0 := by
    rw [Nat.xor_mod_two_pow, Nat.mod_mod, Nat.xor_self]
  have e4 : ((n ^^^ (n % 2 ^ k) : Nat) : Int) % 2 ^ k = (((n ^^^ (n % 2 ^ k)) % 2 ^ k : Nat) : Int) := by simp
  rw [e4, e3]
  rfl
theorem shf_eq (wd : Int) (h : 1 ≤ wd ∧ wd ≤ 32) : IntKind.u32.wrap (IntKind.u32.wrap ((2 : Int) ^ min wd.toNat 32) - 1) = mkB wd := by
  rw [wrap32_u, wrap32_u]
  rw [mkB_in wd h, Nat.min_eq_left (by omega)]
  have := pow_le32 wd h.2
  have := pow_ge2 wd h.1
  omega
theorem two_box (w : World) (t : TypeId) (c1 c2 : Array Value) (g : Nat) (hg : g = w.heap.size) : IsB ((w.alloc (.cells c1 t)).alloc (.cells c2 t)).drew g t c1 ∧ IsB ((w.alloc (.cells c1 t)).alloc (.cells c2 t)).drew (g + 1) t c2 ∧ w.grownBy ((w.alloc (.cells c1 t)).alloc (.cells c2 t)).drew none := by
  subst hg
  refine ⟨((IsB.new w t c1).alloc _).keep0 (gb_drew _ none), ?_, gb_trans (gb_al (gb_al (gb_refl _ _))) (gb_drew _ none)⟩
  have k := IsB.new (w.alloc (.cells c1 t)) t c2
  rw [sz_al] at k
  exact k.keep0 (gb_drew _ none)
set_option maxRecDepth 100000 in
set_option maxHeartbeats 4000000 in
theorem iso_walk (w : World) (nm v3 v4 v5 v6 v7 v8 : Value) (ha ma : Option Addr) (hn hc mn mc : Nat) (H : List (ByteArray × List Fld)) (M : List Fld) (hH : SH w ha hn hc H) (hM : SF w ma mn mc M) (X : EX) (L : EL) (he : ER w X L) (rh rf v hd qh qf v2 hd2 : Int) (v0 : 0 ≤ v) (v1 : v < 4294967296) : Calls Try.prog 6 #[.agg #[nm, .slice ha hn hc, .slice ma mn mc, v3, v4, v5, v6, v7, v8], .agg #[.slice X.va X.vn X.vc, .slice X.fa X.fn X.fc, .slice X.ta X.tn X.tc, .slice X.pa X.pn X.pc], .agg #[.int .i64 rh, .int .i64 rf, .int .u32 v, .int .i64 hd, .int .i64 qh, .int .i64 qf, .int .u32 v2, .int .i64 hd2]] w (RetV (.bool true) w) := by
  have GZ := Lib.hid (gb_trans (gb_trans (gb_alloc w (.cells #[nm, .slice ha hn hc, .slice ma mn mc, v3, v4, v5, v6, v7, v8] 31) none) (gb_alloc _ (.cells #[.slice X.va X.vn X.vc, .slice X.fa X.fn X.fc, .slice X.ta X.tn X.tc, .slice X.pa X.pn X.pc] 37) none)) (gb_alloc _ (.cells #[.int .i64 rh, .int .i64 rf, .int .u32 v, .int .i64 hd, .int .i64 qh, .int .i64 qf, .int .u32 v2, .int .i64 hd2] 60) none))
  have BP := ((IsB.new w 31 #[nm, .slice ha hn hc, .slice ma mn mc, v3, v4, v5, v6, v7, v8]).alloc (.cells #[.slice X.va X.vn X.vc, .slice X.fa X.fn X.fc, .slice X.ta X.tn X.tc, .slice X.pa X.pn X.pc] 37)).alloc (.cells #[.int .i64 rh, .int .i64 rf, .int .u32 v, .int .i64 hd, .int .i64 qh, .int .i64 qf, .int .u32 v2, .int .i64 hd2] 60)
  have BE := (IsB.new (w.alloc (.cells #[nm, .slice ha hn hc, .slice ma mn mc, v3, v4, v5, v6, v7, v8] 31)) 37 #[.slice X.va X.vn X.vc, .slice X.fa X.fn X.fc, .slice X.ta X.tn X.tc, .slice X.pa X.pn X.pc]).alloc (.cells #[.int .i64 rh, .int .i64 rf, .int .u32 v, .int .i64 hd, .int .i64 qh, .int .i64 qf, .int .u32 v2, .int .i64 hd2] 60)
  have BR := IsB.new ((w.alloc (.cells #[nm, .slice ha hn hc, .slice ma mn mc, v3, v4, v5, v6, v7, v8] 31)).alloc (.cells #[.slice X.va X.vn X.vc, .slice X.fa X.fn X.fc, .slice X.ta X.tn X.tc, .slice X.pa X.pn X.pc] 37)) 60 #[.int .i64 rh, .int .i64 rf, .int .u32 v, .int .i64 hd, .int .i64 qh, .int .i64 qf, .int .u32 v2, .int .i64 hd2]
  simp only [sz_al] at BE BR
  replace BP := Lib.hid BP
  replace BE := Lib.hid BE
  replace BR := Lib.hid BR
  have HD := Lib.hid (fun (W : World) (k : w.grownBy W none) => (⟨hH.keep0 k, hM.keep0 k⟩ : SH W ha hn hc H ∧ SF W ma mn mc M))
  have EA := Lib.hid (fun (W : World) (k : w.grownBy W none) => he.keep0 k)
  have HN := Lib.hid hH.len
  have V0 := Lib.hid v0
  have V1 := Lib.hid v1
  clear v0 v1
  clear hH hM he
  go_enter Try.func6, Try.ntmps6
  go_upto_region 1 with fail
  generalize ((w.alloc (.cells #[nm, .slice ha hn hc, .slice ma mn mc, v3, v4, v5, v6, v7, v8] 31)).alloc (.cells #[.slice X.va X.vn X.vc, .slice X.fa X.fn X.fc, .slice X.ta X.tn X.tc, .slice X.pa X.pn X.pc] 37)).alloc (.cells #[.int .i64 rh, .int .i64 rf, .int .u32 v, .int .i64 hd, .int .i64 qh, .int .i64 qf, .int .u32 v2, .int .i64 hd2] 60) = w1 at *
  obtain ⟨bx, hbx⟩ : ∃ b, b = w.heap.size := ⟨_, rfl⟩
  have Lbx := Lib.hid (show w.heap.size ≤ bx by rw [hbx]; exact Nat.le_refl _)
  rw [← hbx] at BP BE BR ⊢
  clear hbx
  clear Lbx
  have KT := Lib.hid (fun (w' : World) (q : w1.grownBy w' none) => (⟨(BP.out.keep0 q).cell 0, (BP.out.keep0 q).cell 1, (BP.out.keep0 q).cell 2, (BP.out.keep0 q).cell 3, (BP.out.keep0 q).cell 4, (BP.out.keep0 q).cell 5, (BP.out.keep0 q).cell 6, (BP.out.keep0 q).cell 7, (BP.out.keep0 q).cell 8, (BE.out.keep0 q).cell 0, (BE.out.keep0 q).cell 1, (BE.out.keep0 q).cell 2, (BE.out.keep0 q).cell 3, (BR.out.keep0 q).cell 0, (BR.out.keep0 q).cell 1, (BR.out.keep0 q).cell 2, (BR.out.keep0 q).cell 3, (BR.out.keep0 q).cell 4, (BR.out.keep0 q).cell 5, (BR.out.keep0 q).cell 6, (BR.out.keep0 q).cell 7, trivial⟩ : (fun w' : World => w'.cell? ⟨bx, 0, none⟩ = some (nm) ∧ w'.cell? ⟨bx, 1, none⟩ = some (.slice ha hn hc) ∧ w'.cell? ⟨bx, 2, none⟩ = some (.slice ma mn mc) ∧ w'.cell? ⟨bx, 3, none⟩ = some (v3) ∧ w'.cell? ⟨bx, 4, none⟩ = some (v4) ∧ w'.cell? ⟨bx, 5, none⟩ = some (v5) ∧ w'.cell? ⟨bx, 6, none⟩ = some (v6) ∧ w'.cell? ⟨bx, 7, none⟩ = some (v7) ∧ w'.cell? ⟨bx, 8, none⟩ = some (v8) ∧ w'.cell? ⟨bx + 1, 0, none⟩ = some (.slice X.va X.vn X.vc) ∧ w'.cell? ⟨bx + 1, 1, none⟩ = some (.slice X.fa X.fn X.fc) ∧ w'.cell? ⟨bx + 1, 2, none⟩ = some (.slice X.ta X.tn X.tc) ∧ w'.cell? ⟨bx + 1, 3, none⟩ = some (.slice X.pa X.pn X.pc) ∧ w'.cell? ⟨bx + 1 + 1, 0, none⟩ = some (.int .i64 rh) ∧ w'.cell? ⟨bx + 1 + 1, 1, none⟩ = some (.int .i64 rf) ∧ w'.cell? ⟨bx + 1 + 1, 2, none⟩ = some (.int .u32 v) ∧ w'.cell? ⟨bx + 1 + 1, 3, none⟩ = some (.int .i64 hd) ∧ w'.cell? ⟨bx + 1 + 1, 4, none⟩ = some (.int .i64 qh) ∧ w'.cell? ⟨bx + 1 + 1, 5, none⟩ = some (.int .i64 qf) ∧ w'.cell? ⟨bx + 1 + 1, 6, none⟩ = some (.int .u32 v2) ∧ w'.cell? ⟨bx + 1 + 1, 7, none⟩ = some (.int .i64 hd2) ∧ True) w'))
  replace EA := Lib.hid (fun (W : World) (k : w1.grownBy W none) => EA.out W (gb_trans GZ.out k))
  replace HD := Lib.hid (fun (W : World) (k : w1.grownBy W none) => HD.out W (gb_trans GZ.out k))
  have hS := KT.out w1 (gb_refl _ _)
  obtain ⟨c0, c1, c2, c3, c4, c5, c6, c7, c8, c9, c10, c11, c12, c13, c14, c15, c16, c17, c18, c19, c20, _⟩ := hS
  by_cases sP : sizeP H M
  · have LP := Lib.hid (large_any w1 nm v3 v4 v5 v6 v7 v8 ha ma hn hc mn mc H M (HD.out _ (gb_refl _ _)).1 (HD.out _ (gb_refl _ _)).2 false ⟨fun _ => sP, fun _ => rfl⟩)
    go_wp2_with fail
    refine LP.out.mono ?_
    rintro e w2 ⟨rfl, g⟩
    have G2 := Lib.hid g
    clear g LP c0 c1 c2 c3 c4 c5 c6 c7 c8 c9 c10 c11 c12 c13 c14 c15 c16 c17 c18 c19 c20
    have c0 := (BP.out.keep0 G2.out).cell 0
    have c1 := (BP.out.keep0 G2.out).cell 1
    have c2 := (BP.out.keep0 G2.out).cell 2
    have c3 := (BP.out.keep0 G2.out).cell 3
    have c4 := (BP.out.keep0 G2.out).cell 4
    have c5 := (BP.out.keep0 G2.out).cell 5
    have c6 := (BP.out.keep0 G2.out).cell 6
    have c7 := (BP.out.keep0 G2.out).cell 7
    have c8 := (BP.out.keep0 G2.out).cell 8
    have c9 := (BE.out.keep0 G2.out).cell 0
    have c10 := (BE.out.keep0 G2.out).cell 1
    have c11 := (BE.out.keep0 G2.out).cell 2
    have c12 := (BE.out.keep0 G2.out).cell 3
    have c13 := (BR.out.keep0 G2.out).cell 0
    have c14 := (BR.out.keep0 G2.out).cell 1
    have c15 := (BR.out.keep0 G2.out).cell 2
    have c16 := (BR.out.keep0 G2.out).cell 3
    have c17 := (BR.out.keep0 G2.out).cell 4
    have c18 := (BR.out.keep0 G2.out).cell 5
    have c19 := (BR.out.keep0 G2.out).cell 6
    have c20 := (BR.out.keep0 G2.out).cell 7
    by_cases sE : sizeE L
    · have LE := Lib.hid (long_any w2 X L (EA.out _ G2.out) false ⟨fun _ => sE, fun _ => rfl⟩)
      have SP := Lib.hid sP
      have SE := Lib.hid sE
      clear sP sE
      go_wp2_with fail
      refine LE.out.mono ?_
      rintro e w4 ⟨rfl, g⟩
      have G4 := Lib.hid (gb_trans G2.out g)
      replace GZ := Lib.hid (gb_trans GZ.out G4.out)
      replace KT := Lib.hid (fun (w' : World) (q : w4.grownBy w' none) => KT.out w' (gb_trans G4.out q))
      replace EA := Lib.hid (fun (W : World) (q : w4.grownBy W none) => EA.out W (gb_trans G4.out q))
      replace HD := Lib.hid (fun (W : World) (q : w4.grownBy W none) => HD.out W (gb_trans G4.out q))
      replace BP := Lib.hid (BP.out.keep0 G4.out)
      replace BE := Lib.hid (BE.out.keep0 G4.out)
      replace BR := Lib.hid (BR.out.keep0 G4.out)
      clear g G2 G4 LE c0 c1 c2 c3 c4 c5 c6 c7 c8 c9 c10 c11 c12 c13 c14 c15 c16 c17 c18 c19 c20
      have HB := Lib.hid (show hn ≤ 100000 by have := SP.out.1; have := HN.out; omega)
      have DB := Lib.hid (fun j => Nat.le_trans (dcl_bd SP.out j) (by decide : 16 ≤ 100000))
      obtain ⟨r, hr⟩ := chk_ex H M L
      have HR := Lib.hid hr
      have c0 := (BP.out.keep0 (gb_refl _ _)).cell 0
      have c1 := (BP.out.keep0 (gb_refl _ _)).cell 1
      have c2 := (BP.out.keep0 (gb_refl _ _)).cell 2
      have c3 := (BP.out.keep0 (gb_refl _ _)).cell 3
      have c4 := (BP.out.keep0 (gb_refl _ _)).cell 4
      have c5 := (BP.out.keep0 (gb_refl _ _)).cell 5
      have c6 := (BP.out.keep0 (gb_refl _ _)).cell 6
      have c7 := (BP.out.keep0 (gb_refl _ _)).cell 7
      have c8 := (BP.out.keep0 (gb_refl _ _)).cell 8
      have c9 := (BE.out.keep0 (gb_refl _ _)).cell 0
      have c10 := (BE.out.keep0 (gb_refl _ _)).cell 1
      have c11 := (BE.out.keep0 (gb_refl _ _)).cell 2
      have c12 := (BE.out.keep0 (gb_refl _ _)).cell 3
      have c13 := (BR.out.keep0 (gb_refl _ _)).cell 0
      have c14 := (BR.out.keep0 (gb_refl _ _)).cell 1
      have c15 := (BR.out.keep0 (gb_refl _ _)).cell 2
      have c16 := (BR.out.keep0 (gb_refl _ _)).cell 3
      have c17 := (BR.out.keep0 (gb_refl _ _)).cell 4
      have c18 := (BR.out.keep0 (gb_refl _ _)).cell 5
      have c19 := (BR.out.keep0 (gb_refl _ _)).cell 6
      have c20 := (BR.out.keep0 (gb_refl _ _)).cell 7
      go_wp2_with fail
      refine (rcheck_c w4 nm v3 v4 v5 v6 v7 v8 ha ma hn hc mn mc H M (HD.out _ (gb_refl _ _)).1 (HD.out _ (gb_refl _ _)).2 X.va X.fa X.ta X.pa X.vn X.vc X.fn X.fc X.tn X.tc X.pn X.pc L (EA.out _ (gb_refl _ _)).v (EA.out _ (gb_refl _ _)).f (EA.out _ (gb_refl _ _)).t HB.out (ez_of (EA.out _ (gb_refl _ _)) SE.out).f (ez_of (EA.out _ (gb_refl _ _)) SE.out).t (ez_of (EA.out _ (gb_refl _ _)) SE.out).r r HR.out).mono ?_
      rintro e w5 ⟨rfl, g⟩
      have G5 := Lib.hid g
      clear g c0 c1 c2 c3 c4 c5 c6 c7 c8 c9 c10 c11 c12 c13 c14 c15 c16 c17 c18 c19 c20
      rcases chk_no hr with ⟨r0, ok⟩ | ⟨r0, nok⟩
      · have OK := Lib.hid ok
        subst r0
        clear hr HR ok
        replace GZ := Lib.hid (gb_trans GZ.out G5.out)
        replace EA := Lib.hid (fun (W : World) (q : w5.grownBy W none) => EA.out W (gb_trans G5.out q))
        replace HD := Lib.hid (fun (W : World) (q : w5.grownBy W none) => HD.out W (gb_trans G5.out q))
        replace BP := Lib.hid (BP.out.keep0 G5.out)
        replace BE := Lib.hid (BE.out.keep0 G5.out)
        replace BR := Lib.hid (BR.out.keep0 G5.out)
        clear G5 KT
        have c13 := (BR.out.keep0 (gb_refl _ _)).cell 0
        have c14 := (BR.out.keep0 (gb_refl _ _)).cell 1
        have c15 := (BR.out.keep0 (gb_refl _ _)).cell 2
        have c16 := (BR.out.keep0 (gb_refl _ _)).cell 3
        have c17 := (BR.out.keep0 (gb_refl _ _)).cell 4
        have c18 := (BR.out.keep0 (gb_refl _ _)).cell 5
        have c19 := (BR.out.keep0 (gb_refl _ _)).cell 6
        have c20 := (BR.out.keep0 (gb_refl _ _)).cell 7
        go_upto_region 3 with fail
        go_cut [7, 8] from 25 to 30 (fun s7 s8 wx => ∃ b7 b8 : Nat, s7 = .pointer (some ⟨b7, 0, none⟩) ∧ s8 = .pointer (some ⟨b8, 0, none⟩) ∧ IsB wx b7 39 #[.int .i64 rh, .int .i64 rf] ∧ IsB wx b8 39 #[.int .i64 qh, .int .i64 qf] ∧ w5.grownBy wx none)
        case first =>
          have d0 := fun o => (BR.out.alloc o).cell 0
          have e0 := fun o o2 => ((BR.out.alloc o).alloc o2).cell 0
          have d1 := fun o => (BR.out.alloc o).cell 1
          have e1 := fun o o2 => ((BR.out.alloc o).alloc o2).cell 1
          have d4 := fun o => (BR.out.alloc o).cell 4
          have e4 := fun o o2 => ((BR.out.alloc o).alloc o2).cell 4
          have d5 := fun o => (BR.out.alloc o).cell 5
          have e5 := fun o o2 => ((BR.out.alloc o).alloc o2).cell 5
          dsimp at d0 d1 d4 d5 e0 e1 e4 e5
          go_region
          all_goals go_wp2_with fail
          all_goals go_meet
          all_goals first
            | exact ⟨_, _, rfl, rfl, (two_box _ _ _ _ _ rfl).1, (two_box _ _ _ _ _ rfl).2.1, (two_box w5 _ _ _ _ rfl).2.2⟩
            | exact ⟨_, _, rfl, rfl, (two_box _ _ _ _ _ rfl).2.1, (two_box _ _ _ _ _ rfl).1, (two_box w5 _ _ _ _ rfl).2.2⟩
        case rest =>
          obtain ⟨b7, b8, rfl, rfl, i7, i8, g⟩ := hcut
          have B7 := Lib.hid i7
          have B8 := Lib.hid i8
          replace GZ := Lib.hid (gb_trans GZ.out g)
          replace EA := Lib.hid (fun (W : World) (q : wc.grownBy W none) => EA.out W (gb_trans g q))
          replace HD := Lib.hid (fun (W : World) (q : wc.grownBy W none) => HD.out W (gb_trans g q))
          replace BP := Lib.hid (BP.out.keep0 g)
          replace BE := Lib.hid (BE.out.keep0 g)
          replace BR := Lib.hid (BR.out.keep0 g)
          clear i7 i8 g c13 c14 c15 c16 c17 c18 c19 c20
          have c0 := (BP.out.keep0 (gb_refl _ _)).cell 0
          have c1 := (BP.out.keep0 (gb_refl _ _)).cell 1
          have c2 := (BP.out.keep0 (gb_refl _ _)).cell 2
          have c3 := (BP.out.keep0 (gb_refl _ _)).cell 3
          have c4 := (BP.out.keep0 (gb_refl _ _)).cell 4
          have c5 := (BP.out.keep0 (gb_refl _ _)).cell 5
          have c6 := (BP.out.keep0 (gb_refl _ _)).cell 6
          have c7 := (BP.out.keep0 (gb_refl _ _)).cell 7
          have c8 := (BP.out.keep0 (gb_refl _ _)).cell 8
          have c9 := (BE.out.keep0 (gb_refl _ _)).cell 0
          have c10 := (BE.out.keep0 (gb_refl _ _)).cell 1
          have c11 := (BE.out.keep0 (gb_refl _ _)).cell 2
          have c12 := (BE.out.keep0 (gb_refl _ _)).cell 3
          have c13 := (BR.out.keep0 (gb_refl _ _)).cell 0
          have c14 := (BR.out.keep0 (gb_refl _ _)).cell 1
          have c15 := (BR.out.keep0 (gb_refl _ _)).cell 2
          have c16 := (BR.out.keep0 (gb_refl _ _)).cell 3
          have c17 := (BR.out.keep0 (gb_refl _ _)).cell 4
          have c18 := (BR.out.keep0 (gb_refl _ _)).cell 5
          have c19 := (BR.out.keep0 (gb_refl _ _)).cell 6
          have c20 := (BR.out.keep0 (gb_refl _ _)).cell 7
          have a0 := (B7.out.keep0 (gb_refl _ _)).cell 0
          have a1 := (B7.out.keep0 (gb_refl _ _)).cell 1
          dsimp at a0 a1
          go_wp2_with fail
          refine (eset_any wc nm v3 v4 v5 v6 v7 v8 ha ma hn hc mn mc H M (HD.out _ (gb_refl _ _)).1 (HD.out _ (gb_refl _ _)).2 X L (EA.out _ (gb_refl _ _)) (ez_of (EA.out _ (gb_refl _ _)) SE.out) rh rf v V0.out V1.out).mono ?_
          rintro e w6 ⟨XF, VF, rfl, o, g⟩
          have NF := Lib.hid o.er
          have K6 := Lib.hid g
          clear o g VF a0 a1
          clear c0 c1 c2 c3 c4 c5 c6 c7 c8 c9 c10 c11 c12 c13 c14 c15 c16 c17 c18 c19 c20
          have G7 := Lib.hid (gb_alloc w6 (.cells #[.slice XF.va XF.vn XF.vc, .slice XF.fa XF.fn XF.fc, .slice XF.ta XF.tn XF.tc, .slice XF.pa XF.pn XF.pc] 37) none)
          have BF := IsB.new w6 37 #[.slice XF.va XF.vn XF.vc, .slice XF.fa XF.fn XF.fc, .slice XF.ta XF.tn XF.tc, .slice XF.pa XF.pn XF.pc]
          replace BF := Lib.hid BF
          go_upto_region 5 with fail
          generalize w6.alloc (.cells #[.slice XF.va XF.vn XF.vc, .slice XF.fa XF.fn XF.fc, .slice XF.ta XF.tn XF.tc, .slice XF.pa XF.pn XF.pc] 37) = w7 at *
          obtain ⟨b9, hb9⟩ : ∃ b, b = w6.heap.size := ⟨_, rfl⟩
          have Lb9 := Lib.hid (show w6.heap.size ≤ b9 by rw [hb9]; exact Nat.le_refl _)
          rw [← hb9] at BF ⊢
          clear hb9
          replace NF := Lib.hid (NF.out.keep0 G7.out)
          replace K6 := Lib.hid (gb_trans K6.out G7.out)
          replace GZ := Lib.hid (gb_trans GZ.out K6.out)
          replace EA := Lib.hid (fun (W : World) (q : w7.grownBy W none) => EA.out W (gb_trans K6.out q))
          replace HD := Lib.hid (fun (W : World) (q : w7.grownBy W none) => HD.out W (gb_trans K6.out q))
          replace BP := Lib.hid (BP.out.keep0 K6.out)
          replace BE := Lib.hid (BE.out.keep0 K6.out)
          replace BR := Lib.hid (BR.out.keep0 K6.out)
          replace B7 := Lib.hid (B7.out.keep0 K6.out)
          replace B8 := Lib.hid (B8.out.keep0 K6.out)
          clear K6 G7 Lb9
          have KT := Lib.hid (fun (w' : World) (q : w7.grownBy w' none) => (⟨(B8.out.keep0 q).cell 0, (B8.out.keep0 q).cell 1, (B7.out.keep0 q).cell 0, (B7.out.keep0 q).cell 1, (BF.out.keep0 q).cell 0, (BF.out.keep0 q).cell 1, (BF.out.keep0 q).cell 2, (BF.out.keep0 q).cell 3, (BE.out.keep0 q).cell 0, (BE.out.keep0 q).cell 1, (BE.out.keep0 q).cell 2, (BE.out.keep0 q).cell 3, trivial⟩ : (fun w' : World => w'.cell? ⟨b8, 0, none⟩ = some (.int .i64 qh) ∧ w'.cell? ⟨b8, 1, none⟩ = some (.int .i64 qf) ∧ w'.cell? ⟨b7, 0, none⟩ = some (.int .i64 rh) ∧ w'.cell? ⟨b7, 1, none⟩ = some (.int .i64 rf) ∧ w'.cell? ⟨b9, 0, none⟩ = some (.slice XF.va XF.vn XF.vc) ∧ w'.cell? ⟨b9, 1, none⟩ = some (.slice XF.fa XF.fn XF.fc) ∧ w'.cell? ⟨b9, 2, none⟩ = some (.slice XF.ta XF.tn XF.tc) ∧ w'.cell? ⟨b9, 3, none⟩ = some (.slice XF.pa XF.pn XF.pc) ∧ w'.cell? ⟨bx + 1, 0, none⟩ = some (.slice X.va X.vn X.vc) ∧ w'.cell? ⟨bx + 1, 1, none⟩ = some (.slice X.fa X.fn X.fc) ∧ w'.cell? ⟨bx + 1, 2, none⟩ = some (.slice X.ta X.tn X.tc) ∧ w'.cell? ⟨bx + 1, 3, none⟩ = some (.slice X.pa X.pn X.pc) ∧ True) w'))
          go_cut [49] from 38 to 48 (fun s49 wx => s49 = .bool false ∧ w7.grownBy wx none)
          case first =>
            by_cases e1 : rh = qh
            · by_cases e2 : rf = qf
              · subst e1 e2
                have G0 := Lib.hid (gb_drew w7 none)
                refine wp_region_held_drew (S := (fun w' : World => w'.cell? ⟨b8, 0, none⟩ = some (.int .i64 rh) ∧ w'.cell? ⟨b8, 1, none⟩ = some (.int .i64 rf) ∧ w'.cell? ⟨b7, 0, none⟩ = some (.int .i64 rh) ∧ w'.cell? ⟨b7, 1, none⟩ = some (.int .i64 rf) ∧ w'.cell? ⟨b9, 0, none⟩ = some (.slice XF.va XF.vn XF.vc) ∧ w'.cell? ⟨b9, 1, none⟩ = some (.slice XF.fa XF.fn XF.fc) ∧ w'.cell? ⟨b9, 2, none⟩ = some (.slice XF.ta XF.tn XF.tc) ∧ w'.cell? ⟨b9, 3, none⟩ = some (.slice XF.pa XF.pn XF.pc) ∧ w'.cell? ⟨bx + 1, 0, none⟩ = some (.slice X.va X.vn X.vc) ∧ w'.cell? ⟨bx + 1, 1, none⟩ = some (.slice X.fa X.fn X.fc) ∧ w'.cell? ⟨bx + 1, 2, none⟩ = some (.slice X.ta X.tn X.tc) ∧ w'.cell? ⟨bx + 1, 3, none⟩ = some (.slice X.pa X.pn X.pc) ∧ True)) (by kernel_rfl) (KT.out _ G0.out) (fun hH0 => ?_)
                refine wpAnyH_take (i := 0) (v := ?v1) rfl (by kernel_rfl) (by kernel_rfl) (by kernel_rfl) (fun _ _ _ h => h) (Or.inl ⟨by rfl, ?hy1⟩) (by assumption) ?rest1
                case hy1 => (intro wz hSw; (try dsimp only at hSw); first | (go_simp; done) | (go_simp; with_reducible rfl))
                try simp only [Act.put, List.getElem_toArray, List.getElem_cons_zero, List.setIfInBounds_toArray, List.set_cons_zero, List.set_cons_succ]
                refine wpAnyH_take (i := 1) (v := ?v2) rfl (by kernel_rfl) (by kernel_rfl) (by kernel_rfl) (fun _ _ _ h => h) (Or.inl ⟨by rfl, ?hy2⟩) (by assumption) ?rest2
                case hy2 => (intro wz hSw; (try dsimp only at hSw); first | (go_simp; done) | (go_simp; with_reducible rfl))
                try simp only [Act.put, List.getElem_toArray, List.getElem_cons_succ, List.getElem_cons_zero, List.setIfInBounds_toArray, List.set_cons_zero, List.set_cons_succ]
                refine wpAnyH_take (i := 2) (v := ?v3) rfl (by kernel_rfl) (by kernel_rfl) (by kernel_rfl) (fun _ _ _ h => h) (Or.inl ⟨by rfl, ?hy3⟩) (by assumption) ?rest3
                case hy3 => (intro wz hSw; (try dsimp only at hSw); first | (go_simp; done) | (go_simp; with_reducible rfl))
                try simp only [Act.put, List.getElem_toArray, List.getElem_cons_succ, List.getElem_cons_zero, List.setIfInBounds_toArray, List.set_cons_zero, List.set_cons_succ]
                refine wpAnyH_take (i := 3) (v := ?v4) rfl (by kernel_rfl) (by kernel_rfl) (by kernel_rfl) (fun _ _ _ h => h) (Or.inl ⟨by rfl, ?hy4⟩) (by assumption) ?rest4
                case hy4 => (intro wz hSw; (try dsimp only at hSw); first | (go_simp; done) | (go_simp; with_reducible rfl))
                try simp only [Act.put, List.getElem_toArray, List.getElem_cons_succ, List.getElem_cons_zero, List.setIfInBounds_toArray, List.set_cons_zero, List.set_cons_succ]
                refine wpAnyH_take (i := 4) (v := undef) rfl (by kernel_rfl) (by kernel_rfl) (by kernel_rfl) (fun _ _ _ h => h) (Or.inr ⟨by rfl, rfl⟩) (by assumption) ?_
                try simp only [Act.put, List.getElem_toArray, List.getElem_cons_succ, List.getElem_cons_zero, List.setIfInBounds_toArray, List.set_cons_zero, List.set_cons_succ]
                refine wpAnyH_take (i := 5) (v := undef) rfl (by kernel_rfl) (by kernel_rfl) (by kernel_rfl) (fun _ _ _ h => h) (Or.inr ⟨by rfl, rfl⟩) (by assumption) ?_
                try simp only [Act.put, List.getElem_toArray, List.getElem_cons_succ, List.getElem_cons_zero, List.setIfInBounds_toArray, List.set_cons_zero, List.set_cons_succ]
                refine wpAnyH_take (i := 6) (v := undef) rfl (by kernel_rfl) (by kernel_rfl) (by kernel_rfl) (fun _ _ _ h => h) (Or.inr ⟨by rfl, rfl⟩) (by assumption) ?_
                try simp only [Act.put, List.getElem_toArray, List.getElem_cons_succ, List.getElem_cons_zero, List.setIfInBounds_toArray, List.set_cons_zero, List.set_cons_succ]
                refine wpAnyH_take (i := 7) (v := undef) rfl (by kernel_rfl) (by kernel_rfl) (by kernel_rfl) (fun _ _ _ h => h) (Or.inr ⟨by rfl, rfl⟩) (by assumption) ?_
                try simp only [Act.put, List.getElem_toArray, List.getElem_cons_succ, List.getElem_cons_zero, List.setIfInBounds_toArray, List.set_cons_zero, List.set_cons_succ]
                refine wpAnyH_take (i := 8) (v := undef) rfl (by kernel_rfl) (by kernel_rfl) (by kernel_rfl) (fun _ _ _ h => h) (Or.inr ⟨by rfl, rfl⟩) (by assumption) ?_
                try simp only [Act.put, List.getElem_toArray, List.getElem_cons_succ, List.getElem_cons_zero, List.setIfInBounds_toArray, List.set_cons_zero, List.set_cons_succ]
                refine wpAnyH_take (i := 9) (v := undef) rfl (by kernel_rfl) (by kernel_rfl) (by kernel_rfl) (fun _ _ _ h => h) (Or.inr ⟨by rfl, rfl⟩) (by assumption) ?_
                try simp only [Act.put, List.getElem_toArray, List.getElem_cons_succ, List.getElem_cons_zero, List.setIfInBounds_toArray, List.set_cons_zero, List.set_cons_succ]
                refine wpAnyH_take (i := 10) (v := undef) rfl (by kernel_rfl) (by kernel_rfl) (by kernel_rfl) (fun _ _ _ h => h) (Or.inr ⟨by rfl, rfl⟩) (by assumption) ?_
                try simp only [Act.put, List.getElem_toArray, List.getElem_cons_succ, List.getElem_cons_zero, List.setIfInBounds_toArray, List.set_cons_zero, List.set_cons_succ]
                refine wpAnyH_take (i := 11) (v := ?v12) rfl (by kernel_rfl) (by kernel_rfl) (by kernel_rfl) (fun _ _ _ h => h) (Or.inl ⟨by rfl, ?hy12⟩) (by assumption) ?rest12
                case hy12 => (intro wz hSw; (try dsimp only at hSw); first | (go_simp; done) | (go_simp; with_reducible rfl))
                try simp only [Act.put, List.getElem_toArray, List.getElem_cons_succ, List.getElem_cons_zero, List.setIfInBounds_toArray, List.set_cons_zero, List.set_cons_succ]
                refine wpAnyH_done (by kernel_rfl) ?_ _
                clear hH0
                go_wp2_with fail
                go_meet
                exact ⟨rfl, G0.out⟩
              · subst e1
                have ne : ¬ (rh = rh ∧ qf = rf) := fun q => e2 q.2.symm
                have e3 : ¬ (qf = rf) := fun q => e2 q.symm
                have GF := Lib.hid (get_far H M L rh rf v rh qf ne)
                obtain ⟨x, hx⟩ : ∃ x, x = getE L.V L.F L.T rh qf := ⟨_, rfl⟩
                have XQ := Lib.hid hx
                clear hx
                have G0 := Lib.hid (gb_drew w7 none)
                refine wp_region_held_drew (S := (fun w' : World => w'.cell? ⟨b8, 0, none⟩ = some (.int .i64 rh) ∧ w'.cell? ⟨b8, 1, none⟩ = some (.int .i64 qf) ∧ w'.cell? ⟨b7, 0, none⟩ = some (.int .i64 rh) ∧ w'.cell? ⟨b7, 1, none⟩ = some (.int .i64 rf) ∧ w'.cell? ⟨b9, 0, none⟩ = some (.slice XF.va XF.vn XF.vc) ∧ w'.cell? ⟨b9, 1, none⟩ = some (.slice XF.fa XF.fn XF.fc) ∧ w'.cell? ⟨b9, 2, none⟩ = some (.slice XF.ta XF.tn XF.tc) ∧ w'.cell? ⟨b9, 3, none⟩ = some (.slice XF.pa XF.pn XF.pc) ∧ w'.cell? ⟨bx + 1, 0, none⟩ = some (.slice X.va X.vn X.vc) ∧ w'.cell? ⟨bx + 1, 1, none⟩ = some (.slice X.fa X.fn X.fc) ∧ w'.cell? ⟨bx + 1, 2, none⟩ = some (.slice X.ta X.tn X.tc) ∧ w'.cell? ⟨bx + 1, 3, none⟩ = some (.slice X.pa X.pn X.pc) ∧ True)) (by kernel_rfl) (KT.out _ G0.out) (fun hH0 => ?_)
                refine wpAnyH_take (i := 0) (v := ?v13) rfl (by kernel_rfl) (by kernel_rfl) (by kernel_rfl) (fun _ _ _ h => h) (Or.inl ⟨by rfl, ?hy13⟩) (by assumption) ?rest13
                case hy13 => (intro wz hSw; (try dsimp only at hSw); first | (go_simp; done) | (go_simp; with_reducible rfl))
                try simp only [Act.put, List.getElem_toArray, List.getElem_cons_zero, List.setIfInBounds_toArray, List.set_cons_zero, List.set_cons_succ]
                refine wpAnyH_take (i := 1) (v := ?v14) rfl (by kernel_rfl) (by kernel_rfl) (by kernel_rfl) (fun _ _ _ h => h) (Or.inl ⟨by rfl, ?hy14⟩) (by assumption) ?rest14
                case hy14 => (intro wz hSw; (try dsimp only at hSw); first | (go_simp; done) | (go_simp; with_reducible rfl))
                try simp only [Act.put, List.getElem_toArray, List.getElem_cons_succ, List.getElem_cons_zero, List.setIfInBounds_toArray, List.set_cons_zero, List.set_cons_succ]
                refine wpAnyH_take (i := 2) (v := ?v15) rfl (by kernel_rfl) (by kernel_rfl) (by kernel_rfl) (fun _ _ _ h => h) (Or.inl ⟨by rfl, ?hy15⟩) (by assumption) ?rest15
                case hy15 => (intro wz hSw; (try dsimp only at hSw); first | (go_simp; done) | (go_simp; with_reducible rfl))
                try simp only [Act.put, List.getElem_toArray, List.getElem_cons_succ, List.getElem_cons_zero, List.setIfInBounds_toArray, List.set_cons_zero, List.set_cons_succ]
                refine wpAnyH_take (i := 3) (v := ?v16) rfl (by kernel_rfl) (by kernel_rfl) (by kernel_rfl) (fun _ _ _ h => h) (Or.inl ⟨by rfl, ?hy16⟩) (by assumption) ?rest16
                case hy16 => (intro wz hSw; (try dsimp only at hSw); first | (go_simp; done) | (go_simp; with_reducible rfl))
                try simp only [Act.put, List.getElem_toArray, List.getElem_cons_succ, List.getElem_cons_zero, List.setIfInBounds_toArray, List.set_cons_zero, List.set_cons_succ]
                refine wpAnyH_take (i := 4) (v := ?v17) rfl (by kernel_rfl) (by kernel_rfl) (by kernel_rfl) (fun _ _ _ h => h) (Or.inl ⟨by rfl, ?hy17⟩) (by assumption) ?rest17
                case hy17 => (intro wz hSw; (try dsimp only at hSw); first | (go_simp; done) | (go_simp; with_reducible rfl))
                try simp only [Act.put, List.getElem_toArray, List.getElem_cons_succ, List.getElem_cons_zero, List.setIfInBounds_toArray, List.set_cons_zero, List.set_cons_succ]
                refine wpAnyH_take (i := 5) (v := ?v18) rfl (by kernel_rfl) (by kernel_rfl) (by kernel_rfl) (fun _ _ _ h => h) (Or.inl ⟨by rfl, ?hy18⟩) (by assumption) ?rest18
                case hy18 => (intro wz hSw; (try dsimp only at hSw); first | (go_simp; done) | (go_simp; with_reducible rfl))
                try simp only [Act.put, List.getElem_toArray, List.getElem_cons_succ, List.getElem_cons_zero, List.setIfInBounds_toArray, List.set_cons_zero, List.set_cons_succ]
                refine wpAnyH_take (i := 7) (v := ?v19) rfl (by kernel_rfl) (by kernel_rfl) (by kernel_rfl) (fun _ _ _ h => h) (Or.inl ⟨by rfl, ?hy19⟩) (by assumption) ?rest19
                case hy19 => (intro wz hSw; (try dsimp only at hSw); first | (go_simp; done) | (go_simp; with_reducible rfl))
                try simp only [Act.put, List.getElem_toArray, List.getElem_cons_succ, List.getElem_cons_zero, List.setIfInBounds_toArray, List.set_cons_zero, List.set_cons_succ]
                refine wpAnyH_take (i := 8) (v := ?v20) rfl (by kernel_rfl) (by kernel_rfl) (by kernel_rfl) (fun _ _ _ h => h) (Or.inl ⟨by rfl, ?hy20⟩) (by assumption) ?rest20
                case hy20 => (intro wz hSw; (try dsimp only at hSw); first | (go_simp; done) | (go_simp; with_reducible rfl))
                try simp only [Act.put, List.getElem_toArray, List.getElem_cons_succ, List.getElem_cons_zero, List.setIfInBounds_toArray, List.set_cons_zero, List.set_cons_succ]
                refine wpAnyH_ready (rs := [6]) (by kernel_rfl) (by simp) ?_
                refine AllReadyH.cons (o := _) rfl (fun K hK => ?_) AllReadyH.nil
                go_simp
                refine (eget_any _ (.slice XF.pa XF.pn XF.pc) XF.va XF.fa XF.ta XF.vn XF.vc XF.fn XF.fc XF.tn XF.tc (setE H M L rh rf v).V (setE H M L rh rf v).F (setE H M L rh rf v).T (NF.out.keep0 G0.out).v (NF.out.keep0 G0.out).f (NF.out.keep0 G0.out).t rh qf).mono ?_
                rintro e wh1 ⟨rfl, g⟩
                rw [GF.out]
                rw [← XQ.out]
                have G1 := Lib.hid (gb_trans G0.out g)
                clear g
                try dsimp only
                refine hK.out _ _ (KT.out _ G1.out) (fun hH1 => ?_)
                clear hK K hH0
                try simp only [Act.put, List.getElem_toArray, List.getElem_cons_succ, List.getElem_cons_zero, List.setIfInBounds_toArray, List.set_cons_zero, List.set_cons_succ]
                refine wpAnyH_ready (rs := [9]) (by kernel_rfl) (by simp) ?_
                refine AllReadyH.cons (o := _) rfl (fun K hK => ?_) AllReadyH.nil
                go_simp
                refine (eget_any _ (.slice X.pa X.pn X.pc) X.va X.fa X.ta X.vn X.vc X.fn X.fc X.tn X.tc L.V L.F L.T (EA.out _ G1.out).v (EA.out _ G1.out).f (EA.out _ G1.out).t rh qf).mono ?_
                rintro e wh2 ⟨rfl, g⟩
                rw [← XQ.out]
                have G2 := Lib.hid (gb_trans G1.out g)
                clear g
                try dsimp only
                refine hK.out _ _ (KT.out _ G2.out) (fun hH2 => ?_)
                clear hK K hH1
                try simp only [Act.put, List.getElem_toArray, List.getElem_cons_succ, List.getElem_cons_zero, List.setIfInBounds_toArray, List.set_cons_zero, List.set_cons_succ]
                refine wpAnyH_take (i := 10) (v := ?v21) rfl (by kernel_rfl) (by kernel_rfl) (by kernel_rfl) (fun _ _ _ h => h) (Or.inl ⟨by rfl, ?hy21⟩) (by assumption) ?rest21
                case hy21 => (intro wz hSw; (try dsimp only at hSw); first | (go_simp; done) | (go_simp; with_reducible rfl))
                try simp only [Act.put, List.getElem_toArray, List.getElem_cons_succ, List.getElem_cons_zero, List.setIfInBounds_toArray, List.set_cons_zero, List.set_cons_succ]
                refine wpAnyH_take (i := 11) (v := ?v22) rfl (by kernel_rfl) (by kernel_rfl) (by kernel_rfl) (fun _ _ _ h => h) (Or.inl ⟨by rfl, ?hy22⟩) (by assumption) ?rest22
                case hy22 => (intro wz hSw; (try dsimp only at hSw); first | (go_simp; done) | (go_simp; with_reducible rfl))
                try simp only [Act.put, List.getElem_toArray, List.getElem_cons_succ, List.getElem_cons_zero, List.setIfInBounds_toArray, List.set_cons_zero, List.set_cons_succ]
                refine wpAnyH_done (by kernel_rfl) ?_ _
                clear hH2
                go_wp2_with fail
                go_meet
                exact ⟨rfl, G2.out⟩
            · have ne : ¬ (qh = rh ∧ qf = rf) := fun q => e1 q.1.symm
              have e3 : ¬ (qh = rh) := fun q => e1 q.symm

              have GF := Lib.hid (get_far H M L rh rf v qh qf ne)
              obtain ⟨x, hx⟩ : ∃ x, x = getE L.V L.F L.T qh qf := ⟨_, rfl⟩
              have XQ := Lib.hid hx
              clear hx
              have G0 := Lib.hid (gb_drew w7 none)
              refine wp_region_held_drew (S := (fun w' : World => w'.cell? ⟨b8, 0, none⟩ = some (.int .i64 qh) ∧ w'.cell? ⟨b8, 1, none⟩ = some (.int .i64 qf) ∧ w'.cell? ⟨b7, 0, none⟩ = some (.int .i64 rh) ∧ w'.cell? ⟨b7, 1, none⟩ = some (.int .i64 rf) ∧ w'.cell? ⟨b9, 0, none⟩ = some (.slice XF.va XF.vn XF.vc) ∧ w'.cell? ⟨b9, 1, none⟩ = some (.slice XF.fa XF.fn XF.fc) ∧ w'.cell? ⟨b9, 2, none⟩ = some (.slice XF.ta XF.tn XF.tc) ∧ w'.cell? ⟨b9, 3, none⟩ = some (.slice XF.pa XF.pn XF.pc) ∧ w'.cell? ⟨bx + 1, 0, none⟩ = some (.slice X.va X.vn X.vc) ∧ w'.cell? ⟨bx + 1, 1, none⟩ = some (.slice X.fa X.fn X.fc) ∧ w'.cell? ⟨bx + 1, 2, none⟩ = some (.slice X.ta X.tn X.tc) ∧ w'.cell? ⟨bx + 1, 3, none⟩ = some (.slice X.pa X.pn X.pc) ∧ True)) (by kernel_rfl) (KT.out _ G0.out) (fun hH0 => ?_)
              refine wpAnyH_take (i := 0) (v := ?v23) rfl (by kernel_rfl) (by kernel_rfl) (by kernel_rfl) (fun _ _ _ h => h) (Or.inl ⟨by rfl, ?hy23⟩) (by assumption) ?rest23
              case hy23 => (intro wz hSw; (try dsimp only at hSw); first | (go_simp; done) | (go_simp; with_reducible rfl))
              try simp only [Act.put, List.getElem_toArray, List.getElem_cons_zero, List.setIfInBounds_toArray, List.set_cons_zero, List.set_cons_succ]
              refine wpAnyH_take (i := 1) (v := ?v24) rfl (by kernel_rfl) (by kernel_rfl) (by kernel_rfl) (fun _ _ _ h => h) (Or.inl ⟨by rfl, ?hy24⟩) (by assumption) ?rest24
              case hy24 => (intro wz hSw; (try dsimp only at hSw); first | (go_simp; done) | (go_simp; with_reducible rfl))
              try simp only [Act.put, List.getElem_toArray, List.getElem_cons_succ, List.getElem_cons_zero, List.setIfInBounds_toArray, List.set_cons_zero, List.set_cons_succ]
              refine wpAnyH_take (i := 2) (v := ?v25) rfl (by kernel_rfl) (by kernel_rfl) (by kernel_rfl) (fun _ _ _ h => h) (Or.inl ⟨by rfl, ?hy25⟩) (by assumption) ?rest25
              case hy25 => (intro wz hSw; (try dsimp only at hSw); first | (go_simp; done) | (go_simp; with_reducible rfl))
              try simp only [Act.put, List.getElem_toArray, List.getElem_cons_succ, List.getElem_cons_zero, List.setIfInBounds_toArray, List.set_cons_zero, List.set_cons_succ]
              refine wpAnyH_take (i := 3) (v := ?v26) rfl (by kernel_rfl) (by kernel_rfl) (by kernel_rfl) (fun _ _ _ h => h) (Or.inl ⟨by rfl, ?hy26⟩) (by assumption) ?rest26
              case hy26 => (intro wz hSw; (try dsimp only at hSw); first | (go_simp; done) | (go_simp; with_reducible rfl))
              try simp only [Act.put, List.getElem_toArray, List.getElem_cons_succ, List.getElem_cons_zero, List.setIfInBounds_toArray, List.set_cons_zero, List.set_cons_succ]
              refine wpAnyH_take (i := 4) (v := ?v27) rfl (by kernel_rfl) (by kernel_rfl) (by kernel_rfl) (fun _ _ _ h => h) (Or.inl ⟨by rfl, ?hy27⟩) (by assumption) ?rest27
              case hy27 => (intro wz hSw; (try dsimp only at hSw); first | (go_simp; done) | (go_simp; with_reducible rfl))
              try simp only [Act.put, List.getElem_toArray, List.getElem_cons_succ, List.getElem_cons_zero, List.setIfInBounds_toArray, List.set_cons_zero, List.set_cons_succ]
              refine wpAnyH_take (i := 5) (v := ?v28) rfl (by kernel_rfl) (by kernel_rfl) (by kernel_rfl) (fun _ _ _ h => h) (Or.inl ⟨by rfl, ?hy28⟩) (by assumption) ?rest28
              case hy28 => (intro wz hSw; (try dsimp only at hSw); first | (go_simp; done) | (go_simp; with_reducible rfl))
              try simp only [Act.put, List.getElem_toArray, List.getElem_cons_succ, List.getElem_cons_zero, List.setIfInBounds_toArray, List.set_cons_zero, List.set_cons_succ]
              refine wpAnyH_take (i := 7) (v := ?v29) rfl (by kernel_rfl) (by kernel_rfl) (by kernel_rfl) (fun _ _ _ h => h) (Or.inl ⟨by rfl, ?hy29⟩) (by assumption) ?rest29
              case hy29 => (intro wz hSw; (try dsimp only at hSw); first | (go_simp; done) | (go_simp; with_reducible rfl))
              try simp only [Act.put, List.getElem_toArray, List.getElem_cons_succ, List.getElem_cons_zero, List.setIfInBounds_toArray, List.set_cons_zero, List.set_cons_succ]
              refine wpAnyH_take (i := 8) (v := ?v30) rfl (by kernel_rfl) (by kernel_rfl) (by kernel_rfl) (fun _ _ _ h => h) (Or.inl ⟨by rfl, ?hy30⟩) (by assumption) ?rest30
              case hy30 => (intro wz hSw; (try dsimp only at hSw); first | (go_simp; done) | (go_simp; with_reducible rfl))
              try simp only [Act.put, List.getElem_toArray, List.getElem_cons_succ, List.getElem_cons_zero, List.setIfInBounds_toArray, List.set_cons_zero, List.set_cons_succ]
              refine wpAnyH_ready (rs := [6]) (by kernel_rfl) (by simp) ?_
              refine AllReadyH.cons (o := _) rfl (fun K hK => ?_) AllReadyH.nil
              go_simp
              refine (eget_any _ (.slice XF.pa XF.pn XF.pc) XF.va XF.fa XF.ta XF.vn XF.vc XF.fn XF.fc XF.tn XF.tc (setE H M L rh rf v).V (setE H M L rh rf v).F (setE H M L rh rf v).T (NF.out.keep0 G0.out).v (NF.out.keep0 G0.out).f (NF.out.keep0 G0.out).t qh qf).mono ?_
              rintro e wh1 ⟨rfl, g⟩
              rw [GF.out]
              rw [← XQ.out]
              have G1 := Lib.hid (gb_trans G0.out g)
              clear g
              try dsimp only
              refine hK.out _ _ (KT.out _ G1.out) (fun hH1 => ?_)
              clear hK K hH0
              try simp only [Act.put, List.getElem_toArray, List.getElem_cons_succ, List.getElem_cons_zero, List.setIfInBounds_toArray, List.set_cons_zero, List.set_cons_succ]
              refine wpAnyH_ready (rs := [9]) (by kernel_rfl) (by simp) ?_
              refine AllReadyH.cons (o := _) rfl (fun K hK => ?_) AllReadyH.nil
              go_simp
              refine (eget_any _ (.slice X.pa X.pn X.pc) X.va X.fa X.ta X.vn X.vc X.fn X.fc X.tn X.tc L.V L.F L.T (EA.out _ G1.out).v (EA.out _ G1.out).f (EA.out _ G1.out).t qh qf).mono ?_
              rintro e wh2 ⟨rfl, g⟩
              rw [← XQ.out]
              have G2 := Lib.hid (gb_trans G1.out g)
              clear g
              try dsimp only
              refine hK.out _ _ (KT.out _ G2.out) (fun hH2 => ?_)
              clear hK K hH1
              try simp only [Act.put, List.getElem_toArray, List.getElem_cons_succ, List.getElem_cons_zero, List.setIfInBounds_toArray, List.set_cons_zero, List.set_cons_succ]
              refine wpAnyH_take (i := 10) (v := ?v31) rfl (by kernel_rfl) (by kernel_rfl) (by kernel_rfl) (fun _ _ _ h => h) (Or.inl ⟨by rfl, ?hy31⟩) (by assumption) ?rest31
              case hy31 => (intro wz hSw; (try dsimp only at hSw); first | (go_simp; done) | (go_simp; with_reducible rfl))
              try simp only [Act.put, List.getElem_toArray, List.getElem_cons_succ, List.getElem_cons_zero, List.setIfInBounds_toArray, List.set_cons_zero, List.set_cons_succ]
              refine wpAnyH_take (i := 11) (v := ?v32) rfl (by kernel_rfl) (by kernel_rfl) (by kernel_rfl) (fun _ _ _ h => h) (Or.inl ⟨by rfl, ?hy32⟩) (by assumption) ?rest32
              case hy32 => (intro wz hSw; (try dsimp only at hSw); first | (go_simp; done) | (go_simp; with_reducible rfl))
              try simp only [Act.put, List.getElem_toArray, List.getElem_cons_succ, List.getElem_cons_zero, List.setIfInBounds_toArray, List.set_cons_zero, List.set_cons_succ]
              refine wpAnyH_done (by kernel_rfl) ?_ _
              clear hH2
              go_wp2_with fail
              go_meet
              exact ⟨rfl, G2.out⟩
          case rest =>
            obtain ⟨rfl, g⟩ := hcut
            replace GZ := Lib.hid (gb_trans GZ.out g)
            replace NF := Lib.hid (NF.out.keep0 g)
            replace EA := Lib.hid (fun (W : World) (q : wc.grownBy W none) => EA.out W (gb_trans g q))
            replace HD := Lib.hid (fun (W : World) (q : wc.grownBy W none) => HD.out W (gb_trans g q))
            replace KT := Lib.hid (fun (W : World) (q : wc.grownBy W none) => KT.out W (gb_trans g q))
            replace BP := Lib.hid (BP.out.keep0 g)
            replace BE := Lib.hid (BE.out.keep0 g)
            replace BR := Lib.hid (BR.out.keep0 g)
            replace B7 := Lib.hid (B7.out.keep0 g)
            replace BF := Lib.hid (BF.out.keep0 g)
            obtain ⟨x, hx⟩ : ∃ x, x = widE H M rh rf := ⟨_, rfl⟩
            have XW := Lib.hid hx
            clear g hx B8
            have c0 := (BP.out.keep0 (gb_refl _ _)).cell 0
            have c1 := (BP.out.keep0 (gb_refl _ _)).cell 1
            have c2 := (BP.out.keep0 (gb_refl _ _)).cell 2
            have c3 := (BP.out.keep0 (gb_refl _ _)).cell 3
            have c4 := (BP.out.keep0 (gb_refl _ _)).cell 4
            have c5 := (BP.out.keep0 (gb_refl _ _)).cell 5
            have c6 := (BP.out.keep0 (gb_refl _ _)).cell 6
            have c7 := (BP.out.keep0 (gb_refl _ _)).cell 7
            have c8 := (BP.out.keep0 (gb_refl _ _)).cell 8
            have a0 := (B7.out.keep0 (gb_refl _ _)).cell 0
            have a1 := (B7.out.keep0 (gb_refl _ _)).cell 1
            dsimp at a0 a1
            go_wp2_with fail
            refine (rwid12_any wc nm v3 v4 v5 v6 v7 v8 ha ma hn hc mn mc H M (HD.out _ (gb_refl _ _)).1 (HD.out _ (gb_refl _ _)).2 rh rf).mono ?_
            rw [← XW.out]
            rintro e wd ⟨rfl, g⟩
            have GD := Lib.hid g
            clear g a0 a1
            clear c0 c1 c2 c3 c4 c5 c6 c7 c8
            have a0 := (B7.out.keep0 GD.out).cell 0
            have a1 := (B7.out.keep0 GD.out).cell 1
            dsimp at a0 a1
            go_upto_region 8 with fail
            go_cut [66] from 53 to 65 (fun s66 wx => ((s66 = .bool true ∧ setE H M L rh rf v = L) ∨ (s66 = .bool false ∧ x ≠ 0 ∧ openB L.V rh = true)) ∧ wd.grownBy wx none)
            case first =>
              by_cases hx0 : x = 0
              · have SL := Lib.hid (show setE H M L rh rf v = L by unfold setE; rw [if_pos (.inl (by rw [← XW.out]; exact hx0))])
                subst hx0
                go_wp2_with fail
                go_meet
                exact ⟨.inl ⟨rfl, SL.out⟩, gb_refl _ _⟩
              · by_cases hr : rh = -1
                · have HO := Lib.hid (show openB L.V rh = true by unfold openB; rw [hr]; rfl)
                  have HX := Lib.hid hx0
                  have xb : (x == 0) = false := by simp [hx0]
                  subst hr
                  go_wp2_with fail
                  go_meet
                  exact ⟨.inr ⟨rfl, HX.out, HO.out⟩, gb_refl _ _⟩
                · have e0 := (BE.out.keep0 GD.out).cell 0
                  have e1 := (BE.out.keep0 GD.out).cell 1
                  have e2 := (BE.out.keep0 GD.out).cell 2
                  have e3 := (BE.out.keep0 GD.out).cell 3
                  dsimp at e0 e1 e2 e3
                  have hr1 : (rh != -1) = true := by simp [hr]
                  have HX := Lib.hid hx0
                  have xb : (x == 0) = false := by simp [hx0]
                  go_wp2_with fail
                  refine (rhas_any wd X.va X.fa X.ta X.pa X.vn X.vc X.fn X.fc X.tn X.tc X.pn X.pc L (EA.out _ GD.out).v rh).mono ?_
                  obtain ⟨b, hb⟩ : ∃ b, b = validB L.V rh := ⟨_, rfl⟩
                  have HB2 := Lib.hid hb
                  rw [← hb]
                  rintro e wf ⟨rfl, g⟩
                  have GF := Lib.hid g
                  clear g e0 e1 e2 e3 a0 a1 hb
                  cases b
                  · have SL := Lib.hid (show setE H M L rh rf v = L by unfold setE; rw [if_pos (.inr (by unfold openB; rw [← HB2.out]; simp [hr]))])
                    go_wp2_with fail
                    go_meet
                    exact ⟨.inl ⟨rfl, SL.out⟩, GF.out⟩
                  · have HO := Lib.hid (show openB L.V rh = true by unfold openB; rw [← HB2.out]; simp)
                    go_wp2_with fail
                    go_meet
                    exact ⟨.inr ⟨rfl, HX.out, HO.out⟩, GF.out⟩
            case rest =>
              clear a0 a1
              obtain ⟨hc, g⟩ := hcut
              replace GD := Lib.hid (gb_trans GD.out g)
              clear g
              rcases hc with ⟨rfl, sl⟩ | ⟨rfl, hx0, ho⟩
              · have SL := Lib.hid sl
                clear sl
                go_upto_region 9 with fail
                replace GZ := Lib.hid (gb_trans GZ.out GD.out)
                replace NF := Lib.hid (NF.out.keep0 GD.out)
                replace BP := Lib.hid (BP.out.keep0 GD.out)
                replace BE := Lib.hid (BE.out.keep0 GD.out)
                replace BR := Lib.hid (BR.out.keep0 GD.out)
                replace B7 := Lib.hid (B7.out.keep0 GD.out)
                replace BF := Lib.hid (BF.out.keep0 GD.out)
                replace EA := Lib.hid (fun (W2 : World) (q : wc.grownBy W2 none) => EA.out W2 (gb_trans GD.out q))
                clear KT
                have KT := Lib.hid (fun (w' : World) (q : wc.grownBy w' none) => (⟨(B7.out.keep0 q).cell 0, (B7.out.keep0 q).cell 1, (BF.out.keep0 q).cell 0, (BF.out.keep0 q).cell 1, (BF.out.keep0 q).cell 2, (BF.out.keep0 q).cell 3, (BE.out.keep0 q).cell 0, (BE.out.keep0 q).cell 1, (BE.out.keep0 q).cell 2, (BE.out.keep0 q).cell 3, trivial⟩ : (fun w' : World => w'.cell? ⟨b7, 0, none⟩ = some (.int .i64 rh) ∧ w'.cell? ⟨b7, 1, none⟩ = some (.int .i64 rf) ∧ w'.cell? ⟨b9, 0, none⟩ = some (.slice XF.va XF.vn XF.vc) ∧ w'.cell? ⟨b9, 1, none⟩ = some (.slice XF.fa XF.fn XF.fc) ∧ w'.cell? ⟨b9, 2, none⟩ = some (.slice XF.ta XF.tn XF.tc) ∧ w'.cell? ⟨b9, 3, none⟩ = some (.slice XF.pa XF.pn XF.pc) ∧ w'.cell? ⟨bx + 1, 0, none⟩ = some (.slice X.va X.vn X.vc) ∧ w'.cell? ⟨bx + 1, 1, none⟩ = some (.slice X.fa X.fn X.fc) ∧ w'.cell? ⟨bx + 1, 2, none⟩ = some (.slice X.ta X.tn X.tc) ∧ w'.cell? ⟨bx + 1, 3, none⟩ = some (.slice X.pa X.pn X.pc) ∧ True) w'))
                rw [SL.out] at NF
                obtain ⟨y, hy⟩ : ∃ y, y = getE L.V L.F L.T rh rf := ⟨_, rfl⟩
                have YQ := Lib.hid hy
                clear hy
                have G0 := Lib.hid (gb_drew wc none)
                refine wp_region_held_drew (S := (fun w' : World => w'.cell? ⟨b7, 0, none⟩ = some (.int .i64 rh) ∧ w'.cell? ⟨b7, 1, none⟩ = some (.int .i64 rf) ∧ w'.cell? ⟨b9, 0, none⟩ = some (.slice XF.va XF.vn XF.vc) ∧ w'.cell? ⟨b9, 1, none⟩ = some (.slice XF.fa XF.fn XF.fc) ∧ w'.cell? ⟨b9, 2, none⟩ = some (.slice XF.ta XF.tn XF.tc) ∧ w'.cell? ⟨b9, 3, none⟩ = some (.slice XF.pa XF.pn XF.pc) ∧ w'.cell? ⟨bx + 1, 0, none⟩ = some (.slice X.va X.vn X.vc) ∧ w'.cell? ⟨bx + 1, 1, none⟩ = some (.slice X.fa X.fn X.fc) ∧ w'.cell? ⟨bx + 1, 2, none⟩ = some (.slice X.ta X.tn X.tc) ∧ w'.cell? ⟨bx + 1, 3, none⟩ = some (.slice X.pa X.pn X.pc) ∧ True)) (by kernel_rfl) (KT.out _ G0.out) (fun hH0 => ?_)
                refine wpAnyH_take (i := 0) (v := ?v33) rfl (by kernel_rfl) (by kernel_rfl) (by kernel_rfl) (fun _ _ _ h => h) (Or.inl ⟨by rfl, ?hy33⟩) (by assumption) ?rest33
                case hy33 => (intro wz hSw; (try dsimp only at hSw); first | (go_simp; done) | (go_simp; with_reducible rfl))
                try simp only [Act.put, List.getElem_toArray, List.getElem_cons_zero, List.setIfInBounds_toArray, List.set_cons_zero, List.set_cons_succ]
                refine wpAnyH_take (i := 1) (v := ?v34) rfl (by kernel_rfl) (by kernel_rfl) (by kernel_rfl) (fun _ _ _ h => h) (Or.inl ⟨by rfl, ?hy34⟩) (by assumption) ?rest34
                case hy34 => (intro wz hSw; (try dsimp only at hSw); first | (go_simp; done) | (go_simp; with_reducible rfl))
                try simp only [Act.put, List.getElem_toArray, List.getElem_cons_succ, List.getElem_cons_zero, List.setIfInBounds_toArray, List.set_cons_zero, List.set_cons_succ]
                refine wpAnyH_take (i := 3) (v := ?v35) rfl (by kernel_rfl) (by kernel_rfl) (by kernel_rfl) (fun _ _ _ h => h) (Or.inl ⟨by rfl, ?hy35⟩) (by assumption) ?rest35
                case hy35 => (intro wz hSw; (try dsimp only at hSw); first | (go_simp; done) | (go_simp; with_reducible rfl))
                try simp only [Act.put, List.getElem_toArray, List.getElem_cons_succ, List.getElem_cons_zero, List.setIfInBounds_toArray, List.set_cons_zero, List.set_cons_succ]
                refine wpAnyH_take (i := 4) (v := ?v36) rfl (by kernel_rfl) (by kernel_rfl) (by kernel_rfl) (fun _ _ _ h => h) (Or.inl ⟨by rfl, ?hy36⟩) (by assumption) ?rest36
                case hy36 => (intro wz hSw; (try dsimp only at hSw); first | (go_simp; done) | (go_simp; with_reducible rfl))
                try simp only [Act.put, List.getElem_toArray, List.getElem_cons_succ, List.getElem_cons_zero, List.setIfInBounds_toArray, List.set_cons_zero, List.set_cons_succ]
                refine wpAnyH_ready (rs := [2]) (by kernel_rfl) (by simp) ?_
                refine AllReadyH.cons (o := _) rfl (fun K hK => ?_) AllReadyH.nil
                go_simp
                refine (eget_any _ (.slice XF.pa XF.pn XF.pc) XF.va XF.fa XF.ta XF.vn XF.vc XF.fn XF.fc XF.tn XF.tc L.V L.F L.T (NF.out.keep0 G0.out).v (NF.out.keep0 G0.out).f (NF.out.keep0 G0.out).t rh rf).mono ?_
                rintro e wh1 ⟨rfl, g⟩
                rw [← YQ.out]
                have G1 := Lib.hid (gb_trans G0.out g)
                clear g
                try dsimp only
                refine hK.out _ _ (KT.out _ G1.out) (fun hH1 => ?_)
                clear hK K hH0
                try simp only [Act.put, List.getElem_toArray, List.getElem_cons_succ, List.getElem_cons_zero, List.setIfInBounds_toArray, List.set_cons_zero, List.set_cons_succ]
                refine wpAnyH_ready (rs := [5]) (by kernel_rfl) (by simp) ?_
                refine AllReadyH.cons (o := _) rfl (fun K hK => ?_) AllReadyH.nil
                go_simp
                refine (eget_any _ (.slice X.pa X.pn X.pc) X.va X.fa X.ta X.vn X.vc X.fn X.fc X.tn X.tc L.V L.F L.T (EA.out _ G1.out).v (EA.out _ G1.out).f (EA.out _ G1.out).t rh rf).mono ?_
                rintro e wh2 ⟨rfl, g⟩
                rw [← YQ.out]
                have G2 := Lib.hid (gb_trans G1.out g)
                clear g
                try dsimp only
                refine hK.out _ _ (KT.out _ G2.out) (fun hH2 => ?_)
                clear hK K hH1
                try simp only [Act.put, List.getElem_toArray, List.getElem_cons_succ, List.getElem_cons_zero, List.setIfInBounds_toArray, List.set_cons_zero, List.set_cons_succ]
                refine wpAnyH_take (i := 6) (v := ?v37) rfl (by kernel_rfl) (by kernel_rfl) (by kernel_rfl) (fun _ _ _ h => h) (Or.inl ⟨by rfl, ?hy37⟩) (by assumption) ?rest37
                case hy37 => (intro wz hSw; (try dsimp only at hSw); first | (go_simp; done) | (go_simp; with_reducible rfl))
                try simp only [Act.put, List.getElem_toArray, List.getElem_cons_succ, List.getElem_cons_zero, List.setIfInBounds_toArray, List.set_cons_zero, List.set_cons_succ]
                refine wpAnyH_take (i := 7) (v := ?v38) rfl (by kernel_rfl) (by kernel_rfl) (by kernel_rfl) (fun _ _ _ h => h) (Or.inl ⟨by rfl, ?hy38⟩) (by assumption) ?rest38
                case hy38 => (intro wz hSw; (try dsimp only at hSw); first | (go_simp; done) | (go_simp; with_reducible rfl))
                try simp only [Act.put, List.getElem_toArray, List.getElem_cons_succ, List.getElem_cons_zero, List.setIfInBounds_toArray, List.set_cons_zero, List.set_cons_succ]
                refine wpAnyH_ready (rs := [8]) (by kernel_rfl) (by simp) ?_
                refine AllReadyH.cons (o := _) rfl (fun K hK => ?_) AllReadyH.nil
                go_simp
                refine (works_any _).mono ?_
                rintro e wh3 ⟨rfl, g⟩
                have G3 := Lib.hid (gb_trans G2.out g)
                clear g
                try dsimp only
                refine hK.out _ _ (KT.out _ G3.out) (fun hH3 => ?_)
                clear hK K hH2
                try simp only [Act.put, List.getElem_toArray, List.getElem_cons_succ, List.getElem_cons_zero, List.setIfInBounds_toArray, List.set_cons_zero, List.set_cons_succ]
                refine wpAnyH_take (i := 9) (v := ?v39) rfl (by kernel_rfl) (by kernel_rfl) (by kernel_rfl) (fun _ _ _ h => h) (Or.inl ⟨by rfl, ?hy39⟩) (by assumption) ?rest39
                case hy39 => (intro wz hSw; (try dsimp only at hSw); first | (go_simp; done) | (go_simp; with_reducible rfl))
                try simp only [Act.put, List.getElem_toArray, List.getElem_cons_succ, List.getElem_cons_zero, List.setIfInBounds_toArray, List.set_cons_zero, List.set_cons_succ]
                refine wpAnyH_take (i := 10) (v := ?v40) rfl (by kernel_rfl) (by kernel_rfl) (by kernel_rfl) (fun _ _ _ h => h) (Or.inl ⟨by rfl, ?hy40⟩) (by assumption) ?rest40
                case hy40 => (intro wz hSw; (try dsimp only at hSw); first | (go_simp; done) | (go_simp; with_reducible rfl))
                try simp only [Act.put, List.getElem_toArray, List.getElem_cons_succ, List.getElem_cons_zero, List.setIfInBounds_toArray, List.set_cons_zero, List.set_cons_succ]
                refine wpAnyH_done (by kernel_rfl) ?_ _
                clear hH3
                go_wp2
                go_ret
                exact ⟨rfl, gb_trans GZ.out G3.out⟩
              · have OKx := Lib.hid (show 1 ≤ x ∧ x ≤ 32 by rw [XW.out]; exact wid_okx _ _ _ _ (by rw [← XW.out]; exact hx0))
                have HO := Lib.hid ho
                have GN := Lib.hid (show getE (setE H M L rh rf v).V (setE H M L rh rf v).F (setE H M L rh rf v).T rh rf = redB v x by rw [XW.out]; exact get_near OK.out.1 rh rf v (by rw [← XW.out]; exact hx0) HO.out)
                clear HO ho hx0
                go_upto_region 10 with fail
                replace GZ := Lib.hid (gb_trans GZ.out GD.out)
                replace NF := Lib.hid (NF.out.keep0 GD.out)
                replace BP := Lib.hid (BP.out.keep0 GD.out)
                replace BE := Lib.hid (BE.out.keep0 GD.out)
                replace BR := Lib.hid (BR.out.keep0 GD.out)
                replace B7 := Lib.hid (B7.out.keep0 GD.out)
                replace BF := Lib.hid (BF.out.keep0 GD.out)
                have y0 := BF.out.cell 0
                have y1 := BF.out.cell 1
                have y2 := BF.out.cell 2
                have y3 := BF.out.cell 3
                have a0 := B7.out.cell 0
                have a1 := B7.out.cell 1
                dsimp at y0 y1 y2 y3 a0 a1
                go_wp2_with fail
                refine (eget_any wc (.slice XF.pa XF.pn XF.pc) XF.va XF.fa XF.ta XF.vn XF.vc XF.fn XF.fc XF.tn XF.tc (setE H M L rh rf v).V (setE H M L rh rf v).F (setE H M L rh rf v).T NF.out.v NF.out.f NF.out.t rh rf).mono ?_
                rw [GN.out]
                rintro e wk ⟨rfl, g⟩
                replace GZ := Lib.hid (gb_trans GZ.out g)
                replace BR := Lib.hid (BR.out.keep0 g)
                clear g y0 y1 y2 y3 a0 a1 KT
                have KT := Lib.hid (fun (w' : World) (q : wk.grownBy w' none) => (⟨(BR.out.keep0 q).cell 2, trivial⟩ : (fun w' : World => w'.cell? ⟨bx + 1 + 1, 2, none⟩ = some (.int .u32 v) ∧ True) w'))
                have rr := redB_range v x
                have lt := redB_lt v x OKx.out
                have FI := Lib.hid (fun W => rfits_any (redB v x) x W rr.1 (by omega) (by have := OKx.out; omega) OKx.out.2)
                unfold RetS at FI
                rw [show decide (redB v x < pw x.toNat) = true from decide_eq_true lt.2] at FI
                have XR := xor_red2 v x V0.out V1.out OKx.out
                have SHF := shf_eq x OKx.out
                have hw0 : 0 ≤ x := by have := OKx.out; omega
                have hw1 : ¬ x < 0 := by omega
                clear rr lt
                go_upto_region 11 with fail
                have G0 := Lib.hid (gb_drew wk none)
                refine wp_region_held_drew (S := (fun w' : World => w'.cell? ⟨bx + 1 + 1, 2, none⟩ = some (.int .u32 v) ∧ True)) (by kernel_rfl) (KT.out _ G0.out) (fun hH0 => ?_)
                refine wpAnyH_take (i := 0) (v := ?v41) rfl (by kernel_rfl) (by kernel_rfl) (by kernel_rfl) (fun _ _ _ h => h) (Or.inl ⟨by rfl, ?hy41⟩) (by assumption) ?rest41
                case hy41 => (intro wz hSw; (try dsimp only at hSw); first | (go_simp; done) | (go_simp; with_reducible rfl))
                try simp only [Act.put, List.getElem_toArray, List.getElem_cons_zero, List.setIfInBounds_toArray, List.set_cons_zero, List.set_cons_succ]
                refine wpAnyH_take (i := 1) (v := ?v42) rfl (by kernel_rfl) (by kernel_rfl) (by kernel_rfl) (fun _ _ _ h => h) (Or.inl ⟨by rfl, ?hy42⟩) (by assumption) ?rest42
                case hy42 => (intro wz hSw; (try dsimp only at hSw); first | (go_simp; done) | (go_simp; with_reducible rfl))
                try simp only [Act.put, List.getElem_toArray, List.getElem_cons_succ, List.getElem_cons_zero, List.setIfInBounds_toArray, List.set_cons_zero, List.set_cons_succ]
                refine wpAnyH_ready (rs := [2]) (by kernel_rfl) (by simp) ?_
                refine AllReadyH.cons (o := _) rfl (fun K hK => ?_) AllReadyH.nil
                go_simp
                refine (FI.out _).mono ?_
                rintro e wh1 ⟨rfl, rfl⟩
                have g := gb_refl wk.drew none
                have G1 := Lib.hid (gb_trans G0.out g)
                clear g
                try dsimp only
                refine hK.out _ _ (KT.out _ G1.out) (fun hH1 => ?_)
                clear hK K hH0
                try simp only [Act.put, List.getElem_toArray, List.getElem_cons_succ, List.getElem_cons_zero, List.setIfInBounds_toArray, List.set_cons_zero, List.set_cons_succ]
                refine wpAnyH_take (i := 3) (v := ?v43) rfl (by kernel_rfl) (by kernel_rfl) (by kernel_rfl) (fun _ _ _ h => h) (Or.inl ⟨by rfl, ?hy43⟩) (by assumption) ?rest43
                case hy43 => (intro wz hSw; (try dsimp only at hSw); first | (go_simp; done) | (go_simp; with_reducible rfl))
                try simp only [Act.put, List.getElem_toArray, List.getElem_cons_succ, List.getElem_cons_zero, List.setIfInBounds_toArray, List.set_cons_zero, List.set_cons_succ]
                refine wpAnyH_take (i := 4) (v := ?v44) rfl (by kernel_rfl) (by kernel_rfl) (by kernel_rfl) (fun _ _ _ h => h) (Or.inl ⟨by rfl, ?hy44⟩) (by assumption) ?rest44
                case hy44 => (intro wz hSw; (try dsimp only at hSw); first | (go_simp; done) | (go_simp; with_reducible rfl))
                try simp only [Act.put, List.getElem_toArray, List.getElem_cons_succ, List.getElem_cons_zero, List.setIfInBounds_toArray, List.set_cons_zero, List.set_cons_succ]
                refine wpAnyH_take (i := 5) (v := ?v45) rfl (by kernel_rfl) (by kernel_rfl) (by kernel_rfl) (fun _ _ _ h => h) (Or.inl ⟨by rfl, ?hy45⟩) (by assumption) ?rest45
                case hy45 => (intro wz hSw; (try dsimp only at hSw); first | (go_simp; done) | (go_simp; with_reducible rfl))
                try simp only [Act.put, List.getElem_toArray, List.getElem_cons_succ, List.getElem_cons_zero, List.setIfInBounds_toArray, List.set_cons_zero, List.set_cons_succ]
                refine wpAnyH_take (i := 6) (v := ?v46) rfl (by kernel_rfl) (by kernel_rfl) (by kernel_rfl) (fun _ _ _ h => h) (Or.inl ⟨by rfl, ?hy46⟩) (by assumption) ?rest46
                case hy46 => (intro wz hSw; (try dsimp only at hSw); first | (go_simp; done) | (go_simp; with_reducible rfl))
                try simp only [Act.put, List.getElem_toArray, List.getElem_cons_succ, List.getElem_cons_zero, List.setIfInBounds_toArray, List.set_cons_zero, List.set_cons_succ]
                refine wpAnyH_take (i := 7) (v := ?v47) rfl (by kernel_rfl) (by kernel_rfl) (by kernel_rfl) (fun _ _ _ h => h) (Or.inl ⟨by rfl, ?hy47⟩) (by assumption) ?rest47
                case hy47 => (intro wz hSw; (try dsimp only at hSw); first | (go_simp; done) | (go_simp; with_reducible rfl))
                try simp only [Act.put, List.getElem_toArray, List.getElem_cons_succ, List.getElem_cons_zero, List.setIfInBounds_toArray, List.set_cons_zero, List.set_cons_succ]
                refine wpAnyH_take (i := 8) (v := ?v48) rfl (by kernel_rfl) (by kernel_rfl) (by kernel_rfl) (fun _ _ _ h => h) (Or.inl ⟨by rfl, ?hy48⟩) (by assumption) ?rest48
                case hy48 => (intro wz hSw; (try dsimp only at hSw); first | (go_simp; done) | (go_simp; with_reducible rfl))
                try simp only [Act.put, List.getElem_toArray, List.getElem_cons_succ, List.getElem_cons_zero, List.setIfInBounds_toArray, List.set_cons_zero, List.set_cons_succ]
                refine wpAnyH_take (i := 9) (v := ?v49) rfl (by kernel_rfl) (by kernel_rfl) (by kernel_rfl) (fun _ _ _ h => h) (Or.inl ⟨by rfl, ?hy49⟩) (by assumption) ?rest49
                case hy49 => (intro wz hSw; (try dsimp only at hSw); first | (go_simp; done) | (go_simp; with_reducible rfl))
                try simp only [Act.put, List.getElem_toArray, List.getElem_cons_succ, List.getElem_cons_zero, List.setIfInBounds_toArray, List.set_cons_zero, List.set_cons_succ]
                refine wpAnyH_take (i := 10) (v := ?v50) rfl (by kernel_rfl) (by kernel_rfl) (by kernel_rfl) (fun _ _ _ h => h) (Or.inl ⟨by rfl, ?hy50⟩) (by assumption) ?rest50
                case hy50 => (intro wz hSw; (try dsimp only at hSw); first | (go_simp; done) | (go_simp; with_reducible rfl))
                try simp only [Act.put, List.getElem_toArray, List.getElem_cons_succ, List.getElem_cons_zero, List.setIfInBounds_toArray, List.set_cons_zero, List.set_cons_succ]
                refine wpAnyH_take (i := 11) (v := ?v51) rfl (by kernel_rfl) (by kernel_rfl) (by kernel_rfl) (fun _ _ _ h => h) (Or.inl ⟨by rfl, ?hy51⟩) (by assumption) ?rest51
                case hy51 => (intro wz hSw; (try dsimp only at hSw); first | (go_simp; done) | (go_simp; with_reducible rfl))
                try simp only [Act.put, List.getElem_toArray, List.getElem_cons_succ, List.getElem_cons_zero, List.setIfInBounds_toArray, List.set_cons_zero, List.set_cons_succ]
                refine wpAnyH_take (i := 12) (v := ?v52) rfl (by kernel_rfl) (by kernel_rfl) (by kernel_rfl) (fun _ _ _ h => h) (Or.inl ⟨by rfl, ?hy52⟩) (by assumption) ?rest52
                case hy52 => (intro wz hSw; (try dsimp only at hSw); first | (go_simp; done) | (go_simp; with_reducible rfl))
                try simp only [Act.put, List.getElem_toArray, List.getElem_cons_succ, List.getElem_cons_zero, List.setIfInBounds_toArray, List.set_cons_zero, List.set_cons_succ]
                refine wpAnyH_take (i := 13) (v := ?v53) rfl (by kernel_rfl) (by kernel_rfl) (by kernel_rfl) (fun _ _ _ h => h) (Or.inl ⟨by rfl, ?hy53⟩) (by assumption) ?rest53
                case hy53 => (intro wz hSw; (try dsimp only at hSw); first | (go_simp; done) | (go_simp; with_reducible rfl))
                try simp only [Act.put, List.getElem_toArray, List.getElem_cons_succ, List.getElem_cons_zero, List.setIfInBounds_toArray, List.set_cons_zero, List.set_cons_succ]
                refine wpAnyH_take (i := 14) (v := ?v54) rfl (by kernel_rfl) (by kernel_rfl) (by kernel_rfl) (fun _ _ _ h => h) (Or.inl ⟨by rfl, ?hy54⟩) (by assumption) ?rest54
                case hy54 => (intro wz hSw; (try dsimp only at hSw); first | (go_simp; done) | (go_simp; with_reducible rfl))
                try simp only [Act.put, List.getElem_toArray, List.getElem_cons_succ, List.getElem_cons_zero, List.setIfInBounds_toArray, List.set_cons_zero, List.set_cons_succ]
                refine wpAnyH_take (i := 15) (v := ?v55) rfl (by kernel_rfl) (by kernel_rfl) (by kernel_rfl) (fun _ _ _ h => h) (Or.inl ⟨by rfl, ?hy55⟩) (by assumption) ?rest55
                case hy55 => (intro wz hSw; (try dsimp only at hSw); first | (go_simp; done) | (go_simp; with_reducible rfl))
                try simp only [Act.put, List.getElem_toArray, List.getElem_cons_succ, List.getElem_cons_zero, List.setIfInBounds_toArray, List.set_cons_zero, List.set_cons_succ]
                refine wpAnyH_ready (rs := [16]) (by kernel_rfl) (by simp) ?_
                refine AllReadyH.cons (o := _) rfl (fun K hK => ?_) AllReadyH.nil
                go_simp
                refine (works_any _).mono ?_
                rintro e wh2 ⟨rfl, g⟩
                have G2 := Lib.hid (gb_trans G1.out g)
                clear g
                try dsimp only
                refine hK.out _ _ (KT.out _ G2.out) (fun hH2 => ?_)
                clear hK K hH1
                try simp only [Act.put, List.getElem_toArray, List.getElem_cons_succ, List.getElem_cons_zero, List.setIfInBounds_toArray, List.set_cons_zero, List.set_cons_succ]
                refine wpAnyH_take (i := 17) (v := ?v56) rfl (by kernel_rfl) (by kernel_rfl) (by kernel_rfl) (fun _ _ _ h => h) (Or.inl ⟨by rfl, ?hy56⟩) (by assumption) ?rest56
                case hy56 => (intro wz hSw; (try dsimp only at hSw); first | (go_simp; done) | (go_simp; with_reducible rfl))
                try simp only [Act.put, List.getElem_toArray, List.getElem_cons_succ, List.getElem_cons_zero, List.setIfInBounds_toArray, List.set_cons_zero, List.set_cons_succ]
                refine wpAnyH_take (i := 18) (v := ?v57) rfl (by kernel_rfl) (by kernel_rfl) (by kernel_rfl) (fun _ _ _ h => h) (Or.inl ⟨by rfl, ?hy57⟩) (by assumption) ?rest57
                case hy57 => (intro wz hSw; (try dsimp only at hSw); first | (go_simp; done) | (go_simp; with_reducible rfl))
                try simp only [Act.put, List.getElem_toArray, List.getElem_cons_succ, List.getElem_cons_zero, List.setIfInBounds_toArray, List.set_cons_zero, List.set_cons_succ]
                refine wpAnyH_done (by kernel_rfl) ?_ _
                clear hH2
                go_wp2
                go_ret
                exact ⟨rfl, gb_trans GZ.out G2.out⟩
      · replace GZ := Lib.hid (gb_trans GZ.out G5.out)
        have r1 : (r != 0) = true := by simp [r0]
        go_wp2_with fail
        refine (works_any _).mono ?_
        rintro e w3 ⟨rfl, g⟩
        have G3 := Lib.hid (gb_trans GZ.out g)
        clear g
        go_wp2
        go_ret
        exact ⟨rfl, G3.out⟩
    · have LE := Lib.hid (long_any w2 X L (EA.out _ G2.out) true ⟨fun e => (by cases e), fun q => absurd q sE⟩)
      clear sP sE
      go_wp2_with fail
      refine LE.out.mono ?_
      rintro e w4 ⟨rfl, g⟩
      replace GZ := Lib.hid (gb_trans GZ.out (gb_trans G2.out g))
      clear g
      go_wp2_with fail
      refine (works_any _).mono ?_
      rintro e w3 ⟨rfl, g⟩
      have G3 := Lib.hid (gb_trans GZ.out g)
      clear g
      go_wp2
      go_ret
      exact ⟨rfl, G3.out⟩
  · have LP := Lib.hid (large_any w1 nm v3 v4 v5 v6 v7 v8 ha ma hn hc mn mc H M (HD.out _ (gb_refl _ _)).1 (HD.out _ (gb_refl _ _)).2 true ⟨fun e => (by cases e), fun q => absurd q sP⟩)
    clear sP
    go_wp2_with fail
    refine LP.out.mono ?_
    rintro e w2 ⟨rfl, g⟩
    replace GZ := Lib.hid (gb_trans GZ.out g)
    clear g
    go_wp2_with fail
    refine (works_any _).mono ?_
    rintro e w3 ⟨rfl, g⟩
    have G3 := Lib.hid (gb_trans GZ.out g)
    clear g
    go_wp2
    go_ret
    exact ⟨rfl, G3.out⟩
end Go.Proofs.Ytolifmpnhflegaa
