/- Tries: the law Order. -/
import Derived.Test.YtidjggaffioekaaLuE
import Derived.Deep.QuietTactic
import Derived.BigQuiet
namespace Go.Proofs.Ytidjggaffioekaa
open Go.RowKit
set_option linter.unusedVariables false

set_option maxRecDepth 100000 in
set_option maxHeartbeats 4000000 in
theorem order_bad (a0 gd gm gx : Int) (gv : Nat) (a1 : Option Addr) (len1 cap1 : Nat) (W : World) (hb : ¬ (1 ≤ a0 ∧ a0 ≤ 32)) : Calls Try.prog 5 #[.int .i64 a0, .slice a1 len1 cap1, .agg #[.int .i64 gd, .int .u32 (gv : Nat), .int .i64 gm, .int .i64 gx]] W (RetV (.bool true) W) := by
  have NB := Lib.hid (fun W => new_bad W a0 hb)
  have RB := Lib.hid (fun W => rnew_bad W a0 hb)
  clear hb
  unfold RetV
  go_enter Try.func5, Try.ntmps5
  go_upto_region 1 with fail
  have G0 := Lib.hid (gb_alloc W (.cells #[.int .i64 gd, .int .u32 (gv : Nat), .int .i64 gm, .int .i64 gx] 37) none)
  have BG := Lib.hid (IsB.new W 37 #[.int .i64 gd, .int .u32 (gv : Nat), .int .i64 gm, .int .i64 gx])
  generalize W.alloc (.cells #[.int .i64 gd, .int .u32 (gv : Nat), .int .i64 gm, .int .i64 gx] 37) = w0 at *
  obtain ⟨gb, hgb⟩ : ∃ g, g = W.heap.size := ⟨_, rfl⟩
  have HGB := Lib.hid hgb
  rw [← hgb] at BG ⊢
  clear hgb
  go_wp2_with fail
  refine (NB.out _).mono ?_
  rintro e w1 ⟨rfl, g1⟩
  have G1 := Lib.hid (gb_trans G0.out g1)
  clear g1
  go_wp2_with fail
  refine (NB.out _).mono ?_
  rintro e w2 ⟨rfl, g2⟩
  have G2 := Lib.hid (gb_trans G1.out g2)
  clear g2
  go_wp2_with fail
  refine (RB.out _).mono ?_
  rintro e w3 ⟨rfl, g3⟩
  have G3 := Lib.hid (gb_trans (gb_trans G2.out g3) (gb_alloc w3 (.cells #[.int .i64 0, .slice none 0 0] 30) none))
  clear g3
  go_upto_region 4 with fail
  generalize w3.alloc (.cells #[.int .i64 0, .slice none 0 0] 30) = w4 at *
  go_wp2_with fail
  refine (works_any _).mono ?_
  rintro e w8 ⟨rfl, g8⟩
  have G8 := Lib.hid g8
  clear g8
  go_wp2
  go_ret
  exact ⟨rfl, gb_trans G3.out G8.out⟩
set_option maxRecDepth 100000 in
set_option maxHeartbeats 4000000 in
theorem order_long (wi : Nat) (gd gm gx : Int) (gv : Nat) (a1 : Option Addr) (len1 cap1 : Nat) (W : World) (hg : 1 ≤ wi ∧ wi ≤ 32) (h3 : (40 : Int) < len1) : Calls Try.prog 5 #[.int .i64 wi, .slice a1 len1 cap1, .agg #[.int .i64 gd, .int .u32 (gv : Nat), .int .i64 gm, .int .i64 gx]] W (RetV (.bool true) W) := by
  have NG := Lib.hid (fun W => new_good W wi (by omega))
  have RG := Lib.hid (fun W => rnew_good W wi (by omega))
  have HG := Lib.hid hg
  clear hg
  unfold RetV at RG
  unfold RetV
  go_enter Try.func5, Try.ntmps5
  go_upto_region 1 with fail
  have G0 := Lib.hid (gb_alloc W (.cells #[.int .i64 gd, .int .u32 (gv : Nat), .int .i64 gm, .int .i64 gx] 37) none)
  have BG := Lib.hid (IsB.new W 37 #[.int .i64 gd, .int .u32 (gv : Nat), .int .i64 gm, .int .i64 gx])
  generalize W.alloc (.cells #[.int .i64 gd, .int .u32 (gv : Nat), .int .i64 gm, .int .i64 gx] 37) = w0 at *
  obtain ⟨gb, hgb⟩ : ∃ g, g = W.heap.size := ⟨_, rfl⟩
  have HGB := Lib.hid hgb
  rw [← hgb] at BG ⊢
  clear hgb
  go_wp2_with fail
  refine (NG.out w0).mono ?_
  rintro e w1 ⟨qa, sa, rfl, hq, hs, g, lq, ls⟩
  have LA := Lib.hid (LS.new (W := W) (wd := wi) (gb_trans G0.out g) hq hs HG.out.1 HG.out.2 (Nat.le_trans G0.out.size lq) (Nat.le_trans G0.out.size ls))
  have G1 := Lib.hid (gb_trans G0.out g)
  replace BG := Lib.hid (BG.out.keep0 g)
  clear hq hs g lq ls
  go_wp2_with fail
  refine (NG.out w1).mono ?_
  rintro e w2 ⟨qb, sb, rfl, hq, hs, g, lq, ls⟩
  have LB := Lib.hid (LS.new (W := W) (wd := wi) (gb_trans G1.out g) hq hs HG.out.1 HG.out.2 (Nat.le_trans G1.out.size lq) (Nat.le_trans G1.out.size ls))
  have SS := Lib.hid (show sa ≠ sb by have := LA.out.sv.lt; omega)
  have G2 := Lib.hid (gb_trans G1.out g)
  replace BG := Lib.hid (BG.out.keep0 g)
  replace LA := Lib.hid (LA.out.keep0 g)
  clear hq hs g lq ls NG
  go_wp2_with fail
  refine (RG.out _).mono ?_
  rintro e w3 ⟨rfl, g3⟩
  have GX := Lib.hid (gb_trans g3 (gb_alloc w3 (.cells #[.int .i64 wi, .slice none 0 0] 30) none))
  have T0 := Lib.hid (show Tw W qa sa qb sb w3.heap.size gb wi (gd, gv, gm, gx) 0 (w3.alloc (.cells #[.int .i64 wi, .slice none 0 0] 30)) (.slice none 0 0) none 0 0 [] from ⟨⟨.nil, LA.out.keep0 GX.out, World.ownsRow_nil _ _ _ _, rfl, Nat.le_refl _, Nat.zero_le _, dp_nil wi⟩, LB.out.keep0 GX.out, IsB.new _ _ _, BG.out.keep0 GX.out, DR.nil _ _, Nat.zero_le _, (fun z h => by cases h), (gb_trans G2.out g3).size, HGB.out, SS.out⟩)
  clear g3 LA LB SS BG RG
  go_upto_region 4 with fail
  generalize w3.alloc (.cells #[.int .i64 wi, .slice none 0 0] 30) = w4 at *
  obtain ⟨b, hb⟩ : ∃ b, b = w3.heap.size := ⟨_, rfl⟩
  rw [← hb] at T0 ⊢
  clear hb
  go_wp2_with fail
  refine (works_any _).mono ?_
  rintro e w8 ⟨rfl, g8⟩
  have G8 := Lib.hid g8
  clear g8
  go_wp2
  go_ret
  exact ⟨rfl, gb_trans T0.out.grown G8.out⟩
set_option maxRecDepth 100000 in
set_option maxHeartbeats 40000000 in
theorem order_good (wi : Nat) (gd gm gx : Int) (gv : Nat) (a1 : Option Addr) (len1 cap1 : Nat) (K1 : List Ac) (W : World) (hg : 1 ≤ wi ∧ wi ≤ 32) (h3 : ¬ (40 : Int) < len1) (w1 : SA W a1 len1 cap1 K1) (wg : AcOk (gd, gv, gm, gx)) : Calls Try.prog 5 #[.int .i64 wi, .slice a1 len1 cap1, .agg #[.int .i64 gd, .int .u32 (gv : Nat), .int .i64 gm, .int .i64 gx]] W (RetV (.bool true) W) := by
  have HS := Lib.hid w1
  have AG := Lib.hid wg
  have GV := Lib.hid (show gv < 4294967296 from wg.2)
  have L4 := Lib.hid (show len1 ≤ 40 by omega)
  clear w1 wg
  have NG := Lib.hid (fun W => new_good W wi (by omega))
  have RG := Lib.hid (fun W => rnew_good W wi (by omega))
  have HG := Lib.hid hg
  clear hg
  unfold RetV at RG
  unfold RetV
  go_enter Try.func5, Try.ntmps5
  go_upto_region 1 with fail
  have G0 := Lib.hid (gb_alloc W (.cells #[.int .i64 gd, .int .u32 (gv : Nat), .int .i64 gm, .int .i64 gx] 37) none)
  have BG := Lib.hid (IsB.new W 37 #[.int .i64 gd, .int .u32 (gv : Nat), .int .i64 gm, .int .i64 gx])
  generalize W.alloc (.cells #[.int .i64 gd, .int .u32 (gv : Nat), .int .i64 gm, .int .i64 gx] 37) = w0 at *
  obtain ⟨gb, hgb⟩ : ∃ g, g = W.heap.size := ⟨_, rfl⟩
  have HGB := Lib.hid hgb
  rw [← hgb] at BG ⊢
  clear hgb
  go_wp2_with fail
  refine (NG.out w0).mono ?_
  rintro e w1 ⟨qa, sa, rfl, hq, hs, g, lq, ls⟩
  have LA := Lib.hid (LS.new (W := W) (wd := wi) (gb_trans G0.out g) hq hs HG.out.1 HG.out.2 (Nat.le_trans G0.out.size lq) (Nat.le_trans G0.out.size ls))
  have G1 := Lib.hid (gb_trans G0.out g)
  replace BG := Lib.hid (BG.out.keep0 g)
  clear hq hs g lq ls
  go_wp2_with fail
  refine (NG.out w1).mono ?_
  rintro e w2 ⟨qb, sb, rfl, hq, hs, g, lq, ls⟩
  have LB := Lib.hid (LS.new (W := W) (wd := wi) (gb_trans G1.out g) hq hs HG.out.1 HG.out.2 (Nat.le_trans G1.out.size lq) (Nat.le_trans G1.out.size ls))
  have SS := Lib.hid (show sa ≠ sb by have := LA.out.sv.lt; omega)
  have G2 := Lib.hid (gb_trans G1.out g)
  replace BG := Lib.hid (BG.out.keep0 g)
  replace LA := Lib.hid (LA.out.keep0 g)
  clear hq hs g lq ls NG
  go_wp2_with fail
  refine (RG.out _).mono ?_
  rintro e w3 ⟨rfl, g3⟩
  have GX := Lib.hid (gb_trans g3 (gb_alloc w3 (.cells #[.int .i64 wi, .slice none 0 0] 30) none))
  have T0 := Lib.hid (show Tw W qa sa qb sb w3.heap.size gb wi (gd, gv, gm, gx) 0 (w3.alloc (.cells #[.int .i64 wi, .slice none 0 0] 30)) (.slice none 0 0) none 0 0 [] from ⟨⟨.nil, LA.out.keep0 GX.out, World.ownsRow_nil _ _ _ _, rfl, Nat.le_refl _, Nat.zero_le _, dp_nil wi⟩, LB.out.keep0 GX.out, IsB.new _ _ _, BG.out.keep0 GX.out, DR.nil _ _, Nat.zero_le _, (fun z h => by cases h), (gb_trans G2.out g3).size, HGB.out, SS.out⟩)
  clear g3 LA LB SS BG RG
  go_upto_region 4 with fail
  generalize w3.alloc (.cells #[.int .i64 wi, .slice none 0 0] 30) = w4 at *
  obtain ⟨b, hb⟩ : ∃ b, b = w3.heap.size := ⟨_, rfl⟩
  rw [← hb] at T0 ⊢
  clear hb
  go_wp2
  go_loopw [13, 14] (fun dv i wrX => ∃ (j : Nat) (V : Value) (a : Option Addr) (n c : Nat) (D : List Ac), j ≤ len1 ∧ i = .int .i64 j ∧ V = dv ∧ Tw W qa sa qb sb b gb wi (gd, gv, gm, gx) j wrX V a n c D) (fun _ i _ => len1 - (intOf i).toNat)
  case atStart => exact ⟨0, _, none, 0, 0, [], Nat.zero_le _, rfl, rfl, T0.out⟩
  case round =>
    obtain ⟨j, V, a, n, c, D, hj, rfl, rfl, hr⟩ := hrel
    have TT := Lib.hid hr
    clear hr T0
    by_cases hlt : j < len1
    · obtain ⟨ad, rfl⟩ := HS.out.some (by omega)
      have i1 : (j : Int) < len1 := by omega
      have i0 : (0 : Int) ≤ (j : Int) := by omega
      have hw : IntKind.i64.wrap ((j : Int) + 1) = ((j + 1 : Nat) : Int) := by have := L4.out; rw [IntKind.wrap_i64]; omega
      have CC := Lib.hid (fun (w : World) (g : W.grownBy w none) => (HS.out.keep0 g).cells ad rfl j hlt)
      have AZ := Lib.hid (HS.out.at_ j hlt)
      generalize K1.getD j az = z at *
      obtain ⟨d, v, m, x⟩ := z
      dsimp only at CC
      obtain ⟨T, t1, t2, t3, t4, t5, t6⟩ := TT.out.ex
      replace t1 := Lib.hid t1
      replace t3 := Lib.hid t3
      replace t4 := Lib.hid t4
      replace t5 := Lib.hid t5
      replace t6 := Lib.hid t6
      have IT := ins_two W wr qa sa wi (d, v, m, x) T a n c t1.out AZ.out.2 (by have := t3.out; have := t4.out; have := L4.out; omega) t2 t3.out
      clear t2
      rcases IT with ⟨k, hk, IR⟩ | ⟨ga, gn, IR⟩
      · dsimp only at IR
        replace IR := Lib.hid IR
        have hk2 : (k == 0) = false := by rw [beq_eq_false_iff_ne]; exact hk
        clear hk
        go_upto_region 10 with fail
        have GD := gb_drew wr none
        have hb0 := TT.out.box.keep0 GD
        have hg0 := gb_trans TT.out.grown GD
        have hS0 : (fun w' : World => w'.cell? ⟨b, 0, none⟩ = some (.int .i64 wi) ∧ w'.cell? ⟨b, 1, none⟩ = some (.slice a n c) ∧ w'.cell? (ad.add (j * 4)) = some (.int .i64 d) ∧ w'.cell? ⟨(ad.add (j * 4)).block, (ad.add (j * 4)).off + 1, none⟩ = some (.int .u32 (v : Nat)) ∧ w'.cell? ⟨(ad.add (j * 4)).block, (ad.add (j * 4)).off + 2, none⟩ = some (.int .i64 m) ∧ w'.cell? ⟨(ad.add (j * 4)).block, (ad.add (j * 4)).off + 3, none⟩ = some (.int .i64 x)) wr.drew := ⟨hb0.cell 0, hb0.cell 1, (CC.out _ hg0).1, (CC.out _ hg0).2.1, (CC.out _ hg0).2.2.1, (CC.out _ hg0).2.2.2⟩
        refine wp_region_held_drew (S := (fun w' : World => w'.cell? ⟨b, 0, none⟩ = some (.int .i64 wi) ∧ w'.cell? ⟨b, 1, none⟩ = some (.slice a n c) ∧ w'.cell? (ad.add (j * 4)) = some (.int .i64 d) ∧ w'.cell? ⟨(ad.add (j * 4)).block, (ad.add (j * 4)).off + 1, none⟩ = some (.int .u32 (v : Nat)) ∧ w'.cell? ⟨(ad.add (j * 4)).block, (ad.add (j * 4)).off + 2, none⟩ = some (.int .i64 m) ∧ w'.cell? ⟨(ad.add (j * 4)).block, (ad.add (j * 4)).off + 3, none⟩ = some (.int .i64 x))) (by kernel_rfl) hS0 (fun hH0 => ?_)
        clear hS0
        refine wpAnyH_take (i := 0) (v := ?v73) rfl (by kernel_rfl) (by kernel_rfl) (by kernel_rfl) (fun _ _ _ h => h) (Or.inl ⟨by rfl, ?hy73⟩) (by assumption) ?rest73
        case hy73 => (intro wz hSw; (try dsimp only at hSw); first | (go_simp; done) | (go_simp; with_reducible rfl))
        try simp only [Act.put, List.getElem_toArray, List.getElem_cons_zero, List.setIfInBounds_toArray, List.set_cons_zero, List.set_cons_succ]
        refine wpAnyH_take (i := 1) (v := ?v74) rfl (by kernel_rfl) (by kernel_rfl) (by kernel_rfl) (fun _ _ _ h => h) (Or.inl ⟨by rfl, ?hy74⟩) (by assumption) ?rest74
        case hy74 => (intro wz hSw; (try dsimp only at hSw); first | (go_simp; done) | (go_simp; with_reducible rfl))
        try simp only [Act.put, List.getElem_toArray, List.getElem_cons_succ, List.getElem_cons_zero, List.setIfInBounds_toArray, List.set_cons_zero, List.set_cons_succ]
        refine wpAnyH_take (i := 2) (v := ?v75) rfl (by kernel_rfl) (by kernel_rfl) (by kernel_rfl) (fun _ _ _ h => h) (Or.inl ⟨by rfl, ?hy75⟩) (by assumption) ?rest75
        case hy75 => (intro wz hSw; (try dsimp only at hSw); first | (go_simp; done) | (go_simp; with_reducible rfl))
        try simp only [Act.put, List.getElem_toArray, List.getElem_cons_succ, List.getElem_cons_zero, List.setIfInBounds_toArray, List.set_cons_zero, List.set_cons_succ]
        refine wpAnyH_take (i := 3) (v := ?v76) rfl (by kernel_rfl) (by kernel_rfl) (by kernel_rfl) (fun _ _ _ h => h) (Or.inl ⟨by rfl, ?hy76⟩) (by assumption) ?rest76
        case hy76 => (intro wz hSw; (try dsimp only at hSw); first | (go_simp; done) | (go_simp; with_reducible rfl))
        try simp only [Act.put, List.getElem_toArray, List.getElem_cons_succ, List.getElem_cons_zero, List.setIfInBounds_toArray, List.set_cons_zero, List.set_cons_succ]
        refine wpAnyH_take (i := 4) (v := ?v77) rfl (by kernel_rfl) (by kernel_rfl) (by kernel_rfl) (fun _ _ _ h => h) (Or.inl ⟨by rfl, ?hy77⟩) (by assumption) ?rest77
        case hy77 => (intro wz hSw; (try dsimp only at hSw); first | (go_simp; done) | (go_simp; with_reducible rfl))
        try simp only [Act.put, List.getElem_toArray, List.getElem_cons_succ, List.getElem_cons_zero, List.setIfInBounds_toArray, List.set_cons_zero, List.set_cons_succ]
        refine wpAnyH_take (i := 5) (v := ?v78) rfl (by kernel_rfl) (by kernel_rfl) (by kernel_rfl) (fun _ _ _ h => h) (Or.inl ⟨by rfl, ?hy78⟩) (by assumption) ?rest78
        case hy78 => (intro wz hSw; (try dsimp only at hSw); first | (go_simp; done) | (go_simp; with_reducible rfl))
        try simp only [Act.put, List.getElem_toArray, List.getElem_cons_succ, List.getElem_cons_zero, List.setIfInBounds_toArray, List.set_cons_zero, List.set_cons_succ]
        refine wpAnyH_take (i := 6) (v := ?v79) rfl (by kernel_rfl) (by kernel_rfl) (by kernel_rfl) (fun _ _ _ h => h) (Or.inl ⟨by rfl, ?hy79⟩) (by assumption) ?rest79
        case hy79 => (intro wz hSw; (try dsimp only at hSw); first | (go_simp; done) | (go_simp; with_reducible rfl))
        try simp only [Act.put, List.getElem_toArray, List.getElem_cons_succ, List.getElem_cons_zero, List.setIfInBounds_toArray, List.set_cons_zero, List.set_cons_succ]
        refine wpAnyH_take (i := 7) (v := ?v80) rfl (by kernel_rfl) (by kernel_rfl) (by kernel_rfl) (fun _ _ _ h => h) (Or.inl ⟨by rfl, ?hy80⟩) (by assumption) ?rest80
        case hy80 => (intro wz hSw; (try dsimp only at hSw); first | (go_simp; done) | (go_simp; with_reducible rfl))
        try simp only [Act.put, List.getElem_toArray, List.getElem_cons_succ, List.getElem_cons_zero, List.setIfInBounds_toArray, List.set_cons_zero, List.set_cons_succ]
        refine wpAnyH_take (i := 8) (v := ?v81) rfl (by kernel_rfl) (by kernel_rfl) (by kernel_rfl) (fun _ _ _ h => h) (Or.inl ⟨by rfl, ?hy81⟩) (by assumption) ?rest81
        case hy81 => (intro wz hSw; (try dsimp only at hSw); first | (go_simp; done) | (go_simp; with_reducible rfl))
        try simp only [Act.put, List.getElem_toArray, List.getElem_cons_succ, List.getElem_cons_zero, List.setIfInBounds_toArray, List.set_cons_zero, List.set_cons_succ]
        refine wpAnyH_take (i := 9) (v := ?v82) rfl (by kernel_rfl) (by kernel_rfl) (by kernel_rfl) (fun _ _ _ h => h) (Or.inl ⟨by rfl, ?hy82⟩) (by assumption) ?rest82
        case hy82 => (intro wz hSw; (try dsimp only at hSw); first | (go_simp; done) | (go_simp; with_reducible rfl))
        try simp only [Act.put, List.getElem_toArray, List.getElem_cons_succ, List.getElem_cons_zero, List.setIfInBounds_toArray, List.set_cons_zero, List.set_cons_succ]
        refine wpAnyH_take (i := 10) (v := ?v83) rfl (by kernel_rfl) (by kernel_rfl) (by kernel_rfl) (fun _ _ _ h => h) (Or.inl ⟨by rfl, ?hy83⟩) (by assumption) ?rest83
        case hy83 => (intro wz hSw; (try dsimp only at hSw); first | (go_simp; done) | (go_simp; with_reducible rfl))
        try simp only [Act.put, List.getElem_toArray, List.getElem_cons_succ, List.getElem_cons_zero, List.setIfInBounds_toArray, List.set_cons_zero, List.set_cons_succ]
        refine wpAnyH_take (i := 11) (v := ?v84) rfl (by kernel_rfl) (by kernel_rfl) (by kernel_rfl) (fun _ _ _ h => h) (Or.inl ⟨by rfl, ?hy84⟩) (by assumption) ?rest84
        case hy84 => (intro wz hSw; (try dsimp only at hSw); first | (go_simp; done) | (go_simp; with_reducible rfl))
        try simp only [Act.put, List.getElem_toArray, List.getElem_cons_succ, List.getElem_cons_zero, List.setIfInBounds_toArray, List.set_cons_zero, List.set_cons_succ]
        refine wpAnyH_take (i := 12) (v := ?v85) rfl (by kernel_rfl) (by kernel_rfl) (by kernel_rfl) (fun _ _ _ h => h) (Or.inl ⟨by rfl, ?hy85⟩) (by assumption) ?rest85
        case hy85 => (intro wz hSw; (try dsimp only at hSw); first | (go_simp; done) | (go_simp; with_reducible rfl))
        try simp only [Act.put, List.getElem_toArray, List.getElem_cons_succ, List.getElem_cons_zero, List.setIfInBounds_toArray, List.set_cons_zero, List.set_cons_succ]
        refine wpAnyH_take (i := 13) (v := ?v86) rfl (by kernel_rfl) (by kernel_rfl) (by kernel_rfl) (fun _ _ _ h => h) (Or.inl ⟨by rfl, ?hy86⟩) (by assumption) ?rest86
        case hy86 => (intro wz hSw; (try dsimp only at hSw); first | (go_simp; done) | (go_simp; with_reducible rfl))
        try simp only [Act.put, List.getElem_toArray, List.getElem_cons_succ, List.getElem_cons_zero, List.setIfInBounds_toArray, List.set_cons_zero, List.set_cons_succ]
        refine wpAnyH_take (i := 14) (v := ?v87) rfl (by kernel_rfl) (by kernel_rfl) (by kernel_rfl) (fun _ _ _ h => h) (Or.inl ⟨by rfl, ?hy87⟩) (by assumption) ?rest87
        case hy87 => (intro wz hSw; (try dsimp only at hSw); first | (go_simp; done) | (go_simp; with_reducible rfl))
        try simp only [Act.put, List.getElem_toArray, List.getElem_cons_succ, List.getElem_cons_zero, List.setIfInBounds_toArray, List.set_cons_zero, List.set_cons_succ]
        refine wpAnyH_take (i := 15) (v := ?v88) rfl (by kernel_rfl) (by kernel_rfl) (by kernel_rfl) (fun _ _ _ h => h) (Or.inl ⟨by rfl, ?hy88⟩) (by assumption) ?rest88
        case hy88 => (intro wz hSw; (try dsimp only at hSw); first | (go_simp; done) | (go_simp; with_reducible rfl))
        try simp only [Act.put, List.getElem_toArray, List.getElem_cons_succ, List.getElem_cons_zero, List.setIfInBounds_toArray, List.set_cons_zero, List.set_cons_succ]
        refine wpAnyH_ready (rs := [16, 20]) (by kernel_rfl) (by simp) ?_
        refine AllReadyH.cons (o := _) rfl (fun K hK => ?_) (AllReadyH.cons (o := _) rfl (fun K hK => ?_) AllReadyH.nil)
        · go_simp
          (with_reducible refine (IR.out _ GD).mono ?_)
          rintro e w6 ⟨a2, n2, c2, rfl, en2, r2, gw6⟩
          try dsimp only
          have EN2 := Lib.hid en2
          clear en2
          have bx := hb0.keep0 gw6
          have gw := gb_trans hg0 gw6
          refine hK.out _ _ ⟨bx.cell 0, bx.cell 1, (CC.out _ gw).1, (CC.out _ gw).2.1, (CC.out _ gw).2.2.1, (CC.out _ gw).2.2.2⟩ (fun hH1 => ?_)
          clear hK K hH0
          try simp only [Act.put, List.getElem_toArray, List.getElem_cons_succ, List.getElem_cons_zero, List.setIfInBounds_toArray, List.set_cons_zero, List.set_cons_succ]
          refine wpAnyH_take (i := 17) (v := ?v89) rfl (by kernel_rfl) (by kernel_rfl) (by kernel_rfl) (fun _ _ _ h => h) (Or.inl ⟨by rfl, ?hy89⟩) (by assumption) ?rest89
          case hy89 => (intro wz hSw; (try dsimp only at hSw); first | (go_simp; done) | (go_simp; with_reducible rfl))
          try simp only [Act.put, List.getElem_toArray, List.getElem_cons_succ, List.getElem_cons_zero, List.setIfInBounds_toArray, List.set_cons_zero, List.set_cons_succ]
          refine wpAnyH_take (i := 18) (v := ?v90) rfl (by kernel_rfl) (by kernel_rfl) (by kernel_rfl) (fun _ _ _ h => h) (Or.inl ⟨by rfl, ?hy90⟩) (by assumption) ?rest90
          case hy90 => (intro wz hSw; (try dsimp only at hSw); first | (go_simp; done) | (go_simp; with_reducible rfl))
          try simp only [Act.put, List.getElem_toArray, List.getElem_cons_succ, List.getElem_cons_zero, List.setIfInBounds_toArray, List.set_cons_zero, List.set_cons_succ]
          refine wpAnyH_take (i := 19) (v := ?v91) rfl (by kernel_rfl) (by kernel_rfl) (by kernel_rfl) (fun _ _ _ h => h) (Or.inl ⟨by rfl, ?hy91⟩) (by assumption) ?rest91
          case hy91 => (intro wz hSw; (try dsimp only at hSw); first | (go_simp; done) | (go_simp; with_reducible rfl))
          try simp only [Act.put, List.getElem_toArray, List.getElem_cons_succ, List.getElem_cons_zero, List.setIfInBounds_toArray, List.set_cons_zero, List.set_cons_succ]
          refine wpAnyH_ready (rs := [20]) (by kernel_rfl) (by simp) ?_
          refine AllReadyH.cons (o := _) rfl (fun K hK => ?_) AllReadyH.nil
          go_simp
          have ga2 := gb_alloc w6 (.cells #[.int .i64 0, .slice none 0 0] 30) none
          have bx2 := bx.keep0 ga2
          have gw2 := gb_trans gw ga2
          have nz := IsB.new w6 30 #[.int .i64 0, .slice none 0 0]
          refine hK.out _ _ ⟨bx2.cell 0, bx2.cell 1, (CC.out _ gw2).1, (CC.out _ gw2).2.1, (CC.out _ gw2).2.2.1, (CC.out _ gw2).2.2.2⟩ (fun hH2 => ?_)
          clear hK K hH1
          try simp only [Act.put, List.getElem_toArray, List.getElem_cons_succ, List.getElem_cons_zero, List.setIfInBounds_toArray, List.set_cons_zero, List.set_cons_succ]
          have y0 := nz.cell 0
          have y1 := nz.cell 1
          have f0 := nz.free 0
          have f1 := nz.free 1
          dsimp at y0 y1
          have zb : b ≠ w6.heap.size := Nat.ne_of_lt bx.lt
          have ga3 := gb_alloc w6 (.cells #[.int .i64 wi, .slice a2 n2 c2] 30) none
          have bx3 := bx.keep0 ga3
          have gw3 := gb_trans gw ga3
          refine wpAnyH_ready (rs := [21]) (by kernel_rfl) (by simp) ?_
          refine AllReadyH.cons (o := _) rfl (fun K hK => ?_) AllReadyH.nil
          go_simp
          refine hK.out _ _ ⟨bx3.cell 0, bx3.cell 1, (CC.out _ gw3).1, (CC.out _ gw3).2.1, (CC.out _ gw3).2.2.1, (CC.out _ gw3).2.2.2⟩ (fun hH3 => ?_)
          clear hK K hH2
          try simp only [Act.put, List.getElem_toArray, List.getElem_cons_succ, List.getElem_cons_zero, List.setIfInBounds_toArray, List.set_cons_zero, List.set_cons_succ]
          refine wpAnyH_take (i := 22) (v := ?v92) rfl (by kernel_rfl) (by kernel_rfl) (by kernel_rfl) (fun _ _ _ h => h) (Or.inl ⟨by rfl, ?hy92⟩) (by assumption) ?rest92
          case hy92 => (intro wz hSw; (try dsimp only at hSw); first | (go_simp; done) | (go_simp; with_reducible rfl))
          try simp only [Act.put, List.getElem_toArray, List.getElem_cons_succ, List.getElem_cons_zero, List.setIfInBounds_toArray, List.set_cons_zero, List.set_cons_succ]
          refine wpAnyH_done (by kernel_rfl) ?_ _
          clear hH3
          have NZ := Lib.hid (IsB.new w6 30 #[.int .i64 wi, .slice a2 n2 c2])
          have G8 := Lib.hid (gb_trans GD (gb_trans gw6 ga3))
          have R8 := Lib.hid (r2.keep0 ga3)
          clear r2 y0 y1 f0 f1 bx bx2 bx3 gw gw2 gw3 nz ga2 ga3 zb gw6 GD hb0 hg0
          generalize w6.alloc (.cells #[.int .i64 wi, .slice a2 n2 c2] 30) = w8 at *
          generalize w6.heap.size = zz at *
          have TT8 := Lib.hid ((TT.out.keep0 G8.out).next)
          go_upto_region 11 with fail
          have KU := Lib.hid (fun (w' : World) (q0 : w8.grownBy w' none) => (⟨(TT8.out.box.keep0 q0).cell 0, (TT8.out.box.keep0 q0).cell 1, q0⟩ : (fun w' : World => w'.cell? ⟨b, 0, none⟩ = some (.int .i64 wi) ∧ w'.cell? ⟨b, 1, none⟩ = some (.slice a n c) ∧ w8.grownBy w' none) w'))
          have U0 := Lib.hid (gb_drew w8 none)
          refine wp_region_held_drew (S := (fun w' : World => w'.cell? ⟨b, 0, none⟩ = some (.int .i64 wi) ∧ w'.cell? ⟨b, 1, none⟩ = some (.slice a n c) ∧ w8.grownBy w' none)) (by kernel_rfl) (KU.out _ U0.out) (fun hH0 => ?_)
          refine wpAnyH_take (i := 0) (v := ?v93) rfl (by kernel_rfl) (by kernel_rfl) (by kernel_rfl) (fun _ _ _ h => h) (Or.inl ⟨by rfl, ?hy93⟩) (by assumption) ?rest93
          case hy93 => (intro wz hSw; (try dsimp only at hSw); first | (go_simp; done) | (go_simp; with_reducible rfl))
          try simp only [Act.put, List.getElem_toArray, List.getElem_cons_zero, List.setIfInBounds_toArray, List.set_cons_zero, List.set_cons_succ]
          refine wpAnyH_take (i := 1) (v := ?v94) rfl (by kernel_rfl) (by kernel_rfl) (by kernel_rfl) (fun _ _ _ h => h) (Or.inl ⟨by rfl, ?hy94⟩) (by assumption) ?rest94
          case hy94 => (intro wz hSw; (try dsimp only at hSw); first | (go_simp; done) | (go_simp; with_reducible rfl))
          try simp only [Act.put, List.getElem_toArray, List.getElem_cons_succ, List.getElem_cons_zero, List.setIfInBounds_toArray, List.set_cons_zero, List.set_cons_succ]
          refine wpAnyH_take (i := 2) (v := ?v95) rfl (by kernel_rfl) (by kernel_rfl) (by kernel_rfl) (fun _ _ _ h => h) (Or.inl ⟨by rfl, ?hy95⟩) (by assumption) ?rest95
          case hy95 => (intro wz hSw; (try dsimp only at hSw); first | (go_simp; done) | (go_simp; with_reducible rfl))
          try simp only [Act.put, List.getElem_toArray, List.getElem_cons_succ, List.getElem_cons_zero, List.setIfInBounds_toArray, List.set_cons_zero, List.set_cons_succ]
          refine wpAnyH_take (i := 3) (v := undef) rfl (by kernel_rfl) (by kernel_rfl) (by kernel_rfl) (fun _ _ _ h => h) (Or.inr ⟨by rfl, rfl⟩) (by assumption) ?_
          try simp only [Act.put, List.getElem_toArray, List.getElem_cons_succ, List.getElem_cons_zero, List.setIfInBounds_toArray, List.set_cons_zero, List.set_cons_succ]
          refine wpAnyH_take (i := 4) (v := undef) rfl (by kernel_rfl) (by kernel_rfl) (by kernel_rfl) (fun _ _ _ h => h) (Or.inr ⟨by rfl, rfl⟩) (by assumption) ?_
          try simp only [Act.put, List.getElem_toArray, List.getElem_cons_succ, List.getElem_cons_zero, List.setIfInBounds_toArray, List.set_cons_zero, List.set_cons_succ]
          refine wpAnyH_take (i := 5) (v := undef) rfl (by kernel_rfl) (by kernel_rfl) (by kernel_rfl) (fun _ _ _ h => h) (Or.inr ⟨by rfl, rfl⟩) (by assumption) ?_
          try simp only [Act.put, List.getElem_toArray, List.getElem_cons_succ, List.getElem_cons_zero, List.setIfInBounds_toArray, List.set_cons_zero, List.set_cons_succ]
          refine wpAnyH_take (i := 6) (v := undef) rfl (by kernel_rfl) (by kernel_rfl) (by kernel_rfl) (fun _ _ _ h => h) (Or.inr ⟨by rfl, rfl⟩) (by assumption) ?_
          try simp only [Act.put, List.getElem_toArray, List.getElem_cons_succ, List.getElem_cons_zero, List.setIfInBounds_toArray, List.set_cons_zero, List.set_cons_succ]
          refine wpAnyH_take (i := 7) (v := undef) rfl (by kernel_rfl) (by kernel_rfl) (by kernel_rfl) (fun _ _ _ h => h) (Or.inr ⟨by rfl, rfl⟩) (by assumption) ?_
          try simp only [Act.put, List.getElem_toArray, List.getElem_cons_succ, List.getElem_cons_zero, List.setIfInBounds_toArray, List.set_cons_zero, List.set_cons_succ]
          refine wpAnyH_take (i := 8) (v := undef) rfl (by kernel_rfl) (by kernel_rfl) (by kernel_rfl) (fun _ _ _ h => h) (Or.inr ⟨by rfl, rfl⟩) (by assumption) ?_
          try simp only [Act.put, List.getElem_toArray, List.getElem_cons_succ, List.getElem_cons_zero, List.setIfInBounds_toArray, List.set_cons_zero, List.set_cons_succ]
          refine wpAnyH_take (i := 9) (v := undef) rfl (by kernel_rfl) (by kernel_rfl) (by kernel_rfl) (fun _ _ _ h => h) (Or.inr ⟨by rfl, rfl⟩) (by assumption) ?_
          try simp only [Act.put, List.getElem_toArray, List.getElem_cons_succ, List.getElem_cons_zero, List.setIfInBounds_toArray, List.set_cons_zero, List.set_cons_succ]
          refine wpAnyH_take (i := 10) (v := undef) rfl (by kernel_rfl) (by kernel_rfl) (by kernel_rfl) (fun _ _ _ h => h) (Or.inr ⟨by rfl, rfl⟩) (by assumption) ?_
          try simp only [Act.put, List.getElem_toArray, List.getElem_cons_succ, List.getElem_cons_zero, List.setIfInBounds_toArray, List.set_cons_zero, List.set_cons_succ]
          refine wpAnyH_take (i := 11) (v := undef) rfl (by kernel_rfl) (by kernel_rfl) (by kernel_rfl) (fun _ _ _ h => h) (Or.inr ⟨by rfl, rfl⟩) (by assumption) ?_
          try simp only [Act.put, List.getElem_toArray, List.getElem_cons_succ, List.getElem_cons_zero, List.setIfInBounds_toArray, List.set_cons_zero, List.set_cons_succ]
          refine wpAnyH_take (i := 12) (v := undef) rfl (by kernel_rfl) (by kernel_rfl) (by kernel_rfl) (fun _ _ _ h => h) (Or.inr ⟨by rfl, rfl⟩) (by assumption) ?_
          try simp only [Act.put, List.getElem_toArray, List.getElem_cons_succ, List.getElem_cons_zero, List.setIfInBounds_toArray, List.set_cons_zero, List.set_cons_succ]
          refine wpAnyH_take (i := 13) (v := undef) rfl (by kernel_rfl) (by kernel_rfl) (by kernel_rfl) (fun _ _ _ h => h) (Or.inr ⟨by rfl, rfl⟩) (by assumption) ?_
          try simp only [Act.put, List.getElem_toArray, List.getElem_cons_succ, List.getElem_cons_zero, List.setIfInBounds_toArray, List.set_cons_zero, List.set_cons_succ]
          refine wpAnyH_take (i := 14) (v := undef) rfl (by kernel_rfl) (by kernel_rfl) (by kernel_rfl) (fun _ _ _ h => h) (Or.inr ⟨by rfl, rfl⟩) (by assumption) ?_
          try simp only [Act.put, List.getElem_toArray, List.getElem_cons_succ, List.getElem_cons_zero, List.setIfInBounds_toArray, List.set_cons_zero, List.set_cons_succ]
          refine wpAnyH_take (i := 15) (v := undef) rfl (by kernel_rfl) (by kernel_rfl) (by kernel_rfl) (fun _ _ _ h => h) (Or.inr ⟨by rfl, rfl⟩) (by assumption) ?_
          try simp only [Act.put, List.getElem_toArray, List.getElem_cons_succ, List.getElem_cons_zero, List.setIfInBounds_toArray, List.set_cons_zero, List.set_cons_succ]
          refine wpAnyH_take (i := 16) (v := undef) rfl (by kernel_rfl) (by kernel_rfl) (by kernel_rfl) (fun _ _ _ h => h) (Or.inr ⟨by rfl, rfl⟩) (by assumption) ?_
          try simp only [Act.put, List.getElem_toArray, List.getElem_cons_succ, List.getElem_cons_zero, List.setIfInBounds_toArray, List.set_cons_zero, List.set_cons_succ]
          refine wpAnyH_take (i := 17) (v := undef) rfl (by kernel_rfl) (by kernel_rfl) (by kernel_rfl) (fun _ _ _ h => h) (Or.inr ⟨by rfl, rfl⟩) (by assumption) ?_
          try simp only [Act.put, List.getElem_toArray, List.getElem_cons_succ, List.getElem_cons_zero, List.setIfInBounds_toArray, List.set_cons_zero, List.set_cons_succ]
          refine wpAnyH_take (i := 18) (v := undef) rfl (by kernel_rfl) (by kernel_rfl) (by kernel_rfl) (fun _ _ _ h => h) (Or.inr ⟨by rfl, rfl⟩) (by assumption) ?_
          try simp only [Act.put, List.getElem_toArray, List.getElem_cons_succ, List.getElem_cons_zero, List.setIfInBounds_toArray, List.set_cons_zero, List.set_cons_succ]
          refine wpAnyH_take (i := 19) (v := undef) rfl (by kernel_rfl) (by kernel_rfl) (by kernel_rfl) (fun _ _ _ h => h) (Or.inr ⟨by rfl, rfl⟩) (by assumption) ?_
          try simp only [Act.put, List.getElem_toArray, List.getElem_cons_succ, List.getElem_cons_zero, List.setIfInBounds_toArray, List.set_cons_zero, List.set_cons_succ]
          refine wpAnyH_take (i := 20) (v := undef) rfl (by kernel_rfl) (by kernel_rfl) (by kernel_rfl) (fun _ _ _ h => h) (Or.inr ⟨by rfl, rfl⟩) (by assumption) ?_
          try simp only [Act.put, List.getElem_toArray, List.getElem_cons_succ, List.getElem_cons_zero, List.setIfInBounds_toArray, List.set_cons_zero, List.set_cons_succ]
          refine wpAnyH_take (i := 21) (v := ?v96) rfl (by kernel_rfl) (by kernel_rfl) (by kernel_rfl) (fun _ _ _ h => h) (Or.inl ⟨by rfl, ?hy96⟩) (by assumption) ?rest96
          case hy96 => (intro wz hSw; (try dsimp only at hSw); first | (go_simp; done) | (go_simp; with_reducible rfl))
          try simp only [Act.put, List.getElem_toArray, List.getElem_cons_succ, List.getElem_cons_zero, List.setIfInBounds_toArray, List.set_cons_zero, List.set_cons_succ]
          refine wpAnyH_done (by kernel_rfl) ?_ _
          clear hH0
          have TT9 := Lib.hid (TT8.out.keep0 U0.out)
          go_wp2
          exact ⟨⟨j + 1, V, a, n, c, D, by omega, by simp, rfl, TT9.out⟩, by show len1 - ((j : Int) + 1).toNat < len1 - (j : Int).toNat; omega⟩
        · go_simp
          have ga0 := gb_alloc wr.drew (.cells #[.int .i64 0, .slice none 0 0] 30) none
          have bx := hb0.keep0 ga0
          have gw0 := gb_trans hg0 ga0
          have gX := gb_trans (gb_alloc wr (.cells #[.int .i64 0, .slice none 0 0] 30) none) (gb_drew _ none)
          have nz0 := (IsB.new wr 30 #[.int .i64 0, .slice none 0 0]).keep0 (gb_drew _ none)
          have zb : b ≠ wr.heap.size := Nat.ne_of_lt TT.out.box.lt
          have gz : W.heap.size ≤ wr.heap.size := TT.out.grown.size
          refine hK.out _ _ ⟨bx.cell 0, bx.cell 1, (CC.out _ gw0).1, (CC.out _ gw0).2.1, (CC.out _ gw0).2.2.1, (CC.out _ gw0).2.2.2⟩ (fun hH1 => ?_)
          clear hK K hH0
          try simp only [Act.put, List.getElem_toArray, List.getElem_cons_succ, List.getElem_cons_zero, List.setIfInBounds_toArray, List.set_cons_zero, List.set_cons_succ]
          refine wpAnyH_ready (rs := [16]) (by kernel_rfl) (by simp) ?_
          refine AllReadyH.cons (o := _) rfl (fun K hK => ?_) AllReadyH.nil
          go_simp
          (with_reducible refine (IR.out _ gX).mono ?_)
          rintro e w6 ⟨a2, n2, c2, rfl, en2, r2, gw6⟩
          try dsimp only
          have EN2 := Lib.hid en2
          clear en2
          have bx1 := (TT.out.box.keep0 gX).keep0 gw6
          have gw := gb_trans (gb_trans TT.out.grown gX) gw6
          refine hK.out _ _ ⟨bx1.cell 0, bx1.cell 1, (CC.out _ gw).1, (CC.out _ gw).2.1, (CC.out _ gw).2.2.1, (CC.out _ gw).2.2.2⟩ (fun hH2 => ?_)
          clear hK K hH1
          try simp only [Act.put, List.getElem_toArray, List.getElem_cons_succ, List.getElem_cons_zero, List.setIfInBounds_toArray, List.set_cons_zero, List.set_cons_succ]
          refine wpAnyH_take (i := 17) (v := ?v97) rfl (by kernel_rfl) (by kernel_rfl) (by kernel_rfl) (fun _ _ _ h => h) (Or.inl ⟨by rfl, ?hy97⟩) (by assumption) ?rest97
          case hy97 => (intro wz hSw; (try dsimp only at hSw); first | (go_simp; done) | (go_simp; with_reducible rfl))
          try simp only [Act.put, List.getElem_toArray, List.getElem_cons_succ, List.getElem_cons_zero, List.setIfInBounds_toArray, List.set_cons_zero, List.set_cons_succ]
          refine wpAnyH_take (i := 18) (v := ?v98) rfl (by kernel_rfl) (by kernel_rfl) (by kernel_rfl) (fun _ _ _ h => h) (Or.inl ⟨by rfl, ?hy98⟩) (by assumption) ?rest98
          case hy98 => (intro wz hSw; (try dsimp only at hSw); first | (go_simp; done) | (go_simp; with_reducible rfl))
          try simp only [Act.put, List.getElem_toArray, List.getElem_cons_succ, List.getElem_cons_zero, List.setIfInBounds_toArray, List.set_cons_zero, List.set_cons_succ]
          refine wpAnyH_take (i := 19) (v := ?v99) rfl (by kernel_rfl) (by kernel_rfl) (by kernel_rfl) (fun _ _ _ h => h) (Or.inl ⟨by rfl, ?hy99⟩) (by assumption) ?rest99
          case hy99 => (intro wz hSw; (try dsimp only at hSw); first | (go_simp; done) | (go_simp; with_reducible rfl))
          try simp only [Act.put, List.getElem_toArray, List.getElem_cons_succ, List.getElem_cons_zero, List.setIfInBounds_toArray, List.set_cons_zero, List.set_cons_succ]
          have nz := nz0.keep0 gw6
          have y0 := nz.cell 0
          have y1 := nz.cell 1
          have f0 := nz.free 0
          have f1 := nz.free 1
          dsimp at y0 y1
          have bx3 := (bx1.set_far zb 0 (.int .i64 wi)).set_far zb 1 (.slice a2 n2 c2)
          have gw3 : W.grownBy ((w6.setCell ⟨wr.heap.size, 0, none⟩ (.int .i64 wi)).setCell ⟨wr.heap.size, 1, none⟩ (.slice a2 n2 c2)) none := gb_put (gb_put gw gz) gz
          refine wpAnyH_ready (rs := [21]) (by kernel_rfl) (by simp) ?_
          refine AllReadyH.cons (o := _) rfl (fun K hK => ?_) AllReadyH.nil
          go_simp
          refine hK.out _ _ ⟨bx3.cell 0, bx3.cell 1, (CC.out _ gw3).1, (CC.out _ gw3).2.1, (CC.out _ gw3).2.2.1, (CC.out _ gw3).2.2.2⟩ (fun hH3 => ?_)
          clear hK K hH2
          try simp only [Act.put, List.getElem_toArray, List.getElem_cons_succ, List.getElem_cons_zero, List.setIfInBounds_toArray, List.set_cons_zero, List.set_cons_succ]
          refine wpAnyH_take (i := 22) (v := ?v100) rfl (by kernel_rfl) (by kernel_rfl) (by kernel_rfl) (fun _ _ _ h => h) (Or.inl ⟨by rfl, ?hy100⟩) (by assumption) ?rest100
          case hy100 => (intro wz hSw; (try dsimp only at hSw); first | (go_simp; done) | (go_simp; with_reducible rfl))
          try simp only [Act.put, List.getElem_toArray, List.getElem_cons_succ, List.getElem_cons_zero, List.setIfInBounds_toArray, List.set_cons_zero, List.set_cons_succ]
          refine wpAnyH_done (by kernel_rfl) ?_ _
          clear hH3
          have NZ := Lib.hid ((nz.set 0 (.int .i64 wi)).set 1 (.slice a2 n2 c2))
          have G8 := Lib.hid (show wr.grownBy ((w6.setCell ⟨wr.heap.size, 0, none⟩ (.int .i64 wi)).setCell ⟨wr.heap.size, 1, none⟩ (.slice a2 n2 c2)) none from gb_put (gb_put (gb_trans gX gw6) (Nat.le_refl _)) (Nat.le_refl _))
          have R8 := Lib.hid (own_kept (i := 1) (u := .slice a2 n2 c2) (own_kept (i := 0) (u := .int .i64 wi) r2 nz (by decide)) (nz.set 0 (.int .i64 wi)) (by decide))
          clear r2 y0 y1 f0 f1 bx bx1 bx3 gw gw0 gw3 nz nz0 ga0 gX zb gz gw6 GD hb0 hg0
          generalize (w6.setCell ⟨wr.heap.size, 0, none⟩ (.int .i64 wi)).setCell ⟨wr.heap.size, 1, none⟩ (.slice a2 n2 c2) = w8 at *
          generalize wr.heap.size = zz at *
          have TT8 := Lib.hid ((TT.out.keep0 G8.out).next)
          go_upto_region 11 with fail
          have KU := Lib.hid (fun (w' : World) (q0 : w8.grownBy w' none) => (⟨(TT8.out.box.keep0 q0).cell 0, (TT8.out.box.keep0 q0).cell 1, q0⟩ : (fun w' : World => w'.cell? ⟨b, 0, none⟩ = some (.int .i64 wi) ∧ w'.cell? ⟨b, 1, none⟩ = some (.slice a n c) ∧ w8.grownBy w' none) w'))
          have U0 := Lib.hid (gb_drew w8 none)
          refine wp_region_held_drew (S := (fun w' : World => w'.cell? ⟨b, 0, none⟩ = some (.int .i64 wi) ∧ w'.cell? ⟨b, 1, none⟩ = some (.slice a n c) ∧ w8.grownBy w' none)) (by kernel_rfl) (KU.out _ U0.out) (fun hH0 => ?_)
          refine wpAnyH_take (i := 0) (v := ?v101) rfl (by kernel_rfl) (by kernel_rfl) (by kernel_rfl) (fun _ _ _ h => h) (Or.inl ⟨by rfl, ?hy101⟩) (by assumption) ?rest101
          case hy101 => (intro wz hSw; (try dsimp only at hSw); first | (go_simp; done) | (go_simp; with_reducible rfl))
          try simp only [Act.put, List.getElem_toArray, List.getElem_cons_zero, List.setIfInBounds_toArray, List.set_cons_zero, List.set_cons_succ]
          refine wpAnyH_take (i := 1) (v := ?v102) rfl (by kernel_rfl) (by kernel_rfl) (by kernel_rfl) (fun _ _ _ h => h) (Or.inl ⟨by rfl, ?hy102⟩) (by assumption) ?rest102
          case hy102 => (intro wz hSw; (try dsimp only at hSw); first | (go_simp; done) | (go_simp; with_reducible rfl))
          try simp only [Act.put, List.getElem_toArray, List.getElem_cons_succ, List.getElem_cons_zero, List.setIfInBounds_toArray, List.set_cons_zero, List.set_cons_succ]
          refine wpAnyH_take (i := 2) (v := ?v103) rfl (by kernel_rfl) (by kernel_rfl) (by kernel_rfl) (fun _ _ _ h => h) (Or.inl ⟨by rfl, ?hy103⟩) (by assumption) ?rest103
          case hy103 => (intro wz hSw; (try dsimp only at hSw); first | (go_simp; done) | (go_simp; with_reducible rfl))
          try simp only [Act.put, List.getElem_toArray, List.getElem_cons_succ, List.getElem_cons_zero, List.setIfInBounds_toArray, List.set_cons_zero, List.set_cons_succ]
          refine wpAnyH_take (i := 3) (v := undef) rfl (by kernel_rfl) (by kernel_rfl) (by kernel_rfl) (fun _ _ _ h => h) (Or.inr ⟨by rfl, rfl⟩) (by assumption) ?_
          try simp only [Act.put, List.getElem_toArray, List.getElem_cons_succ, List.getElem_cons_zero, List.setIfInBounds_toArray, List.set_cons_zero, List.set_cons_succ]
          refine wpAnyH_take (i := 4) (v := undef) rfl (by kernel_rfl) (by kernel_rfl) (by kernel_rfl) (fun _ _ _ h => h) (Or.inr ⟨by rfl, rfl⟩) (by assumption) ?_
          try simp only [Act.put, List.getElem_toArray, List.getElem_cons_succ, List.getElem_cons_zero, List.setIfInBounds_toArray, List.set_cons_zero, List.set_cons_succ]
          refine wpAnyH_take (i := 5) (v := undef) rfl (by kernel_rfl) (by kernel_rfl) (by kernel_rfl) (fun _ _ _ h => h) (Or.inr ⟨by rfl, rfl⟩) (by assumption) ?_
          try simp only [Act.put, List.getElem_toArray, List.getElem_cons_succ, List.getElem_cons_zero, List.setIfInBounds_toArray, List.set_cons_zero, List.set_cons_succ]
          refine wpAnyH_take (i := 6) (v := undef) rfl (by kernel_rfl) (by kernel_rfl) (by kernel_rfl) (fun _ _ _ h => h) (Or.inr ⟨by rfl, rfl⟩) (by assumption) ?_
          try simp only [Act.put, List.getElem_toArray, List.getElem_cons_succ, List.getElem_cons_zero, List.setIfInBounds_toArray, List.set_cons_zero, List.set_cons_succ]
          refine wpAnyH_take (i := 7) (v := undef) rfl (by kernel_rfl) (by kernel_rfl) (by kernel_rfl) (fun _ _ _ h => h) (Or.inr ⟨by rfl, rfl⟩) (by assumption) ?_
          try simp only [Act.put, List.getElem_toArray, List.getElem_cons_succ, List.getElem_cons_zero, List.setIfInBounds_toArray, List.set_cons_zero, List.set_cons_succ]
          refine wpAnyH_take (i := 8) (v := undef) rfl (by kernel_rfl) (by kernel_rfl) (by kernel_rfl) (fun _ _ _ h => h) (Or.inr ⟨by rfl, rfl⟩) (by assumption) ?_
          try simp only [Act.put, List.getElem_toArray, List.getElem_cons_succ, List.getElem_cons_zero, List.setIfInBounds_toArray, List.set_cons_zero, List.set_cons_succ]
          refine wpAnyH_take (i := 9) (v := undef) rfl (by kernel_rfl) (by kernel_rfl) (by kernel_rfl) (fun _ _ _ h => h) (Or.inr ⟨by rfl, rfl⟩) (by assumption) ?_
          try simp only [Act.put, List.getElem_toArray, List.getElem_cons_succ, List.getElem_cons_zero, List.setIfInBounds_toArray, List.set_cons_zero, List.set_cons_succ]
          refine wpAnyH_take (i := 10) (v := undef) rfl (by kernel_rfl) (by kernel_rfl) (by kernel_rfl) (fun _ _ _ h => h) (Or.inr ⟨by rfl, rfl⟩) (by assumption) ?_
          try simp only [Act.put, List.getElem_toArray, List.getElem_cons_succ, List.getElem_cons_zero, List.setIfInBounds_toArray, List.set_cons_zero, List.set_cons_succ]
          refine wpAnyH_take (i := 11) (v := undef) rfl (by kernel_rfl) (by kernel_rfl) (by kernel_rfl) (fun _ _ _ h => h) (Or.inr ⟨by rfl, rfl⟩) (by assumption) ?_
          try simp only [Act.put, List.getElem_toArray, List.getElem_cons_succ, List.getElem_cons_zero, List.setIfInBounds_toArray, List.set_cons_zero, List.set_cons_succ]
          refine wpAnyH_take (i := 12) (v := undef) rfl (by kernel_rfl) (by kernel_rfl) (by kernel_rfl) (fun _ _ _ h => h) (Or.inr ⟨by rfl, rfl⟩) (by assumption) ?_
          try simp only [Act.put, List.getElem_toArray, List.getElem_cons_succ, List.getElem_cons_zero, List.setIfInBounds_toArray, List.set_cons_zero, List.set_cons_succ]
          refine wpAnyH_take (i := 13) (v := undef) rfl (by kernel_rfl) (by kernel_rfl) (by kernel_rfl) (fun _ _ _ h => h) (Or.inr ⟨by rfl, rfl⟩) (by assumption) ?_
          try simp only [Act.put, List.getElem_toArray, List.getElem_cons_succ, List.getElem_cons_zero, List.setIfInBounds_toArray, List.set_cons_zero, List.set_cons_succ]
          refine wpAnyH_take (i := 14) (v := undef) rfl (by kernel_rfl) (by kernel_rfl) (by kernel_rfl) (fun _ _ _ h => h) (Or.inr ⟨by rfl, rfl⟩) (by assumption) ?_
          try simp only [Act.put, List.getElem_toArray, List.getElem_cons_succ, List.getElem_cons_zero, List.setIfInBounds_toArray, List.set_cons_zero, List.set_cons_succ]
          refine wpAnyH_take (i := 15) (v := undef) rfl (by kernel_rfl) (by kernel_rfl) (by kernel_rfl) (fun _ _ _ h => h) (Or.inr ⟨by rfl, rfl⟩) (by assumption) ?_
          try simp only [Act.put, List.getElem_toArray, List.getElem_cons_succ, List.getElem_cons_zero, List.setIfInBounds_toArray, List.set_cons_zero, List.set_cons_succ]
          refine wpAnyH_take (i := 16) (v := undef) rfl (by kernel_rfl) (by kernel_rfl) (by kernel_rfl) (fun _ _ _ h => h) (Or.inr ⟨by rfl, rfl⟩) (by assumption) ?_
          try simp only [Act.put, List.getElem_toArray, List.getElem_cons_succ, List.getElem_cons_zero, List.setIfInBounds_toArray, List.set_cons_zero, List.set_cons_succ]
          refine wpAnyH_take (i := 17) (v := undef) rfl (by kernel_rfl) (by kernel_rfl) (by kernel_rfl) (fun _ _ _ h => h) (Or.inr ⟨by rfl, rfl⟩) (by assumption) ?_
          try simp only [Act.put, List.getElem_toArray, List.getElem_cons_succ, List.getElem_cons_zero, List.setIfInBounds_toArray, List.set_cons_zero, List.set_cons_succ]
          refine wpAnyH_take (i := 18) (v := undef) rfl (by kernel_rfl) (by kernel_rfl) (by kernel_rfl) (fun _ _ _ h => h) (Or.inr ⟨by rfl, rfl⟩) (by assumption) ?_
          try simp only [Act.put, List.getElem_toArray, List.getElem_cons_succ, List.getElem_cons_zero, List.setIfInBounds_toArray, List.set_cons_zero, List.set_cons_succ]
          refine wpAnyH_take (i := 19) (v := undef) rfl (by kernel_rfl) (by kernel_rfl) (by kernel_rfl) (fun _ _ _ h => h) (Or.inr ⟨by rfl, rfl⟩) (by assumption) ?_
          try simp only [Act.put, List.getElem_toArray, List.getElem_cons_succ, List.getElem_cons_zero, List.setIfInBounds_toArray, List.set_cons_zero, List.set_cons_succ]
          refine wpAnyH_take (i := 20) (v := undef) rfl (by kernel_rfl) (by kernel_rfl) (by kernel_rfl) (fun _ _ _ h => h) (Or.inr ⟨by rfl, rfl⟩) (by assumption) ?_
          try simp only [Act.put, List.getElem_toArray, List.getElem_cons_succ, List.getElem_cons_zero, List.setIfInBounds_toArray, List.set_cons_zero, List.set_cons_succ]
          refine wpAnyH_take (i := 21) (v := ?v104) rfl (by kernel_rfl) (by kernel_rfl) (by kernel_rfl) (fun _ _ _ h => h) (Or.inl ⟨by rfl, ?hy104⟩) (by assumption) ?rest104
          case hy104 => (intro wz hSw; (try dsimp only at hSw); first | (go_simp; done) | (go_simp; with_reducible rfl))
          try simp only [Act.put, List.getElem_toArray, List.getElem_cons_succ, List.getElem_cons_zero, List.setIfInBounds_toArray, List.set_cons_zero, List.set_cons_succ]
          refine wpAnyH_done (by kernel_rfl) ?_ _
          clear hH0
          have TT9 := Lib.hid (TT8.out.keep0 U0.out)
          go_wp2
          exact ⟨⟨j + 1, V, a, n, c, D, by omega, by simp, rfl, TT9.out⟩, by show len1 - ((j : Int) + 1).toNat < len1 - (j : Int).toNat; omega⟩
      · have IG := fun (w2 : World) (g : wr.grownBy w2 none) => ins_go W w2 qa sa wi (d, v, m, x) T (t1.out.keep0 g) ga gn (by have := t3.out; have := t4.out; have := L4.out; omega)
        dsimp only at IR IG
        replace IR := Lib.hid IR
        replace IG := Lib.hid IG
        replace ga := Lib.hid ga
        replace gn := Lib.hid gn
        go_upto_region 10 with fail
        have GD := gb_drew wr none
        have hb0 := TT.out.box.keep0 GD
        have hg0 := gb_trans TT.out.grown GD
        have hS0 : (fun w' : World => w'.cell? ⟨b, 0, none⟩ = some (.int .i64 wi) ∧ w'.cell? ⟨b, 1, none⟩ = some (.slice a n c) ∧ w'.cell? (ad.add (j * 4)) = some (.int .i64 d) ∧ w'.cell? ⟨(ad.add (j * 4)).block, (ad.add (j * 4)).off + 1, none⟩ = some (.int .u32 (v : Nat)) ∧ w'.cell? ⟨(ad.add (j * 4)).block, (ad.add (j * 4)).off + 2, none⟩ = some (.int .i64 m) ∧ w'.cell? ⟨(ad.add (j * 4)).block, (ad.add (j * 4)).off + 3, none⟩ = some (.int .i64 x)) wr.drew := ⟨hb0.cell 0, hb0.cell 1, (CC.out _ hg0).1, (CC.out _ hg0).2.1, (CC.out _ hg0).2.2.1, (CC.out _ hg0).2.2.2⟩
        refine wp_region_held_drew (S := (fun w' : World => w'.cell? ⟨b, 0, none⟩ = some (.int .i64 wi) ∧ w'.cell? ⟨b, 1, none⟩ = some (.slice a n c) ∧ w'.cell? (ad.add (j * 4)) = some (.int .i64 d) ∧ w'.cell? ⟨(ad.add (j * 4)).block, (ad.add (j * 4)).off + 1, none⟩ = some (.int .u32 (v : Nat)) ∧ w'.cell? ⟨(ad.add (j * 4)).block, (ad.add (j * 4)).off + 2, none⟩ = some (.int .i64 m) ∧ w'.cell? ⟨(ad.add (j * 4)).block, (ad.add (j * 4)).off + 3, none⟩ = some (.int .i64 x))) (by kernel_rfl) hS0 (fun hH0 => ?_)
        clear hS0
        refine wpAnyH_take (i := 0) (v := ?v105) rfl (by kernel_rfl) (by kernel_rfl) (by kernel_rfl) (fun _ _ _ h => h) (Or.inl ⟨by rfl, ?hy105⟩) (by assumption) ?rest105
        case hy105 => (intro wz hSw; (try dsimp only at hSw); first | (go_simp; done) | (go_simp; with_reducible rfl))
        try simp only [Act.put, List.getElem_toArray, List.getElem_cons_zero, List.setIfInBounds_toArray, List.set_cons_zero, List.set_cons_succ]
        refine wpAnyH_take (i := 1) (v := ?v106) rfl (by kernel_rfl) (by kernel_rfl) (by kernel_rfl) (fun _ _ _ h => h) (Or.inl ⟨by rfl, ?hy106⟩) (by assumption) ?rest106
        case hy106 => (intro wz hSw; (try dsimp only at hSw); first | (go_simp; done) | (go_simp; with_reducible rfl))
        try simp only [Act.put, List.getElem_toArray, List.getElem_cons_succ, List.getElem_cons_zero, List.setIfInBounds_toArray, List.set_cons_zero, List.set_cons_succ]
        refine wpAnyH_take (i := 2) (v := ?v107) rfl (by kernel_rfl) (by kernel_rfl) (by kernel_rfl) (fun _ _ _ h => h) (Or.inl ⟨by rfl, ?hy107⟩) (by assumption) ?rest107
        case hy107 => (intro wz hSw; (try dsimp only at hSw); first | (go_simp; done) | (go_simp; with_reducible rfl))
        try simp only [Act.put, List.getElem_toArray, List.getElem_cons_succ, List.getElem_cons_zero, List.setIfInBounds_toArray, List.set_cons_zero, List.set_cons_succ]
        refine wpAnyH_take (i := 3) (v := ?v108) rfl (by kernel_rfl) (by kernel_rfl) (by kernel_rfl) (fun _ _ _ h => h) (Or.inl ⟨by rfl, ?hy108⟩) (by assumption) ?rest108
        case hy108 => (intro wz hSw; (try dsimp only at hSw); first | (go_simp; done) | (go_simp; with_reducible rfl))
        try simp only [Act.put, List.getElem_toArray, List.getElem_cons_succ, List.getElem_cons_zero, List.setIfInBounds_toArray, List.set_cons_zero, List.set_cons_succ]
        refine wpAnyH_take (i := 4) (v := ?v109) rfl (by kernel_rfl) (by kernel_rfl) (by kernel_rfl) (fun _ _ _ h => h) (Or.inl ⟨by rfl, ?hy109⟩) (by assumption) ?rest109
        case hy109 => (intro wz hSw; (try dsimp only at hSw); first | (go_simp; done) | (go_simp; with_reducible rfl))
        try simp only [Act.put, List.getElem_toArray, List.getElem_cons_succ, List.getElem_cons_zero, List.setIfInBounds_toArray, List.set_cons_zero, List.set_cons_succ]
        refine wpAnyH_take (i := 5) (v := ?v110) rfl (by kernel_rfl) (by kernel_rfl) (by kernel_rfl) (fun _ _ _ h => h) (Or.inl ⟨by rfl, ?hy110⟩) (by assumption) ?rest110
        case hy110 => (intro wz hSw; (try dsimp only at hSw); first | (go_simp; done) | (go_simp; with_reducible rfl))
        try simp only [Act.put, List.getElem_toArray, List.getElem_cons_succ, List.getElem_cons_zero, List.setIfInBounds_toArray, List.set_cons_zero, List.set_cons_succ]
        refine wpAnyH_take (i := 6) (v := ?v111) rfl (by kernel_rfl) (by kernel_rfl) (by kernel_rfl) (fun _ _ _ h => h) (Or.inl ⟨by rfl, ?hy111⟩) (by assumption) ?rest111
        case hy111 => (intro wz hSw; (try dsimp only at hSw); first | (go_simp; done) | (go_simp; with_reducible rfl))
        try simp only [Act.put, List.getElem_toArray, List.getElem_cons_succ, List.getElem_cons_zero, List.setIfInBounds_toArray, List.set_cons_zero, List.set_cons_succ]
        refine wpAnyH_take (i := 7) (v := ?v112) rfl (by kernel_rfl) (by kernel_rfl) (by kernel_rfl) (fun _ _ _ h => h) (Or.inl ⟨by rfl, ?hy112⟩) (by assumption) ?rest112
        case hy112 => (intro wz hSw; (try dsimp only at hSw); first | (go_simp; done) | (go_simp; with_reducible rfl))
        try simp only [Act.put, List.getElem_toArray, List.getElem_cons_succ, List.getElem_cons_zero, List.setIfInBounds_toArray, List.set_cons_zero, List.set_cons_succ]
        refine wpAnyH_take (i := 8) (v := ?v113) rfl (by kernel_rfl) (by kernel_rfl) (by kernel_rfl) (fun _ _ _ h => h) (Or.inl ⟨by rfl, ?hy113⟩) (by assumption) ?rest113
        case hy113 => (intro wz hSw; (try dsimp only at hSw); first | (go_simp; done) | (go_simp; with_reducible rfl))
        try simp only [Act.put, List.getElem_toArray, List.getElem_cons_succ, List.getElem_cons_zero, List.setIfInBounds_toArray, List.set_cons_zero, List.set_cons_succ]
        refine wpAnyH_take (i := 9) (v := ?v114) rfl (by kernel_rfl) (by kernel_rfl) (by kernel_rfl) (fun _ _ _ h => h) (Or.inl ⟨by rfl, ?hy114⟩) (by assumption) ?rest114
        case hy114 => (intro wz hSw; (try dsimp only at hSw); first | (go_simp; done) | (go_simp; with_reducible rfl))
        try simp only [Act.put, List.getElem_toArray, List.getElem_cons_succ, List.getElem_cons_zero, List.setIfInBounds_toArray, List.set_cons_zero, List.set_cons_succ]
        refine wpAnyH_take (i := 10) (v := ?v115) rfl (by kernel_rfl) (by kernel_rfl) (by kernel_rfl) (fun _ _ _ h => h) (Or.inl ⟨by rfl, ?hy115⟩) (by assumption) ?rest115
        case hy115 => (intro wz hSw; (try dsimp only at hSw); first | (go_simp; done) | (go_simp; with_reducible rfl))
        try simp only [Act.put, List.getElem_toArray, List.getElem_cons_succ, List.getElem_cons_zero, List.setIfInBounds_toArray, List.set_cons_zero, List.set_cons_succ]
        refine wpAnyH_take (i := 11) (v := ?v116) rfl (by kernel_rfl) (by kernel_rfl) (by kernel_rfl) (fun _ _ _ h => h) (Or.inl ⟨by rfl, ?hy116⟩) (by assumption) ?rest116
        case hy116 => (intro wz hSw; (try dsimp only at hSw); first | (go_simp; done) | (go_simp; with_reducible rfl))
        try simp only [Act.put, List.getElem_toArray, List.getElem_cons_succ, List.getElem_cons_zero, List.setIfInBounds_toArray, List.set_cons_zero, List.set_cons_succ]
        refine wpAnyH_take (i := 12) (v := ?v117) rfl (by kernel_rfl) (by kernel_rfl) (by kernel_rfl) (fun _ _ _ h => h) (Or.inl ⟨by rfl, ?hy117⟩) (by assumption) ?rest117
        case hy117 => (intro wz hSw; (try dsimp only at hSw); first | (go_simp; done) | (go_simp; with_reducible rfl))
        try simp only [Act.put, List.getElem_toArray, List.getElem_cons_succ, List.getElem_cons_zero, List.setIfInBounds_toArray, List.set_cons_zero, List.set_cons_succ]
        refine wpAnyH_take (i := 13) (v := ?v118) rfl (by kernel_rfl) (by kernel_rfl) (by kernel_rfl) (fun _ _ _ h => h) (Or.inl ⟨by rfl, ?hy118⟩) (by assumption) ?rest118
        case hy118 => (intro wz hSw; (try dsimp only at hSw); first | (go_simp; done) | (go_simp; with_reducible rfl))
        try simp only [Act.put, List.getElem_toArray, List.getElem_cons_succ, List.getElem_cons_zero, List.setIfInBounds_toArray, List.set_cons_zero, List.set_cons_succ]
        refine wpAnyH_take (i := 14) (v := ?v119) rfl (by kernel_rfl) (by kernel_rfl) (by kernel_rfl) (fun _ _ _ h => h) (Or.inl ⟨by rfl, ?hy119⟩) (by assumption) ?rest119
        case hy119 => (intro wz hSw; (try dsimp only at hSw); first | (go_simp; done) | (go_simp; with_reducible rfl))
        try simp only [Act.put, List.getElem_toArray, List.getElem_cons_succ, List.getElem_cons_zero, List.setIfInBounds_toArray, List.set_cons_zero, List.set_cons_succ]
        refine wpAnyH_take (i := 15) (v := ?v120) rfl (by kernel_rfl) (by kernel_rfl) (by kernel_rfl) (fun _ _ _ h => h) (Or.inl ⟨by rfl, ?hy120⟩) (by assumption) ?rest120
        case hy120 => (intro wz hSw; (try dsimp only at hSw); first | (go_simp; done) | (go_simp; with_reducible rfl))
        try simp only [Act.put, List.getElem_toArray, List.getElem_cons_succ, List.getElem_cons_zero, List.setIfInBounds_toArray, List.set_cons_zero, List.set_cons_succ]
        refine wpAnyH_ready (rs := [16, 20]) (by kernel_rfl) (by simp) ?_
        refine AllReadyH.cons (o := _) rfl (fun K hK => ?_) (AllReadyH.cons (o := _) rfl (fun K hK => ?_) AllReadyH.nil)
        · go_simp
          (with_reducible refine (IR.out _ GD).mono ?_)
          rintro e w6 ⟨a2, n2, c2, rfl, en2, r2, gw6⟩
          try dsimp only
          have EN2 := Lib.hid en2
          clear en2
          have bx := hb0.keep0 gw6
          have gw := gb_trans hg0 gw6
          refine hK.out _ _ ⟨bx.cell 0, bx.cell 1, (CC.out _ gw).1, (CC.out _ gw).2.1, (CC.out _ gw).2.2.1, (CC.out _ gw).2.2.2⟩ (fun hH1 => ?_)
          clear hK K hH0
          try simp only [Act.put, List.getElem_toArray, List.getElem_cons_succ, List.getElem_cons_zero, List.setIfInBounds_toArray, List.set_cons_zero, List.set_cons_succ]
          refine wpAnyH_take (i := 17) (v := ?v121) rfl (by kernel_rfl) (by kernel_rfl) (by kernel_rfl) (fun _ _ _ h => h) (Or.inl ⟨by rfl, ?hy121⟩) (by assumption) ?rest121
          case hy121 => (intro wz hSw; (try dsimp only at hSw); first | (go_simp; done) | (go_simp; with_reducible rfl))
          try simp only [Act.put, List.getElem_toArray, List.getElem_cons_succ, List.getElem_cons_zero, List.setIfInBounds_toArray, List.set_cons_zero, List.set_cons_succ]
          refine wpAnyH_take (i := 18) (v := ?v122) rfl (by kernel_rfl) (by kernel_rfl) (by kernel_rfl) (fun _ _ _ h => h) (Or.inl ⟨by rfl, ?hy122⟩) (by assumption) ?rest122
          case hy122 => (intro wz hSw; (try dsimp only at hSw); first | (go_simp; done) | (go_simp; with_reducible rfl))
          try simp only [Act.put, List.getElem_toArray, List.getElem_cons_succ, List.getElem_cons_zero, List.setIfInBounds_toArray, List.set_cons_zero, List.set_cons_succ]
          refine wpAnyH_take (i := 19) (v := ?v123) rfl (by kernel_rfl) (by kernel_rfl) (by kernel_rfl) (fun _ _ _ h => h) (Or.inl ⟨by rfl, ?hy123⟩) (by assumption) ?rest123
          case hy123 => (intro wz hSw; (try dsimp only at hSw); first | (go_simp; done) | (go_simp; with_reducible rfl))
          try simp only [Act.put, List.getElem_toArray, List.getElem_cons_succ, List.getElem_cons_zero, List.setIfInBounds_toArray, List.set_cons_zero, List.set_cons_succ]
          refine wpAnyH_ready (rs := [20]) (by kernel_rfl) (by simp) ?_
          refine AllReadyH.cons (o := _) rfl (fun K hK => ?_) AllReadyH.nil
          go_simp
          have ga2 := gb_alloc w6 (.cells #[.int .i64 0, .slice none 0 0] 30) none
          have bx2 := bx.keep0 ga2
          have gw2 := gb_trans gw ga2
          have nz := IsB.new w6 30 #[.int .i64 0, .slice none 0 0]
          refine hK.out _ _ ⟨bx2.cell 0, bx2.cell 1, (CC.out _ gw2).1, (CC.out _ gw2).2.1, (CC.out _ gw2).2.2.1, (CC.out _ gw2).2.2.2⟩ (fun hH2 => ?_)
          clear hK K hH1
          try simp only [Act.put, List.getElem_toArray, List.getElem_cons_succ, List.getElem_cons_zero, List.setIfInBounds_toArray, List.set_cons_zero, List.set_cons_succ]
          have y0 := nz.cell 0
          have y1 := nz.cell 1
          have f0 := nz.free 0
          have f1 := nz.free 1
          dsimp at y0 y1
          have zb : b ≠ w6.heap.size := Nat.ne_of_lt bx.lt
          have ga3 := gb_alloc w6 (.cells #[.int .i64 wi, .slice a2 n2 c2] 30) none
          have bx3 := bx.keep0 ga3
          have gw3 := gb_trans gw ga3
          refine wpAnyH_ready (rs := [21]) (by kernel_rfl) (by simp) ?_
          refine AllReadyH.cons (o := _) rfl (fun K hK => ?_) AllReadyH.nil
          go_simp
          refine hK.out _ _ ⟨bx3.cell 0, bx3.cell 1, (CC.out _ gw3).1, (CC.out _ gw3).2.1, (CC.out _ gw3).2.2.1, (CC.out _ gw3).2.2.2⟩ (fun hH3 => ?_)
          clear hK K hH2
          try simp only [Act.put, List.getElem_toArray, List.getElem_cons_succ, List.getElem_cons_zero, List.setIfInBounds_toArray, List.set_cons_zero, List.set_cons_succ]
          refine wpAnyH_take (i := 22) (v := ?v124) rfl (by kernel_rfl) (by kernel_rfl) (by kernel_rfl) (fun _ _ _ h => h) (Or.inl ⟨by rfl, ?hy124⟩) (by assumption) ?rest124
          case hy124 => (intro wz hSw; (try dsimp only at hSw); first | (go_simp; done) | (go_simp; with_reducible rfl))
          try simp only [Act.put, List.getElem_toArray, List.getElem_cons_succ, List.getElem_cons_zero, List.setIfInBounds_toArray, List.set_cons_zero, List.set_cons_succ]
          refine wpAnyH_done (by kernel_rfl) ?_ _
          clear hH3
          have NZ := Lib.hid (IsB.new w6 30 #[.int .i64 wi, .slice a2 n2 c2])
          have G8 := Lib.hid (gb_trans GD (gb_trans gw6 ga3))
          have R8 := Lib.hid (r2.keep0 ga3)
          clear r2 y0 y1 f0 f1 bx bx2 bx3 gw gw2 gw3 nz ga2 ga3 zb gw6 GD hb0 hg0
          generalize w6.alloc (.cells #[.int .i64 wi, .slice a2 n2 c2] 30) = w8 at *
          generalize w6.heap.size = zz at *
          go_upto_region 11 with fail
          have GZ := Lib.hid (gb_trans G8.out (gb_drew w8 none))
          have gW := gb_trans TT.out.grown GZ.out
          have hS0 : (fun w' : World => w'.cell? (ad.add (j * 4)) = some (.int .i64 d) ∧ w'.cell? ⟨(ad.add (j * 4)).block, (ad.add (j * 4)).off + 1, none⟩ = some (.int .u32 (v : Nat)) ∧ w'.cell? ⟨(ad.add (j * 4)).block, (ad.add (j * 4)).off + 2, none⟩ = some (.int .i64 m) ∧ w'.cell? ⟨(ad.add (j * 4)).block, (ad.add (j * 4)).off + 3, none⟩ = some (.int .i64 x)) w8.drew := ⟨(CC.out _ gW).1, (CC.out _ gW).2.1, (CC.out _ gW).2.2.1, (CC.out _ gW).2.2.2⟩
          refine wp_region_held_drew (S := (fun w' : World => w'.cell? (ad.add (j * 4)) = some (.int .i64 d) ∧ w'.cell? ⟨(ad.add (j * 4)).block, (ad.add (j * 4)).off + 1, none⟩ = some (.int .u32 (v : Nat)) ∧ w'.cell? ⟨(ad.add (j * 4)).block, (ad.add (j * 4)).off + 2, none⟩ = some (.int .i64 m) ∧ w'.cell? ⟨(ad.add (j * 4)).block, (ad.add (j * 4)).off + 3, none⟩ = some (.int .i64 x))) (by kernel_rfl) hS0 (fun hH0 => ?_)
          clear hS0 gW
          refine wpAnyH_take (i := 0) (v := ?v125) rfl (by kernel_rfl) (by kernel_rfl) (by kernel_rfl) (fun _ _ _ h => h) (Or.inl ⟨by rfl, ?hy125⟩) (by assumption) ?rest125
          case hy125 => (intro wz hSw; (try dsimp only at hSw); first | (go_simp; done) | (go_simp; with_reducible rfl))
          try simp only [Act.put, List.getElem_toArray, List.getElem_cons_zero, List.setIfInBounds_toArray, List.set_cons_zero, List.set_cons_succ]
          refine wpAnyH_take (i := 1) (v := ?v126) rfl (by kernel_rfl) (by kernel_rfl) (by kernel_rfl) (fun _ _ _ h => h) (Or.inl ⟨by rfl, ?hy126⟩) (by assumption) ?rest126
          case hy126 => (intro wz hSw; (try dsimp only at hSw); first | (go_simp; done) | (go_simp; with_reducible rfl))
          try simp only [Act.put, List.getElem_toArray, List.getElem_cons_succ, List.getElem_cons_zero, List.setIfInBounds_toArray, List.set_cons_zero, List.set_cons_succ]
          refine wpAnyH_take (i := 2) (v := ?v127) rfl (by kernel_rfl) (by kernel_rfl) (by kernel_rfl) (fun _ _ _ h => h) (Or.inl ⟨by rfl, ?hy127⟩) (by assumption) ?rest127
          case hy127 => (intro wz hSw; (try dsimp only at hSw); first | (go_simp; done) | (go_simp; with_reducible rfl))
          try simp only [Act.put, List.getElem_toArray, List.getElem_cons_succ, List.getElem_cons_zero, List.setIfInBounds_toArray, List.set_cons_zero, List.set_cons_succ]
          refine wpAnyH_take (i := 3) (v := ?v128) rfl (by kernel_rfl) (by kernel_rfl) (by kernel_rfl) (fun _ _ _ h => h) (Or.inl ⟨by rfl, ?hy128⟩) (by assumption) ?rest128
          case hy128 => (intro wz hSw; (try dsimp only at hSw); first | (go_simp; done) | (go_simp; with_reducible rfl))
          try simp only [Act.put, List.getElem_toArray, List.getElem_cons_succ, List.getElem_cons_zero, List.setIfInBounds_toArray, List.set_cons_zero, List.set_cons_succ]
          refine wpAnyH_take (i := 4) (v := ?v129) rfl (by kernel_rfl) (by kernel_rfl) (by kernel_rfl) (fun _ _ _ h => h) (Or.inl ⟨by rfl, ?hy129⟩) (by assumption) ?rest129
          case hy129 => (intro wz hSw; (try dsimp only at hSw); first | (go_simp; done) | (go_simp; with_reducible rfl))
          try simp only [Act.put, List.getElem_toArray, List.getElem_cons_succ, List.getElem_cons_zero, List.setIfInBounds_toArray, List.set_cons_zero, List.set_cons_succ]
          refine wpAnyH_take (i := 5) (v := ?v130) rfl (by kernel_rfl) (by kernel_rfl) (by kernel_rfl) (fun _ _ _ h => h) (Or.inl ⟨by rfl, ?hy130⟩) (by assumption) ?rest130
          case hy130 => (intro wz hSw; (try dsimp only at hSw); first | (go_simp; done) | (go_simp; with_reducible rfl))
          try simp only [Act.put, List.getElem_toArray, List.getElem_cons_succ, List.getElem_cons_zero, List.setIfInBounds_toArray, List.set_cons_zero, List.set_cons_succ]
          refine wpAnyH_take (i := 6) (v := ?v131) rfl (by kernel_rfl) (by kernel_rfl) (by kernel_rfl) (fun _ _ _ h => h) (Or.inl ⟨by rfl, ?hy131⟩) (by assumption) ?rest131
          case hy131 => (intro wz hSw; (try dsimp only at hSw); first | (go_simp; done) | (go_simp; with_reducible rfl))
          try simp only [Act.put, List.getElem_toArray, List.getElem_cons_succ, List.getElem_cons_zero, List.setIfInBounds_toArray, List.set_cons_zero, List.set_cons_succ]
          refine wpAnyH_take (i := 7) (v := ?v132) rfl (by kernel_rfl) (by kernel_rfl) (by kernel_rfl) (fun _ _ _ h => h) (Or.inl ⟨by rfl, ?hy132⟩) (by assumption) ?rest132
          case hy132 => (intro wz hSw; (try dsimp only at hSw); first | (go_simp; done) | (go_simp; with_reducible rfl))
          try simp only [Act.put, List.getElem_toArray, List.getElem_cons_succ, List.getElem_cons_zero, List.setIfInBounds_toArray, List.set_cons_zero, List.set_cons_succ]
          refine wpAnyH_take (i := 8) (v := ?v133) rfl (by kernel_rfl) (by kernel_rfl) (by kernel_rfl) (fun _ _ _ h => h) (Or.inl ⟨by rfl, ?hy133⟩) (by assumption) ?rest133
          case hy133 => (intro wz hSw; (try dsimp only at hSw); first | (go_simp; done) | (go_simp; with_reducible rfl))
          try simp only [Act.put, List.getElem_toArray, List.getElem_cons_succ, List.getElem_cons_zero, List.setIfInBounds_toArray, List.set_cons_zero, List.set_cons_succ]
          refine wpAnyH_take (i := 9) (v := ?v134) rfl (by kernel_rfl) (by kernel_rfl) (by kernel_rfl) (fun _ _ _ h => h) (Or.inl ⟨by rfl, ?hy134⟩) (by assumption) ?rest134
          case hy134 => (intro wz hSw; (try dsimp only at hSw); first | (go_simp; done) | (go_simp; with_reducible rfl))
          try simp only [Act.put, List.getElem_toArray, List.getElem_cons_succ, List.getElem_cons_zero, List.setIfInBounds_toArray, List.set_cons_zero, List.set_cons_succ]
          refine wpAnyH_take (i := 10) (v := ?v135) rfl (by kernel_rfl) (by kernel_rfl) (by kernel_rfl) (fun _ _ _ h => h) (Or.inl ⟨by rfl, ?hy135⟩) (by assumption) ?rest135
          case hy135 => (intro wz hSw; (try dsimp only at hSw); first | (go_simp; done) | (go_simp; with_reducible rfl))
          try simp only [Act.put, List.getElem_toArray, List.getElem_cons_succ, List.getElem_cons_zero, List.setIfInBounds_toArray, List.set_cons_zero, List.set_cons_succ]
          refine wpAnyH_take (i := 11) (v := ?v136) rfl (by kernel_rfl) (by kernel_rfl) (by kernel_rfl) (fun _ _ _ h => h) (Or.inl ⟨by rfl, ?hy136⟩) (by assumption) ?rest136
          case hy136 => (intro wz hSw; (try dsimp only at hSw); first | (go_simp; done) | (go_simp; with_reducible rfl))
          try simp only [Act.put, List.getElem_toArray, List.getElem_cons_succ, List.getElem_cons_zero, List.setIfInBounds_toArray, List.set_cons_zero, List.set_cons_succ]
          refine wpAnyH_take (i := 12) (v := ?v137) rfl (by kernel_rfl) (by kernel_rfl) (by kernel_rfl) (fun _ _ _ h => h) (Or.inl ⟨by rfl, ?hy137⟩) (by assumption) ?rest137
          case hy137 => (intro wz hSw; (try dsimp only at hSw); first | (go_simp; done) | (go_simp; with_reducible rfl))
          try simp only [Act.put, List.getElem_toArray, List.getElem_cons_succ, List.getElem_cons_zero, List.setIfInBounds_toArray, List.set_cons_zero, List.set_cons_succ]
          refine wpAnyH_take (i := 13) (v := ?v138) rfl (by kernel_rfl) (by kernel_rfl) (by kernel_rfl) (fun _ _ _ h => h) (Or.inl ⟨by rfl, ?hy138⟩) (by assumption) ?rest138
          case hy138 => (intro wz hSw; (try dsimp only at hSw); first | (go_simp; done) | (go_simp; with_reducible rfl))
          try simp only [Act.put, List.getElem_toArray, List.getElem_cons_succ, List.getElem_cons_zero, List.setIfInBounds_toArray, List.set_cons_zero, List.set_cons_succ]
          refine wpAnyH_take (i := 14) (v := ?v139) rfl (by kernel_rfl) (by kernel_rfl) (by kernel_rfl) (fun _ _ _ h => h) (Or.inl ⟨by rfl, ?hy139⟩) (by assumption) ?rest139
          case hy139 => (intro wz hSw; (try dsimp only at hSw); first | (go_simp; done) | (go_simp; with_reducible rfl))
          try simp only [Act.put, List.getElem_toArray, List.getElem_cons_succ, List.getElem_cons_zero, List.setIfInBounds_toArray, List.set_cons_zero, List.set_cons_succ]
          refine wpAnyH_take (i := 15) (v := ?v140) rfl (by kernel_rfl) (by kernel_rfl) (by kernel_rfl) (fun _ _ _ h => h) (Or.inl ⟨by rfl, ?hy140⟩) (by assumption) ?rest140
          case hy140 => (intro wz hSw; (try dsimp only at hSw); first | (go_simp; done) | (go_simp; with_reducible rfl))
          try simp only [Act.put, List.getElem_toArray, List.getElem_cons_succ, List.getElem_cons_zero, List.setIfInBounds_toArray, List.set_cons_zero, List.set_cons_succ]
          refine wpAnyH_take (i := 16) (v := ?v141) rfl (by kernel_rfl) (by kernel_rfl) (by kernel_rfl) (fun _ _ _ h => h) (Or.inl ⟨by rfl, ?hy141⟩) (by assumption) ?rest141
          case hy141 => (intro wz hSw; (try dsimp only at hSw); first | (go_simp; done) | (go_simp; with_reducible rfl))
          try simp only [Act.put, List.getElem_toArray, List.getElem_cons_succ, List.getElem_cons_zero, List.setIfInBounds_toArray, List.set_cons_zero, List.set_cons_succ]
          refine wpAnyH_take (i := 17) (v := ?v142) rfl (by kernel_rfl) (by kernel_rfl) (by kernel_rfl) (fun _ _ _ h => h) (Or.inl ⟨by rfl, ?hy142⟩) (by assumption) ?rest142
          case hy142 => (intro wz hSw; (try dsimp only at hSw); first | (go_simp; done) | (go_simp; with_reducible rfl))
          try simp only [Act.put, List.getElem_toArray, List.getElem_cons_succ, List.getElem_cons_zero, List.setIfInBounds_toArray, List.set_cons_zero, List.set_cons_succ]
          refine wpAnyH_take (i := 18) (v := ?v143) rfl (by kernel_rfl) (by kernel_rfl) (by kernel_rfl) (fun _ _ _ h => h) (Or.inl ⟨by rfl, ?hy143⟩) (by assumption) ?rest143
          case hy143 => (intro wz hSw; (try dsimp only at hSw); first | (go_simp; done) | (go_simp; with_reducible rfl))
          try simp only [Act.put, List.getElem_toArray, List.getElem_cons_succ, List.getElem_cons_zero, List.setIfInBounds_toArray, List.set_cons_zero, List.set_cons_succ]
          refine wpAnyH_ready (rs := [19]) (by kernel_rfl) (by simp) ?_
          refine AllReadyH.cons (o := _) rfl (fun K hK => ?_) AllReadyH.nil
          go_simp
          (with_reducible refine (IG.out _ GZ.out).mono ?_)
          rintro e w9 ⟨pa, pf, rfl, l9, fx, _, _⟩
          try dsimp only
          have gL := l9.grown
          refine hK.out _ _ ⟨(CC.out _ gL).1, (CC.out _ gL).2.1, (CC.out _ gL).2.2.1, (CC.out _ gL).2.2.2⟩ (fun hH1 => ?_)
          clear hK K hH0
          try simp only [Act.put, List.getElem_toArray, List.getElem_cons_succ, List.getElem_cons_zero, List.setIfInBounds_toArray, List.set_cons_zero, List.set_cons_succ]
          refine wpAnyH_take (i := 20) (v := ?v144) rfl (by kernel_rfl) (by kernel_rfl) (by kernel_rfl) (fun _ _ _ h => h) (Or.inl ⟨by rfl, ?hy144⟩) (by assumption) ?rest144
          case hy144 => (intro wz hSw; (try dsimp only at hSw); first | (go_simp; done) | (go_simp; with_reducible rfl))
          try simp only [Act.put, List.getElem_toArray, List.getElem_cons_succ, List.getElem_cons_zero, List.setIfInBounds_toArray, List.set_cons_zero, List.set_cons_succ]
          refine wpAnyH_take (i := 21) (v := ?v145) rfl (by kernel_rfl) (by kernel_rfl) (by kernel_rfl) (fun _ _ _ h => h) (Or.inl ⟨by rfl, ?hy145⟩) (by assumption) ?rest145
          case hy145 => (intro wz hSw; (try dsimp only at hSw); first | (go_simp; done) | (go_simp; with_reducible rfl))
          try simp only [Act.put, List.getElem_toArray, List.getElem_cons_succ, List.getElem_cons_zero, List.setIfInBounds_toArray, List.set_cons_zero, List.set_cons_succ]
          refine wpAnyH_done (by kernel_rfl) ?_ _
          clear hH1
          have TI := Lib.hid (Ti.of TT.out GZ.out T t1.out t6.out t3.out t4.out t5.out (d, v, m, x) ga.out gn.out EN2.out (R8.out.keep0 (gb_drew w8 none)) l9 fx)
          have h8 := t1.out.keep0 GZ.out
          have nz9 := fx.isb (NZ.out.keep0 (gb_drew w8 none)) (h8.not_bs (NZ.out.keep0 (gb_drew w8 none)) (by decide) (by decide))
          have n0 : w9.cell? ⟨zz, 0, none⟩ = some (.int .i64 wi) := nz9.cell 0
          have n1 : w9.cell? ⟨zz, 1, none⟩ = some (.slice a2 n2 c2) := nz9.cell 1
          have c0 := TI.out.box.cell 0
          have c1 := TI.out.box.cell 1
          have f0 := TI.out.box.free 0
          have f1 := TI.out.box.free 1
          dsimp at c0 c1
          clear l9 fx h8 nz9 gL
          go_upto_region 13 with fail
          have TS := Lib.hid TI.out.set
          clear n0 n1 c0 c1 f0 f1 TI
          generalize (w9.setCell ⟨b, 0, none⟩ (.int .i64 wi)).setCell ⟨b, 1, none⟩ (.slice a2 n2 c2) = w10 at *
          have gS := TS.out.lb.grown
          obtain ⟨y0, y1, y2, y3⟩ := CC.out _ gS
          have GA := Lib.hid (gb_alloc w10 (.cells #[.int .i64 d, .int .u32 (v : Nat), .int .i64 m, .int .i64 x] 37) none)
          go_wp2_with (at_builtin; refine pushD rfl _ _ rfl (W.heap.size + 1) V D rfl (TS.out.keep0 GA.out).row ⟨w10.heap.size, 0, none⟩ 1 (d, v, m, x) rfl (new_cells _ _ _ (itD (d, v, m, x)) _ (IsB.new _ _ _) rfl) (by have := TS.out.dl; have := L4.out; omega) (by rw [alloc_sz]; have := gS.size; omega) ?_)
          intro V2 w11 r g
          have TW := Lib.hid ((TS.out.keep0 GA.out).push AZ.out r g)
          clear r g y0 y1 y2 y3 gS
          go_wp2
          exact ⟨⟨j + 1, V2, a2, n2, c2, D ++ [(d, v, m, x)], by omega, by simp, rfl, TW.out⟩, by show len1 - ((j : Int) + 1).toNat < len1 - (j : Int).toNat; omega⟩
        · go_simp
          have ga0 := gb_alloc wr.drew (.cells #[.int .i64 0, .slice none 0 0] 30) none
          have bx := hb0.keep0 ga0
          have gw0 := gb_trans hg0 ga0
          have gX := gb_trans (gb_alloc wr (.cells #[.int .i64 0, .slice none 0 0] 30) none) (gb_drew _ none)
          have nz0 := (IsB.new wr 30 #[.int .i64 0, .slice none 0 0]).keep0 (gb_drew _ none)
          have zb : b ≠ wr.heap.size := Nat.ne_of_lt TT.out.box.lt
          have gz : W.heap.size ≤ wr.heap.size := TT.out.grown.size
          refine hK.out _ _ ⟨bx.cell 0, bx.cell 1, (CC.out _ gw0).1, (CC.out _ gw0).2.1, (CC.out _ gw0).2.2.1, (CC.out _ gw0).2.2.2⟩ (fun hH1 => ?_)
          clear hK K hH0
          try simp only [Act.put, List.getElem_toArray, List.getElem_cons_succ, List.getElem_cons_zero, List.setIfInBounds_toArray, List.set_cons_zero, List.set_cons_succ]
          refine wpAnyH_ready (rs := [16]) (by kernel_rfl) (by simp) ?_
          refine AllReadyH.cons (o := _) rfl (fun K hK => ?_) AllReadyH.nil
          go_simp
          (with_reducible refine (IR.out _ gX).mono ?_)
          rintro e w6 ⟨a2, n2, c2, rfl, en2, r2, gw6⟩
          try dsimp only
          have EN2 := Lib.hid en2
          clear en2
          have bx1 := (TT.out.box.keep0 gX).keep0 gw6
          have gw := gb_trans (gb_trans TT.out.grown gX) gw6
          refine hK.out _ _ ⟨bx1.cell 0, bx1.cell 1, (CC.out _ gw).1, (CC.out _ gw).2.1, (CC.out _ gw).2.2.1, (CC.out _ gw).2.2.2⟩ (fun hH2 => ?_)
          clear hK K hH1
          try simp only [Act.put, List.getElem_toArray, List.getElem_cons_succ, List.getElem_cons_zero, List.setIfInBounds_toArray, List.set_cons_zero, List.set_cons_succ]
          refine wpAnyH_take (i := 17) (v := ?v146) rfl (by kernel_rfl) (by kernel_rfl) (by kernel_rfl) (fun _ _ _ h => h) (Or.inl ⟨by rfl, ?hy146⟩) (by assumption) ?rest146
          case hy146 => (intro wz hSw; (try dsimp only at hSw); first | (go_simp; done) | (go_simp; with_reducible rfl))
          try simp only [Act.put, List.getElem_toArray, List.getElem_cons_succ, List.getElem_cons_zero, List.setIfInBounds_toArray, List.set_cons_zero, List.set_cons_succ]
          refine wpAnyH_take (i := 18) (v := ?v147) rfl (by kernel_rfl) (by kernel_rfl) (by kernel_rfl) (fun _ _ _ h => h) (Or.inl ⟨by rfl, ?hy147⟩) (by assumption) ?rest147
          case hy147 => (intro wz hSw; (try dsimp only at hSw); first | (go_simp; done) | (go_simp; with_reducible rfl))
          try simp only [Act.put, List.getElem_toArray, List.getElem_cons_succ, List.getElem_cons_zero, List.setIfInBounds_toArray, List.set_cons_zero, List.set_cons_succ]
          refine wpAnyH_take (i := 19) (v := ?v148) rfl (by kernel_rfl) (by kernel_rfl) (by kernel_rfl) (fun _ _ _ h => h) (Or.inl ⟨by rfl, ?hy148⟩) (by assumption) ?rest148
          case hy148 => (intro wz hSw; (try dsimp only at hSw); first | (go_simp; done) | (go_simp; with_reducible rfl))
          try simp only [Act.put, List.getElem_toArray, List.getElem_cons_succ, List.getElem_cons_zero, List.setIfInBounds_toArray, List.set_cons_zero, List.set_cons_succ]
          have nz := nz0.keep0 gw6
          have y0 := nz.cell 0
          have y1 := nz.cell 1
          have f0 := nz.free 0
          have f1 := nz.free 1
          dsimp at y0 y1
          have bx3 := (bx1.set_far zb 0 (.int .i64 wi)).set_far zb 1 (.slice a2 n2 c2)
          have gw3 : W.grownBy ((w6.setCell ⟨wr.heap.size, 0, none⟩ (.int .i64 wi)).setCell ⟨wr.heap.size, 1, none⟩ (.slice a2 n2 c2)) none := gb_put (gb_put gw gz) gz
          refine wpAnyH_ready (rs := [21]) (by kernel_rfl) (by simp) ?_
          refine AllReadyH.cons (o := _) rfl (fun K hK => ?_) AllReadyH.nil
          go_simp
          refine hK.out _ _ ⟨bx3.cell 0, bx3.cell 1, (CC.out _ gw3).1, (CC.out _ gw3).2.1, (CC.out _ gw3).2.2.1, (CC.out _ gw3).2.2.2⟩ (fun hH3 => ?_)
          clear hK K hH2
          try simp only [Act.put, List.getElem_toArray, List.getElem_cons_succ, List.getElem_cons_zero, List.setIfInBounds_toArray, List.set_cons_zero, List.set_cons_succ]
          refine wpAnyH_take (i := 22) (v := ?v149) rfl (by kernel_rfl) (by kernel_rfl) (by kernel_rfl) (fun _ _ _ h => h) (Or.inl ⟨by rfl, ?hy149⟩) (by assumption) ?rest149
          case hy149 => (intro wz hSw; (try dsimp only at hSw); first | (go_simp; done) | (go_simp; with_reducible rfl))
          try simp only [Act.put, List.getElem_toArray, List.getElem_cons_succ, List.getElem_cons_zero, List.setIfInBounds_toArray, List.set_cons_zero, List.set_cons_succ]
          refine wpAnyH_done (by kernel_rfl) ?_ _
          clear hH3
          have NZ := Lib.hid ((nz.set 0 (.int .i64 wi)).set 1 (.slice a2 n2 c2))
          have G8 := Lib.hid (show wr.grownBy ((w6.setCell ⟨wr.heap.size, 0, none⟩ (.int .i64 wi)).setCell ⟨wr.heap.size, 1, none⟩ (.slice a2 n2 c2)) none from gb_put (gb_put (gb_trans gX gw6) (Nat.le_refl _)) (Nat.le_refl _))
          have R8 := Lib.hid (own_kept (i := 1) (u := .slice a2 n2 c2) (own_kept (i := 0) (u := .int .i64 wi) r2 nz (by decide)) (nz.set 0 (.int .i64 wi)) (by decide))
          clear r2 y0 y1 f0 f1 bx bx1 bx3 gw gw0 gw3 nz nz0 ga0 gX zb gz gw6 GD hb0 hg0
          generalize (w6.setCell ⟨wr.heap.size, 0, none⟩ (.int .i64 wi)).setCell ⟨wr.heap.size, 1, none⟩ (.slice a2 n2 c2) = w8 at *
          generalize wr.heap.size = zz at *
          go_upto_region 11 with fail
          have GZ := Lib.hid (gb_trans G8.out (gb_drew w8 none))
          have gW := gb_trans TT.out.grown GZ.out
          have hS0 : (fun w' : World => w'.cell? (ad.add (j * 4)) = some (.int .i64 d) ∧ w'.cell? ⟨(ad.add (j * 4)).block, (ad.add (j * 4)).off + 1, none⟩ = some (.int .u32 (v : Nat)) ∧ w'.cell? ⟨(ad.add (j * 4)).block, (ad.add (j * 4)).off + 2, none⟩ = some (.int .i64 m) ∧ w'.cell? ⟨(ad.add (j * 4)).block, (ad.add (j * 4)).off + 3, none⟩ = some (.int .i64 x)) w8.drew := ⟨(CC.out _ gW).1, (CC.out _ gW).2.1, (CC.out _ gW).2.2.1, (CC.out _ gW).2.2.2⟩
          refine wp_region_held_drew (S := (fun w' : World => w'.cell? (ad.add (j * 4)) = some (.int .i64 d) ∧ w'.cell? ⟨(ad.add (j * 4)).block, (ad.add (j * 4)).off + 1, none⟩ = some (.int .u32 (v : Nat)) ∧ w'.cell? ⟨(ad.add (j * 4)).block, (ad.add (j * 4)).off + 2, none⟩ = some (.int .i64 m) ∧ w'.cell? ⟨(ad.add (j * 4)).block, (ad.add (j * 4)).off + 3, none⟩ = some (.int .i64 x))) (by kernel_rfl) hS0 (fun hH0 => ?_)
          clear hS0 gW
          refine wpAnyH_take (i := 0) (v := ?v150) rfl (by kernel_rfl) (by kernel_rfl) (by kernel_rfl) (fun _ _ _ h => h) (Or.inl ⟨by rfl, ?hy150⟩) (by assumption) ?rest150
          case hy150 => (intro wz hSw; (try dsimp only at hSw); first | (go_simp; done) | (go_simp; with_reducible rfl))
          try simp only [Act.put, List.getElem_toArray, List.getElem_cons_zero, List.setIfInBounds_toArray, List.set_cons_zero, List.set_cons_succ]
          refine wpAnyH_take (i := 1) (v := ?v151) rfl (by kernel_rfl) (by kernel_rfl) (by kernel_rfl) (fun _ _ _ h => h) (Or.inl ⟨by rfl, ?hy151⟩) (by assumption) ?rest151
          case hy151 => (intro wz hSw; (try dsimp only at hSw); first | (go_simp; done) | (go_simp; with_reducible rfl))
          try simp only [Act.put, List.getElem_toArray, List.getElem_cons_succ, List.getElem_cons_zero, List.setIfInBounds_toArray, List.set_cons_zero, List.set_cons_succ]
          refine wpAnyH_take (i := 2) (v := ?v152) rfl (by kernel_rfl) (by kernel_rfl) (by kernel_rfl) (fun _ _ _ h => h) (Or.inl ⟨by rfl, ?hy152⟩) (by assumption) ?rest152
          case hy152 => (intro wz hSw; (try dsimp only at hSw); first | (go_simp; done) | (go_simp; with_reducible rfl))
          try simp only [Act.put, List.getElem_toArray, List.getElem_cons_succ, List.getElem_cons_zero, List.setIfInBounds_toArray, List.set_cons_zero, List.set_cons_succ]
          refine wpAnyH_take (i := 3) (v := ?v153) rfl (by kernel_rfl) (by kernel_rfl) (by kernel_rfl) (fun _ _ _ h => h) (Or.inl ⟨by rfl, ?hy153⟩) (by assumption) ?rest153
          case hy153 => (intro wz hSw; (try dsimp only at hSw); first | (go_simp; done) | (go_simp; with_reducible rfl))
          try simp only [Act.put, List.getElem_toArray, List.getElem_cons_succ, List.getElem_cons_zero, List.setIfInBounds_toArray, List.set_cons_zero, List.set_cons_succ]
          refine wpAnyH_take (i := 4) (v := ?v154) rfl (by kernel_rfl) (by kernel_rfl) (by kernel_rfl) (fun _ _ _ h => h) (Or.inl ⟨by rfl, ?hy154⟩) (by assumption) ?rest154
          case hy154 => (intro wz hSw; (try dsimp only at hSw); first | (go_simp; done) | (go_simp; with_reducible rfl))
          try simp only [Act.put, List.getElem_toArray, List.getElem_cons_succ, List.getElem_cons_zero, List.setIfInBounds_toArray, List.set_cons_zero, List.set_cons_succ]
          refine wpAnyH_take (i := 5) (v := ?v155) rfl (by kernel_rfl) (by kernel_rfl) (by kernel_rfl) (fun _ _ _ h => h) (Or.inl ⟨by rfl, ?hy155⟩) (by assumption) ?rest155
          case hy155 => (intro wz hSw; (try dsimp only at hSw); first | (go_simp; done) | (go_simp; with_reducible rfl))
          try simp only [Act.put, List.getElem_toArray, List.getElem_cons_succ, List.getElem_cons_zero, List.setIfInBounds_toArray, List.set_cons_zero, List.set_cons_succ]
          refine wpAnyH_take (i := 6) (v := ?v156) rfl (by kernel_rfl) (by kernel_rfl) (by kernel_rfl) (fun _ _ _ h => h) (Or.inl ⟨by rfl, ?hy156⟩) (by assumption) ?rest156
          case hy156 => (intro wz hSw; (try dsimp only at hSw); first | (go_simp; done) | (go_simp; with_reducible rfl))
          try simp only [Act.put, List.getElem_toArray, List.getElem_cons_succ, List.getElem_cons_zero, List.setIfInBounds_toArray, List.set_cons_zero, List.set_cons_succ]
          refine wpAnyH_take (i := 7) (v := ?v157) rfl (by kernel_rfl) (by kernel_rfl) (by kernel_rfl) (fun _ _ _ h => h) (Or.inl ⟨by rfl, ?hy157⟩) (by assumption) ?rest157
          case hy157 => (intro wz hSw; (try dsimp only at hSw); first | (go_simp; done) | (go_simp; with_reducible rfl))
          try simp only [Act.put, List.getElem_toArray, List.getElem_cons_succ, List.getElem_cons_zero, List.setIfInBounds_toArray, List.set_cons_zero, List.set_cons_succ]
          refine wpAnyH_take (i := 8) (v := ?v158) rfl (by kernel_rfl) (by kernel_rfl) (by kernel_rfl) (fun _ _ _ h => h) (Or.inl ⟨by rfl, ?hy158⟩) (by assumption) ?rest158
          case hy158 => (intro wz hSw; (try dsimp only at hSw); first | (go_simp; done) | (go_simp; with_reducible rfl))
          try simp only [Act.put, List.getElem_toArray, List.getElem_cons_succ, List.getElem_cons_zero, List.setIfInBounds_toArray, List.set_cons_zero, List.set_cons_succ]
          refine wpAnyH_take (i := 9) (v := ?v159) rfl (by kernel_rfl) (by kernel_rfl) (by kernel_rfl) (fun _ _ _ h => h) (Or.inl ⟨by rfl, ?hy159⟩) (by assumption) ?rest159
          case hy159 => (intro wz hSw; (try dsimp only at hSw); first | (go_simp; done) | (go_simp; with_reducible rfl))
          try simp only [Act.put, List.getElem_toArray, List.getElem_cons_succ, List.getElem_cons_zero, List.setIfInBounds_toArray, List.set_cons_zero, List.set_cons_succ]
          refine wpAnyH_take (i := 10) (v := ?v160) rfl (by kernel_rfl) (by kernel_rfl) (by kernel_rfl) (fun _ _ _ h => h) (Or.inl ⟨by rfl, ?hy160⟩) (by assumption) ?rest160
          case hy160 => (intro wz hSw; (try dsimp only at hSw); first | (go_simp; done) | (go_simp; with_reducible rfl))
          try simp only [Act.put, List.getElem_toArray, List.getElem_cons_succ, List.getElem_cons_zero, List.setIfInBounds_toArray, List.set_cons_zero, List.set_cons_succ]
          refine wpAnyH_take (i := 11) (v := ?v161) rfl (by kernel_rfl) (by kernel_rfl) (by kernel_rfl) (fun _ _ _ h => h) (Or.inl ⟨by rfl, ?hy161⟩) (by assumption) ?rest161
          case hy161 => (intro wz hSw; (try dsimp only at hSw); first | (go_simp; done) | (go_simp; with_reducible rfl))
          try simp only [Act.put, List.getElem_toArray, List.getElem_cons_succ, List.getElem_cons_zero, List.setIfInBounds_toArray, List.set_cons_zero, List.set_cons_succ]
          refine wpAnyH_take (i := 12) (v := ?v162) rfl (by kernel_rfl) (by kernel_rfl) (by kernel_rfl) (fun _ _ _ h => h) (Or.inl ⟨by rfl, ?hy162⟩) (by assumption) ?rest162
          case hy162 => (intro wz hSw; (try dsimp only at hSw); first | (go_simp; done) | (go_simp; with_reducible rfl))
          try simp only [Act.put, List.getElem_toArray, List.getElem_cons_succ, List.getElem_cons_zero, List.setIfInBounds_toArray, List.set_cons_zero, List.set_cons_succ]
          refine wpAnyH_take (i := 13) (v := ?v163) rfl (by kernel_rfl) (by kernel_rfl) (by kernel_rfl) (fun _ _ _ h => h) (Or.inl ⟨by rfl, ?hy163⟩) (by assumption) ?rest163
          case hy163 => (intro wz hSw; (try dsimp only at hSw); first | (go_simp; done) | (go_simp; with_reducible rfl))
          try simp only [Act.put, List.getElem_toArray, List.getElem_cons_succ, List.getElem_cons_zero, List.setIfInBounds_toArray, List.set_cons_zero, List.set_cons_succ]
          refine wpAnyH_take (i := 14) (v := ?v164) rfl (by kernel_rfl) (by kernel_rfl) (by kernel_rfl) (fun _ _ _ h => h) (Or.inl ⟨by rfl, ?hy164⟩) (by assumption) ?rest164
          case hy164 => (intro wz hSw; (try dsimp only at hSw); first | (go_simp; done) | (go_simp; with_reducible rfl))
          try simp only [Act.put, List.getElem_toArray, List.getElem_cons_succ, List.getElem_cons_zero, List.setIfInBounds_toArray, List.set_cons_zero, List.set_cons_succ]
          refine wpAnyH_take (i := 15) (v := ?v165) rfl (by kernel_rfl) (by kernel_rfl) (by kernel_rfl) (fun _ _ _ h => h) (Or.inl ⟨by rfl, ?hy165⟩) (by assumption) ?rest165
          case hy165 => (intro wz hSw; (try dsimp only at hSw); first | (go_simp; done) | (go_simp; with_reducible rfl))
          try simp only [Act.put, List.getElem_toArray, List.getElem_cons_succ, List.getElem_cons_zero, List.setIfInBounds_toArray, List.set_cons_zero, List.set_cons_succ]
          refine wpAnyH_take (i := 16) (v := ?v166) rfl (by kernel_rfl) (by kernel_rfl) (by kernel_rfl) (fun _ _ _ h => h) (Or.inl ⟨by rfl, ?hy166⟩) (by assumption) ?rest166
          case hy166 => (intro wz hSw; (try dsimp only at hSw); first | (go_simp; done) | (go_simp; with_reducible rfl))
          try simp only [Act.put, List.getElem_toArray, List.getElem_cons_succ, List.getElem_cons_zero, List.setIfInBounds_toArray, List.set_cons_zero, List.set_cons_succ]
          refine wpAnyH_take (i := 17) (v := ?v167) rfl (by kernel_rfl) (by kernel_rfl) (by kernel_rfl) (fun _ _ _ h => h) (Or.inl ⟨by rfl, ?hy167⟩) (by assumption) ?rest167
          case hy167 => (intro wz hSw; (try dsimp only at hSw); first | (go_simp; done) | (go_simp; with_reducible rfl))
          try simp only [Act.put, List.getElem_toArray, List.getElem_cons_succ, List.getElem_cons_zero, List.setIfInBounds_toArray, List.set_cons_zero, List.set_cons_succ]
          refine wpAnyH_take (i := 18) (v := ?v168) rfl (by kernel_rfl) (by kernel_rfl) (by kernel_rfl) (fun _ _ _ h => h) (Or.inl ⟨by rfl, ?hy168⟩) (by assumption) ?rest168
          case hy168 => (intro wz hSw; (try dsimp only at hSw); first | (go_simp; done) | (go_simp; with_reducible rfl))
          try simp only [Act.put, List.getElem_toArray, List.getElem_cons_succ, List.getElem_cons_zero, List.setIfInBounds_toArray, List.set_cons_zero, List.set_cons_succ]
          refine wpAnyH_ready (rs := [19]) (by kernel_rfl) (by simp) ?_
          refine AllReadyH.cons (o := _) rfl (fun K hK => ?_) AllReadyH.nil
          go_simp
          (with_reducible refine (IG.out _ GZ.out).mono ?_)
          rintro e w9 ⟨pa, pf, rfl, l9, fx, _, _⟩
          try dsimp only
          have gL := l9.grown
          refine hK.out _ _ ⟨(CC.out _ gL).1, (CC.out _ gL).2.1, (CC.out _ gL).2.2.1, (CC.out _ gL).2.2.2⟩ (fun hH1 => ?_)
          clear hK K hH0
          try simp only [Act.put, List.getElem_toArray, List.getElem_cons_succ, List.getElem_cons_zero, List.setIfInBounds_toArray, List.set_cons_zero, List.set_cons_succ]
          refine wpAnyH_take (i := 20) (v := ?v169) rfl (by kernel_rfl) (by kernel_rfl) (by kernel_rfl) (fun _ _ _ h => h) (Or.inl ⟨by rfl, ?hy169⟩) (by assumption) ?rest169
          case hy169 => (intro wz hSw; (try dsimp only at hSw); first | (go_simp; done) | (go_simp; with_reducible rfl))
          try simp only [Act.put, List.getElem_toArray, List.getElem_cons_succ, List.getElem_cons_zero, List.setIfInBounds_toArray, List.set_cons_zero, List.set_cons_succ]
          refine wpAnyH_take (i := 21) (v := ?v170) rfl (by kernel_rfl) (by kernel_rfl) (by kernel_rfl) (fun _ _ _ h => h) (Or.inl ⟨by rfl, ?hy170⟩) (by assumption) ?rest170
          case hy170 => (intro wz hSw; (try dsimp only at hSw); first | (go_simp; done) | (go_simp; with_reducible rfl))
          try simp only [Act.put, List.getElem_toArray, List.getElem_cons_succ, List.getElem_cons_zero, List.setIfInBounds_toArray, List.set_cons_zero, List.set_cons_succ]
          refine wpAnyH_done (by kernel_rfl) ?_ _
          clear hH1
          have TI := Lib.hid (Ti.of TT.out GZ.out T t1.out t6.out t3.out t4.out t5.out (d, v, m, x) ga.out gn.out EN2.out (R8.out.keep0 (gb_drew w8 none)) l9 fx)
          have h8 := t1.out.keep0 GZ.out
          have nz9 := fx.isb (NZ.out.keep0 (gb_drew w8 none)) (h8.not_bs (NZ.out.keep0 (gb_drew w8 none)) (by decide) (by decide))
          have n0 : w9.cell? ⟨zz, 0, none⟩ = some (.int .i64 wi) := nz9.cell 0
          have n1 : w9.cell? ⟨zz, 1, none⟩ = some (.slice a2 n2 c2) := nz9.cell 1
          have c0 := TI.out.box.cell 0
          have c1 := TI.out.box.cell 1
          have f0 := TI.out.box.free 0
          have f1 := TI.out.box.free 1
          dsimp at c0 c1
          clear l9 fx h8 nz9 gL
          go_upto_region 13 with fail
          have TS := Lib.hid TI.out.set
          clear n0 n1 c0 c1 f0 f1 TI
          generalize (w9.setCell ⟨b, 0, none⟩ (.int .i64 wi)).setCell ⟨b, 1, none⟩ (.slice a2 n2 c2) = w10 at *
          have gS := TS.out.lb.grown
          obtain ⟨y0, y1, y2, y3⟩ := CC.out _ gS
          have GA := Lib.hid (gb_alloc w10 (.cells #[.int .i64 d, .int .u32 (v : Nat), .int .i64 m, .int .i64 x] 37) none)
          go_wp2_with (at_builtin; refine pushD rfl _ _ rfl (W.heap.size + 1) V D rfl (TS.out.keep0 GA.out).row ⟨w10.heap.size, 0, none⟩ 1 (d, v, m, x) rfl (new_cells _ _ _ (itD (d, v, m, x)) _ (IsB.new _ _ _) rfl) (by have := TS.out.dl; have := L4.out; omega) (by rw [alloc_sz]; have := gS.size; omega) ?_)
          intro V2 w11 r g
          have TW := Lib.hid ((TS.out.keep0 GA.out).push AZ.out r g)
          clear r g y0 y1 y2 y3 gS
          go_wp2
          exact ⟨⟨j + 1, V2, a2, n2, c2, D ++ [(d, v, m, x)], by omega, by simp, rfl, TW.out⟩, by show len1 - ((j : Int) + 1).toNat < len1 - (j : Int).toNat; omega⟩
    · have i1 : ¬ (j : Int) < len1 := by omega
      obtain ⟨T, t1, t2, t3, t4, t5, t6⟩ := TT.out.ex
      obtain ⟨da, dc, rfl⟩ := TT.out.row.shape
      obtain ⟨N, hN⟩ : ∃ N, N = wr.heap.size := ⟨_, rfl⟩
      have TB0 := Lib.hid (show Tb W qa sa qb sb b wi N T D.length wr (.slice da D.length dc) a n c D from ⟨t1, ⟨.nil, TT.out.lb, by rw [List.drop_length]; exact dp_nil wi, (fun g h => by cases h), by simp [blks], by simp [ents]⟩, t2, TT.out.box, TT.out.row, t6, by have := TT.out.dl; have := L4.out; omega, TT.out.rg, fun g h => by rw [hN]; exact TN.lt t1.tn g h, by rw [hN]; exact Nat.le_refl _, TT.out.ss⟩)
      have hwD : IntKind.i64.wrap ((D.length : Int) - 1) = (D.length : Int) - 1 := by have := TT.out.dl; have := L4.out; rw [IntKind.wrap_i64]; omega
      obtain ⟨y, bb, GT, _⟩ := get_both W wr qa sa wi gv T gm a n c t1 GV.out (by have := L4.out; omega) t2 t3
      replace GT := Lib.hid GT
      replace t3 := Lib.hid t3
      replace t4 := Lib.hid (show n ≤ 40 by have := L4.out; omega)
      replace t5 := Lib.hid (show (blks T).length ≤ 80 by have := L4.out; omega)
      have LBN := Lib.hid TT.out.lb
      clear t1 t2 t6 hN
      have b0 := (TT.out.box.keep0 (gb_refl _ _)).cell 0
      have b1 := (TT.out.box.keep0 (gb_refl _ _)).cell 1
      have g0 := (TT.out.bg.keep0 (gb_refl _ _)).cell 0
      have g1 := (TT.out.bg.keep0 (gb_refl _ _)).cell 1
      have g2 := (TT.out.bg.keep0 (gb_refl _ _)).cell 2
      have g3 := (TT.out.bg.keep0 (gb_refl _ _)).cell 3
      dsimp at b0 b1 g0 g1 g2 g3
      go_wp2_with fail
      refine (GT.out _ (gb_refl _ _)).mono ?_
      rintro e w5 ⟨rfl, g⟩
      have G5 := Lib.hid g
      clear g GT
      clear b0 b1 g0 g1 g2 g3
      have TB5 := Lib.hid (TB0.out.keep0 G5.out)
      cases bb
      · have b0 := (TT.out.box.keep0 G5.out).cell 0
        have b1 := (TT.out.box.keep0 G5.out).cell 1
        have g0 := (TT.out.bg.keep0 G5.out).cell 0
        have g1 := (TT.out.bg.keep0 G5.out).cell 1
        have g2 := (TT.out.bg.keep0 G5.out).cell 2
        have g3 := (TT.out.bg.keep0 G5.out).cell 3
        dsimp at b0 b1 g0 g1 g2 g3
        rcases Tb.gone (gd, gv, gm, gx) TB5.out AG.out (LBN.out.keep0 G5.out) with ⟨k, hk, IC⟩ | IC
        · dsimp only at IC
          have hk2 : (k == 0) = false := by rw [beq_eq_false_iff_ne]; exact hk
          replace IC := Lib.hid IC
          clear hk
          go_wp2_with fail
          refine IC.out.mono ?_
          rintro e w6 ⟨rfl, tb⟩
          have TB6 := Lib.hid tb
          clear tb IC
          clear b0 b1 g0 g1 g2 g3
          go_wp2
          go_loopw [19] (fun i wrX => ∃ k : Nat, k ≤ D.length ∧ i = .int .i64 ((k : Int) - 1) ∧ Tb W qa sa qb sb b wi N T k wrX (.slice da D.length dc) a n c D) (fun i _ => (intOf i + 1).toNat)
          case atStart => exact ⟨D.length, Nat.le_refl _, rfl, TB6.out⟩
          case round =>
            obtain ⟨k, hk, rfl, hb⟩ := hrel
            have TB := Lib.hid hb
            clear hb
            by_cases hk0 : k = 0
            · subst hk0
              have i1 : ¬ (0 : Int) ≤ ((0 : Nat) : Int) - 1 := by omega
              obtain ⟨T2, l1, dp, _, s1, s2⟩ := TB.out.ex
              rw [List.drop_zero] at dp
              have EQ := DP.eq dp TB.out.da l1.ok.sorted TB.out.la.ok.sorted
              have SA_ := Lib.hid (fun (w2 : World) (g : wr.grownBy w2 none) => same_any W w2 qa sa wi T a n c (TB.out.la.keep0 g) (by have := t4.out; have := L4.out; omega) (by have := t5.out; have := L4.out; omega) (TB.out.ri.keep0 g) t3.out)
              have SB_ := Lib.hid (fun (w2 : World) (g : wr.grownBy w2 none) => same_any W w2 qb sb wi T2 a n c (l1.keep0 g) (by have := t4.out; have := L4.out; omega) (by have := TB.out.dl; omega) (by rw [EQ]; exact TB.out.ri.keep0 g) (by rw [EQ]; exact t3.out))
              clear l1 dp s1 s2 EQ
              have b0 := TB.out.box.cell 0
              have b1 := TB.out.box.cell 1
              dsimp at b0 b1
              go_wp2_with fail
              refine (SA_.out _ (gb_refl _ _)).mono ?_
              rintro e w6 ⟨rfl, g6⟩
              have G6 := Lib.hid g6
              clear g6 b0 b1
              have b0 := (TB.out.box.keep0 G6.out).cell 0
              have b1 := (TB.out.box.keep0 G6.out).cell 1
              dsimp at b0 b1
              go_wp2_with fail
              refine (SB_.out _ G6.out).mono ?_
              rintro e w7 ⟨rfl, g7⟩
              have G7 := Lib.hid (gb_trans TB.out.la.grown (gb_trans G6.out g7))
              clear g7 b0 b1
              go_wp2_with fail
              refine (works_any _).mono ?_
              rintro e w8 ⟨rfl, g8⟩
              have G8 := Lib.hid g8
              clear g8
              go_wp2
              go_ret
              exact ⟨rfl, gb_trans G7.out G8.out⟩
            · obtain ⟨k, rfl⟩ : ∃ k2, k = k2 + 1 := ⟨k - 1, by omega⟩
              have hkl : k < D.length := by omega
              have e0 : ((k + 1 : Nat) : Int) - 1 = (k : Int) := by omega
              rw [e0]
              have i1 : (0 : Int) ≤ (k : Int) := by omega
              have i2 : (k : Int) < (D.length : Int) := by omega
              have hw : IntKind.i64.wrap ((k : Int) - 1) = (k : Int) - 1 := by have := TB.out.dl; rw [IntKind.wrap_i64]; omega
              have IG := Lib.hid (fun (w2 : World) (g : wr.grownBy w2 none) => (TB.out.keep0 g).ins hkl)
              have CD := Lib.hid (fun (w2 : World) (kk : Nat) (q : Tb W qa sa qb sb b wi N T kk w2 (.slice da D.length dc) a n c D) (dad : Addr) (h : da = some dad) => (dr_sa rfl q.row q.rg).cells dad h k hkl)
              obtain ⟨dad, hda⟩ := (dr_sa rfl TB.out.row TB.out.rg).some (by omega)
              obtain ⟨z, hz⟩ : ∃ z, z = D.getD k az := ⟨_, rfl⟩
              rw [← hz] at IG CD
              obtain ⟨d, v, m, x⟩ := z
              dsimp only at IG CD
              have HDA := Lib.hid hda
              rw [hda]
              clear hz hda e0
              go_upto_region 20 with fail
              have hS0 : (fun w' : World => w'.cell? ⟨(dad.add (k * 4)).block, (dad.add (k * 4)).off + 1, none⟩ = some (.int .u32 (v : Nat)) ∧ w'.cell? ⟨(dad.add (k * 4)).block, (dad.add (k * 4)).off + 2, none⟩ = some (.int .i64 m) ∧ w'.cell? ⟨(dad.add (k * 4)).block, (dad.add (k * 4)).off + 3, none⟩ = some (.int .i64 x)) wr.drew := (CD.out _ _ (TB.out.keep0 (gb_drew wr none)) dad HDA.out).2
              refine wp_region_held_drew (S := (fun w' : World => w'.cell? ⟨(dad.add (k * 4)).block, (dad.add (k * 4)).off + 1, none⟩ = some (.int .u32 (v : Nat)) ∧ w'.cell? ⟨(dad.add (k * 4)).block, (dad.add (k * 4)).off + 2, none⟩ = some (.int .i64 m) ∧ w'.cell? ⟨(dad.add (k * 4)).block, (dad.add (k * 4)).off + 3, none⟩ = some (.int .i64 x))) (by kernel_rfl) hS0 (fun hH0 => ?_)
              clear hS0
              refine wpAnyH_take (i := 0) (v := ?v22) rfl (by kernel_rfl) (by kernel_rfl) (by kernel_rfl) (fun _ _ _ h => h) (Or.inl ⟨by rfl, ?hy22⟩) (by assumption) ?rest22
              case hy22 => (intro wz hSw; (try dsimp only at hSw); first | (go_simp; done) | (go_simp; with_reducible rfl))
              try simp only [Act.put, List.getElem_toArray, List.getElem_cons_zero, List.setIfInBounds_toArray, List.set_cons_zero, List.set_cons_succ]
              refine wpAnyH_take (i := 1) (v := ?v23) rfl (by kernel_rfl) (by kernel_rfl) (by kernel_rfl) (fun _ _ _ h => h) (Or.inl ⟨by rfl, ?hy23⟩) (by assumption) ?rest23
              case hy23 => (intro wz hSw; (try dsimp only at hSw); first | (go_simp; done) | (go_simp; with_reducible rfl))
              try simp only [Act.put, List.getElem_toArray, List.getElem_cons_succ, List.getElem_cons_zero, List.setIfInBounds_toArray, List.set_cons_zero, List.set_cons_succ]
              refine wpAnyH_take (i := 2) (v := ?v24) rfl (by kernel_rfl) (by kernel_rfl) (by kernel_rfl) (fun _ _ _ h => h) (Or.inl ⟨by rfl, ?hy24⟩) (by assumption) ?rest24
              case hy24 => (intro wz hSw; (try dsimp only at hSw); first | (go_simp; done) | (go_simp; with_reducible rfl))
              try simp only [Act.put, List.getElem_toArray, List.getElem_cons_succ, List.getElem_cons_zero, List.setIfInBounds_toArray, List.set_cons_zero, List.set_cons_succ]
              refine wpAnyH_take (i := 3) (v := ?v25) rfl (by kernel_rfl) (by kernel_rfl) (by kernel_rfl) (fun _ _ _ h => h) (Or.inl ⟨by rfl, ?hy25⟩) (by assumption) ?rest25
              case hy25 => (intro wz hSw; (try dsimp only at hSw); first | (go_simp; done) | (go_simp; with_reducible rfl))
              try simp only [Act.put, List.getElem_toArray, List.getElem_cons_succ, List.getElem_cons_zero, List.setIfInBounds_toArray, List.set_cons_zero, List.set_cons_succ]
              refine wpAnyH_take (i := 4) (v := ?v26) rfl (by kernel_rfl) (by kernel_rfl) (by kernel_rfl) (fun _ _ _ h => h) (Or.inl ⟨by rfl, ?hy26⟩) (by assumption) ?rest26
              case hy26 => (intro wz hSw; (try dsimp only at hSw); first | (go_simp; done) | (go_simp; with_reducible rfl))
              try simp only [Act.put, List.getElem_toArray, List.getElem_cons_succ, List.getElem_cons_zero, List.setIfInBounds_toArray, List.set_cons_zero, List.set_cons_succ]
              refine wpAnyH_take (i := 5) (v := ?v27) rfl (by kernel_rfl) (by kernel_rfl) (by kernel_rfl) (fun _ _ _ h => h) (Or.inl ⟨by rfl, ?hy27⟩) (by assumption) ?rest27
              case hy27 => (intro wz hSw; (try dsimp only at hSw); first | (go_simp; done) | (go_simp; with_reducible rfl))
              try simp only [Act.put, List.getElem_toArray, List.getElem_cons_succ, List.getElem_cons_zero, List.setIfInBounds_toArray, List.set_cons_zero, List.set_cons_succ]
              refine wpAnyH_take (i := 6) (v := ?v28) rfl (by kernel_rfl) (by kernel_rfl) (by kernel_rfl) (fun _ _ _ h => h) (Or.inl ⟨by rfl, ?hy28⟩) (by assumption) ?rest28
              case hy28 => (intro wz hSw; (try dsimp only at hSw); first | (go_simp; done) | (go_simp; with_reducible rfl))
              try simp only [Act.put, List.getElem_toArray, List.getElem_cons_succ, List.getElem_cons_zero, List.setIfInBounds_toArray, List.set_cons_zero, List.set_cons_succ]
              refine wpAnyH_take (i := 7) (v := ?v29) rfl (by kernel_rfl) (by kernel_rfl) (by kernel_rfl) (fun _ _ _ h => h) (Or.inl ⟨by rfl, ?hy29⟩) (by assumption) ?rest29
              case hy29 => (intro wz hSw; (try dsimp only at hSw); first | (go_simp; done) | (go_simp; with_reducible rfl))
              try simp only [Act.put, List.getElem_toArray, List.getElem_cons_succ, List.getElem_cons_zero, List.setIfInBounds_toArray, List.set_cons_zero, List.set_cons_succ]
              refine wpAnyH_take (i := 8) (v := ?v30) rfl (by kernel_rfl) (by kernel_rfl) (by kernel_rfl) (fun _ _ _ h => h) (Or.inl ⟨by rfl, ?hy30⟩) (by assumption) ?rest30
              case hy30 => (intro wz hSw; (try dsimp only at hSw); first | (go_simp; done) | (go_simp; with_reducible rfl))
              try simp only [Act.put, List.getElem_toArray, List.getElem_cons_succ, List.getElem_cons_zero, List.setIfInBounds_toArray, List.set_cons_zero, List.set_cons_succ]
              refine wpAnyH_take (i := 9) (v := ?v31) rfl (by kernel_rfl) (by kernel_rfl) (by kernel_rfl) (fun _ _ _ h => h) (Or.inl ⟨by rfl, ?hy31⟩) (by assumption) ?rest31
              case hy31 => (intro wz hSw; (try dsimp only at hSw); first | (go_simp; done) | (go_simp; with_reducible rfl))
              try simp only [Act.put, List.getElem_toArray, List.getElem_cons_succ, List.getElem_cons_zero, List.setIfInBounds_toArray, List.set_cons_zero, List.set_cons_succ]
              refine wpAnyH_take (i := 10) (v := ?v32) rfl (by kernel_rfl) (by kernel_rfl) (by kernel_rfl) (fun _ _ _ h => h) (Or.inl ⟨by rfl, ?hy32⟩) (by assumption) ?rest32
              case hy32 => (intro wz hSw; (try dsimp only at hSw); first | (go_simp; done) | (go_simp; with_reducible rfl))
              try simp only [Act.put, List.getElem_toArray, List.getElem_cons_succ, List.getElem_cons_zero, List.setIfInBounds_toArray, List.set_cons_zero, List.set_cons_succ]
              refine wpAnyH_take (i := 11) (v := ?v33) rfl (by kernel_rfl) (by kernel_rfl) (by kernel_rfl) (fun _ _ _ h => h) (Or.inl ⟨by rfl, ?hy33⟩) (by assumption) ?rest33
              case hy33 => (intro wz hSw; (try dsimp only at hSw); first | (go_simp; done) | (go_simp; with_reducible rfl))
              try simp only [Act.put, List.getElem_toArray, List.getElem_cons_succ, List.getElem_cons_zero, List.setIfInBounds_toArray, List.set_cons_zero, List.set_cons_succ]
              refine wpAnyH_take (i := 12) (v := ?v34) rfl (by kernel_rfl) (by kernel_rfl) (by kernel_rfl) (fun _ _ _ h => h) (Or.inl ⟨by rfl, ?hy34⟩) (by assumption) ?rest34
              case hy34 => (intro wz hSw; (try dsimp only at hSw); first | (go_simp; done) | (go_simp; with_reducible rfl))
              try simp only [Act.put, List.getElem_toArray, List.getElem_cons_succ, List.getElem_cons_zero, List.setIfInBounds_toArray, List.set_cons_zero, List.set_cons_succ]
              refine wpAnyH_take (i := 13) (v := ?v35) rfl (by kernel_rfl) (by kernel_rfl) (by kernel_rfl) (fun _ _ _ h => h) (Or.inl ⟨by rfl, ?hy35⟩) (by assumption) ?rest35
              case hy35 => (intro wz hSw; (try dsimp only at hSw); first | (go_simp; done) | (go_simp; with_reducible rfl))
              try simp only [Act.put, List.getElem_toArray, List.getElem_cons_succ, List.getElem_cons_zero, List.setIfInBounds_toArray, List.set_cons_zero, List.set_cons_succ]
              refine wpAnyH_take (i := 14) (v := ?v36) rfl (by kernel_rfl) (by kernel_rfl) (by kernel_rfl) (fun _ _ _ h => h) (Or.inl ⟨by rfl, ?hy36⟩) (by assumption) ?rest36
              case hy36 => (intro wz hSw; (try dsimp only at hSw); first | (go_simp; done) | (go_simp; with_reducible rfl))
              try simp only [Act.put, List.getElem_toArray, List.getElem_cons_succ, List.getElem_cons_zero, List.setIfInBounds_toArray, List.set_cons_zero, List.set_cons_succ]
              refine wpAnyH_take (i := 15) (v := ?v37) rfl (by kernel_rfl) (by kernel_rfl) (by kernel_rfl) (fun _ _ _ h => h) (Or.inl ⟨by rfl, ?hy37⟩) (by assumption) ?rest37
              case hy37 => (intro wz hSw; (try dsimp only at hSw); first | (go_simp; done) | (go_simp; with_reducible rfl))
              try simp only [Act.put, List.getElem_toArray, List.getElem_cons_succ, List.getElem_cons_zero, List.setIfInBounds_toArray, List.set_cons_zero, List.set_cons_succ]
              refine wpAnyH_ready (rs := [16]) (by kernel_rfl) (by simp) ?_
              refine AllReadyH.cons (o := _) rfl (fun K hK => ?_) AllReadyH.nil
              go_simp
              (with_reducible refine (IG.out _ (gb_drew wr none)).mono ?_)
              rintro e w9 ⟨rfl, tb9⟩
              try dsimp only
              refine hK.out _ _ (CD.out _ _ tb9 dad HDA.out).2 (fun hH1 => ?_)
              clear hK K hH0
              try simp only [Act.put, List.getElem_toArray, List.getElem_cons_succ, List.getElem_cons_zero, List.setIfInBounds_toArray, List.set_cons_zero, List.set_cons_succ]
              refine wpAnyH_take (i := 17) (v := ?v38) rfl (by kernel_rfl) (by kernel_rfl) (by kernel_rfl) (fun _ _ _ h => h) (Or.inl ⟨by rfl, ?hy38⟩) (by assumption) ?rest38
              case hy38 => (intro wz hSw; (try dsimp only at hSw); first | (go_simp; done) | (go_simp; with_reducible rfl))
              try simp only [Act.put, List.getElem_toArray, List.getElem_cons_succ, List.getElem_cons_zero, List.setIfInBounds_toArray, List.set_cons_zero, List.set_cons_succ]
              refine wpAnyH_done (by kernel_rfl) ?_ _
              clear hH1
              have TB9 := Lib.hid tb9
              clear tb9
              go_wp2
              exact ⟨⟨k, by omega, by first | rfl | simp, by rw [← HDA.out]; exact TB9.out⟩, by show ((k : Int) - 1 + 1).toNat < ((k : Int) + 1).toNat; omega⟩
        · dsimp only at IC
          replace IC := Lib.hid IC
          go_wp2_with fail
          refine IC.out.mono ?_
          rintro e w6 ⟨rfl, gW6, kk, DC⟩
          have bgk := kk _ _ _ (TT.out.bg.keep0 G5.out) rfl
          clear b0 b1 g0 g1 g2 g3
          have g0 := bgk.cell 0
          have g1 := bgk.cell 1
          have g2 := bgk.cell 2
          have g3 := bgk.cell 3
          dsimp at g0 g1 g2 g3
          have DCH := Lib.hid DC
          clear DC kk bgk IC gW6
          go_wp2_with fail
          refine (DCH.out _ (gb_refl _ _)).mono ?_
          rintro e w7 ⟨rfl, tb⟩
          have TB7 := Lib.hid tb
          clear tb g0 g1 g2 g3 DCH
          go_wp2
          go_loopw [19] (fun i wrX => ∃ k : Nat, k ≤ D.length ∧ i = .int .i64 ((k : Int) - 1) ∧ Tb W qa sa qb sb b wi N T k wrX (.slice da D.length dc) a n c D) (fun i _ => (intOf i + 1).toNat)
          case atStart => exact ⟨D.length, Nat.le_refl _, rfl, TB7.out⟩
          case round =>
            obtain ⟨k, hk, rfl, hb⟩ := hrel
            have TB := Lib.hid hb
            clear hb
            by_cases hk0 : k = 0
            · subst hk0
              have i1 : ¬ (0 : Int) ≤ ((0 : Nat) : Int) - 1 := by omega
              obtain ⟨T2, l1, dp, _, s1, s2⟩ := TB.out.ex
              rw [List.drop_zero] at dp
              have EQ := DP.eq dp TB.out.da l1.ok.sorted TB.out.la.ok.sorted
              have SA_ := Lib.hid (fun (w2 : World) (g : wr.grownBy w2 none) => same_any W w2 qa sa wi T a n c (TB.out.la.keep0 g) (by have := t4.out; have := L4.out; omega) (by have := t5.out; have := L4.out; omega) (TB.out.ri.keep0 g) t3.out)
              have SB_ := Lib.hid (fun (w2 : World) (g : wr.grownBy w2 none) => same_any W w2 qb sb wi T2 a n c (l1.keep0 g) (by have := t4.out; have := L4.out; omega) (by have := TB.out.dl; omega) (by rw [EQ]; exact TB.out.ri.keep0 g) (by rw [EQ]; exact t3.out))
              clear l1 dp s1 s2 EQ
              have b0 := TB.out.box.cell 0
              have b1 := TB.out.box.cell 1
              dsimp at b0 b1
              go_wp2_with fail
              refine (SA_.out _ (gb_refl _ _)).mono ?_
              rintro e w6 ⟨rfl, g6⟩
              have G6 := Lib.hid g6
              clear g6 b0 b1
              have b0 := (TB.out.box.keep0 G6.out).cell 0
              have b1 := (TB.out.box.keep0 G6.out).cell 1
              dsimp at b0 b1
              go_wp2_with fail
              refine (SB_.out _ G6.out).mono ?_
              rintro e w7 ⟨rfl, g7⟩
              have G7 := Lib.hid (gb_trans TB.out.la.grown (gb_trans G6.out g7))
              clear g7 b0 b1
              go_wp2_with fail
              refine (works_any _).mono ?_
              rintro e w8 ⟨rfl, g8⟩
              have G8 := Lib.hid g8
              clear g8
              go_wp2
              go_ret
              exact ⟨rfl, gb_trans G7.out G8.out⟩
            · obtain ⟨k, rfl⟩ : ∃ k2, k = k2 + 1 := ⟨k - 1, by omega⟩
              have hkl : k < D.length := by omega
              have e0 : ((k + 1 : Nat) : Int) - 1 = (k : Int) := by omega
              rw [e0]
              have i1 : (0 : Int) ≤ (k : Int) := by omega
              have i2 : (k : Int) < (D.length : Int) := by omega
              have hw : IntKind.i64.wrap ((k : Int) - 1) = (k : Int) - 1 := by have := TB.out.dl; rw [IntKind.wrap_i64]; omega
              have IG := Lib.hid (fun (w2 : World) (g : wr.grownBy w2 none) => (TB.out.keep0 g).ins hkl)
              have CD := Lib.hid (fun (w2 : World) (kk : Nat) (q : Tb W qa sa qb sb b wi N T kk w2 (.slice da D.length dc) a n c D) (dad : Addr) (h : da = some dad) => (dr_sa rfl q.row q.rg).cells dad h k hkl)
              obtain ⟨dad, hda⟩ := (dr_sa rfl TB.out.row TB.out.rg).some (by omega)
              obtain ⟨z, hz⟩ : ∃ z, z = D.getD k az := ⟨_, rfl⟩
              rw [← hz] at IG CD
              obtain ⟨d, v, m, x⟩ := z
              dsimp only at IG CD
              have HDA := Lib.hid hda
              rw [hda]
              clear hz hda e0
              go_upto_region 20 with fail
              have hS0 : (fun w' : World => w'.cell? ⟨(dad.add (k * 4)).block, (dad.add (k * 4)).off + 1, none⟩ = some (.int .u32 (v : Nat)) ∧ w'.cell? ⟨(dad.add (k * 4)).block, (dad.add (k * 4)).off + 2, none⟩ = some (.int .i64 m) ∧ w'.cell? ⟨(dad.add (k * 4)).block, (dad.add (k * 4)).off + 3, none⟩ = some (.int .i64 x)) wr.drew := (CD.out _ _ (TB.out.keep0 (gb_drew wr none)) dad HDA.out).2
              refine wp_region_held_drew (S := (fun w' : World => w'.cell? ⟨(dad.add (k * 4)).block, (dad.add (k * 4)).off + 1, none⟩ = some (.int .u32 (v : Nat)) ∧ w'.cell? ⟨(dad.add (k * 4)).block, (dad.add (k * 4)).off + 2, none⟩ = some (.int .i64 m) ∧ w'.cell? ⟨(dad.add (k * 4)).block, (dad.add (k * 4)).off + 3, none⟩ = some (.int .i64 x))) (by kernel_rfl) hS0 (fun hH0 => ?_)
              clear hS0
              refine wpAnyH_take (i := 0) (v := ?v39) rfl (by kernel_rfl) (by kernel_rfl) (by kernel_rfl) (fun _ _ _ h => h) (Or.inl ⟨by rfl, ?hy39⟩) (by assumption) ?rest39
              case hy39 => (intro wz hSw; (try dsimp only at hSw); first | (go_simp; done) | (go_simp; with_reducible rfl))
              try simp only [Act.put, List.getElem_toArray, List.getElem_cons_zero, List.setIfInBounds_toArray, List.set_cons_zero, List.set_cons_succ]
              refine wpAnyH_take (i := 1) (v := ?v40) rfl (by kernel_rfl) (by kernel_rfl) (by kernel_rfl) (fun _ _ _ h => h) (Or.inl ⟨by rfl, ?hy40⟩) (by assumption) ?rest40
              case hy40 => (intro wz hSw; (try dsimp only at hSw); first | (go_simp; done) | (go_simp; with_reducible rfl))
              try simp only [Act.put, List.getElem_toArray, List.getElem_cons_succ, List.getElem_cons_zero, List.setIfInBounds_toArray, List.set_cons_zero, List.set_cons_succ]
              refine wpAnyH_take (i := 2) (v := ?v41) rfl (by kernel_rfl) (by kernel_rfl) (by kernel_rfl) (fun _ _ _ h => h) (Or.inl ⟨by rfl, ?hy41⟩) (by assumption) ?rest41
              case hy41 => (intro wz hSw; (try dsimp only at hSw); first | (go_simp; done) | (go_simp; with_reducible rfl))
              try simp only [Act.put, List.getElem_toArray, List.getElem_cons_succ, List.getElem_cons_zero, List.setIfInBounds_toArray, List.set_cons_zero, List.set_cons_succ]
              refine wpAnyH_take (i := 3) (v := ?v42) rfl (by kernel_rfl) (by kernel_rfl) (by kernel_rfl) (fun _ _ _ h => h) (Or.inl ⟨by rfl, ?hy42⟩) (by assumption) ?rest42
              case hy42 => (intro wz hSw; (try dsimp only at hSw); first | (go_simp; done) | (go_simp; with_reducible rfl))
              try simp only [Act.put, List.getElem_toArray, List.getElem_cons_succ, List.getElem_cons_zero, List.setIfInBounds_toArray, List.set_cons_zero, List.set_cons_succ]
              refine wpAnyH_take (i := 4) (v := ?v43) rfl (by kernel_rfl) (by kernel_rfl) (by kernel_rfl) (fun _ _ _ h => h) (Or.inl ⟨by rfl, ?hy43⟩) (by assumption) ?rest43
              case hy43 => (intro wz hSw; (try dsimp only at hSw); first | (go_simp; done) | (go_simp; with_reducible rfl))
              try simp only [Act.put, List.getElem_toArray, List.getElem_cons_succ, List.getElem_cons_zero, List.setIfInBounds_toArray, List.set_cons_zero, List.set_cons_succ]
              refine wpAnyH_take (i := 5) (v := ?v44) rfl (by kernel_rfl) (by kernel_rfl) (by kernel_rfl) (fun _ _ _ h => h) (Or.inl ⟨by rfl, ?hy44⟩) (by assumption) ?rest44
              case hy44 => (intro wz hSw; (try dsimp only at hSw); first | (go_simp; done) | (go_simp; with_reducible rfl))
              try simp only [Act.put, List.getElem_toArray, List.getElem_cons_succ, List.getElem_cons_zero, List.setIfInBounds_toArray, List.set_cons_zero, List.set_cons_succ]
              refine wpAnyH_take (i := 6) (v := ?v45) rfl (by kernel_rfl) (by kernel_rfl) (by kernel_rfl) (fun _ _ _ h => h) (Or.inl ⟨by rfl, ?hy45⟩) (by assumption) ?rest45
              case hy45 => (intro wz hSw; (try dsimp only at hSw); first | (go_simp; done) | (go_simp; with_reducible rfl))
              try simp only [Act.put, List.getElem_toArray, List.getElem_cons_succ, List.getElem_cons_zero, List.setIfInBounds_toArray, List.set_cons_zero, List.set_cons_succ]
              refine wpAnyH_take (i := 7) (v := ?v46) rfl (by kernel_rfl) (by kernel_rfl) (by kernel_rfl) (fun _ _ _ h => h) (Or.inl ⟨by rfl, ?hy46⟩) (by assumption) ?rest46
              case hy46 => (intro wz hSw; (try dsimp only at hSw); first | (go_simp; done) | (go_simp; with_reducible rfl))
              try simp only [Act.put, List.getElem_toArray, List.getElem_cons_succ, List.getElem_cons_zero, List.setIfInBounds_toArray, List.set_cons_zero, List.set_cons_succ]
              refine wpAnyH_take (i := 8) (v := ?v47) rfl (by kernel_rfl) (by kernel_rfl) (by kernel_rfl) (fun _ _ _ h => h) (Or.inl ⟨by rfl, ?hy47⟩) (by assumption) ?rest47
              case hy47 => (intro wz hSw; (try dsimp only at hSw); first | (go_simp; done) | (go_simp; with_reducible rfl))
              try simp only [Act.put, List.getElem_toArray, List.getElem_cons_succ, List.getElem_cons_zero, List.setIfInBounds_toArray, List.set_cons_zero, List.set_cons_succ]
              refine wpAnyH_take (i := 9) (v := ?v48) rfl (by kernel_rfl) (by kernel_rfl) (by kernel_rfl) (fun _ _ _ h => h) (Or.inl ⟨by rfl, ?hy48⟩) (by assumption) ?rest48
              case hy48 => (intro wz hSw; (try dsimp only at hSw); first | (go_simp; done) | (go_simp; with_reducible rfl))
              try simp only [Act.put, List.getElem_toArray, List.getElem_cons_succ, List.getElem_cons_zero, List.setIfInBounds_toArray, List.set_cons_zero, List.set_cons_succ]
              refine wpAnyH_take (i := 10) (v := ?v49) rfl (by kernel_rfl) (by kernel_rfl) (by kernel_rfl) (fun _ _ _ h => h) (Or.inl ⟨by rfl, ?hy49⟩) (by assumption) ?rest49
              case hy49 => (intro wz hSw; (try dsimp only at hSw); first | (go_simp; done) | (go_simp; with_reducible rfl))
              try simp only [Act.put, List.getElem_toArray, List.getElem_cons_succ, List.getElem_cons_zero, List.setIfInBounds_toArray, List.set_cons_zero, List.set_cons_succ]
              refine wpAnyH_take (i := 11) (v := ?v50) rfl (by kernel_rfl) (by kernel_rfl) (by kernel_rfl) (fun _ _ _ h => h) (Or.inl ⟨by rfl, ?hy50⟩) (by assumption) ?rest50
              case hy50 => (intro wz hSw; (try dsimp only at hSw); first | (go_simp; done) | (go_simp; with_reducible rfl))
              try simp only [Act.put, List.getElem_toArray, List.getElem_cons_succ, List.getElem_cons_zero, List.setIfInBounds_toArray, List.set_cons_zero, List.set_cons_succ]
              refine wpAnyH_take (i := 12) (v := ?v51) rfl (by kernel_rfl) (by kernel_rfl) (by kernel_rfl) (fun _ _ _ h => h) (Or.inl ⟨by rfl, ?hy51⟩) (by assumption) ?rest51
              case hy51 => (intro wz hSw; (try dsimp only at hSw); first | (go_simp; done) | (go_simp; with_reducible rfl))
              try simp only [Act.put, List.getElem_toArray, List.getElem_cons_succ, List.getElem_cons_zero, List.setIfInBounds_toArray, List.set_cons_zero, List.set_cons_succ]
              refine wpAnyH_take (i := 13) (v := ?v52) rfl (by kernel_rfl) (by kernel_rfl) (by kernel_rfl) (fun _ _ _ h => h) (Or.inl ⟨by rfl, ?hy52⟩) (by assumption) ?rest52
              case hy52 => (intro wz hSw; (try dsimp only at hSw); first | (go_simp; done) | (go_simp; with_reducible rfl))
              try simp only [Act.put, List.getElem_toArray, List.getElem_cons_succ, List.getElem_cons_zero, List.setIfInBounds_toArray, List.set_cons_zero, List.set_cons_succ]
              refine wpAnyH_take (i := 14) (v := ?v53) rfl (by kernel_rfl) (by kernel_rfl) (by kernel_rfl) (fun _ _ _ h => h) (Or.inl ⟨by rfl, ?hy53⟩) (by assumption) ?rest53
              case hy53 => (intro wz hSw; (try dsimp only at hSw); first | (go_simp; done) | (go_simp; with_reducible rfl))
              try simp only [Act.put, List.getElem_toArray, List.getElem_cons_succ, List.getElem_cons_zero, List.setIfInBounds_toArray, List.set_cons_zero, List.set_cons_succ]
              refine wpAnyH_take (i := 15) (v := ?v54) rfl (by kernel_rfl) (by kernel_rfl) (by kernel_rfl) (fun _ _ _ h => h) (Or.inl ⟨by rfl, ?hy54⟩) (by assumption) ?rest54
              case hy54 => (intro wz hSw; (try dsimp only at hSw); first | (go_simp; done) | (go_simp; with_reducible rfl))
              try simp only [Act.put, List.getElem_toArray, List.getElem_cons_succ, List.getElem_cons_zero, List.setIfInBounds_toArray, List.set_cons_zero, List.set_cons_succ]
              refine wpAnyH_ready (rs := [16]) (by kernel_rfl) (by simp) ?_
              refine AllReadyH.cons (o := _) rfl (fun K hK => ?_) AllReadyH.nil
              go_simp
              (with_reducible refine (IG.out _ (gb_drew wr none)).mono ?_)
              rintro e w9 ⟨rfl, tb9⟩
              try dsimp only
              refine hK.out _ _ (CD.out _ _ tb9 dad HDA.out).2 (fun hH1 => ?_)
              clear hK K hH0
              try simp only [Act.put, List.getElem_toArray, List.getElem_cons_succ, List.getElem_cons_zero, List.setIfInBounds_toArray, List.set_cons_zero, List.set_cons_succ]
              refine wpAnyH_take (i := 17) (v := ?v55) rfl (by kernel_rfl) (by kernel_rfl) (by kernel_rfl) (fun _ _ _ h => h) (Or.inl ⟨by rfl, ?hy55⟩) (by assumption) ?rest55
              case hy55 => (intro wz hSw; (try dsimp only at hSw); first | (go_simp; done) | (go_simp; with_reducible rfl))
              try simp only [Act.put, List.getElem_toArray, List.getElem_cons_succ, List.getElem_cons_zero, List.setIfInBounds_toArray, List.set_cons_zero, List.set_cons_succ]
              refine wpAnyH_done (by kernel_rfl) ?_ _
              clear hH1
              have TB9 := Lib.hid tb9
              clear tb9
              go_wp2
              exact ⟨⟨k, by omega, by first | rfl | simp, by rw [← HDA.out]; exact TB9.out⟩, by show ((k : Int) - 1 + 1).toNat < ((k : Int) + 1).toNat; omega⟩
      · go_wp2
        go_loopw [19] (fun i wrX => ∃ k : Nat, k ≤ D.length ∧ i = .int .i64 ((k : Int) - 1) ∧ Tb W qa sa qb sb b wi N T k wrX (.slice da D.length dc) a n c D) (fun i _ => (intOf i + 1).toNat)
        case atStart => exact ⟨D.length, Nat.le_refl _, rfl, TB5.out⟩
        case round =>
          obtain ⟨k, hk, rfl, hb⟩ := hrel
          have TB := Lib.hid hb
          clear hb
          by_cases hk0 : k = 0
          · subst hk0
            have i1 : ¬ (0 : Int) ≤ ((0 : Nat) : Int) - 1 := by omega
            obtain ⟨T2, l1, dp, _, s1, s2⟩ := TB.out.ex
            rw [List.drop_zero] at dp
            have EQ := DP.eq dp TB.out.da l1.ok.sorted TB.out.la.ok.sorted
            have SA_ := Lib.hid (fun (w2 : World) (g : wr.grownBy w2 none) => same_any W w2 qa sa wi T a n c (TB.out.la.keep0 g) (by have := t4.out; have := L4.out; omega) (by have := t5.out; have := L4.out; omega) (TB.out.ri.keep0 g) t3.out)
            have SB_ := Lib.hid (fun (w2 : World) (g : wr.grownBy w2 none) => same_any W w2 qb sb wi T2 a n c (l1.keep0 g) (by have := t4.out; have := L4.out; omega) (by have := TB.out.dl; omega) (by rw [EQ]; exact TB.out.ri.keep0 g) (by rw [EQ]; exact t3.out))
            clear l1 dp s1 s2 EQ
            have b0 := TB.out.box.cell 0
            have b1 := TB.out.box.cell 1
            dsimp at b0 b1
            go_wp2_with fail
            refine (SA_.out _ (gb_refl _ _)).mono ?_
            rintro e w6 ⟨rfl, g6⟩
            have G6 := Lib.hid g6
            clear g6 b0 b1
            have b0 := (TB.out.box.keep0 G6.out).cell 0
            have b1 := (TB.out.box.keep0 G6.out).cell 1
            dsimp at b0 b1
            go_wp2_with fail
            refine (SB_.out _ G6.out).mono ?_
            rintro e w7 ⟨rfl, g7⟩
            have G7 := Lib.hid (gb_trans TB.out.la.grown (gb_trans G6.out g7))
            clear g7 b0 b1
            go_wp2_with fail
            refine (works_any _).mono ?_
            rintro e w8 ⟨rfl, g8⟩
            have G8 := Lib.hid g8
            clear g8
            go_wp2
            go_ret
            exact ⟨rfl, gb_trans G7.out G8.out⟩
          · obtain ⟨k, rfl⟩ : ∃ k2, k = k2 + 1 := ⟨k - 1, by omega⟩
            have hkl : k < D.length := by omega
            have e0 : ((k + 1 : Nat) : Int) - 1 = (k : Int) := by omega
            rw [e0]
            have i1 : (0 : Int) ≤ (k : Int) := by omega
            have i2 : (k : Int) < (D.length : Int) := by omega
            have hw : IntKind.i64.wrap ((k : Int) - 1) = (k : Int) - 1 := by have := TB.out.dl; rw [IntKind.wrap_i64]; omega
            have IG := Lib.hid (fun (w2 : World) (g : wr.grownBy w2 none) => (TB.out.keep0 g).ins hkl)
            have CD := Lib.hid (fun (w2 : World) (kk : Nat) (q : Tb W qa sa qb sb b wi N T kk w2 (.slice da D.length dc) a n c D) (dad : Addr) (h : da = some dad) => (dr_sa rfl q.row q.rg).cells dad h k hkl)
            obtain ⟨dad, hda⟩ := (dr_sa rfl TB.out.row TB.out.rg).some (by omega)
            obtain ⟨z, hz⟩ : ∃ z, z = D.getD k az := ⟨_, rfl⟩
            rw [← hz] at IG CD
            obtain ⟨d, v, m, x⟩ := z
            dsimp only at IG CD
            have HDA := Lib.hid hda
            rw [hda]
            clear hz hda e0
            go_upto_region 20 with fail
            have hS0 : (fun w' : World => w'.cell? ⟨(dad.add (k * 4)).block, (dad.add (k * 4)).off + 1, none⟩ = some (.int .u32 (v : Nat)) ∧ w'.cell? ⟨(dad.add (k * 4)).block, (dad.add (k * 4)).off + 2, none⟩ = some (.int .i64 m) ∧ w'.cell? ⟨(dad.add (k * 4)).block, (dad.add (k * 4)).off + 3, none⟩ = some (.int .i64 x)) wr.drew := (CD.out _ _ (TB.out.keep0 (gb_drew wr none)) dad HDA.out).2
            refine wp_region_held_drew (S := (fun w' : World => w'.cell? ⟨(dad.add (k * 4)).block, (dad.add (k * 4)).off + 1, none⟩ = some (.int .u32 (v : Nat)) ∧ w'.cell? ⟨(dad.add (k * 4)).block, (dad.add (k * 4)).off + 2, none⟩ = some (.int .i64 m) ∧ w'.cell? ⟨(dad.add (k * 4)).block, (dad.add (k * 4)).off + 3, none⟩ = some (.int .i64 x))) (by kernel_rfl) hS0 (fun hH0 => ?_)
            clear hS0
            refine wpAnyH_take (i := 0) (v := ?v56) rfl (by kernel_rfl) (by kernel_rfl) (by kernel_rfl) (fun _ _ _ h => h) (Or.inl ⟨by rfl, ?hy56⟩) (by assumption) ?rest56
            case hy56 => (intro wz hSw; (try dsimp only at hSw); first | (go_simp; done) | (go_simp; with_reducible rfl))
            try simp only [Act.put, List.getElem_toArray, List.getElem_cons_zero, List.setIfInBounds_toArray, List.set_cons_zero, List.set_cons_succ]
            refine wpAnyH_take (i := 1) (v := ?v57) rfl (by kernel_rfl) (by kernel_rfl) (by kernel_rfl) (fun _ _ _ h => h) (Or.inl ⟨by rfl, ?hy57⟩) (by assumption) ?rest57
            case hy57 => (intro wz hSw; (try dsimp only at hSw); first | (go_simp; done) | (go_simp; with_reducible rfl))
            try simp only [Act.put, List.getElem_toArray, List.getElem_cons_succ, List.getElem_cons_zero, List.setIfInBounds_toArray, List.set_cons_zero, List.set_cons_succ]
            refine wpAnyH_take (i := 2) (v := ?v58) rfl (by kernel_rfl) (by kernel_rfl) (by kernel_rfl) (fun _ _ _ h => h) (Or.inl ⟨by rfl, ?hy58⟩) (by assumption) ?rest58
            case hy58 => (intro wz hSw; (try dsimp only at hSw); first | (go_simp; done) | (go_simp; with_reducible rfl))
            try simp only [Act.put, List.getElem_toArray, List.getElem_cons_succ, List.getElem_cons_zero, List.setIfInBounds_toArray, List.set_cons_zero, List.set_cons_succ]
            refine wpAnyH_take (i := 3) (v := ?v59) rfl (by kernel_rfl) (by kernel_rfl) (by kernel_rfl) (fun _ _ _ h => h) (Or.inl ⟨by rfl, ?hy59⟩) (by assumption) ?rest59
            case hy59 => (intro wz hSw; (try dsimp only at hSw); first | (go_simp; done) | (go_simp; with_reducible rfl))
            try simp only [Act.put, List.getElem_toArray, List.getElem_cons_succ, List.getElem_cons_zero, List.setIfInBounds_toArray, List.set_cons_zero, List.set_cons_succ]
            refine wpAnyH_take (i := 4) (v := ?v60) rfl (by kernel_rfl) (by kernel_rfl) (by kernel_rfl) (fun _ _ _ h => h) (Or.inl ⟨by rfl, ?hy60⟩) (by assumption) ?rest60
            case hy60 => (intro wz hSw; (try dsimp only at hSw); first | (go_simp; done) | (go_simp; with_reducible rfl))
            try simp only [Act.put, List.getElem_toArray, List.getElem_cons_succ, List.getElem_cons_zero, List.setIfInBounds_toArray, List.set_cons_zero, List.set_cons_succ]
            refine wpAnyH_take (i := 5) (v := ?v61) rfl (by kernel_rfl) (by kernel_rfl) (by kernel_rfl) (fun _ _ _ h => h) (Or.inl ⟨by rfl, ?hy61⟩) (by assumption) ?rest61
            case hy61 => (intro wz hSw; (try dsimp only at hSw); first | (go_simp; done) | (go_simp; with_reducible rfl))
            try simp only [Act.put, List.getElem_toArray, List.getElem_cons_succ, List.getElem_cons_zero, List.setIfInBounds_toArray, List.set_cons_zero, List.set_cons_succ]
            refine wpAnyH_take (i := 6) (v := ?v62) rfl (by kernel_rfl) (by kernel_rfl) (by kernel_rfl) (fun _ _ _ h => h) (Or.inl ⟨by rfl, ?hy62⟩) (by assumption) ?rest62
            case hy62 => (intro wz hSw; (try dsimp only at hSw); first | (go_simp; done) | (go_simp; with_reducible rfl))
            try simp only [Act.put, List.getElem_toArray, List.getElem_cons_succ, List.getElem_cons_zero, List.setIfInBounds_toArray, List.set_cons_zero, List.set_cons_succ]
            refine wpAnyH_take (i := 7) (v := ?v63) rfl (by kernel_rfl) (by kernel_rfl) (by kernel_rfl) (fun _ _ _ h => h) (Or.inl ⟨by rfl, ?hy63⟩) (by assumption) ?rest63
            case hy63 => (intro wz hSw; (try dsimp only at hSw); first | (go_simp; done) | (go_simp; with_reducible rfl))
            try simp only [Act.put, List.getElem_toArray, List.getElem_cons_succ, List.getElem_cons_zero, List.setIfInBounds_toArray, List.set_cons_zero, List.set_cons_succ]
            refine wpAnyH_take (i := 8) (v := ?v64) rfl (by kernel_rfl) (by kernel_rfl) (by kernel_rfl) (fun _ _ _ h => h) (Or.inl ⟨by rfl, ?hy64⟩) (by assumption) ?rest64
            case hy64 => (intro wz hSw; (try dsimp only at hSw); first | (go_simp; done) | (go_simp; with_reducible rfl))
            try simp only [Act.put, List.getElem_toArray, List.getElem_cons_succ, List.getElem_cons_zero, List.setIfInBounds_toArray, List.set_cons_zero, List.set_cons_succ]
            refine wpAnyH_take (i := 9) (v := ?v65) rfl (by kernel_rfl) (by kernel_rfl) (by kernel_rfl) (fun _ _ _ h => h) (Or.inl ⟨by rfl, ?hy65⟩) (by assumption) ?rest65
            case hy65 => (intro wz hSw; (try dsimp only at hSw); first | (go_simp; done) | (go_simp; with_reducible rfl))
            try simp only [Act.put, List.getElem_toArray, List.getElem_cons_succ, List.getElem_cons_zero, List.setIfInBounds_toArray, List.set_cons_zero, List.set_cons_succ]
            refine wpAnyH_take (i := 10) (v := ?v66) rfl (by kernel_rfl) (by kernel_rfl) (by kernel_rfl) (fun _ _ _ h => h) (Or.inl ⟨by rfl, ?hy66⟩) (by assumption) ?rest66
            case hy66 => (intro wz hSw; (try dsimp only at hSw); first | (go_simp; done) | (go_simp; with_reducible rfl))
            try simp only [Act.put, List.getElem_toArray, List.getElem_cons_succ, List.getElem_cons_zero, List.setIfInBounds_toArray, List.set_cons_zero, List.set_cons_succ]
            refine wpAnyH_take (i := 11) (v := ?v67) rfl (by kernel_rfl) (by kernel_rfl) (by kernel_rfl) (fun _ _ _ h => h) (Or.inl ⟨by rfl, ?hy67⟩) (by assumption) ?rest67
            case hy67 => (intro wz hSw; (try dsimp only at hSw); first | (go_simp; done) | (go_simp; with_reducible rfl))
            try simp only [Act.put, List.getElem_toArray, List.getElem_cons_succ, List.getElem_cons_zero, List.setIfInBounds_toArray, List.set_cons_zero, List.set_cons_succ]
            refine wpAnyH_take (i := 12) (v := ?v68) rfl (by kernel_rfl) (by kernel_rfl) (by kernel_rfl) (fun _ _ _ h => h) (Or.inl ⟨by rfl, ?hy68⟩) (by assumption) ?rest68
            case hy68 => (intro wz hSw; (try dsimp only at hSw); first | (go_simp; done) | (go_simp; with_reducible rfl))
            try simp only [Act.put, List.getElem_toArray, List.getElem_cons_succ, List.getElem_cons_zero, List.setIfInBounds_toArray, List.set_cons_zero, List.set_cons_succ]
            refine wpAnyH_take (i := 13) (v := ?v69) rfl (by kernel_rfl) (by kernel_rfl) (by kernel_rfl) (fun _ _ _ h => h) (Or.inl ⟨by rfl, ?hy69⟩) (by assumption) ?rest69
            case hy69 => (intro wz hSw; (try dsimp only at hSw); first | (go_simp; done) | (go_simp; with_reducible rfl))
            try simp only [Act.put, List.getElem_toArray, List.getElem_cons_succ, List.getElem_cons_zero, List.setIfInBounds_toArray, List.set_cons_zero, List.set_cons_succ]
            refine wpAnyH_take (i := 14) (v := ?v70) rfl (by kernel_rfl) (by kernel_rfl) (by kernel_rfl) (fun _ _ _ h => h) (Or.inl ⟨by rfl, ?hy70⟩) (by assumption) ?rest70
            case hy70 => (intro wz hSw; (try dsimp only at hSw); first | (go_simp; done) | (go_simp; with_reducible rfl))
            try simp only [Act.put, List.getElem_toArray, List.getElem_cons_succ, List.getElem_cons_zero, List.setIfInBounds_toArray, List.set_cons_zero, List.set_cons_succ]
            refine wpAnyH_take (i := 15) (v := ?v71) rfl (by kernel_rfl) (by kernel_rfl) (by kernel_rfl) (fun _ _ _ h => h) (Or.inl ⟨by rfl, ?hy71⟩) (by assumption) ?rest71
            case hy71 => (intro wz hSw; (try dsimp only at hSw); first | (go_simp; done) | (go_simp; with_reducible rfl))
            try simp only [Act.put, List.getElem_toArray, List.getElem_cons_succ, List.getElem_cons_zero, List.setIfInBounds_toArray, List.set_cons_zero, List.set_cons_succ]
            refine wpAnyH_ready (rs := [16]) (by kernel_rfl) (by simp) ?_
            refine AllReadyH.cons (o := _) rfl (fun K hK => ?_) AllReadyH.nil
            go_simp
            (with_reducible refine (IG.out _ (gb_drew wr none)).mono ?_)
            rintro e w9 ⟨rfl, tb9⟩
            try dsimp only
            refine hK.out _ _ (CD.out _ _ tb9 dad HDA.out).2 (fun hH1 => ?_)
            clear hK K hH0
            try simp only [Act.put, List.getElem_toArray, List.getElem_cons_succ, List.getElem_cons_zero, List.setIfInBounds_toArray, List.set_cons_zero, List.set_cons_succ]
            refine wpAnyH_take (i := 17) (v := ?v72) rfl (by kernel_rfl) (by kernel_rfl) (by kernel_rfl) (fun _ _ _ h => h) (Or.inl ⟨by rfl, ?hy72⟩) (by assumption) ?rest72
            case hy72 => (intro wz hSw; (try dsimp only at hSw); first | (go_simp; done) | (go_simp; with_reducible rfl))
            try simp only [Act.put, List.getElem_toArray, List.getElem_cons_succ, List.getElem_cons_zero, List.setIfInBounds_toArray, List.set_cons_zero, List.set_cons_succ]
            refine wpAnyH_done (by kernel_rfl) ?_ _
            clear hH1
            have TB9 := Lib.hid tb9
            clear tb9
            go_wp2
            exact ⟨⟨k, by omega, by first | rfl | simp, by rw [← HDA.out]; exact TB9.out⟩, by show ((k : Int) - 1 + 1).toNat < ((k : Int) + 1).toNat; omega⟩
theorem order_walk (a0 gd gm gx : Int) (gv : Nat) (a1 : Option Addr) (len1 cap1 : Nat) (K1 : List Ac) (W : World) (w1 : SA W a1 len1 cap1 K1) (wg : AcOk (gd, gv, gm, gx)) : Calls Try.prog 5 #[.int .i64 a0, .slice a1 len1 cap1, .agg #[.int .i64 gd, .int .u32 (gv : Nat), .int .i64 gm, .int .i64 gx]] W (RetV (.bool true) W) := by
  by_cases hb : 1 ≤ a0 ∧ a0 ≤ 32
  · obtain ⟨wi, rfl⟩ : ∃ k : Nat, a0 = k := ⟨a0.toNat, by omega⟩
    by_cases h3 : (40 : Int) < len1
    · exact order_long wi gd gm gx gv a1 len1 cap1 W (by omega) h3
    · exact order_good wi gd gm gx gv a1 len1 cap1 K1 W (by omega) h3 w1 wg
  · exact order_bad a0 gd gm gx gv a1 len1 cap1 W hb
end Go.Proofs.Ytidjggaffioekaa
