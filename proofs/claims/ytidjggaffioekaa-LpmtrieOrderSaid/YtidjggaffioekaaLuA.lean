/- Tries: the law Stops. -/
import Derived.Test.YtidjggaffioekaaLtZ
import Derived.Deep.QuietTactic
import Derived.BigQuiet
namespace Go.Proofs.Ytidjggaffioekaa
open Go.RowKit
set_option linter.unusedVariables false

set_option maxRecDepth 100000 in
set_option maxHeartbeats 4000000 in
theorem stops_bad (a0 mo : Int) (a1 : Option Addr) (len1 cap1 : Nat) (W : World) (hb : ¬ (1 ≤ a0 ∧ a0 ≤ 32)) : Calls Try.prog 6 #[.int .i64 a0, .slice a1 len1 cap1, .int .u8 mo] W (RetV (.bool true) W) := by
  have NB := Lib.hid (new_bad W a0 hb)
  clear hb
  unfold RetV
  go_enter Try.func6, Try.ntmps6
  go_wp2_with fail
  refine NB.out.mono ?_
  rintro e w1 ⟨rfl, g1⟩
  have G1 := Lib.hid g1
  clear g1
  go_wp2_with fail
  refine (works_any _).mono ?_
  rintro e w8 ⟨rfl, g8⟩
  have G8 := Lib.hid g8
  clear g8
  go_wp2
  go_ret
  exact ⟨rfl, gb_trans G1.out G8.out⟩
set_option maxRecDepth 100000 in
set_option maxHeartbeats 4000000 in
theorem stops_long (a0 mo : Int) (a1 : Option Addr) (len1 cap1 : Nat) (W : World) (hb : 1 ≤ a0 ∧ a0 ≤ 32) (h3 : (60 : Int) < len1) : Calls Try.prog 6 #[.int .i64 a0, .slice a1 len1 cap1, .int .u8 mo] W (RetV (.bool true) W) := by
  have NG := Lib.hid (new_good W a0 hb)
  clear hb
  unfold RetV
  go_enter Try.func6, Try.ntmps6
  go_wp2_with fail
  refine NG.out.mono ?_
  rintro e w1 ⟨q, s, rfl, hq, hs, g, lq, ls⟩
  have G1 := Lib.hid g
  clear hq hs g lq ls NG
  go_wp2_with fail
  refine (works_any _).mono ?_
  rintro e w8 ⟨rfl, g8⟩
  have G8 := Lib.hid g8
  clear g8
  go_wp2
  go_ret
  exact ⟨rfl, gb_trans G1.out G8.out⟩
set_option maxRecDepth 100000 in
set_option maxHeartbeats 4000000 in
theorem stops_good (wi mo : Nat) (a1 : Option Addr) (len1 cap1 : Nat) (K1 : List Ac) (W : World) (h3 : ¬ (60 : Int) < len1) (hg : 1 ≤ wi ∧ wi ≤ 32) (hmo : mo ≤ 255) (w1 : SA W a1 len1 cap1 K1) : Calls Try.prog 6 #[.int .i64 wi, .slice a1 len1 cap1, .int .u8 mo] W (RetV (.bool true) W) := by
  have HS := Lib.hid w1
  have HMO := Lib.hid hmo
  have L6 := Lib.hid (show len1 ≤ 60 by omega)
  have NG := Lib.hid (new_good W wi (by omega))
  have RG := Lib.hid (fun W => rnew_good W wi (by omega))
  have HG := Lib.hid hg
  have hcv : IntKind.i64.wrap (mo : Int) = (mo : Int) := by rw [IntKind.wrap_i64]; omega
  clear w1 hg hmo
  unfold RetV at RG
  unfold RetV
  go_enter Try.func6, Try.ntmps6
  go_wp2_with fail
  refine NG.out.mono ?_
  rintro e w1 ⟨q, s, rfl, hq, hs, g, lq, ls⟩
  have H1 := Lib.hid (LS.new (wd := wi) g hq hs HG.out.1 HG.out.2 lq ls)
  clear hq hs g lq ls NG
  go_wp2_with fail
  refine (RG.out _).mono ?_
  rintro e w2 ⟨rfl, g2⟩
  have R3 := Lib.hid (show Run W q s w2.heap.size wi 0 (w2.alloc (.cells #[.int .i64 wi, .slice none 0 0] 30)) none 0 0 from ⟨⟨.nil, H1.out.keep0 (gb_trans g2 (gb_alloc _ _ none)), World.ownsRow_nil _ _ _ _, rfl, Nat.le_refl _, Nat.zero_le _⟩, IsB.new _ _ _, (gb_trans H1.out.grown g2).size⟩)
  clear g2 H1 RG
  go_upto_region 5 with fail
  generalize w2.alloc (.cells #[.int .i64 wi, .slice none 0 0] 30) = w3 at *
  obtain ⟨b, hb⟩ : ∃ b, b = w2.heap.size := ⟨_, rfl⟩
  rw [← hb] at R3 ⊢
  clear hb
  go_wp2
  go_loopw [11] (fun i wr => ∃ (j : Nat) (a : Option Addr) (n c : Nat), j ≤ len1 ∧ i = .int .i64 j ∧ Run W q s b wi j wr a n c) (fun i _ => len1 - (intOf i).toNat)
  case atStart => exact ⟨0, none, 0, 0, Nat.zero_le _, rfl, R3.out⟩
  case round =>
    obtain ⟨j, a, n, c, hj, rfl, hr⟩ := hrel
    have RR := Lib.hid hr
    clear hr R3
    by_cases hlt : j < len1
    · obtain ⟨ad, rfl⟩ := HS.out.some (by omega)
      have i1 : (j : Int) < len1 := by omega
      have i0 : (0 : Int) ≤ (j : Int) := by omega
      have hw : IntKind.i64.wrap ((j : Int) + 1) = ((j + 1 : Nat) : Int) := by have := L6.out; rw [IntKind.wrap_i64]; omega
      have CC := Lib.hid (fun (w : World) (g : W.grownBy w none) => (HS.out.keep0 g).cells ad rfl j hlt)
      have VB := Lib.hid (HS.out.at_ j hlt).2
      generalize K1.getD j az = z at *
      obtain ⟨d, v, m, x⟩ := z
      dsimp only at CC VB
      go_upto_region 8 with fail
      have GD := gb_drew wr none
      have hb0 := RR.out.box.keep0 GD
      have hg0 := gb_trans RR.out.grown GD
      have hF0 : (fun w' : World => w'.cell? ⟨b, 0, none⟩ = some (.int .i64 wi) ∧ w'.cell? ⟨b, 1, none⟩ = some (.slice a n c) ∧ w'.cell? (ad.add (j * 4)) = some (.int .i64 d) ∧ w'.cell? ⟨(ad.add (j * 4)).block, (ad.add (j * 4)).off + 1, none⟩ = some (.int .u32 (v : Nat)) ∧ w'.cell? ⟨(ad.add (j * 4)).block, (ad.add (j * 4)).off + 2, none⟩ = some (.int .i64 m) ∧ w'.cell? ⟨(ad.add (j * 4)).block, (ad.add (j * 4)).off + 3, none⟩ = some (.int .i64 x)) wr.drew := ⟨hb0.cell 0, hb0.cell 1, (CC.out _ hg0).1, (CC.out _ hg0).2.1, (CC.out _ hg0).2.2.1, (CC.out _ hg0).2.2.2⟩
      refine wp_region_S (fun w' : World => w'.cell? ⟨b, 0, none⟩ = some (.int .i64 wi) ∧ w'.cell? ⟨b, 1, none⟩ = some (.slice a n c) ∧ w'.cell? (ad.add (j * 4)) = some (.int .i64 d) ∧ w'.cell? ⟨(ad.add (j * 4)).block, (ad.add (j * 4)).off + 1, none⟩ = some (.int .u32 (v : Nat)) ∧ w'.cell? ⟨(ad.add (j * 4)).block, (ad.add (j * 4)).off + 2, none⟩ = some (.int .i64 m) ∧ w'.cell? ⟨(ad.add (j * 4)).block, (ad.add (j * 4)).off + 3, none⟩ = some (.int .i64 x)) 10 (by kernel_rfl) ?_
      refine wpAnyS_pure (i := 0) (v := ?v22) rfl (by kernel_rfl) (by kernel_rfl) (by kernel_rfl) (by decide) (fun _ _ _ h => h) (Or.inl ⟨by rfl, ?hy22⟩) (Or.inr (by assumption)) ?rest22
      case hy22 => (intro wz hSw; (try dsimp only at hSw); first | (go_simp; done) | (go_simp; with_reducible rfl))
      try simp only [Act.put, List.getElem_toArray, List.getElem_cons_zero, List.setIfInBounds_toArray, List.set_cons_zero, List.set_cons_succ]
      refine wpAnyS_load 6 (i := 1) (v := ?v23) rfl (by kernel_rfl) (by kernel_rfl) (by kernel_rfl) (by kernel_rfl) (fun _ _ _ h => h) (Or.inl ⟨by rfl, ?hy23⟩) (by assumption) ?rest23
      case hy23 => (intro wz hSw; (try dsimp only at hSw); first | (go_simp; done) | (go_simp; with_reducible rfl))
      try simp only [Act.put, List.getElem_toArray, List.getElem_cons_succ, List.getElem_cons_zero, List.setIfInBounds_toArray, List.set_cons_zero, List.set_cons_succ]
      refine wpAnyS_pure (i := 2) (v := ?v24) rfl (by kernel_rfl) (by kernel_rfl) (by kernel_rfl) (by decide) (fun _ _ _ h => h) (Or.inl ⟨by rfl, ?hy24⟩) (Or.inr (by assumption)) ?rest24
      case hy24 => (intro wz hSw; (try dsimp only at hSw); first | (go_simp; done) | (go_simp; with_reducible rfl))
      try simp only [Act.put, List.getElem_toArray, List.getElem_cons_succ, List.getElem_cons_zero, List.setIfInBounds_toArray, List.set_cons_zero, List.set_cons_succ]
      refine wpAnyS_pure (i := 3) (v := ?v25) rfl (by kernel_rfl) (by kernel_rfl) (by kernel_rfl) (by decide) (fun _ _ _ h => h) (Or.inl ⟨by rfl, ?hy25⟩) (Or.inr (by assumption)) ?rest25
      case hy25 => (intro wz hSw; (try dsimp only at hSw); first | (go_simp; done) | (go_simp; with_reducible rfl))
      try simp only [Act.put, List.getElem_toArray, List.getElem_cons_succ, List.getElem_cons_zero, List.setIfInBounds_toArray, List.set_cons_zero, List.set_cons_succ]
      refine wpAnyS_pure (i := 4) (v := ?v26) rfl (by kernel_rfl) (by kernel_rfl) (by kernel_rfl) (by decide) (fun _ _ _ h => h) (Or.inl ⟨by rfl, ?hy26⟩) (Or.inr (by assumption)) ?rest26
      case hy26 => (intro wz hSw; (try dsimp only at hSw); first | (go_simp; done) | (go_simp; with_reducible rfl))
      try simp only [Act.put, List.getElem_toArray, List.getElem_cons_succ, List.getElem_cons_zero, List.setIfInBounds_toArray, List.set_cons_zero, List.set_cons_succ]
      refine wpAnyS_load 6 (i := 5) (v := ?v27) rfl (by kernel_rfl) (by kernel_rfl) (by kernel_rfl) (by kernel_rfl) (fun _ _ _ h => h) (Or.inl ⟨by rfl, ?hy27⟩) (by assumption) ?rest27
      case hy27 => (intro wz hSw; (try dsimp only at hSw); first | (go_simp; done) | (go_simp; with_reducible rfl))
      try simp only [Act.put, List.getElem_toArray, List.getElem_cons_succ, List.getElem_cons_zero, List.setIfInBounds_toArray, List.set_cons_zero, List.set_cons_succ]
      refine wpAnyS_one (i := 6) (o := _) (by kernel_rfl) rfl (fun K hK => ?_)
      go_simp
      (with_reducible refine (Run.step (RR.out.keep0 GD) (by have := L6.out; omega) d m x v VB.out).mono ?_)
      rintro e w6 ⟨a2, n2, c2, rfl, bx, kk, gw, ex⟩
      try dsimp only
      clear hF0
      have hF1 : (fun w' : World => w'.cell? ⟨b, 0, none⟩ = some (.int .i64 wi) ∧ w'.cell? ⟨b, 1, none⟩ = some (.slice a n c) ∧ w'.cell? (ad.add (j * 4)) = some (.int .i64 d) ∧ w'.cell? ⟨(ad.add (j * 4)).block, (ad.add (j * 4)).off + 1, none⟩ = some (.int .u32 (v : Nat)) ∧ w'.cell? ⟨(ad.add (j * 4)).block, (ad.add (j * 4)).off + 2, none⟩ = some (.int .i64 m) ∧ w'.cell? ⟨(ad.add (j * 4)).block, (ad.add (j * 4)).off + 3, none⟩ = some (.int .i64 x)) w6 := ⟨bx.cell 0, bx.cell 1, (CC.out _ gw).1, (CC.out _ gw).2.1, (CC.out _ gw).2.2.1, (CC.out _ gw).2.2.2⟩
      refine hK.out _ _ (Or.inr hF1) (fun _ => ?_)
      clear hK K
      try simp only [Act.put, List.getElem_toArray, List.getElem_cons_succ, List.getElem_cons_zero, List.setIfInBounds_toArray, List.set_cons_zero, List.set_cons_succ]
      refine wpAnyS_pure (i := 7) (v := ?v28) rfl (by kernel_rfl) (by kernel_rfl) (by kernel_rfl) (by decide) (fun _ _ _ h => h) (Or.inl ⟨by rfl, ?hy28⟩) (Or.inr (by assumption)) ?rest28
      case hy28 => (intro wz hSw; (try dsimp only at hSw); first | (go_simp; done) | (go_simp; with_reducible rfl))
      try simp only [Act.put, List.getElem_toArray, List.getElem_cons_succ, List.getElem_cons_zero, List.setIfInBounds_toArray, List.set_cons_zero, List.set_cons_succ]
      refine wpAnyS_pure (i := 8) (v := ?v29) rfl (by kernel_rfl) (by kernel_rfl) (by kernel_rfl) (by decide) (fun _ _ _ h => h) (Or.inl ⟨by rfl, ?hy29⟩) (Or.inr (by assumption)) ?rest29
      case hy29 => (intro wz hSw; (try dsimp only at hSw); first | (go_simp; done) | (go_simp; with_reducible rfl))
      try simp only [Act.put, List.getElem_toArray, List.getElem_cons_succ, List.getElem_cons_zero, List.setIfInBounds_toArray, List.set_cons_zero, List.set_cons_succ]
      refine wpAnyS_pure (i := 9) (v := ?v30) rfl (by kernel_rfl) (by kernel_rfl) (by kernel_rfl) (by decide) (fun _ _ _ h => h) (Or.inl ⟨by rfl, ?hy30⟩) (Or.inr (by assumption)) ?rest30
      case hy30 => (intro wz hSw; (try dsimp only at hSw); first | (go_simp; done) | (go_simp; with_reducible rfl))
      try simp only [Act.put, List.getElem_toArray, List.getElem_cons_succ, List.getElem_cons_zero, List.setIfInBounds_toArray, List.set_cons_zero, List.set_cons_succ]
      have c0 := bx.cell 0
      have c1 := bx.cell 1
      have f0 := bx.free 0
      have f1 := bx.free 1
      dsimp at c0 c1
      refine wpAnyS_one (i := 10) (o := _) (by kernel_rfl) rfl (fun K hK => ?_)
      go_simp
      refine hK.out _ _ (Or.inl (by kernel_rfl)) (fun _ => ?_)
      clear hK K
      try simp only [Act.put, List.getElem_toArray, List.getElem_cons_succ, List.getElem_cons_zero, List.setIfInBounds_toArray, List.set_cons_zero, List.set_cons_succ]
      refine wpAnyS_done (by kernel_rfl) ?_ _
      clear hF1
      have R9 := Lib.hid (show Run W q s b wi (j + 1) ((w6.setCell ⟨b, 0, none⟩ (.int .i64 wi)).setCell ⟨b, 1, none⟩ (.slice a2 n2 c2)) a2 n2 c2 from by
        obtain ⟨T, l, r, e1, e2, e3⟩ := ex
        refine ⟨⟨T, ?_, ?_, e1, e2, e3⟩, (bx.set 0 _).set 1 _, RR.out.low⟩
        · exact (l.far bx (by decide) (by decide) (by decide) RR.out.low).far (bx.set 0 _) (by decide) (by decide) (by decide) RR.out.low
        · exact own_kept (own_kept r bx (by decide)) (bx.set 0 _) (by decide))
      clear bx kk gw ex c0 c1 f0 f1 GD hb0 hg0
      go_wp2
      exact ⟨⟨j + 1, a2, n2, c2, by omega, by simp, R9.out⟩, by show len1 - ((j : Int) + 1).toNat < len1 - (j : Int).toNat; omega⟩
    · have i1 : ¬ (j : Int) < len1 := by omega
      obtain ⟨T, l1, r1, e1, e2, e3⟩ := RR.out.ex
      have SM := Lib.hid (fun (w2 : World) (k : wr.grownBy w2 none) => same_any W w2 q s wi T a n c (l1.keep0 k) (by have := L6.out; omega) (by have := L6.out; omega) (r1.keep0 k) e1)
      have SQ := Lib.hid (show ∀ w2, wr.grownBy w2 none → Seqs w2 (some ⟨q, 0, none⟩) wi (ents T) from fun w2 k n B h1 g hB2 => LS.seqs0 TL (by unfold TL; decide) (by unfold TL; decide) (by unfold TL; decide) (by unfold TL; decide) (by unfold TL; decide) (by unfold TL; decide) (l1.keep0 k) (by have := L6.out; omega) n B h1 g hB2)
      have LL := Lib.hid (show (ents T).length ≤ 60 by have := L6.out; omega)
      have GR := Lib.hid RR.out.grown
      clear l1 r1 e1 e2 e3
      generalize ents T = L at *
      obtain ⟨wo, hwo⟩ : ∃ x, x = wr := ⟨_, rfl⟩
      subst hwo
      go_wp2_with fail
      refine (collect_any wo (some ⟨q, 0, none⟩) wi L mo (SQ.out _ (gb_refl _ _)) (by have := HMO.out; omega)).mono ?_
      rintro e w4 ⟨V, rfl, hr, g⟩
      obtain ⟨pa, pc, rfl⟩ := hr.shape
      have RP := Lib.hid hr
      have G4 := Lib.hid g
      clear hr g
      have CO := collect_any w4 (some ⟨q, 0, none⟩) wi L 100 (SQ.out _ G4.out) (by decide)
      rw [List.take_of_length_le (by have := LL.out; omega)] at CO
      replace CO := Lib.hid CO
      go_wp2_with fail
      refine CO.out.mono ?_
      rintro e w5 ⟨V, rfl, hr, g⟩
      obtain ⟨qa, qc, rfl⟩ := hr.shape
      have RQ := Lib.hid hr
      have RP := Lib.hid (RP.out.keep0 g)
      have G5 := Lib.hid (gb_trans G4.out g)
      clear hr g CO G4
      obtain ⟨k, hk⟩ : ∃ k, k = min mo L.length := ⟨_, rfl⟩
      have HK := Lib.hid (show k = (L.take mo).length by rw [hk, List.length_take])
      have KM := Lib.hid hk
      rw [← hk]
      clear hk
      obtain ⟨n5, hn5⟩ : ∃ k, k = L.length := ⟨_, rfl⟩
      rw [← hn5] at KM ⊢
      have HN5 := Lib.hid hn5
      clear hn5
      have hc : ((k : Int) != (if n5 < mo then (n5 : Int) else (mo : Int))) = false := by have := KM.out; rw [bne_eq_false_iff_eq]; split <;> omega
      go_wp2
      case inl =>
        go_loopw [16] (fun i wrX => ∃ y : Nat, y ≤ k ∧ i = .int .i64 y ∧ w5.grownBy wrX none) (fun i _ => k - (intOf i).toNat)
        case atStart => exact ⟨0, Nat.zero_le _, rfl, gb_refl _ _⟩
        case round =>
          obtain ⟨y, hy, rfl, hg⟩ := hrel
          have GL := Lib.hid hg
          clear hg
          by_cases hlt2 : y < k
          · have hyl : y < L.length := by have := KM.out; have := HN5.out; omega
            have hyt : y < (L.take mo).length := by rw [← HK.out]; exact hlt2
            obtain ⟨zp, rfl⟩ := own_some (show w5.ownsRow wo.heap.size 47 3 (.slice pa (L.take mo).length pc) (L.take mo).length ((L.take mo).flatMap (itP wi)) from RP.out) (by omega)
            obtain ⟨zq, rfl⟩ := own_some (show w5.ownsRow w4.heap.size 47 3 (.slice qa L.length qc) L.length (L.flatMap (itP wi)) from RQ.out) (by omega)
            have S1 := ((own_s3 (f := itP wi) rfl (show w5.ownsRow wo.heap.size 47 3 (.slice (some ⟨zp, 0, none⟩) (L.take mo).length pc) (L.take mo).length ((L.take mo).flatMap (itP wi)) from RP.out)).keep0 GL.out).at_ (itP_3 wi) y hyt
            have S2 := ((own_s3 (f := itP wi) rfl (show w5.ownsRow w4.heap.size 47 3 (.slice (some ⟨zq, 0, none⟩) L.length qc) L.length (L.flatMap (itP wi)) from RQ.out)).keep0 GL.out).at_ (itP_3 wi) y hyl
            rw [List.getElem_take] at S1
            obtain ⟨⟨ep, ex⟩, he⟩ : ∃ e, e = L[y] := ⟨_, rfl⟩
            rw [← he] at S1 S2
            have d0 : wr.cell? ⟨zp, y * 3, none⟩ = some (.int .u32 (E wi ep)) := S1.1
            have d1 : wr.cell? ⟨zp, y * 3 + 1, none⟩ = some (.int .u32 ((maskN ep.length wi : Nat) : Int)) := S1.2.1
            have d2 : wr.cell? ⟨zp, y * 3 + 2, none⟩ = some (.int .i64 ex) := S1.2.2
            have e0 : wr.cell? ⟨zq, y * 3, none⟩ = some (.int .u32 (E wi ep)) := S2.1
            have e1 : wr.cell? ⟨zq, y * 3 + 1, none⟩ = some (.int .u32 ((maskN ep.length wi : Nat) : Int)) := S2.2.1
            have e2 : wr.cell? ⟨zq, y * 3 + 2, none⟩ = some (.int .i64 ex) := S2.2.2
            clear S1 S2 he hyt
            generalize ((maskN ep.length wi : Nat) : Int) = mk at *
            generalize E wi ep = ev at *
            have X1 : (ev == ev) = true := by simp
            have X2 : (mk == mk) = true := by simp
            have X3 : (ex == ex) = true := by simp
            have i1 : (y : Int) < k := by omega
            have i2 : (0 : Int) ≤ (y : Int) := by omega
            have i3 : (y : Int) < n5 := by have := HN5.out; omega
            have hw : IntKind.i64.wrap ((y : Int) + 1) = ((y + 1 : Nat) : Int) := by have := LL.out; rw [IntKind.wrap_i64]; omega
            go_upto_region 16 with fail
            go_quiet (fail)
            have GJ := Lib.hid (gb_trans GL.out (gb_drewN wr nq none))
            go_wp2
            exact ⟨⟨y + 1, by omega, by simp, GJ.out⟩, by show k - ((y : Int) + 1).toNat < k - (y : Int).toNat; omega⟩
          · have i1 : ¬ (y : Int) < k := by omega
            have G7 := Lib.hid (gb_trans G5.out GL.out)
            have b0 := (RR.out.box.keep0 G7.out).cell 0
            have b1 := (RR.out.box.keep0 G7.out).cell 1
            dsimp at b0 b1
            go_wp2_with fail
            refine (SM.out _ G7.out).mono ?_
            rintro e w6 ⟨rfl, g6⟩
            have G8 := Lib.hid (gb_trans GR.out (gb_trans G7.out g6))
            clear g6
            go_wp2_with fail
            refine (works_any _).mono ?_
            rintro e w8 ⟨rfl, g8⟩
            have G9 := Lib.hid g8
            clear g8
            go_wp2
            go_ret
            exact ⟨rfl, gb_trans G8.out G9.out⟩
      case inr =>
        go_loopw [16] (fun i wrX => ∃ y : Nat, y ≤ k ∧ i = .int .i64 y ∧ w5.grownBy wrX none) (fun i _ => k - (intOf i).toNat)
        case atStart => exact ⟨0, Nat.zero_le _, rfl, gb_refl _ _⟩
        case round =>
          obtain ⟨y, hy, rfl, hg⟩ := hrel
          have GL := Lib.hid hg
          clear hg
          by_cases hlt2 : y < k
          · have hyl : y < L.length := by have := KM.out; have := HN5.out; omega
            have hyt : y < (L.take mo).length := by rw [← HK.out]; exact hlt2
            obtain ⟨zp, rfl⟩ := own_some (show w5.ownsRow wo.heap.size 47 3 (.slice pa (L.take mo).length pc) (L.take mo).length ((L.take mo).flatMap (itP wi)) from RP.out) (by omega)
            obtain ⟨zq, rfl⟩ := own_some (show w5.ownsRow w4.heap.size 47 3 (.slice qa L.length qc) L.length (L.flatMap (itP wi)) from RQ.out) (by omega)
            have S1 := ((own_s3 (f := itP wi) rfl (show w5.ownsRow wo.heap.size 47 3 (.slice (some ⟨zp, 0, none⟩) (L.take mo).length pc) (L.take mo).length ((L.take mo).flatMap (itP wi)) from RP.out)).keep0 GL.out).at_ (itP_3 wi) y hyt
            have S2 := ((own_s3 (f := itP wi) rfl (show w5.ownsRow w4.heap.size 47 3 (.slice (some ⟨zq, 0, none⟩) L.length qc) L.length (L.flatMap (itP wi)) from RQ.out)).keep0 GL.out).at_ (itP_3 wi) y hyl
            rw [List.getElem_take] at S1
            obtain ⟨⟨ep, ex⟩, he⟩ : ∃ e, e = L[y] := ⟨_, rfl⟩
            rw [← he] at S1 S2
            have d0 : wr.cell? ⟨zp, y * 3, none⟩ = some (.int .u32 (E wi ep)) := S1.1
            have d1 : wr.cell? ⟨zp, y * 3 + 1, none⟩ = some (.int .u32 ((maskN ep.length wi : Nat) : Int)) := S1.2.1
            have d2 : wr.cell? ⟨zp, y * 3 + 2, none⟩ = some (.int .i64 ex) := S1.2.2
            have e0 : wr.cell? ⟨zq, y * 3, none⟩ = some (.int .u32 (E wi ep)) := S2.1
            have e1 : wr.cell? ⟨zq, y * 3 + 1, none⟩ = some (.int .u32 ((maskN ep.length wi : Nat) : Int)) := S2.2.1
            have e2 : wr.cell? ⟨zq, y * 3 + 2, none⟩ = some (.int .i64 ex) := S2.2.2
            clear S1 S2 he hyt
            generalize ((maskN ep.length wi : Nat) : Int) = mk at *
            generalize E wi ep = ev at *
            have X1 : (ev == ev) = true := by simp
            have X2 : (mk == mk) = true := by simp
            have X3 : (ex == ex) = true := by simp
            have i1 : (y : Int) < k := by omega
            have i2 : (0 : Int) ≤ (y : Int) := by omega
            have i3 : (y : Int) < n5 := by have := HN5.out; omega
            have hw : IntKind.i64.wrap ((y : Int) + 1) = ((y + 1 : Nat) : Int) := by have := LL.out; rw [IntKind.wrap_i64]; omega
            go_upto_region 16 with fail
            go_quiet (fail)
            have GJ := Lib.hid (gb_trans GL.out (gb_drewN wr nq none))
            go_wp2
            exact ⟨⟨y + 1, by omega, by simp, GJ.out⟩, by show k - ((y : Int) + 1).toNat < k - (y : Int).toNat; omega⟩
          · have i1 : ¬ (y : Int) < k := by omega
            have G7 := Lib.hid (gb_trans G5.out GL.out)
            have b0 := (RR.out.box.keep0 G7.out).cell 0
            have b1 := (RR.out.box.keep0 G7.out).cell 1
            dsimp at b0 b1
            go_wp2_with fail
            refine (SM.out _ G7.out).mono ?_
            rintro e w6 ⟨rfl, g6⟩
            have G8 := Lib.hid (gb_trans GR.out (gb_trans G7.out g6))
            clear g6
            go_wp2_with fail
            refine (works_any _).mono ?_
            rintro e w8 ⟨rfl, g8⟩
            have G9 := Lib.hid g8
            clear g8
            go_wp2
            go_ret
            exact ⟨rfl, gb_trans G8.out G9.out⟩
theorem stops_walk (a0 mo : Int) (a1 : Option Addr) (len1 cap1 : Nat) (K1 : List Ac) (W : World) (w1 : SA W a1 len1 cap1 K1) (w2 : (Lit.int .u8 mo).wf = true) : Calls Try.prog 6 #[.int .i64 a0, .slice a1 len1 cap1, .int .u8 mo] W (RetV (.bool true) W) := by
  by_cases hb : 1 ≤ a0 ∧ a0 ≤ 32
  · by_cases h3 : (60 : Int) < len1
    · exact stops_long a0 mo a1 len1 cap1 W hb h3
    · have := bounds_u8 w2
      obtain ⟨wi, rfl⟩ : ∃ k : Nat, a0 = k := ⟨a0.toNat, by omega⟩
      obtain ⟨m, rfl⟩ : ∃ k : Nat, mo = k := ⟨mo.toNat, by omega⟩
      exact stops_good wi m a1 len1 cap1 K1 W h3 (by omega) (by omega) w1
  · exact stops_bad a0 mo a1 len1 cap1 W hb
end Go.Proofs.Ytidjggaffioekaa
