/- Tries: the law Lookups. -/
import Derived.Test.YtidjggaffioekaaLuP
import Derived.Deep.QuietTactic
import Derived.BigQuiet
namespace Go.Proofs.Ytidjggaffioekaa
open Go.RowKit
set_option linter.unusedVariables false

theorem upd_yes {k : List Bool} {o : Option Ent} {e : Ent} (h : e.1 <+: k) (q : onesO o < (e.1.length : Nat)) : valO (bstS k o e) = e.2 ∧ onesO (bstS k o e) = (e.1.length : Nat) ∧ (bstS k o e).isSome = true := by
  unfold bstS; rw [if_pos ⟨h, q⟩]; exact ⟨rfl, rfl, rfl⟩
theorem upd_no {k : List Bool} {o : Option Ent} {e : Ent} (h : ¬ (e.1 <+: k ∧ onesO o < (e.1.length : Nat))) : bstS k o e = o := by
  unfold bstS; rw [if_neg h]
set_option maxRecDepth 100000 in
set_option maxHeartbeats 4000000 in
theorem looks_bad (a0 ky : Int) (a1 : Option Addr) (len1 cap1 : Nat) (W : World) (hb : ¬ (1 ≤ a0 ∧ a0 ≤ 32)) : Calls Try.prog 4 #[.int .i64 a0, .slice a1 len1 cap1, .int .u32 ky] W (RetV (.bool true) W) := by
  have NB := Lib.hid (new_bad W a0 hb)
  clear hb
  unfold RetV
  go_enter Try.func4, Try.ntmps4
  go_wp2_with fail
  refine NB.out.mono ?_
  rintro e w1 ⟨rfl, g1⟩
  have G1 := Lib.hid g1
  clear g1
  go_wp2_with fail
  refine (works_any _).mono ?_
  rintro e w8 ⟨rfl, g8⟩
  have G8 := Lib.hid g8
  clear g8
  go_wp2
  go_ret
  exact ⟨rfl, gb_trans G1.out G8.out⟩
set_option maxRecDepth 100000 in
set_option maxHeartbeats 4000000 in
theorem looks_long (a0 ky : Int) (a1 : Option Addr) (len1 cap1 : Nat) (W : World) (hb : 1 ≤ a0 ∧ a0 ≤ 32) (h3 : (60 : Int) < len1) : Calls Try.prog 4 #[.int .i64 a0, .slice a1 len1 cap1, .int .u32 ky] W (RetV (.bool true) W) := by
  have NG := Lib.hid (new_good W a0 hb)
  clear hb
  unfold RetV
  go_enter Try.func4, Try.ntmps4
  go_wp2_with fail
  refine NG.out.mono ?_
  rintro e w1 ⟨q, s, rfl, hq, hs, g, lq, ls⟩
  have G1 := Lib.hid g
  clear hq hs g lq ls NG
  go_wp2_with fail
  refine (works_any _).mono ?_
  rintro e w8 ⟨rfl, g8⟩
  have G8 := Lib.hid g8
  clear g8
  go_wp2
  go_ret
  exact ⟨rfl, gb_trans G1.out G8.out⟩
set_option maxRecDepth 100000 in
set_option maxHeartbeats 40000000 in
theorem looks_good (wi ky : Nat) (a1 : Option Addr) (len1 cap1 : Nat) (K1 : List Ac) (W : World) (h3 : ¬ (60 : Int) < len1) (hg : 1 ≤ wi ∧ wi ≤ 32) (hky : ky < 4294967296) (w1 : SA W a1 len1 cap1 K1) : Calls Try.prog 4 #[.int .i64 wi, .slice a1 len1 cap1, .int .u32 ky] W (RetV (.bool true) W) := by
  have HS := Lib.hid w1
  have L6 := Lib.hid (show len1 ≤ 60 by omega)
  have NG := Lib.hid (new_good W wi (by omega))
  have RG := Lib.hid (fun W => rnew_good W wi (by omega))
  have HG := Lib.hid hg
  obtain ⟨kv, hkv⟩ : ∃ k, k = ky % 2 ^ wi := ⟨_, rfl⟩
  have KV := Lib.hid (show kv < 2 ^ wi by rw [hkv]; exact Nat.mod_lt _ (Nat.two_pow_pos wi))
  have AO := Lib.hid (show bits .and .u32 (ky : Int) ((maskN wi wi : Nat) : Int) = (kv : Int) by rw [hkv]; exact and_ones ky wi hg.2 hky)
  have MC := Lib.hid (fun W (n : Nat) (hn : n ≤ wi) => rmask_any W n wi hn hg.2)
  clear w1 hg hkv hky
  unfold RetV at RG
  unfold RetV
  go_enter Try.func4, Try.ntmps4
  go_wp2_with fail
  refine NG.out.mono ?_
  rintro e w1 ⟨q, s, rfl, hq, hs, g, lq, ls⟩
  have H1 := Lib.hid (LS.new (wd := wi) g hq hs HG.out.1 HG.out.2 lq ls)
  clear hq hs g lq ls NG
  go_wp2_with fail
  refine (RG.out _).mono ?_
  rintro e w2 ⟨rfl, g2⟩
  have R3 := Lib.hid (show Run W q s w2.heap.size wi 0 (w2.alloc (.cells #[.int .i64 wi, .slice none 0 0] 30)) none 0 0 from ⟨⟨.nil, H1.out.keep0 (gb_trans g2 (gb_alloc _ _ none)), World.ownsRow_nil _ _ _ _, rfl, Nat.le_refl _, Nat.zero_le _⟩, IsB.new _ _ _, (gb_trans H1.out.grown g2).size⟩)
  clear g2 H1 RG
  go_upto_region 5 with fail
  generalize w2.alloc (.cells #[.int .i64 wi, .slice none 0 0] 30) = w3 at *
  obtain ⟨b, hb⟩ : ∃ b, b = w2.heap.size := ⟨_, rfl⟩
  rw [← hb] at R3 ⊢
  clear hb
  go_wp2
  go_loopw [11] (fun i wr => ∃ (j : Nat) (a : Option Addr) (n c : Nat), j ≤ len1 ∧ i = .int .i64 j ∧ Run W q s b wi j wr a n c) (fun i _ => len1 - (intOf i).toNat)
  case atStart => exact ⟨0, none, 0, 0, Nat.zero_le _, rfl, R3.out⟩
  case round =>
    obtain ⟨j, a, n, c, hj, rfl, hr⟩ := hrel
    have RR := Lib.hid hr
    clear hr R3
    by_cases hlt : j < len1
    · obtain ⟨ad, rfl⟩ := HS.out.some (by omega)
      have i1 : (j : Int) < len1 := by omega
      have i0 : (0 : Int) ≤ (j : Int) := by omega
      have hw : IntKind.i64.wrap ((j : Int) + 1) = ((j + 1 : Nat) : Int) := by have := L6.out; rw [IntKind.wrap_i64]; omega
      have CC := Lib.hid (fun (w : World) (g : W.grownBy w none) => (HS.out.keep0 g).cells ad rfl j hlt)
      have VB := Lib.hid (HS.out.at_ j hlt).2
      generalize K1.getD j az = z at *
      obtain ⟨d, v, m, x⟩ := z
      dsimp only at CC VB
      go_upto_region 8 with fail
      have GD := gb_drew wr none
      have hb0 := RR.out.box.keep0 GD
      have hg0 := gb_trans RR.out.grown GD
      have hF0 : (fun w' : World => w'.cell? ⟨b, 0, none⟩ = some (.int .i64 wi) ∧ w'.cell? ⟨b, 1, none⟩ = some (.slice a n c) ∧ w'.cell? (ad.add (j * 4)) = some (.int .i64 d) ∧ w'.cell? ⟨(ad.add (j * 4)).block, (ad.add (j * 4)).off + 1, none⟩ = some (.int .u32 (v : Nat)) ∧ w'.cell? ⟨(ad.add (j * 4)).block, (ad.add (j * 4)).off + 2, none⟩ = some (.int .i64 m) ∧ w'.cell? ⟨(ad.add (j * 4)).block, (ad.add (j * 4)).off + 3, none⟩ = some (.int .i64 x)) wr.drew := ⟨hb0.cell 0, hb0.cell 1, (CC.out _ hg0).1, (CC.out _ hg0).2.1, (CC.out _ hg0).2.2.1, (CC.out _ hg0).2.2.2⟩
      refine wp_region_S (fun w' : World => w'.cell? ⟨b, 0, none⟩ = some (.int .i64 wi) ∧ w'.cell? ⟨b, 1, none⟩ = some (.slice a n c) ∧ w'.cell? (ad.add (j * 4)) = some (.int .i64 d) ∧ w'.cell? ⟨(ad.add (j * 4)).block, (ad.add (j * 4)).off + 1, none⟩ = some (.int .u32 (v : Nat)) ∧ w'.cell? ⟨(ad.add (j * 4)).block, (ad.add (j * 4)).off + 2, none⟩ = some (.int .i64 m) ∧ w'.cell? ⟨(ad.add (j * 4)).block, (ad.add (j * 4)).off + 3, none⟩ = some (.int .i64 x)) 10 (by kernel_rfl) ?_
      refine wpAnyS_pure (i := 0) (v := ?v22) rfl (by kernel_rfl) (by kernel_rfl) (by kernel_rfl) (by decide) (fun _ _ _ h => h) (Or.inl ⟨by rfl, ?hy22⟩) (Or.inr (by assumption)) ?rest22
      case hy22 => (intro wz hSw; (try dsimp only at hSw); first | (go_simp; done) | (go_simp; with_reducible rfl))
      try simp only [Act.put, List.getElem_toArray, List.getElem_cons_zero, List.setIfInBounds_toArray, List.set_cons_zero, List.set_cons_succ]
      refine wpAnyS_load 6 (i := 1) (v := ?v23) rfl (by kernel_rfl) (by kernel_rfl) (by kernel_rfl) (by kernel_rfl) (fun _ _ _ h => h) (Or.inl ⟨by rfl, ?hy23⟩) (by assumption) ?rest23
      case hy23 => (intro wz hSw; (try dsimp only at hSw); first | (go_simp; done) | (go_simp; with_reducible rfl))
      try simp only [Act.put, List.getElem_toArray, List.getElem_cons_succ, List.getElem_cons_zero, List.setIfInBounds_toArray, List.set_cons_zero, List.set_cons_succ]
      refine wpAnyS_pure (i := 2) (v := ?v24) rfl (by kernel_rfl) (by kernel_rfl) (by kernel_rfl) (by decide) (fun _ _ _ h => h) (Or.inl ⟨by rfl, ?hy24⟩) (Or.inr (by assumption)) ?rest24
      case hy24 => (intro wz hSw; (try dsimp only at hSw); first | (go_simp; done) | (go_simp; with_reducible rfl))
      try simp only [Act.put, List.getElem_toArray, List.getElem_cons_succ, List.getElem_cons_zero, List.setIfInBounds_toArray, List.set_cons_zero, List.set_cons_succ]
      refine wpAnyS_pure (i := 3) (v := ?v25) rfl (by kernel_rfl) (by kernel_rfl) (by kernel_rfl) (by decide) (fun _ _ _ h => h) (Or.inl ⟨by rfl, ?hy25⟩) (Or.inr (by assumption)) ?rest25
      case hy25 => (intro wz hSw; (try dsimp only at hSw); first | (go_simp; done) | (go_simp; with_reducible rfl))
      try simp only [Act.put, List.getElem_toArray, List.getElem_cons_succ, List.getElem_cons_zero, List.setIfInBounds_toArray, List.set_cons_zero, List.set_cons_succ]
      refine wpAnyS_pure (i := 4) (v := ?v26) rfl (by kernel_rfl) (by kernel_rfl) (by kernel_rfl) (by decide) (fun _ _ _ h => h) (Or.inl ⟨by rfl, ?hy26⟩) (Or.inr (by assumption)) ?rest26
      case hy26 => (intro wz hSw; (try dsimp only at hSw); first | (go_simp; done) | (go_simp; with_reducible rfl))
      try simp only [Act.put, List.getElem_toArray, List.getElem_cons_succ, List.getElem_cons_zero, List.setIfInBounds_toArray, List.set_cons_zero, List.set_cons_succ]
      refine wpAnyS_load 6 (i := 5) (v := ?v27) rfl (by kernel_rfl) (by kernel_rfl) (by kernel_rfl) (by kernel_rfl) (fun _ _ _ h => h) (Or.inl ⟨by rfl, ?hy27⟩) (by assumption) ?rest27
      case hy27 => (intro wz hSw; (try dsimp only at hSw); first | (go_simp; done) | (go_simp; with_reducible rfl))
      try simp only [Act.put, List.getElem_toArray, List.getElem_cons_succ, List.getElem_cons_zero, List.setIfInBounds_toArray, List.set_cons_zero, List.set_cons_succ]
      refine wpAnyS_one (i := 6) (o := _) (by kernel_rfl) rfl (fun K hK => ?_)
      go_simp
      (with_reducible refine (Run.step (RR.out.keep0 GD) (by have := L6.out; omega) d m x v VB.out).mono ?_)
      rintro e w6 ⟨a2, n2, c2, rfl, bx, kk, gw, ex⟩
      try dsimp only
      clear hF0
      have hF1 : (fun w' : World => w'.cell? ⟨b, 0, none⟩ = some (.int .i64 wi) ∧ w'.cell? ⟨b, 1, none⟩ = some (.slice a n c) ∧ w'.cell? (ad.add (j * 4)) = some (.int .i64 d) ∧ w'.cell? ⟨(ad.add (j * 4)).block, (ad.add (j * 4)).off + 1, none⟩ = some (.int .u32 (v : Nat)) ∧ w'.cell? ⟨(ad.add (j * 4)).block, (ad.add (j * 4)).off + 2, none⟩ = some (.int .i64 m) ∧ w'.cell? ⟨(ad.add (j * 4)).block, (ad.add (j * 4)).off + 3, none⟩ = some (.int .i64 x)) w6 := ⟨bx.cell 0, bx.cell 1, (CC.out _ gw).1, (CC.out _ gw).2.1, (CC.out _ gw).2.2.1, (CC.out _ gw).2.2.2⟩
      refine hK.out _ _ (Or.inr hF1) (fun _ => ?_)
      clear hK K
      try simp only [Act.put, List.getElem_toArray, List.getElem_cons_succ, List.getElem_cons_zero, List.setIfInBounds_toArray, List.set_cons_zero, List.set_cons_succ]
      refine wpAnyS_pure (i := 7) (v := ?v28) rfl (by kernel_rfl) (by kernel_rfl) (by kernel_rfl) (by decide) (fun _ _ _ h => h) (Or.inl ⟨by rfl, ?hy28⟩) (Or.inr (by assumption)) ?rest28
      case hy28 => (intro wz hSw; (try dsimp only at hSw); first | (go_simp; done) | (go_simp; with_reducible rfl))
      try simp only [Act.put, List.getElem_toArray, List.getElem_cons_succ, List.getElem_cons_zero, List.setIfInBounds_toArray, List.set_cons_zero, List.set_cons_succ]
      refine wpAnyS_pure (i := 8) (v := ?v29) rfl (by kernel_rfl) (by kernel_rfl) (by kernel_rfl) (by decide) (fun _ _ _ h => h) (Or.inl ⟨by rfl, ?hy29⟩) (Or.inr (by assumption)) ?rest29
      case hy29 => (intro wz hSw; (try dsimp only at hSw); first | (go_simp; done) | (go_simp; with_reducible rfl))
      try simp only [Act.put, List.getElem_toArray, List.getElem_cons_succ, List.getElem_cons_zero, List.setIfInBounds_toArray, List.set_cons_zero, List.set_cons_succ]
      refine wpAnyS_pure (i := 9) (v := ?v30) rfl (by kernel_rfl) (by kernel_rfl) (by kernel_rfl) (by decide) (fun _ _ _ h => h) (Or.inl ⟨by rfl, ?hy30⟩) (Or.inr (by assumption)) ?rest30
      case hy30 => (intro wz hSw; (try dsimp only at hSw); first | (go_simp; done) | (go_simp; with_reducible rfl))
      try simp only [Act.put, List.getElem_toArray, List.getElem_cons_succ, List.getElem_cons_zero, List.setIfInBounds_toArray, List.set_cons_zero, List.set_cons_succ]
      have c0 := bx.cell 0
      have c1 := bx.cell 1
      have f0 := bx.free 0
      have f1 := bx.free 1
      dsimp at c0 c1
      refine wpAnyS_one (i := 10) (o := _) (by kernel_rfl) rfl (fun K hK => ?_)
      go_simp
      refine hK.out _ _ (Or.inl (by kernel_rfl)) (fun _ => ?_)
      clear hK K
      try simp only [Act.put, List.getElem_toArray, List.getElem_cons_succ, List.getElem_cons_zero, List.setIfInBounds_toArray, List.set_cons_zero, List.set_cons_succ]
      refine wpAnyS_done (by kernel_rfl) ?_ _
      clear hF1
      have R9 := Lib.hid (show Run W q s b wi (j + 1) ((w6.setCell ⟨b, 0, none⟩ (.int .i64 wi)).setCell ⟨b, 1, none⟩ (.slice a2 n2 c2)) a2 n2 c2 from by
        obtain ⟨T, l, r, e1, e2, e3⟩ := ex
        refine ⟨⟨T, ?_, ?_, e1, e2, e3⟩, (bx.set 0 _).set 1 _, RR.out.low⟩
        · exact (l.far bx (by decide) (by decide) (by decide) RR.out.low).far (bx.set 0 _) (by decide) (by decide) (by decide) RR.out.low
        · exact own_kept (own_kept r bx (by decide)) (bx.set 0 _) (by decide))
      clear bx kk gw ex c0 c1 f0 f1 GD hb0 hg0
      go_wp2
      exact ⟨⟨j + 1, a2, n2, c2, by omega, by simp, R9.out⟩, by show len1 - ((j : Int) + 1).toNat < len1 - (j : Int).toNat; omega⟩
    · have i1 : ¬ (j : Int) < len1 := by omega
      obtain ⟨T, l1, r1, e1, e2, e3⟩ := RR.out.ex
      have LK := Lib.hid (fun (w2 : World) (k : wr.grownBy w2 none) => look_any W w2 q s wi kv T (l1.keep0 k) KV.out)
      have OL := Lib.hid (bst_lon l1.ok (bitsN wi kv)).symm
      have SQ := Lib.hid (show ∀ w2, wr.grownBy w2 none → Seqs w2 (some ⟨q, 0, none⟩) wi (ents T) from fun w2 k n B h1 g hB2 => LS.seqs0 TL (by unfold TL; decide) (by unfold TL; decide) (by unfold TL; decide) (by unfold TL; decide) (by unfold TL; decide) (by unfold TL; decide) (l1.keep0 k) (by have := L6.out; omega) n B h1 g hB2)
      have LL := Lib.hid (show (ents T).length ≤ 60 by have := L6.out; omega)
      have FW := Lib.hid (show ∀ e ∈ ents T, e.1.length ≤ wi from fun e he => (Ok.ent l1.ok e he).2)
      have GR := Lib.hid RR.out.grown
      clear l1 r1 e1 e2 e3 RR
      generalize ents T = L at *
      obtain ⟨wo, hwo⟩ : ∃ x, x = wr := ⟨_, rfl⟩
      subst hwo
      have CO := collect_any wo (some ⟨q, 0, none⟩) wi L 100 (SQ.out _ (gb_refl _ _)) (by decide)
      rw [List.take_of_length_le (by have := LL.out; omega)] at CO
      replace CO := Lib.hid CO
      go_wp2_with fail
      refine CO.out.mono ?_
      rintro e w4 ⟨V, rfl, hr, g⟩
      obtain ⟨qa, qc, rfl⟩ := hr.shape
      have RQ := Lib.hid hr
      have G4 := Lib.hid g
      clear hr g CO
      go_wp2_with fail
      refine (MC.out _ wi (Nat.le_refl _)).mono ?_
      rintro e w5 ⟨rfl, g⟩
      have RQ := Lib.hid (RQ.out.keep0 g)
      have G5 := Lib.hid (gb_trans G4.out g)
      clear g G4
      have ao := AO.out
      obtain ⟨n5, hn5⟩ : ∃ k, k = L.length := ⟨_, rfl⟩
      rw [← hn5]
      have HN5 := Lib.hid hn5
      clear hn5
      go_wp2
      clear ao
      go_loopw [14, 15, 16, 17] (fun xv nv fv i wrX => ∃ y : Nat, y ≤ n5 ∧ xv = .int .i64 (valO (bst (bitsN wi kv) (L.take y))) ∧ nv = .int .i64 (onesO (bst (bitsN wi kv) (L.take y))) ∧ fv = .bool (bst (bitsN wi kv) (L.take y)).isSome ∧ i = .int .i64 y ∧ w5.grownBy wrX none) (fun _ _ _ i _ => n5 - (intOf i).toNat)
      case atStart => exact ⟨0, Nat.zero_le _, rfl, rfl, rfl, rfl, gb_refl _ _⟩
      case round =>
        obtain ⟨y, hy, rfl, rfl, rfl, rfl, hg⟩ := hrel
        have GL := Lib.hid hg
        clear hg
        by_cases hlt2 : y < n5
        · have hyl : y < L.length := by rw [← HN5.out]; exact hlt2
          obtain ⟨zq, rfl⟩ := own_some (show w5.ownsRow wo.heap.size 47 3 (.slice qa L.length qc) L.length (L.flatMap (itP wi)) from RQ.out) (by omega)
          have S2 := Lib.hid (fun (w : World) (g : w5.grownBy w none) => ((own_s3 (f := itP wi) rfl (show w5.ownsRow wo.heap.size 47 3 (.slice (some ⟨zq, 0, none⟩) L.length qc) L.length (L.flatMap (itP wi)) from RQ.out)).keep0 g).at_ (itP_3 wi) y hyl)
          have STP := Lib.hid (show bst (bitsN wi kv) (L.take (y + 1)) = bstS (bitsN wi kv) (bst (bitsN wi kv) (L.take y)) (L[y]) by rw [← bst_snoc]; congr 1; rw [List.take_succ_eq_append_getElem hyl])
          have FE := Lib.hid (FW.out _ (List.getElem_mem hyl))
          generalize L[y] = en at *
          obtain ⟨ep, ex⟩ := en
          dsimp only at FE S2 STP
          have PT := Lib.hid (pre_take (v := kv) FE.out)
          have AM := Lib.hid (and_mk kv ep.length wi FE.out HG.out.2 KV.out)
          have MI := Lib.hid (fun j (hj : j ≤ wi) => (⟨fun h => mask_inj FE.out hj h, fun h => by rw [h]⟩ : maskN ep.length wi = maskN j wi ↔ ep.length = j))
          obtain ⟨el, hel⟩ : ∃ k, k = ep.length := ⟨_, rfl⟩
          have EL := Lib.hid hel
          have EW := Lib.hid (show el ≤ wi by rw [hel]; exact FE.out)
          obtain ⟨mk, hmk⟩ : ∃ k : Int, k = ((maskN ep.length wi : Nat) : Int) := ⟨_, rfl⟩
          have EM := Lib.hid hmk
          have E0 := Lib.hid (show ∀ w, w5.grownBy w none → w.cell? ⟨zq, y * 3, none⟩ = some (.int .u32 (E wi ep)) from fun w g => (S2.out w g).1)
          have E1 := Lib.hid (show ∀ w, w5.grownBy w none → w.cell? ⟨zq, y * 3 + 1, none⟩ = some (.int .u32 mk) from fun w g => by rw [hmk]; exact (S2.out w g).2.1)
          have E2 := Lib.hid (show ∀ w, w5.grownBy w none → w.cell? ⟨zq, y * 3 + 2, none⟩ = some (.int .i64 ex) from fun w g => (S2.out w g).2.2)
          clear S2 hel hmk hyl
          obtain ⟨o, ho⟩ : ∃ o, o = bst (bitsN wi kv) (L.take y) := ⟨_, rfl⟩
          have HO := Lib.hid ho
          rw [← ho]
          rw [← ho] at STP
          clear ho
          obtain ⟨xo, hxo⟩ : ∃ o', o' = valO o := ⟨_, rfl⟩
          obtain ⟨no, hno⟩ : ∃ o', o' = onesO o := ⟨_, rfl⟩
          obtain ⟨bo, hbo⟩ : ∃ o', o' = o.isSome := ⟨_, rfl⟩
          have XO := Lib.hid hxo
          have NO := Lib.hid hno
          have BO := Lib.hid hbo
          rw [← hxo, ← hno, ← hbo]
          clear hxo hno hbo
          have i1 : (y : Int) < n5 := by omega
          have i2 : (0 : Int) ≤ (y : Int) := by omega
          have hw : IntKind.i64.wrap ((y : Int) + 1) = ((y + 1 : Nat) : Int) := by have := LL.out; have := HN5.out; rw [IntKind.wrap_i64]; omega
          go_wp2
          go_loopw [18, 19] (fun on kk wrX => ∃ x : Nat, x ≤ wi + 1 ∧ on = .int .i64 (if el < x then (el : Int) else 0) ∧ kk = .int .i64 x ∧ w5.grownBy wrX none) (fun _ kk _ => wi + 1 - (intOf kk).toNat)
          case atStart => exact ⟨0, by omega, by rw [if_neg (by omega)], rfl, GL.out⟩
          case round =>
            obtain ⟨x, hx, rfl, rfl, hg⟩ := hrel
            have GI := Lib.hid hg
            clear hg
            by_cases hlx : x ≤ wi
            · have i3 : (x : Int) ≤ wi := by omega
              have hw2 : IntKind.i64.wrap ((x : Int) + 1) = ((x + 1 : Nat) : Int) := by have := HG.out; rw [IntKind.wrap_i64]; omega
              replace E1 := Lib.hid (E1.out wr GI.out)
              have MJ := Lib.hid (MI.out x hlx)
              by_cases hEq : el = x
              · have hb : (mk == ((maskN x wi : Nat) : Int)) = true := by rw [EM.out, beq_iff_eq, (MJ.out.2 (by rw [← EL.out]; exact hEq))]
                go_upto_region 21 with fail
                have KQ := Lib.hid (fun (w' : World) (q0 : wr.grownBy w' none) => (⟨q0.cell E1.out (by simp), q0⟩ : (fun w' : World => w'.cell? ⟨zq, y * 3 + 1, none⟩ = some (.int .u32 mk) ∧ wr.grownBy w' none) w'))
                have Q0 := Lib.hid (gb_drew wr none)
                refine wp_region_held_drew (S := (fun w' : World => w'.cell? ⟨zq, y * 3 + 1, none⟩ = some (.int .u32 mk) ∧ wr.grownBy w' none)) (by kernel_rfl) (KQ.out _ Q0.out) (fun hH0 => ?_)
                refine wpAnyH_take (i := 0) (v := ?v31) rfl (by kernel_rfl) (by kernel_rfl) (by kernel_rfl) (fun _ _ _ h => h) (Or.inl ⟨by rfl, ?hy31⟩) (by assumption) ?rest31
                case hy31 => (intro wz hSw; (try dsimp only at hSw); first | (go_simp; done) | (go_simp; with_reducible rfl))
                try simp only [Act.put, List.getElem_toArray, List.getElem_cons_zero, List.setIfInBounds_toArray, List.set_cons_zero, List.set_cons_succ]
                refine wpAnyH_take (i := 1) (v := ?v32) rfl (by kernel_rfl) (by kernel_rfl) (by kernel_rfl) (fun _ _ _ h => h) (Or.inl ⟨by rfl, ?hy32⟩) (by assumption) ?rest32
                case hy32 => (intro wz hSw; (try dsimp only at hSw); first | (go_simp; done) | (go_simp; with_reducible rfl))
                try simp only [Act.put, List.getElem_toArray, List.getElem_cons_succ, List.getElem_cons_zero, List.setIfInBounds_toArray, List.set_cons_zero, List.set_cons_succ]
                refine wpAnyH_take (i := 2) (v := ?v33) rfl (by kernel_rfl) (by kernel_rfl) (by kernel_rfl) (fun _ _ _ h => h) (Or.inl ⟨by rfl, ?hy33⟩) (by assumption) ?rest33
                case hy33 => (intro wz hSw; (try dsimp only at hSw); first | (go_simp; done) | (go_simp; with_reducible rfl))
                try simp only [Act.put, List.getElem_toArray, List.getElem_cons_succ, List.getElem_cons_zero, List.setIfInBounds_toArray, List.set_cons_zero, List.set_cons_succ]
                refine wpAnyH_take (i := 3) (v := ?v34) rfl (by kernel_rfl) (by kernel_rfl) (by kernel_rfl) (fun _ _ _ h => h) (Or.inl ⟨by rfl, ?hy34⟩) (by assumption) ?rest34
                case hy34 => (intro wz hSw; (try dsimp only at hSw); first | (go_simp; done) | (go_simp; with_reducible rfl))
                try simp only [Act.put, List.getElem_toArray, List.getElem_cons_succ, List.getElem_cons_zero, List.setIfInBounds_toArray, List.set_cons_zero, List.set_cons_succ]
                refine wpAnyH_take (i := 4) (v := ?v35) rfl (by kernel_rfl) (by kernel_rfl) (by kernel_rfl) (fun _ _ _ h => h) (Or.inl ⟨by rfl, ?hy35⟩) (by assumption) ?rest35
                case hy35 => (intro wz hSw; (try dsimp only at hSw); first | (go_simp; done) | (go_simp; with_reducible rfl))
                try simp only [Act.put, List.getElem_toArray, List.getElem_cons_succ, List.getElem_cons_zero, List.setIfInBounds_toArray, List.set_cons_zero, List.set_cons_succ]
                refine wpAnyH_take (i := 5) (v := ?v36) rfl (by kernel_rfl) (by kernel_rfl) (by kernel_rfl) (fun _ _ _ h => h) (Or.inl ⟨by rfl, ?hy36⟩) (by assumption) ?rest36
                case hy36 => (intro wz hSw; (try dsimp only at hSw); first | (go_simp; done) | (go_simp; with_reducible rfl))
                try simp only [Act.put, List.getElem_toArray, List.getElem_cons_succ, List.getElem_cons_zero, List.setIfInBounds_toArray, List.set_cons_zero, List.set_cons_succ]
                refine wpAnyH_take (i := 6) (v := ?v37) rfl (by kernel_rfl) (by kernel_rfl) (by kernel_rfl) (fun _ _ _ h => h) (Or.inl ⟨by rfl, ?hy37⟩) (by assumption) ?rest37
                case hy37 => (intro wz hSw; (try dsimp only at hSw); first | (go_simp; done) | (go_simp; with_reducible rfl))
                try simp only [Act.put, List.getElem_toArray, List.getElem_cons_succ, List.getElem_cons_zero, List.setIfInBounds_toArray, List.set_cons_zero, List.set_cons_succ]
                refine wpAnyH_take (i := 7) (v := ?v38) rfl (by kernel_rfl) (by kernel_rfl) (by kernel_rfl) (fun _ _ _ h => h) (Or.inl ⟨by rfl, ?hy38⟩) (by assumption) ?rest38
                case hy38 => (intro wz hSw; (try dsimp only at hSw); first | (go_simp; done) | (go_simp; with_reducible rfl))
                try simp only [Act.put, List.getElem_toArray, List.getElem_cons_succ, List.getElem_cons_zero, List.setIfInBounds_toArray, List.set_cons_zero, List.set_cons_succ]
                refine wpAnyH_ready (rs := [8]) (by kernel_rfl) (by simp) ?_
                refine AllReadyH.cons (o := _) rfl (fun K hK => ?_) AllReadyH.nil
                go_simp
                (with_reducible refine (MC.out _ x (by omega)).mono ?_)
                rintro e qw1 ⟨rfl, g⟩
                have Q1 := Lib.hid (gb_trans Q0.out g)
                clear g
                try dsimp only
                refine hK.out _ _ (KQ.out _ Q1.out) (fun hH1 => ?_)
                clear hK K hH0
                try simp only [Act.put, List.getElem_toArray, List.getElem_cons_succ, List.getElem_cons_zero, List.setIfInBounds_toArray, List.set_cons_zero, List.set_cons_succ]
                refine wpAnyH_take (i := 9) (v := ?v39) rfl (by kernel_rfl) (by kernel_rfl) (by kernel_rfl) (fun _ _ _ h => h) (Or.inl ⟨by rfl, ?hy39⟩) (by assumption) ?rest39
                case hy39 => (intro wz hSw; (try dsimp only at hSw); first | (go_simp; done) | (go_simp; with_reducible rfl))
                try simp only [Act.put, List.getElem_toArray, List.getElem_cons_succ, List.getElem_cons_zero, List.setIfInBounds_toArray, List.set_cons_zero, List.set_cons_succ]
                refine wpAnyH_done (by kernel_rfl) ?_ _
                clear hH1
                have GJ := Lib.hid (gb_trans GI.out Q1.out)
                go_wp2
                exact ⟨⟨x + 1, by omega, by rw [if_pos (by omega), hEq], by simp, GJ.out⟩, by show wi + 1 - ((x : Int) + 1).toNat < wi + 1 - (x : Int).toNat; omega⟩
              · have hb : (mk == ((maskN x wi : Nat) : Int)) = false := by rw [EM.out, beq_eq_false_iff_ne]; intro h; exact hEq (by rw [EL.out]; exact MJ.out.1 (by exact_mod_cast h))
                go_upto_region 21 with fail
                have KQ := Lib.hid (fun (w' : World) (q0 : wr.grownBy w' none) => (⟨q0.cell E1.out (by simp), q0⟩ : (fun w' : World => w'.cell? ⟨zq, y * 3 + 1, none⟩ = some (.int .u32 mk) ∧ wr.grownBy w' none) w'))
                have Q0 := Lib.hid (gb_drew wr none)
                refine wp_region_held_drew (S := (fun w' : World => w'.cell? ⟨zq, y * 3 + 1, none⟩ = some (.int .u32 mk) ∧ wr.grownBy w' none)) (by kernel_rfl) (KQ.out _ Q0.out) (fun hH0 => ?_)
                refine wpAnyH_take (i := 0) (v := ?v40) rfl (by kernel_rfl) (by kernel_rfl) (by kernel_rfl) (fun _ _ _ h => h) (Or.inl ⟨by rfl, ?hy40⟩) (by assumption) ?rest40
                case hy40 => (intro wz hSw; (try dsimp only at hSw); first | (go_simp; done) | (go_simp; with_reducible rfl))
                try simp only [Act.put, List.getElem_toArray, List.getElem_cons_zero, List.setIfInBounds_toArray, List.set_cons_zero, List.set_cons_succ]
                refine wpAnyH_take (i := 1) (v := ?v41) rfl (by kernel_rfl) (by kernel_rfl) (by kernel_rfl) (fun _ _ _ h => h) (Or.inl ⟨by rfl, ?hy41⟩) (by assumption) ?rest41
                case hy41 => (intro wz hSw; (try dsimp only at hSw); first | (go_simp; done) | (go_simp; with_reducible rfl))
                try simp only [Act.put, List.getElem_toArray, List.getElem_cons_succ, List.getElem_cons_zero, List.setIfInBounds_toArray, List.set_cons_zero, List.set_cons_succ]
                refine wpAnyH_take (i := 2) (v := ?v42) rfl (by kernel_rfl) (by kernel_rfl) (by kernel_rfl) (fun _ _ _ h => h) (Or.inl ⟨by rfl, ?hy42⟩) (by assumption) ?rest42
                case hy42 => (intro wz hSw; (try dsimp only at hSw); first | (go_simp; done) | (go_simp; with_reducible rfl))
                try simp only [Act.put, List.getElem_toArray, List.getElem_cons_succ, List.getElem_cons_zero, List.setIfInBounds_toArray, List.set_cons_zero, List.set_cons_succ]
                refine wpAnyH_take (i := 3) (v := ?v43) rfl (by kernel_rfl) (by kernel_rfl) (by kernel_rfl) (fun _ _ _ h => h) (Or.inl ⟨by rfl, ?hy43⟩) (by assumption) ?rest43
                case hy43 => (intro wz hSw; (try dsimp only at hSw); first | (go_simp; done) | (go_simp; with_reducible rfl))
                try simp only [Act.put, List.getElem_toArray, List.getElem_cons_succ, List.getElem_cons_zero, List.setIfInBounds_toArray, List.set_cons_zero, List.set_cons_succ]
                refine wpAnyH_take (i := 4) (v := ?v44) rfl (by kernel_rfl) (by kernel_rfl) (by kernel_rfl) (fun _ _ _ h => h) (Or.inl ⟨by rfl, ?hy44⟩) (by assumption) ?rest44
                case hy44 => (intro wz hSw; (try dsimp only at hSw); first | (go_simp; done) | (go_simp; with_reducible rfl))
                try simp only [Act.put, List.getElem_toArray, List.getElem_cons_succ, List.getElem_cons_zero, List.setIfInBounds_toArray, List.set_cons_zero, List.set_cons_succ]
                refine wpAnyH_take (i := 5) (v := ?v45) rfl (by kernel_rfl) (by kernel_rfl) (by kernel_rfl) (fun _ _ _ h => h) (Or.inl ⟨by rfl, ?hy45⟩) (by assumption) ?rest45
                case hy45 => (intro wz hSw; (try dsimp only at hSw); first | (go_simp; done) | (go_simp; with_reducible rfl))
                try simp only [Act.put, List.getElem_toArray, List.getElem_cons_succ, List.getElem_cons_zero, List.setIfInBounds_toArray, List.set_cons_zero, List.set_cons_succ]
                refine wpAnyH_take (i := 6) (v := ?v46) rfl (by kernel_rfl) (by kernel_rfl) (by kernel_rfl) (fun _ _ _ h => h) (Or.inl ⟨by rfl, ?hy46⟩) (by assumption) ?rest46
                case hy46 => (intro wz hSw; (try dsimp only at hSw); first | (go_simp; done) | (go_simp; with_reducible rfl))
                try simp only [Act.put, List.getElem_toArray, List.getElem_cons_succ, List.getElem_cons_zero, List.setIfInBounds_toArray, List.set_cons_zero, List.set_cons_succ]
                refine wpAnyH_take (i := 7) (v := ?v47) rfl (by kernel_rfl) (by kernel_rfl) (by kernel_rfl) (fun _ _ _ h => h) (Or.inl ⟨by rfl, ?hy47⟩) (by assumption) ?rest47
                case hy47 => (intro wz hSw; (try dsimp only at hSw); first | (go_simp; done) | (go_simp; with_reducible rfl))
                try simp only [Act.put, List.getElem_toArray, List.getElem_cons_succ, List.getElem_cons_zero, List.setIfInBounds_toArray, List.set_cons_zero, List.set_cons_succ]
                refine wpAnyH_ready (rs := [8]) (by kernel_rfl) (by simp) ?_
                refine AllReadyH.cons (o := _) rfl (fun K hK => ?_) AllReadyH.nil
                go_simp
                (with_reducible refine (MC.out _ x (by omega)).mono ?_)
                rintro e qw1 ⟨rfl, g⟩
                have Q1 := Lib.hid (gb_trans Q0.out g)
                clear g
                try dsimp only
                refine hK.out _ _ (KQ.out _ Q1.out) (fun hH1 => ?_)
                clear hK K hH0
                try simp only [Act.put, List.getElem_toArray, List.getElem_cons_succ, List.getElem_cons_zero, List.setIfInBounds_toArray, List.set_cons_zero, List.set_cons_succ]
                refine wpAnyH_take (i := 9) (v := ?v48) rfl (by kernel_rfl) (by kernel_rfl) (by kernel_rfl) (fun _ _ _ h => h) (Or.inl ⟨by rfl, ?hy48⟩) (by assumption) ?rest48
                case hy48 => (intro wz hSw; (try dsimp only at hSw); first | (go_simp; done) | (go_simp; with_reducible rfl))
                try simp only [Act.put, List.getElem_toArray, List.getElem_cons_succ, List.getElem_cons_zero, List.setIfInBounds_toArray, List.set_cons_zero, List.set_cons_succ]
                refine wpAnyH_done (by kernel_rfl) ?_ _
                clear hH1
                have GJ := Lib.hid (gb_trans GI.out Q1.out)
                go_wp2
                exact ⟨⟨x + 1, by omega, by rw [show (if el < x then (el : Int) else 0) = (if el < x + 1 then (el : Int) else 0) by rcases Nat.lt_or_ge el x with q | q; rw [if_pos q, if_pos (by omega)]; rw [if_neg (by omega), if_neg (by omega)]], by simp, GJ.out⟩, by show wi + 1 - ((x : Int) + 1).toNat < wi + 1 - (x : Int).toNat; omega⟩
            · have i3 : ¬ (x : Int) ≤ wi := by omega
              have e5 : (if el < x then (el : Int) else 0) = el := if_pos (by have := EW.out; omega)
              rw [e5]
              have e0 := E0.out _ GI.out
              have e1 := E1.out _ GI.out
              have e2 := E2.out _ GI.out
              clear e5
              have AV := AM.out
              rw [← EM.out] at AV
              by_cases hP : ep <+: bitsN wi kv
              · have hb : (E wi ((bitsN wi kv).take ep.length) == E wi ep) = true := by rw [beq_iff_eq]; exact PT.out.2 hP
                by_cases hN : no < (el : Int)
                · have U := Lib.hid (upd_yes (o := o) (e := (ep, ex)) hP (by show onesO o < _; rw [← NO.out, ← EL.out]; exact hN))
                  rw [← STP.out] at U
                  clear hP
                  go_upto_region 23 with fail
                  go_quiet (fail)
                  have f2 := (gb_drewN wr nq none).cell e2 (by simp)
                  have GJ := Lib.hid (gb_trans GI.out (gb_drewN wr nq none))
                  go_wp2
                  exact ⟨⟨y + 1, by omega, by rw [U.out.1], by rw [U.out.2.1, EL.out], by rw [U.out.2.2], by simp, GJ.out⟩, by show n5 - ((y : Int) + 1).toNat < n5 - (y : Int).toNat; omega⟩
                · have U := Lib.hid (upd_no (k := bitsN wi kv) (o := o) (e := (ep, ex)) (fun q => hN (by have := q.2; show no < _; rw [NO.out, EL.out]; exact this)))
                  rw [← STP.out] at U
                  clear hP
                  go_upto_region 23 with fail
                  go_quiet (fail)
                  have GJ := Lib.hid (gb_trans GI.out (gb_drewN wr nq none))
                  go_wp2
                  exact ⟨⟨y + 1, by omega, by rw [U.out, XO.out], by rw [U.out, NO.out], by rw [U.out, BO.out], by simp, GJ.out⟩, by show n5 - ((y : Int) + 1).toNat < n5 - (y : Int).toNat; omega⟩
              · have hb : (E wi ((bitsN wi kv).take ep.length) == E wi ep) = false := by rw [beq_eq_false_iff_ne]; exact fun h => hP (PT.out.1 h)
                have U := Lib.hid (upd_no (k := bitsN wi kv) (o := o) (e := (ep, ex)) (fun q => hP q.1))
                rw [← STP.out] at U
                clear hP
                go_upto_region 23 with fail
                go_quiet (fail)
                have GJ := Lib.hid (gb_trans GI.out (gb_drewN wr nq none))
                go_wp2
                exact ⟨⟨y + 1, by omega, by rw [U.out, XO.out], by rw [U.out, NO.out], by rw [U.out, BO.out], by simp, GJ.out⟩, by show n5 - ((y : Int) + 1).toNat < n5 - (y : Int).toNat; omega⟩
        · have i1 : ¬ (y : Int) < n5 := by omega
          have hyn : y = L.length := by have := HN5.out; omega
          have ety : L.take y = L := by rw [hyn, List.take_length]
          rw [ety]
          clear hyn hlt2 ety
          rw [← OL.out]
          have G7 := Lib.hid (gb_trans G5.out GL.out)
          have LKC := Lib.hid (LK.out _ G7.out)
          rw [tri_nv] at LKC
          obtain ⟨o, ho⟩ : ∃ o, o = lonT (bitsN wi kv) T none := ⟨_, rfl⟩
          rw [← ho] at LKC ⊢
          clear ho
          have NOB := Lib.hid (show o.isSome = true ∨ o.isSome = false by cases o <;> simp)
          generalize valO o = xo at *
          generalize onesO o = no at *
          generalize o.isSome = bo at *
          have hx : (xo == xo) = true := by simp
          have hn : (no == no) = true := by simp
          have hbb : (bo == bo) = true := by simp
          cases bo
          all_goals (
            go_wp2_with fail
            refine LKC.out.mono ?_
            rintro e w6 ⟨rfl, g6⟩
            have GF := Lib.hid (gb_trans GR.out (gb_trans G7.out g6))
            clear g6
            go_wp2_with fail
            refine (works_any _).mono ?_
            rintro e w8 ⟨rfl, g8⟩
            have G8 := Lib.hid g8
            clear g8
            go_wp2
            go_ret
            exact ⟨rfl, gb_trans GF.out G8.out⟩)
theorem looks_walk (a0 ky : Int) (a1 : Option Addr) (len1 cap1 : Nat) (K1 : List Ac) (W : World) (w1 : SA W a1 len1 cap1 K1) (w2 : (Lit.int .u32 ky).wf = true) : Calls Try.prog 4 #[.int .i64 a0, .slice a1 len1 cap1, .int .u32 ky] W (RetV (.bool true) W) := by
  by_cases hb : 1 ≤ a0 ∧ a0 ≤ 32
  · by_cases h3 : (60 : Int) < len1
    · exact looks_long a0 ky a1 len1 cap1 W hb h3
    · have := u32_bd w2
      obtain ⟨wi, rfl⟩ : ∃ k : Nat, a0 = k := ⟨a0.toNat, by omega⟩
      obtain ⟨m, rfl⟩ : ∃ k : Nat, ky = k := ⟨ky.toNat, by omega⟩
      exact looks_good wi m a1 len1 cap1 K1 W h3 (by omega) (by omega) w1
  · exact looks_bad a0 ky a1 len1 cap1 W hb
end Go.Proofs.Ytidjggaffioekaa
