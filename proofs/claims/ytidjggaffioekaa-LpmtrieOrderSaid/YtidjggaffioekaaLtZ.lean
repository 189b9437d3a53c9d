/- Tries: the law Runs. -/
import Derived.Test.YtidjggaffioekaaFrL
import Derived.Deep.QuietTactic
import Derived.BigQuiet
namespace Go.Proofs.Ytidjggaffioekaa
open Go.RowKit
set_option linter.unusedVariables false

/-- The state of a run: the trie, and the reference's in a block of the law's own. -/
structure Run (W : World) (q s b wi j : Nat) (w : World) (a : Option Addr) (n c : Nat) : Prop where
  ex : ∃ T, LS W q s wi T w ∧ RI w 0 (.slice a n c) wi (ents T) ∧ n = (ents T).length ∧ n ≤ j ∧ (blks T).length ≤ 2 * j
  box : IsB w b 30 #[.int .i64 wi, .slice a n c]
  low : W.heap.size ≤ b
theorem Run.keep0 {W w w2 : World} {q s b wi j : Nat} {a : Option Addr} {n c : Nat} (h : Run W q s b wi j w a n c) (k : w.grownBy w2 none) : Run W q s b wi j w2 a n c := by
  obtain ⟨T, h1, h2, h3, h4, h5⟩ := h.ex
  exact ⟨⟨T, h1.keep0 k, h2.keep0 k, h3, h4, h5⟩, h.box.keep0 k, h.low⟩
theorem Run.grown {W w : World} {q s b wi j : Nat} {a : Option Addr} {n c : Nat} (h : Run W q s b wi j w a n c) : W.grownBy w none := by
  obtain ⟨T, h1, _⟩ := h.ex
  exact h1.grown
/-- What a step leaves of a run: the new trie of the reference, and the law's block as it was. -/
def RetZ (W : World) (q s b wi j : Nat) (a : Option Addr) (n c : Nat) (w : World) (e : Ending) (w' : World) : Prop := ∃ a2 n2 c2, e = .returned (.tuple #[.agg #[.int .i64 wi, .slice a2 n2 c2], .bool true]) ∧ IsB w' b 30 #[.int .i64 wi, .slice a n c] ∧
  (∀ g cs, IsB w g 30 cs → IsB w' g 30 cs) ∧ W.grownBy w' none ∧ (∃ T, LS W q s wi T w' ∧ RI w' 0 (.slice a2 n2 c2) wi (ents T) ∧ n2 = (ents T).length ∧ n2 ≤ j + 1 ∧ (blks T).length ≤ 2 * (j + 1))
theorem Run.step {W w : World} {q s b wi j : Nat} {a : Option Addr} {n c : Nat} (h : Run W q s b wi j w a n c) (hj : j ≤ 100) (d m x : Int) (v : Nat) (hv : v < 4294967296) :
    Calls Try.prog 11 #[.pointer (some ⟨q, 0, none⟩), .agg #[.int .i64 wi, .slice a n c], .agg #[.int .i64 d, .int .u32 v, .int .i64 m, .int .i64 x]] w (RetZ W q s b wi j a n c w) := by
  obtain ⟨T, h1, h2, h3, h4, h5⟩ := h.ex
  refine (step_any W w q s wi v T d m x a n c h1 hv (by omega) h2 h3).mono ?_
  rintro e w2 ⟨T', a2, n2, c2, rfl, hn2, r2, l2, f, e1, e2⟩
  have kk : ∀ g cs, IsB w g 30 cs → IsB w2 g 30 cs := fun g cs k => f.isb k (h1.not_bs k (by decide) (by decide))
  exact ⟨a2, n2, c2, rfl, kk _ _ h.box, kk, l2.grown, T', l2, r2, hn2, by omega, by omega⟩
set_option maxRecDepth 100000 in
set_option maxHeartbeats 4000000 in
theorem runs_long (a0 : Int) (a1 : Option Addr) (len1 cap1 : Nat) (W : World) (h3 : (60 : Int) < len1) : Calls Try.prog 3 #[.int .i64 a0, .slice a1 len1 cap1] W (RetV (.bool true) W) := by
  have WA := Lib.hid (works_any W)
  unfold RetV
  go_enter Try.func3, Try.ntmps3
  go_wp2_with fail
  refine WA.out.mono ?_
  rintro e w8 ⟨rfl, g8⟩
  go_wp2
  go_ret
  exact ⟨rfl, g8⟩
set_option maxRecDepth 100000 in
set_option maxHeartbeats 4000000 in
theorem runs_bad (a0 : Int) (a1 : Option Addr) (len1 cap1 : Nat) (W : World) (h3 : ¬ (60 : Int) < len1) (hb : ¬ (1 ≤ a0 ∧ a0 ≤ 32)) : Calls Try.prog 3 #[.int .i64 a0, .slice a1 len1 cap1] W (RetV (.bool true) W) := by
  have NB := Lib.hid (fun W => new_bad W a0 hb)
  have RB := Lib.hid (fun W => rnew_bad W a0 hb)
  clear hb
  unfold RetV
  go_enter Try.func3, Try.ntmps3
  go_wp2_with fail
  refine (NB.out _).mono ?_
  rintro e w1 ⟨rfl, g1⟩
  have G1 := Lib.hid g1
  clear g1
  go_wp2_with fail
  refine (RB.out _).mono ?_
  rintro e w2 ⟨rfl, g2⟩
  have G2 := Lib.hid (gb_trans (gb_trans G1.out g2) (gb_alloc w2 (.cells #[.int .i64 0, .slice none 0 0] 30) none))
  clear g2
  go_upto_region 5 with fail
  generalize w2.alloc (.cells #[.int .i64 0, .slice none 0 0] 30) = w3 at *
  go_wp2
  go_loopw [9] (fun i wr => i = .int .i64 0 ∧ w3.grownBy wr none) (fun _ _ => 0)
  case atStart => exact ⟨rfl, gb_refl _ _⟩
  case round =>
    obtain ⟨rfl, hg⟩ := hrel
    have G := Lib.hid hg
    clear hg
    by_cases hl : (0 : Int) < len1
    all_goals (
      go_wp2_with fail
      refine (works_any _).mono ?_
      rintro e w8 ⟨rfl, g8⟩
      have G8 := Lib.hid g8
      clear g8
      go_wp2
      go_ret
      exact ⟨rfl, gb_trans G2.out (gb_trans G.out G8.out)⟩)
set_option maxRecDepth 100000 in
set_option maxHeartbeats 4000000 in
theorem runs_good (wi : Nat) (a1 : Option Addr) (len1 cap1 : Nat) (K1 : List Ac) (W : World) (h3 : ¬ (60 : Int) < len1) (hg : 1 ≤ wi ∧ wi ≤ 32) (w1 : SA W a1 len1 cap1 K1) : Calls Try.prog 3 #[.int .i64 wi, .slice a1 len1 cap1] W (RetV (.bool true) W) := by
  have HS := Lib.hid w1
  have L6 := Lib.hid (show len1 ≤ 60 by omega)
  have NG := Lib.hid (new_good W wi (by omega))
  have RG := Lib.hid (fun W => rnew_good W wi (by omega))
  have HG := Lib.hid hg
  clear w1 hg
  unfold RetV at RG
  unfold RetV
  go_enter Try.func3, Try.ntmps3
  go_wp2_with fail
  refine NG.out.mono ?_
  rintro e w1 ⟨q, s, rfl, hq, hs, g, lq, ls⟩
  have H1 := Lib.hid (LS.new (wd := wi) g hq hs HG.out.1 HG.out.2 lq ls)
  clear hq hs g lq ls NG
  go_wp2_with fail
  refine (RG.out _).mono ?_
  rintro e w2 ⟨rfl, g2⟩
  have R3 := Lib.hid (show Run W q s w2.heap.size wi 0 (w2.alloc (.cells #[.int .i64 wi, .slice none 0 0] 30)) none 0 0 from ⟨⟨.nil, H1.out.keep0 (gb_trans g2 (gb_alloc _ _ none)), World.ownsRow_nil _ _ _ _, rfl, Nat.le_refl _, Nat.zero_le _⟩, IsB.new _ _ _, (gb_trans H1.out.grown g2).size⟩)
  clear g2 H1 RG
  go_upto_region 5 with fail
  generalize w2.alloc (.cells #[.int .i64 wi, .slice none 0 0] 30) = w3 at *
  obtain ⟨b, hb⟩ : ∃ b, b = w2.heap.size := ⟨_, rfl⟩
  rw [← hb] at R3 ⊢
  clear hb
  go_wp2
  go_loopw [9] (fun i wr => ∃ (j : Nat) (a : Option Addr) (n c : Nat), j ≤ len1 ∧ i = .int .i64 j ∧ Run W q s b wi j wr a n c) (fun i _ => len1 - (intOf i).toNat)
  case atStart => exact ⟨0, none, 0, 0, Nat.zero_le _, rfl, R3.out⟩
  case round =>
    obtain ⟨j, a, n, c, hj, rfl, hr⟩ := hrel
    have RR := Lib.hid hr
    clear hr R3
    by_cases hlt : j < len1
    · obtain ⟨ad, rfl⟩ := HS.out.some (by omega)
      have i1 : (j : Int) < len1 := by omega
      have i0 : (0 : Int) ≤ (j : Int) := by omega
      have hw : IntKind.i64.wrap ((j : Int) + 1) = ((j + 1 : Nat) : Int) := by have := L6.out; rw [IntKind.wrap_i64]; omega
      have CC := Lib.hid (fun (w : World) (g : W.grownBy w none) => (HS.out.keep0 g).cells ad rfl j hlt)
      have VB := Lib.hid (HS.out.at_ j hlt).2
      generalize K1.getD j az = z at *
      obtain ⟨d, v, m, x⟩ := z
      dsimp only at CC VB
      go_upto_region 10 with fail
      have GD := gb_drew wr none
      have hb0 := RR.out.box.keep0 GD
      have hg0 := gb_trans RR.out.grown GD
      have hS0 : (fun w' : World => w'.cell? ⟨b, 0, none⟩ = some (.int .i64 wi) ∧ w'.cell? ⟨b, 1, none⟩ = some (.slice a n c) ∧ w'.cell? (ad.add (j * 4)) = some (.int .i64 d) ∧ w'.cell? ⟨(ad.add (j * 4)).block, (ad.add (j * 4)).off + 1, none⟩ = some (.int .u32 (v : Nat)) ∧ w'.cell? ⟨(ad.add (j * 4)).block, (ad.add (j * 4)).off + 2, none⟩ = some (.int .i64 m) ∧ w'.cell? ⟨(ad.add (j * 4)).block, (ad.add (j * 4)).off + 3, none⟩ = some (.int .i64 x)) wr.drew := ⟨hb0.cell 0, hb0.cell 1, (CC.out _ hg0).1, (CC.out _ hg0).2.1, (CC.out _ hg0).2.2.1, (CC.out _ hg0).2.2.2⟩
      refine wp_region_held_drew (S := (fun w' : World => w'.cell? ⟨b, 0, none⟩ = some (.int .i64 wi) ∧ w'.cell? ⟨b, 1, none⟩ = some (.slice a n c) ∧ w'.cell? (ad.add (j * 4)) = some (.int .i64 d) ∧ w'.cell? ⟨(ad.add (j * 4)).block, (ad.add (j * 4)).off + 1, none⟩ = some (.int .u32 (v : Nat)) ∧ w'.cell? ⟨(ad.add (j * 4)).block, (ad.add (j * 4)).off + 2, none⟩ = some (.int .i64 m) ∧ w'.cell? ⟨(ad.add (j * 4)).block, (ad.add (j * 4)).off + 3, none⟩ = some (.int .i64 x))) (by kernel_rfl) hS0 (fun hH0 => ?_)
      clear hS0
      refine wpAnyH_take (i := 0) (v := ?v8) rfl (by kernel_rfl) (by kernel_rfl) (by kernel_rfl) (fun _ _ _ h => h) (Or.inl ⟨by rfl, ?hy8⟩) (by assumption) ?rest8
      case hy8 => (intro wz hSw; (try dsimp only at hSw); first | (go_simp; done) | (go_simp; with_reducible rfl))
      try simp only [Act.put, List.getElem_toArray, List.getElem_cons_zero, List.setIfInBounds_toArray, List.set_cons_zero, List.set_cons_succ]
      refine wpAnyH_take (i := 1) (v := ?v9) rfl (by kernel_rfl) (by kernel_rfl) (by kernel_rfl) (fun _ _ _ h => h) (Or.inl ⟨by rfl, ?hy9⟩) (by assumption) ?rest9
      case hy9 => (intro wz hSw; (try dsimp only at hSw); first | (go_simp; done) | (go_simp; with_reducible rfl))
      try simp only [Act.put, List.getElem_toArray, List.getElem_cons_succ, List.getElem_cons_zero, List.setIfInBounds_toArray, List.set_cons_zero, List.set_cons_succ]
      refine wpAnyH_take (i := 2) (v := ?v10) rfl (by kernel_rfl) (by kernel_rfl) (by kernel_rfl) (fun _ _ _ h => h) (Or.inl ⟨by rfl, ?hy10⟩) (by assumption) ?rest10
      case hy10 => (intro wz hSw; (try dsimp only at hSw); first | (go_simp; done) | (go_simp; with_reducible rfl))
      try simp only [Act.put, List.getElem_toArray, List.getElem_cons_succ, List.getElem_cons_zero, List.setIfInBounds_toArray, List.set_cons_zero, List.set_cons_succ]
      refine wpAnyH_take (i := 3) (v := ?v11) rfl (by kernel_rfl) (by kernel_rfl) (by kernel_rfl) (fun _ _ _ h => h) (Or.inl ⟨by rfl, ?hy11⟩) (by assumption) ?rest11
      case hy11 => (intro wz hSw; (try dsimp only at hSw); first | (go_simp; done) | (go_simp; with_reducible rfl))
      try simp only [Act.put, List.getElem_toArray, List.getElem_cons_succ, List.getElem_cons_zero, List.setIfInBounds_toArray, List.set_cons_zero, List.set_cons_succ]
      refine wpAnyH_take (i := 4) (v := ?v12) rfl (by kernel_rfl) (by kernel_rfl) (by kernel_rfl) (fun _ _ _ h => h) (Or.inl ⟨by rfl, ?hy12⟩) (by assumption) ?rest12
      case hy12 => (intro wz hSw; (try dsimp only at hSw); first | (go_simp; done) | (go_simp; with_reducible rfl))
      try simp only [Act.put, List.getElem_toArray, List.getElem_cons_succ, List.getElem_cons_zero, List.setIfInBounds_toArray, List.set_cons_zero, List.set_cons_succ]
      refine wpAnyH_take (i := 5) (v := ?v13) rfl (by kernel_rfl) (by kernel_rfl) (by kernel_rfl) (fun _ _ _ h => h) (Or.inl ⟨by rfl, ?hy13⟩) (by assumption) ?rest13
      case hy13 => (intro wz hSw; (try dsimp only at hSw); first | (go_simp; done) | (go_simp; with_reducible rfl))
      try simp only [Act.put, List.getElem_toArray, List.getElem_cons_succ, List.getElem_cons_zero, List.setIfInBounds_toArray, List.set_cons_zero, List.set_cons_succ]
      refine wpAnyH_ready (rs := [6, 10]) (by kernel_rfl) (by simp) ?_
      refine AllReadyH.cons (o := _) rfl (fun K hK => ?_) (AllReadyH.cons (o := _) rfl (fun K hK => ?_) AllReadyH.nil)
      · go_simp
        (with_reducible refine (Run.step (RR.out.keep0 GD) (by have := L6.out; omega) d m x v VB.out).mono ?_)
        rintro e w6 ⟨a2, n2, c2, rfl, bx, kk, gw, ex⟩
        try dsimp only
        refine hK.out _ _ ⟨bx.cell 0, bx.cell 1, (CC.out _ gw).1, (CC.out _ gw).2.1, (CC.out _ gw).2.2.1, (CC.out _ gw).2.2.2⟩ (fun hH1 => ?_)
        clear hK K hH0
        try simp only [Act.put, List.getElem_toArray, List.getElem_cons_succ, List.getElem_cons_zero, List.setIfInBounds_toArray, List.set_cons_zero, List.set_cons_succ]
        refine wpAnyH_take (i := 7) (v := ?v14) rfl (by kernel_rfl) (by kernel_rfl) (by kernel_rfl) (fun _ _ _ h => h) (Or.inl ⟨by rfl, ?hy14⟩) (by assumption) ?rest14
        case hy14 => (intro wz hSw; (try dsimp only at hSw); first | (go_simp; done) | (go_simp; with_reducible rfl))
        try simp only [Act.put, List.getElem_toArray, List.getElem_cons_succ, List.getElem_cons_zero, List.setIfInBounds_toArray, List.set_cons_zero, List.set_cons_succ]
        refine wpAnyH_take (i := 8) (v := ?v15) rfl (by kernel_rfl) (by kernel_rfl) (by kernel_rfl) (fun _ _ _ h => h) (Or.inl ⟨by rfl, ?hy15⟩) (by assumption) ?rest15
        case hy15 => (intro wz hSw; (try dsimp only at hSw); first | (go_simp; done) | (go_simp; with_reducible rfl))
        try simp only [Act.put, List.getElem_toArray, List.getElem_cons_succ, List.getElem_cons_zero, List.setIfInBounds_toArray, List.set_cons_zero, List.set_cons_succ]
        refine wpAnyH_take (i := 9) (v := ?v16) rfl (by kernel_rfl) (by kernel_rfl) (by kernel_rfl) (fun _ _ _ h => h) (Or.inl ⟨by rfl, ?hy16⟩) (by assumption) ?rest16
        case hy16 => (intro wz hSw; (try dsimp only at hSw); first | (go_simp; done) | (go_simp; with_reducible rfl))
        try simp only [Act.put, List.getElem_toArray, List.getElem_cons_succ, List.getElem_cons_zero, List.setIfInBounds_toArray, List.set_cons_zero, List.set_cons_succ]
        refine wpAnyH_ready (rs := [10]) (by kernel_rfl) (by simp) ?_
        refine AllReadyH.cons (o := _) rfl (fun K hK => ?_) AllReadyH.nil
        go_simp
        have ga := gb_alloc w6 (.cells #[.int .i64 0, .slice none 0 0] 30) none
        have bx2 := bx.keep0 ga
        have gw2 := gb_trans gw ga
        have nz := IsB.new w6 30 #[.int .i64 0, .slice none 0 0]
        refine hK.out _ _ ⟨bx2.cell 0, bx2.cell 1, (CC.out _ gw2).1, (CC.out _ gw2).2.1, (CC.out _ gw2).2.2.1, (CC.out _ gw2).2.2.2⟩ (fun hH2 => ?_)
        clear hK K hH1
        try simp only [Act.put, List.getElem_toArray, List.getElem_cons_succ, List.getElem_cons_zero, List.setIfInBounds_toArray, List.set_cons_zero, List.set_cons_succ]
        have y0 := nz.cell 0
        have y1 := nz.cell 1
        have f0 := nz.free 0
        have f1 := nz.free 1
        dsimp at y0 y1
        have zb : b ≠ w6.heap.size := Nat.ne_of_lt bx.lt
        have gz : W.heap.size ≤ w6.heap.size := gw.size
        have ga3 := gb_alloc w6 (.cells #[.int .i64 wi, .slice a2 n2 c2] 30) none
        have bx3 := bx.keep0 ga3
        have gw3 := gb_trans gw ga3
        refine wpAnyH_ready (rs := [11]) (by kernel_rfl) (by simp) ?_
        refine AllReadyH.cons (o := _) rfl (fun K hK => ?_) AllReadyH.nil
        go_simp
        refine hK.out _ _ ⟨bx3.cell 0, bx3.cell 1, (CC.out _ gw3).1, (CC.out _ gw3).2.1, (CC.out _ gw3).2.2.1, (CC.out _ gw3).2.2.2⟩ (fun hH3 => ?_)
        clear hK K hH2
        try simp only [Act.put, List.getElem_toArray, List.getElem_cons_succ, List.getElem_cons_zero, List.setIfInBounds_toArray, List.set_cons_zero, List.set_cons_succ]
        refine wpAnyH_take (i := 12) (v := ?v17) rfl (by kernel_rfl) (by kernel_rfl) (by kernel_rfl) (fun _ _ _ h => h) (Or.inl ⟨by rfl, ?hy17⟩) (by assumption) ?rest17
        case hy17 => (intro wz hSw; (try dsimp only at hSw); first | (go_simp; done) | (go_simp; with_reducible rfl))
        try simp only [Act.put, List.getElem_toArray, List.getElem_cons_succ, List.getElem_cons_zero, List.setIfInBounds_toArray, List.set_cons_zero, List.set_cons_succ]
        refine wpAnyH_done (by kernel_rfl) ?_ _
        clear hH3
        have NZ := Lib.hid (IsB.new w6 30 #[.int .i64 wi, .slice a2 n2 c2])
        have BX8 := Lib.hid bx3
        have EX8 := Lib.hid (show ∃ T, LS W q s wi T _ ∧ RI (w6.alloc (.cells #[.int .i64 wi, .slice a2 n2 c2] 30)) 0 (.slice a2 n2 c2) wi (ents T) ∧ n2 = (ents T).length ∧ n2 ≤ j + 1 ∧ (blks T).length ≤ 2 * (j + 1) from by
          obtain ⟨T, l, r, e1, e2, e3⟩ := ex
          exact ⟨T, l.keep0 ga3, r.keep0 ga3, e1, e2, e3⟩)
        clear ex y0 y1 f0 f1 bx bx2 bx3 gw gw2 gw3 nz ga ga3 zb gz kk GD hb0 hg0
        generalize w6.alloc (.cells #[.int .i64 wi, .slice a2 n2 c2] 30) = w8 at *
        generalize w6.heap.size = z at *
        have c0 := BX8.out.cell 0
        have c1 := BX8.out.cell 1
        have f0 := BX8.out.free 0
        have f1 := BX8.out.free 1
        have n0 : w8.cell? ⟨z, 0, none⟩ = some (.int .i64 wi) := NZ.out.cell 0
        have n1 : w8.cell? ⟨z, 1, none⟩ = some (.slice a2 n2 c2) := NZ.out.cell 1
        dsimp at c0 c1
        have R9 := Lib.hid (show Run W q s b wi (j + 1) ((w8.setCell ⟨b, 0, none⟩ (.int .i64 wi)).setCell ⟨b, 1, none⟩ (.slice a2 n2 c2)) a2 n2 c2 from by
          obtain ⟨T, l, r, e1, e2, e3⟩ := EX8.out
          refine ⟨⟨T, ?_, ?_, e1, e2, e3⟩, (BX8.out.set 0 _).set 1 _, RR.out.low⟩
          · exact (l.far BX8.out (by decide) (by decide) (by decide) RR.out.low).far (BX8.out.set 0 _) (by decide) (by decide) (by decide) RR.out.low
          · exact own_kept (own_kept r BX8.out (by decide)) (BX8.out.set 0 _) (by decide))
        go_wp2
        exact ⟨⟨j + 1, a2, n2, c2, by omega, by simp, R9.out⟩, by show len1 - ((j : Int) + 1).toNat < len1 - (j : Int).toNat; omega⟩
      · go_simp
        have ga := gb_alloc wr.drew (.cells #[.int .i64 0, .slice none 0 0] 30) none
        have bx := hb0.keep0 ga
        have gw0 := gb_trans hg0 ga
        have gX := gb_trans (gb_alloc wr (.cells #[.int .i64 0, .slice none 0 0] 30) none) (gb_drew _ none)
        have nz0 := (IsB.new wr 30 #[.int .i64 0, .slice none 0 0]).keep0 (gb_drew _ none)
        have zb : b ≠ wr.heap.size := Nat.ne_of_lt RR.out.box.lt
        have gz : W.heap.size ≤ wr.heap.size := RR.out.grown.size
        refine hK.out _ _ ⟨bx.cell 0, bx.cell 1, (CC.out _ gw0).1, (CC.out _ gw0).2.1, (CC.out _ gw0).2.2.1, (CC.out _ gw0).2.2.2⟩ (fun hH1 => ?_)
        clear hK K hH0
        try simp only [Act.put, List.getElem_toArray, List.getElem_cons_succ, List.getElem_cons_zero, List.setIfInBounds_toArray, List.set_cons_zero, List.set_cons_succ]
        refine wpAnyH_ready (rs := [6]) (by kernel_rfl) (by simp) ?_
        refine AllReadyH.cons (o := _) rfl (fun K hK => ?_) AllReadyH.nil
        go_simp
        (with_reducible refine (Run.step (RR.out.keep0 gX) (by have := L6.out; omega) d m x v VB.out).mono ?_)
        rintro e w6 ⟨a2, n2, c2, rfl, bx1, kk, gw, ex⟩
        try dsimp only
        refine hK.out _ _ ⟨bx1.cell 0, bx1.cell 1, (CC.out _ gw).1, (CC.out _ gw).2.1, (CC.out _ gw).2.2.1, (CC.out _ gw).2.2.2⟩ (fun hH2 => ?_)
        clear hK K hH1
        try simp only [Act.put, List.getElem_toArray, List.getElem_cons_succ, List.getElem_cons_zero, List.setIfInBounds_toArray, List.set_cons_zero, List.set_cons_succ]
        refine wpAnyH_take (i := 7) (v := ?v18) rfl (by kernel_rfl) (by kernel_rfl) (by kernel_rfl) (fun _ _ _ h => h) (Or.inl ⟨by rfl, ?hy18⟩) (by assumption) ?rest18
        case hy18 => (intro wz hSw; (try dsimp only at hSw); first | (go_simp; done) | (go_simp; with_reducible rfl))
        try simp only [Act.put, List.getElem_toArray, List.getElem_cons_succ, List.getElem_cons_zero, List.setIfInBounds_toArray, List.set_cons_zero, List.set_cons_succ]
        refine wpAnyH_take (i := 8) (v := ?v19) rfl (by kernel_rfl) (by kernel_rfl) (by kernel_rfl) (fun _ _ _ h => h) (Or.inl ⟨by rfl, ?hy19⟩) (by assumption) ?rest19
        case hy19 => (intro wz hSw; (try dsimp only at hSw); first | (go_simp; done) | (go_simp; with_reducible rfl))
        try simp only [Act.put, List.getElem_toArray, List.getElem_cons_succ, List.getElem_cons_zero, List.setIfInBounds_toArray, List.set_cons_zero, List.set_cons_succ]
        refine wpAnyH_take (i := 9) (v := ?v20) rfl (by kernel_rfl) (by kernel_rfl) (by kernel_rfl) (fun _ _ _ h => h) (Or.inl ⟨by rfl, ?hy20⟩) (by assumption) ?rest20
        case hy20 => (intro wz hSw; (try dsimp only at hSw); first | (go_simp; done) | (go_simp; with_reducible rfl))
        try simp only [Act.put, List.getElem_toArray, List.getElem_cons_succ, List.getElem_cons_zero, List.setIfInBounds_toArray, List.set_cons_zero, List.set_cons_succ]
        have nz := kk _ _ nz0
        have y0 := nz.cell 0
        have y1 := nz.cell 1
        have f0 := nz.free 0
        have f1 := nz.free 1
        dsimp at y0 y1
        have bx3 := (bx1.set_far zb 0 (.int .i64 wi)).set_far zb 1 (.slice a2 n2 c2)
        have gw3 : W.grownBy ((w6.setCell ⟨wr.heap.size, 0, none⟩ (.int .i64 wi)).setCell ⟨wr.heap.size, 1, none⟩ (.slice a2 n2 c2)) none := gb_put (gb_put gw gz) gz
        refine wpAnyH_ready (rs := [11]) (by kernel_rfl) (by simp) ?_
        refine AllReadyH.cons (o := _) rfl (fun K hK => ?_) AllReadyH.nil
        go_simp
        refine hK.out _ _ ⟨bx3.cell 0, bx3.cell 1, (CC.out _ gw3).1, (CC.out _ gw3).2.1, (CC.out _ gw3).2.2.1, (CC.out _ gw3).2.2.2⟩ (fun hH3 => ?_)
        clear hK K hH2
        try simp only [Act.put, List.getElem_toArray, List.getElem_cons_succ, List.getElem_cons_zero, List.setIfInBounds_toArray, List.set_cons_zero, List.set_cons_succ]
        refine wpAnyH_take (i := 12) (v := ?v21) rfl (by kernel_rfl) (by kernel_rfl) (by kernel_rfl) (fun _ _ _ h => h) (Or.inl ⟨by rfl, ?hy21⟩) (by assumption) ?rest21
        case hy21 => (intro wz hSw; (try dsimp only at hSw); first | (go_simp; done) | (go_simp; with_reducible rfl))
        try simp only [Act.put, List.getElem_toArray, List.getElem_cons_succ, List.getElem_cons_zero, List.setIfInBounds_toArray, List.set_cons_zero, List.set_cons_succ]
        refine wpAnyH_done (by kernel_rfl) ?_ _
        clear hH3
        have NZ := Lib.hid ((nz.set 0 (.int .i64 wi)).set 1 (.slice a2 n2 c2))
        have BX8 := Lib.hid bx3
        have EX8 := Lib.hid (show ∃ T, LS W q s wi T ((w6.setCell ⟨wr.heap.size, 0, none⟩ (.int .i64 wi)).setCell ⟨wr.heap.size, 1, none⟩ (.slice a2 n2 c2)) ∧ RI ((w6.setCell ⟨wr.heap.size, 0, none⟩ (.int .i64 wi)).setCell ⟨wr.heap.size, 1, none⟩ (.slice a2 n2 c2)) 0 (.slice a2 n2 c2) wi (ents T) ∧ n2 = (ents T).length ∧ n2 ≤ j + 1 ∧ (blks T).length ≤ 2 * (j + 1) from by
          obtain ⟨T, l, r, e1, e2, e3⟩ := ex
          exact ⟨T, (l.far nz (by decide) (by decide) (by decide) gz).far (nz.set 0 _) (by decide) (by decide) (by decide) gz, own_kept (own_kept r nz (by decide)) (nz.set 0 _) (by decide), e1, e2, e3⟩)
        clear ex y0 y1 f0 f1 bx bx1 bx3 gw gw0 gw3 nz nz0 ga gX zb gz kk GD hb0 hg0
        generalize (w6.setCell ⟨wr.heap.size, 0, none⟩ (.int .i64 wi)).setCell ⟨wr.heap.size, 1, none⟩ (.slice a2 n2 c2) = w8 at *
        generalize wr.heap.size = z at *
        have c0 := BX8.out.cell 0
        have c1 := BX8.out.cell 1
        have f0 := BX8.out.free 0
        have f1 := BX8.out.free 1
        have n0 : w8.cell? ⟨z, 0, none⟩ = some (.int .i64 wi) := NZ.out.cell 0
        have n1 : w8.cell? ⟨z, 1, none⟩ = some (.slice a2 n2 c2) := NZ.out.cell 1
        dsimp at c0 c1
        have R9 := Lib.hid (show Run W q s b wi (j + 1) ((w8.setCell ⟨b, 0, none⟩ (.int .i64 wi)).setCell ⟨b, 1, none⟩ (.slice a2 n2 c2)) a2 n2 c2 from by
          obtain ⟨T, l, r, e1, e2, e3⟩ := EX8.out
          refine ⟨⟨T, ?_, ?_, e1, e2, e3⟩, (BX8.out.set 0 _).set 1 _, RR.out.low⟩
          · exact (l.far BX8.out (by decide) (by decide) (by decide) RR.out.low).far (BX8.out.set 0 _) (by decide) (by decide) (by decide) RR.out.low
          · exact own_kept (own_kept r BX8.out (by decide)) (BX8.out.set 0 _) (by decide))
        go_wp2
        exact ⟨⟨j + 1, a2, n2, c2, by omega, by simp, R9.out⟩, by show len1 - ((j : Int) + 1).toNat < len1 - (j : Int).toNat; omega⟩
    · have i1 : ¬ (j : Int) < len1 := by omega
      have b0 := RR.out.box.cell 0
      have b1 := RR.out.box.cell 1
      dsimp at b0 b1
      obtain ⟨T, l1, r1, e1, e2, e3⟩ := RR.out.ex
      have SM := Lib.hid (same_any W wr q s wi T a n c l1 (by have := L6.out; omega) (by have := L6.out; omega) r1 e1)
      have GR := Lib.hid RR.out.grown
      clear l1 r1 e1 e2 e3
      go_wp2_with fail
      refine SM.out.mono ?_
      rintro e w6 ⟨rfl, g6⟩
      have G6 := Lib.hid (gb_trans GR.out g6)
      clear g6
      go_wp2_with fail
      refine (works_any _).mono ?_
      rintro e w8 ⟨rfl, g8⟩
      have G8 := Lib.hid g8
      clear g8
      go_wp2
      go_ret
      exact ⟨rfl, gb_trans G6.out G8.out⟩
theorem runs_walk (a0 : Int) (a1 : Option Addr) (len1 cap1 : Nat) (K1 : List Ac) (W : World) (w1 : SA W a1 len1 cap1 K1) : Calls Try.prog 3 #[.int .i64 a0, .slice a1 len1 cap1] W (RetV (.bool true) W) := by
  by_cases h3 : (60 : Int) < len1
  · exact runs_long a0 a1 len1 cap1 W h3
  · by_cases hb : 1 ≤ a0 ∧ a0 ≤ 32
    · obtain ⟨wi, rfl⟩ : ∃ k : Nat, a0 = k := ⟨a0.toNat, by omega⟩
      exact runs_good wi a1 len1 cap1 K1 W h3 (by omega) w1
    · exact runs_bad a0 a1 len1 cap1 W h3 hb
end Go.Proofs.Ytidjggaffioekaa
