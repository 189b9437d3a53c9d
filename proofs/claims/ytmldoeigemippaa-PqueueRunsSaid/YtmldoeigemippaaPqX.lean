/- The law Runs: the walk. -/
import Derived.Test.YtmldoeigemippaaPqW
namespace Go.Proofs.Ytmldoeigemippaa
open Go.RowKit
set_option linter.unusedVariables false

set_option maxRecDepth 100000 in
set_option maxHeartbeats 2000000 in
theorem runs_walk (a0 : Int) (a1 : Option Addr) (len1 cap1 : Nat) (K1 : List Ac) (W : World) (w0 : (Lit.int .i64 a0).wf = true) (w1 : SA W a1 len1 cap1 K1) : Calls Try.prog 3 #[.int .i64 a0, .slice a1 len1 cap1] W (RetV (.bool true) W) := by
  by_cases h3 : (300 : Int) < len1
  · clear w0 w1
    go_enter Try.func3, Try.ntmps3
    go_wp2_with (go_at_call 7; refine (awake_any _).mono ?_; rintro e w8 ⟨rfl, g8⟩)
    go_ret
    exact ⟨rfl, g8⟩
  by_cases hr : a0 < 0 ∨ 4096 < a0
  · have d9 : ((9 : Int) != 9) = false := by decide
    have NB := Lib.hid (new_bad W a0 hr)
    have RB := Lib.hid (rnew_bad W a0 hr)
    clear w0 w1 hr
    go_enter Try.func3, Try.ntmps3
    go_wp2_with (first
      | (go_at_call 8; refine NB.out.mono ?_; rintro e w4 ⟨rfl, rfl⟩)
      | (go_at_call 9; refine RB.out.mono ?_; rintro e w5 ⟨rfl, g5⟩; (try dsimp only [rQ]))
      | (go_at_call 7; refine (awake_any _).mono ?_; rintro e w8 ⟨rfl, g8⟩))
    go_ret
    exact ⟨rfl, gb_trans (gb_trans g5 (gb_alloc _ _ none)) g8⟩
  have hc0 : 0 ≤ a0 := by omega
  have hc1 : a0 ≤ 4096 := by omega
  have HS := Lib.hid w1
  have D0 := DQ.new W W (fun _ => 0) a0 (gb_refl _ _)
  have AA := Lib.hid (show ∀ w, Calls Try.prog 7 #[] w (RetV (.bool true) w) from awake_any)
  clear w0 w1 hr
  go_enter Try.func3, Try.ntmps3
  go_upto_region 4 with (go_at_call 8; refine (new_good _ a0 hc0 hc1).mono ?_; rintro e w1 ⟨rfl, rfl⟩)
  generalize (W.alloc (.cells #[.int .i64 a0, .int .u64 0, .slice none 0 0] 62)).alloc (.cells #[.pointer (some ⟨W.heap.size, 0, none⟩)] 56) = w1 at *
  obtain ⟨q, hq⟩ : ∃ q, q = W.heap.size + 1 := ⟨_, rfl⟩
  obtain ⟨s, hs⟩ : ∃ s, s = W.heap.size := ⟨_, rfl⟩
  rw [← hq, ← hs] at D0
  rw [← hq]
  clear hq hs
  have D1 := Lib.hid D0
  have R1 := Lib.hid (rnew_good w1 a0 hc0 hc1)
  clear D0 hc0 hc1
  go_upto_region 5 with (go_at_call 9; refine R1.out.mono ?_; clear R1; rintro e w2 ⟨rfl, g2⟩; dsimp only [rQ]; have D2 := Lib.hid (D1.out.keep0 g2); clear g2)
  have B3 := IsB.new w2 30 #[.int .i64 a0, .slice none 0 0]
  have S3 := Lib.hid (show Same W q s w2.heap.size a0 0 (w2.alloc (.cells #[.int .i64 a0, .slice none 0 0] 30)) none 0 0 from ⟨⟨_, 0, [], Int.le_refl _, D2.out.keep0 (gb_alloc _ _ none), rfl, Nat.le_refl _, RL.nil _ _ _⟩, B3, D2.out.grown.size⟩)
  generalize w2.alloc (.cells #[.int .i64 a0, .slice none 0 0] 30) = w3 at *
  obtain ⟨b, hb⟩ : ∃ b, b = w2.heap.size := ⟨_, rfl⟩
  rw [← hb] at S3 ⊢
  clear hb B3 D1 D2
  go_wp2
  go_loopw [9] (fun i wr => ∃ (j : Nat) (a : Option Addr) (n c : Nat), j ≤ len1 ∧ i = .int .i64 j ∧ Same W q s b a0 j wr a n c) (fun i _ => len1 - (intOf i).toNat)
  case atStart => exact ⟨0, none, 0, 0, Nat.zero_le _, rfl, S3.out⟩
  case round =>
    obtain ⟨j, a, n, c, hj, rfl, hs⟩ := hrel
    have SS := Lib.hid hs
    clear hs S3
    by_cases hlt : j < len1
    · obtain ⟨ad, rfl⟩ := HS.out.some (by omega)
      have i1 : (j : Int) < len1 := by omega
      have i0 : (0 : Int) ≤ (j : Int) := by omega
      have hw : IntKind.i64.wrap ((j : Int) + 1) = ((j + 1 : Nat) : Int) := by rw [IntKind.wrap_i64]; omega
      have CC := Lib.hid (fun (w : World) (g : W.grownBy w none) => (HS.out.keep0 g).cells ad rfl j hlt)
      generalize K1.getD j az = z at *
      obtain ⟨kd, key, x⟩ := z
      obtain ⟨c0, c1, c2'⟩ := CC.out wr SS.out.grown
      dsimp only at c0 c1 c2'
      have dn : ((n : Int) != n) = false := by simp
      have LEN := Lib.hid (fun (w2 : World) (a2 : Option Addr) (n2 c2 : Nat) (h : Same W q s b a0 (j + 1) w2 a2 n2 c2) => both_len h)
      by_cases k0 : kd = 0
      · subst k0
        obtain ⟨g, n2, E2, T2, H1, H2⟩ := both_push SS.out (by omega) key x
        have H1 := Lib.hid H1
        have H2 := Lib.hid H2
        have dg : (g != g) = false := by simp
        have d0 : ((0 : Int) != 0) = false := by decide
        have db : (false != false) = false := by decide
        have dn : ((n2 : Int) != n2) = false := by simp
        have b0 := SS.out.box.cell 0
        have b1 := SS.out.box.cell 1
        dsimp at b0 b1
        have GW := Lib.hid SS.out.grown
        have KS := Lib.hid (fun (w' : World) (q0 : wr.grownBy w' none) => (⟨(SS.out.box.keep0 q0).cell 0, (SS.out.box.keep0 q0).cell 1, (CC.out w' (gb_trans GW.out q0)).2.1, (CC.out w' (gb_trans GW.out q0)).2.2, q0⟩ : (fun w' : World => w'.cell? ⟨b, 0, none⟩ = some (.int .i64 a0) ∧ w'.cell? ⟨b, 1, none⟩ = some (.slice a n c) ∧ w'.cell? ⟨(ad.add (j * 3)).block, (ad.add (j * 3)).off + 1, none⟩ = some (.int .i64 key) ∧ w'.cell? ⟨(ad.add (j * 3)).block, (ad.add (j * 3)).off + 2, none⟩ = some (.int .i64 x) ∧ wr.grownBy w' none) w'))
        go_upto_region 19 with fail
        go_region_held3 (fun w' : World => w'.cell? ⟨b, 0, none⟩ = some (.int .i64 a0) ∧ w'.cell? ⟨b, 1, none⟩ = some (.slice a n c) ∧ w'.cell? ⟨(ad.add (j * 3)).block, (ad.add (j * 3)).off + 1, none⟩ = some (.int .i64 key) ∧ w'.cell? ⟨(ad.add (j * 3)).block, (ad.add (j * 3)).off + 2, none⟩ = some (.int .i64 x) ∧ wr.grownBy w' none)
          (first
            | assumption
            | exact KS.out _ (by repeat' first
                                | assumption
                                | exact (And.right (And.right (And.right (And.right (by assumption)))))
                                | exact World.grownBy.refl _ _
                                | exact gb_drew _ _
                                | refine gb_trans ?_ (gb_alloc _ _ _)
                                | refine gb_trans ?_ (gb_drew _ _)
                                | refine gb_put ?_ ?_
                                | refine gsz ?_
                                | exact Nat.le_refl _
                                | refine Nat.le_succ_of_le ?_
                                | refine gb_trans ?_ (by assumption)))
          (first
            | (go_at_call 10; refine (H1.out _ (by repeat' first
                                | exact (And.right (And.right (And.right (And.right (by assumption)))))
                                | exact gb_drew _ _
                                | exact gb_trans (gb_drew _ _) (gb_alloc _ _ _))).mono ?_; rintro e w' ⟨a2, c2, rfl, r2, gA⟩; (try with_reducible (have gA := gb_trans (gb_drew _ none) gA)); (try with_reducible (have IA := isb_keep gA (IsB.new _ _ _); (try simp only [alloc_sz, drew_sz] at IA); obtain ⟨y1, y2, y3, y4, y5, y6, y7, y8, y9, y10⟩ := box_facts IA))))
        · have G5 := Lib.hid (gb_trans gA (gb_alloc w' (.cells #[.int .i64 a0, .slice a2 n2 c2] 30) none))
          have N5 := Lib.hid (IsB.new w' 30 #[.int .i64 a0, .slice a2 n2 c2])
          have R5 := Lib.hid (r2.keep0 (gb_alloc w' (.cells #[.int .i64 a0, .slice a2 n2 c2] 30) none))
          rename_i hHeld
          clear hHeld r2 c1 c2' b0 b1
          generalize w'.alloc (.cells #[.int .i64 a0, .slice a2 n2 c2] 30) = w5 at *
          generalize w'.heap.size = b2 at *
          have GW5 := Lib.hid (gb_trans GW.out G5.out)
          have PU := Lib.hid (fun w2 (g : w5.grownBy w2 none) => H2.out w2 a2 c2 (.slice a n c) (gb_trans G5.out g) (SS.out.box.keep0 (gb_trans G5.out g)) b2 (N5.out.keep0 g) (R5.out.keep0 g))
          have KS2 := Lib.hid (fun (w' : World) (g : W.grownBy w' none) => (⟨(CC.out w' g).2.1, (CC.out w' g).2.2⟩ : (fun w' : World => w'.cell? ⟨(ad.add (j * 3)).block, (ad.add (j * 3)).off + 1, none⟩ = some (.int .i64 key) ∧ w'.cell? ⟨(ad.add (j * 3)).block, (ad.add (j * 3)).off + 2, none⟩ = some (.int .i64 x)) w'))
          obtain ⟨c1, c2'⟩ := KS2.out w5 GW5.out
          go_upto_region 20 with fail
          go_region_held3 (fun w' : World => w'.cell? ⟨(ad.add (j * 3)).block, (ad.add (j * 3)).off + 1, none⟩ = some (.int .i64 key) ∧ w'.cell? ⟨(ad.add (j * 3)).block, (ad.add (j * 3)).off + 2, none⟩ = some (.int .i64 x))
            (first
              | assumption
              | exact KS2.out _ (by first | assumption | exact GW5.out | exact gb_trans GW5.out (gb_drew _ _) | exact gb_trans GW5.out (gb_drewN _ _ _)))
            (first
              | (go_at_call 11; refine (PU.out _ (by first | exact gb_drew _ _ | exact gb_drewN _ _ _ | exact gb_refl _ _)).mono ?_; rintro e w7 ⟨rfl, n7, b7, g7, s7⟩))
          have e0 := n7.cell 0
          have e1 := n7.cell 1
          have v0 := b7.cell 0
          have v1 := b7.cell 1
          (try dsimp at e0)
          (try dsimp at e1)
          (try dsimp at v0)
          (try dsimp at v1)
          have f0 := b7.free 0
          have f1 := b7.free 1
          have S4 := Lib.hid s7
          clear s7 n7 b7 g7
          go_upto_region 31 with fail
          generalize (w7.setCell ⟨b, 0, none⟩ (.int .i64 a0)).setCell ⟨b, 1, none⟩ (.slice a2 n2 c2) = w4 at *
          have LN := Lib.hid (fun (w2 : World) (g : w4.grownBy w2 none) => both_len S4.out w2 g)
          have bb2 := S4.out.box.cell 0
          have bb3 := S4.out.box.cell 1
          (try dsimp at bb2)
          (try dsimp at bb3)
          go_upto_region 31 with fail
          go_quiet ((go_at_call 19; exact Calls.quiet_of_same (LN.out _ (gb_drewN _ _ _))))
          go_wp2
          go_roundw
          case rel => exact ⟨j + 1, _, _, _, by omega, by first | rfl | (congr 1), S4.out.keep0 (by first | exact gb_drewN _ _ _ | exact gb_refl _ _)⟩
          case measure => simp [intOf]; omega
        · have G5 := Lib.hid (gb_put (i := 1) (u := .slice a2 n2 c2) (gb_put (i := 0) (u := .int .i64 a0) (gb_trans (gb_alloc wr (.cells #[.int .i64 0, .slice none 0 0] 30) none) gA) (Nat.le_refl _)) (Nat.le_refl _))
          have N5 := Lib.hid ((IA.set 0 (.int .i64 a0)).set 1 (.slice a2 n2 c2))
          have R5 := Lib.hid (show RL _ 0 (.slice a2 n2 c2) E2 T2 from World.ownsRow.kept (World.ownsRow.kept r2 (gb_set w' wr.heap.size 0 (.int .i64 a0)) (.inr (own_ne r2 IA (by decide)))) (gb_set _ wr.heap.size 1 (.slice a2 n2 c2)) (.inr (own_ne (World.ownsRow.kept r2 (gb_set w' wr.heap.size 0 (.int .i64 a0)) (.inr (own_ne r2 IA (by decide)))) (IA.set 0 _) (by decide))))
          rename_i hHeld
          clear hHeld r2 c1 c2' b0 b1 y1 y2 y3 y4 y5 y6 y7 y8 y9 y10 IA
          generalize (w'.setCell ⟨wr.heap.size, 0, none⟩ (.int .i64 a0)).setCell ⟨wr.heap.size, 1, none⟩ (.slice a2 n2 c2) = w5 at *
          generalize wr.heap.size = b2 at *
          have GW5 := Lib.hid (gb_trans GW.out G5.out)
          have PU := Lib.hid (fun w2 (g : w5.grownBy w2 none) => H2.out w2 a2 c2 (.slice a n c) (gb_trans G5.out g) (SS.out.box.keep0 (gb_trans G5.out g)) b2 (N5.out.keep0 g) (R5.out.keep0 g))
          have KS2 := Lib.hid (fun (w' : World) (g : W.grownBy w' none) => (⟨(CC.out w' g).2.1, (CC.out w' g).2.2⟩ : (fun w' : World => w'.cell? ⟨(ad.add (j * 3)).block, (ad.add (j * 3)).off + 1, none⟩ = some (.int .i64 key) ∧ w'.cell? ⟨(ad.add (j * 3)).block, (ad.add (j * 3)).off + 2, none⟩ = some (.int .i64 x)) w'))
          obtain ⟨c1, c2'⟩ := KS2.out w5 GW5.out
          go_upto_region 20 with fail
          go_region_held3 (fun w' : World => w'.cell? ⟨(ad.add (j * 3)).block, (ad.add (j * 3)).off + 1, none⟩ = some (.int .i64 key) ∧ w'.cell? ⟨(ad.add (j * 3)).block, (ad.add (j * 3)).off + 2, none⟩ = some (.int .i64 x))
            (first
              | assumption
              | exact KS2.out _ (by first | assumption | exact GW5.out | exact gb_trans GW5.out (gb_drew _ _) | exact gb_trans GW5.out (gb_drewN _ _ _)))
            (first
              | (go_at_call 11; refine (PU.out _ (by first | exact gb_drew _ _ | exact gb_drewN _ _ _ | exact gb_refl _ _)).mono ?_; rintro e w7 ⟨rfl, n7, b7, g7, s7⟩))
          have e0 := n7.cell 0
          have e1 := n7.cell 1
          have v0 := b7.cell 0
          have v1 := b7.cell 1
          (try dsimp at e0)
          (try dsimp at e1)
          (try dsimp at v0)
          (try dsimp at v1)
          have f0 := b7.free 0
          have f1 := b7.free 1
          have S4 := Lib.hid s7
          clear s7 n7 b7 g7
          go_upto_region 31 with fail
          generalize (w7.setCell ⟨b, 0, none⟩ (.int .i64 a0)).setCell ⟨b, 1, none⟩ (.slice a2 n2 c2) = w4 at *
          have LN := Lib.hid (fun (w2 : World) (g : w4.grownBy w2 none) => both_len S4.out w2 g)
          have bb2 := S4.out.box.cell 0
          have bb3 := S4.out.box.cell 1
          (try dsimp at bb2)
          (try dsimp at bb3)
          go_upto_region 31 with fail
          go_quiet ((go_at_call 19; exact Calls.quiet_of_same (LN.out _ (gb_drewN _ _ _))))
          go_wp2
          go_roundw
          case rel => exact ⟨j + 1, _, _, _, by omega, by first | rfl | (congr 1), S4.out.keep0 (by first | exact gb_drewN _ _ _ | exact gb_refl _ _)⟩
          case measure => simp [intOf]; omega
      by_cases k1 : kd = 1
      · subst k1
        obtain ⟨x1, y1, ok, n2, E2, T2, H1, H2⟩ := both_pop SS.out (by omega)
        have H1 := Lib.hid H1
        have H2 := Lib.hid H2
        have dx : (x1 != x1) = false := by simp
        have dy : (y1 != y1) = false := by simp
        have dk : (ok != ok) = false := by simp
        have dn : ((n2 : Int) != n2) = false := by simp
        have b0 := SS.out.box.cell 0
        have b1 := SS.out.box.cell 1
        dsimp at b0 b1
        clear k0
        go_upto_region 26 with (go_at_call 12; refine (H1.out _ (gb_refl _ _)).mono ?_; rintro e w2 ⟨a2, c2, rfl, r2, g2⟩; have G2 := Lib.hid g2; have R2 := Lib.hid r2; clear g2 r2)
        have GA := gb_alloc w2 (.cells #[.int .i64 a0, .slice a2 n2 c2] 30) none
        have BN := IsB.new w2 30 #[.int .i64 a0, .slice a2 n2 c2]
        have R3 := Lib.hid (R2.out.keep0 GA)
        have G3 := Lib.hid (gb_trans G2.out GA)
        generalize w2.alloc (.cells #[.int .i64 a0, .slice a2 n2 c2] 30) = w3 at *
        have e0 := BN.cell 0
        have e1 := BN.cell 1
        dsimp at e0 e1
        have BB := Lib.hid (SS.out.box.keep0 G3.out)
        have f0 := BB.out.free 0
        have f1 := BB.out.free 1
        have v0 := BB.out.cell 0
        have v1 := BB.out.cell 1
        dsimp at v0 v1
        have PUT := Lib.hid (ref_put (W := W) (V2 := .slice a2 n2 c2) BB.out SS.out.low)
        have R4 := Lib.hid (show RL _ 0 (.slice a2 n2 c2) E2 T2 from PUT.out.1.row R3.out fun _ _ q => TR_no q (by decide))
        clear GA BN
        go_upto_region 27 with fail
        have H3 := Lib.hid (H2.out _ a2 c2 ((Kt.of_gb G3.out).trans PUT.out.1) PUT.out.2 R4.out)
        generalize (w3.setCell ⟨b, 0, none⟩ (.int .i64 a0)).setCell ⟨b, 1, none⟩ (.slice a2 n2 c2) = w5 at *
        go_upto_region 31 with (go_at_call 13; refine H3.out.mono ?_; clear H3; rintro e w4 ⟨rfl, S4⟩; have S4 := Lib.hid S4)
        have LN := Lib.hid (fun (w2 : World) (g : w4.grownBy w2 none) => both_len S4.out w2 g)
        have bb0 := S4.out.box.cell 0
        have bb1 := S4.out.box.cell 1
        (try dsimp at bb0)
        (try dsimp at bb1)
        go_upto_region 31 with fail
        go_quiet ((go_at_call 19; exact Calls.quiet_of_same (LN.out _ (gb_drewN _ _ _))))
        go_wp2
        go_roundw
        case rel => exact ⟨j + 1, _, _, _, by omega, by first | rfl | (congr 1), S4.out.keep0 (by first | exact gb_drewN _ _ _ | exact gb_refl _ _)⟩
        case measure => simp [intOf]; omega
      by_cases k2 : kd = 2
      · subst k2
        obtain ⟨x1, y1, ok, H1, H2⟩ := both_peek SS.out (by omega)
        have H1 := Lib.hid H1
        have H2 := Lib.hid H2
        have dx : (x1 != x1) = false := by simp
        have dy : (y1 != y1) = false := by simp
        have dk : (ok != ok) = false := by simp
        have b0 := SS.out.box.cell 0
        have b1 := SS.out.box.cell 1
        dsimp at b0 b1
        clear k0 k1
        go_upto_region 30 with (go_at_call 14; refine (H1.out _ (gb_refl _ _)).mono ?_; rintro e w2 ⟨rfl, g2⟩; have G2 := Lib.hid g2; clear g2)
        go_upto_region 31 with (go_at_call 15; refine (H2.out _ G2.out).mono ?_; rintro e w4 ⟨rfl, g4⟩; have G4 := Lib.hid (gb_trans G2.out g4); clear g4)
        have S4 := Lib.hid (SS.out.next.keep0 G4.out)
        have LN := Lib.hid (fun (w2 : World) (g : w4.grownBy w2 none) => both_len S4.out w2 g)
        have bb0 := S4.out.box.cell 0
        have bb1 := S4.out.box.cell 1
        (try dsimp at bb0)
        (try dsimp at bb1)
        go_upto_region 31 with fail
        go_quiet ((go_at_call 19; exact Calls.quiet_of_same (LN.out _ (gb_drewN _ _ _))))
        go_wp2
        go_roundw
        case rel => exact ⟨j + 1, _, _, _, by omega, by first | rfl | (congr 1), S4.out.keep0 (by first | exact gb_drewN _ _ _ | exact gb_refl _ _)⟩
        case measure => simp [intOf]; omega
      · have q0 : (kd == 0) = false := by rw [beq_eq_false_iff_ne]; exact k0
        have q1 : (kd == 1) = false := by rw [beq_eq_false_iff_ne]; exact k1
        have q2 : (kd == 2) = false := by rw [beq_eq_false_iff_ne]; exact k2
        obtain ⟨E, S, SL, H1, H2⟩ := both_list SS.out (by omega)
        have H1 := Lib.hid H1
        have H2 := Lib.hid H2
        have SL := Lib.hid SL
        have b0 := SS.out.box.cell 0
        have b1 := SS.out.box.cell 1
        dsimp at b0 b1
        have hwn : IntKind.i64.wrap ((n : Int) + 1) = (n : Int) + 1 := by have : n ≤ 1000 := (by obtain ⟨_, _, _, _, _, _, h, _⟩ := SS.out.ex; omega); rw [IntKind.wrap_i64]; omega
        have NN := Lib.hid (show n ≤ 1000 by obtain ⟨_, _, _, _, _, _, h, _⟩ := SS.out.ex; omega)
        clear k0 k1 k2
        go_upto_region 16 with (go_at_call 16; refine (H1.out _ (gb_refl _ _)).mono ?_; rintro e w2 ⟨a2, c2, rfl, r2, g2⟩; have G2 := Lib.hid g2; have R2 := Lib.hid r2; clear g2 r2)
        have bb0 := (SS.out.box.keep0 G2.out).cell 0
        have bb1 := (SS.out.box.keep0 G2.out).cell 1
        dsimp at bb0 bb1
        have EQ := Lib.hid (fun (w3 : World) (a3 : Option Addr) (c3 : Nat) (B : Nat) (g : w2.grownBy w3 none) (r3 : RL w3 B (.slice a3 n c3) E S) => equal_any w3 a2 a3 n c2 c3 E E S S ((R2.out.keep0 g).sr SL.out.symm) (r3.sr SL.out.symm) rfl (by have := NN.out; omega))
        go_upto_region 31 with (first
          | (go_at_call 18; refine (H2.out _ G2.out).mono ?_; rintro e w3 ⟨a3, c3, rfl, r3, g3⟩; have G3 := Lib.hid g3; have R3 := Lib.hid r3; clear g3 r3)
          | (go_at_call 17; refine (EQ.out _ _ _ _ G3.out R3.out).mono ?_; rintro e w4 ⟨rfl, g4⟩; have G4 := Lib.hid (gb_trans G2.out (gb_trans G3.out g4)); clear g4))
        have S4 := Lib.hid (SS.out.next.keep0 G4.out)
        have LN := Lib.hid (fun (w2 : World) (g : w4.grownBy w2 none) => both_len S4.out w2 g)
        have bb2 := S4.out.box.cell 0
        have bb3 := S4.out.box.cell 1
        (try dsimp at bb2)
        (try dsimp at bb3)
        go_upto_region 31 with fail
        go_quiet ((go_at_call 19; exact Calls.quiet_of_same (LN.out _ (gb_drewN _ _ _))))
        go_wp2
        go_roundw
        case rel => exact ⟨j + 1, _, _, _, by omega, by first | rfl | (congr 1), S4.out.keep0 (by first | exact gb_drewN _ _ _ | exact gb_refl _ _)⟩
        case measure => simp [intOf]; omega
    · have i1 : ¬ (j : Int) < len1 := by omega
      have G0 := Lib.hid SS.out.grown
      go_wp2_with (go_at_call 7; refine (AA.out _).mono ?_; rintro e w8 ⟨rfl, g8⟩)
      go_ret
      exact ⟨rfl, gb_trans G0.out g8⟩
end Go.Proofs.Ytmldoeigemippaa
