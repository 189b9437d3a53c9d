/- Cubeset: the program's Subtract by the reference's words; Complement, Subset, Equal. -/
import Derived.Test.YteemhabgliglmaaCtG
namespace Go.Proofs.Yteemhabgliglmaa
open Go.RowKit
set_option linter.unusedVariables false
theorem psubs_any (w : World) (a b : Option Addr) (n c m d : Nat) (x : Int) (L M : List (Nat × Nat)) (h : SC w a n c L) (g : SC w b m d M) (hn : n ≤ 10000) (hm : m ≤ 10000) : Calls Try.prog 20 #[.slice a n c, .slice b m d, .int .i64 x] w (RetCE (subsX x L M).1 (subsX x L M).2 w) := by
  rw [← psX_eq x L M h.wf g.wf]
  exact psubX_any w a b n c m d x L M h g hn hm
set_option maxRecDepth 100000 in
set_option maxHeartbeats 4000000 in
theorem pcompl_any (w : World) (a : Option Addr) (n c : Nat) (x : Int) (L : List (Nat × Nat)) (h : SC w a n c L) (hn : n ≤ 10000) : Calls Try.prog 22 #[.slice a n c, .int .i64 x] w (RetCE (subsX x [(0, 0)] L).1 (subsX x [(0, 0)] L).2 w) := by
  have ON := Lib.hid (fun w => only_any w 0 0 (by unfold B64; decide) (by unfold B64; decide))
  have HH := Lib.hid h
  have SB := Lib.hid (fun (w2 : World) (k : w.grownBy w2 none) (g : Nat) (hs : SC w2 (some ⟨g, 0, none⟩) 1 1 [(0, 0)]) => psubs_any w2 (some ⟨g, 0, none⟩) a 1 1 n c x [(0, 0)] L hs (h.keep0 k) (by decide) hn)
  unfold RetCE at SB
  generalize subsX x [(0, 0)] L = R at *
  clear h
  go_enter Try.func22, Try.ntmps22
  go_wp2_with fail
  refine (ON.out _).mono ?_
  rintro e w1 ⟨g, rfl, s1, g1⟩
  have S1 := Lib.hid s1
  have G1 := Lib.hid g1
  clear s1 g1
  go_wp2_with fail
  refine (SB.out w1 G1.out g S1.out).mono ?_
  rintro e w2 ⟨V, rfl, o2, g2⟩
  obtain ⟨sa, sc, hV⟩ := o2.shape
  have O2 := Lib.hid (own_low (base2 := w.heap.size) o2 G1.out.size)
  have G2 := Lib.hid (gb_trans G1.out g2)
  clear o2 g2
  subst hV
  go_wp2
  go_ret2
  exact ⟨_, rfl, O2.out, G2.out⟩
set_option maxRecDepth 100000 in
theorem pssub_any (w : World) (a b : Option Addr) (n c m d : Nat) (x : Int) (L M : List (Nat × Nat)) (h : SC w a n c L) (g : SC w b m d M) (hn : n ≤ 10000) (hm : m ≤ 10000) : Calls Try.prog 24 #[.slice a n c, .slice b m d, .int .i64 x] w (RetBE (subB x L M) (subsX x L M).2 w) := by
  have SB := Lib.hid (psubs_any w a b n c m d x L M h g hn hm)
  unfold subB
  generalize subsX x L M = R at *
  obtain ⟨D, er⟩ := R
  clear h g
  by_cases he : er = 0
  · subst he
    by_cases hD : D = []
    · subst hD
      go_enter Try.func24, Try.ntmps24
      go_wp2_with fail
      refine SB.out.mono ?_
      rintro e w1 ⟨V, rfl, o1, g1⟩
      obtain ⟨va, vc, rfl⟩ := o1.shape
      go_wp2
      go_ret2
      exact ⟨rfl, g1⟩
    · have hl : ¬ (D.length : Int) = 0 := by
        intro e
        exact hD (List.length_eq_zero_iff.1 (by omega))
      have hl2 : ((D.length : Int) == 0) = false := by rw [beq_eq_false_iff_ne]; exact hl
      rw [show (decide (((D, (0 : Int)).2) = 0) && decide ((D, (0 : Int)).1 = [])) = false by simp [hD]]
      clear hD
      go_enter Try.func24, Try.ntmps24
      go_wp2_with fail
      refine SB.out.mono ?_
      rintro e w1 ⟨V, rfl, o1, g1⟩
      obtain ⟨va, vc, rfl⟩ := o1.shape
      go_wp2
      go_ret2
      exact ⟨rfl, g1⟩
  · have h1 : (er == 0) = false := by rw [beq_eq_false_iff_ne]; exact he
    rw [show (decide (((D, er).2) = 0) && decide ((D, er).1 = [])) = false by simp [he]]
    go_enter Try.func24, Try.ntmps24
    go_wp2_with fail
    refine SB.out.mono ?_
    rintro e w1 ⟨V, rfl, o1, g1⟩
    obtain ⟨va, vc, rfl⟩ := o1.shape
    go_wp2
    go_ret2
    exact ⟨rfl, g1⟩
set_option maxRecDepth 100000 in
theorem peq_any (w : World) (a b : Option Addr) (n c m d : Nat) (x : Int) (L M : List (Nat × Nat)) (h : SC w a n c L) (g : SC w b m d M) (hn : n ≤ 10000) (hm : m ≤ 10000) : Calls Try.prog 28 #[.slice a n c, .slice b m d, .int .i64 x] w (RetBE (eqB x L M) (eqE x L M) w) := by
  have S1 := Lib.hid (pssub_any w a b n c m d x L M h g hn hm)
  have S2 := Lib.hid (fun (w2 : World) (k : w.grownBy w2 none) => pssub_any w2 b a m d n c x M L (g.keep0 k) (h.keep0 k) hm hn)
  unfold RetBE at S1 S2
  unfold eqB eqE
  generalize subB x L M = p at *
  generalize subB x M L = q at *
  generalize (subsX x L M).2 = e1 at *
  generalize (subsX x M L).2 = e2 at *
  clear h g
  by_cases he : e1 = 0
  · subst he
    rw [if_neg (by simp), if_neg (by simp)]
    cases p <;> cases q
    all_goals (
      go_enter Try.func28, Try.ntmps28
      go_wp2_with fail
      refine S1.out.mono ?_
      rintro e w1 ⟨rfl, g1⟩
      go_wp2_with fail
      refine (S2.out w1 g1).mono ?_
      rintro e w2 ⟨rfl, g2⟩
      go_wp2
      go_ret2
      exact ⟨by first | rfl | simp, gb_trans g1 g2⟩)
  · rw [if_pos he, if_pos he]
    have h1 : (e1 != 0) = true := by rw [bne_iff_ne]; exact he
    go_enter Try.func28, Try.ntmps28
    go_wp2_with fail
    refine S1.out.mono ?_
    rintro e w1 ⟨rfl, g1⟩
    go_wp2
    go_ret2
    exact ⟨rfl, g1⟩
end Go.Proofs.Yteemhabgliglmaa
