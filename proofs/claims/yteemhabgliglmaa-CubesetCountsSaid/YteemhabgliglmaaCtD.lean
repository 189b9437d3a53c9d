/- Cubeset: EqualLists of longer lists; the law's works and small. -/
import Derived.Test.YteemhabgliglmaaCtC
import Derived.Test.YteemhabgliglmaaCsI
namespace Go.Proofs.Yteemhabgliglmaa
open Go.RowKit
set_option linter.unusedVariables false
theorem ws1 : psX 2 [(0, 0)] [(3, 3)] = ([(0, 2), (2, 3)], 0) := by decide +kernel
theorem ws2 : pcL 2 [(0, 2), (2, 3)] = (3, 0) := by decide +kernel
theorem ws3 : anyN [(0, 2), (2, 3)] 2 = true := by decide +kernel
theorem ws4 : anyN [(0, 2), (2, 3)] 3 = false := by decide +kernel
theorem ws_wf : ∀ p ∈ [((0 : Nat), (2 : Nat)), (2, 3)], B64 p.1 ∧ B64 p.2 := by
  intro p hp
  simp only [List.mem_cons, List.not_mem_nil, or_false] at hp
  unfold B64
  rcases hp with rfl | rfl <;> decide
theorem two_own (w : World) : CLs (w.alloc (.cells #[.int .u64 0, .int .u64 2, .int .u64 2, .int .u64 3] 49)) w.heap.size (.slice (some ⟨w.heap.size, 0, none⟩) 2 2) [(0, 2), (2, 3)] :=
  ⟨rfl, .inr ⟨w.heap.size, 2, _, rfl, Nat.le_refl _, heap_alloc_new w _, Nat.le_refl _, by decide, rfl, rfl⟩⟩
set_option maxRecDepth 100000 in
set_option maxHeartbeats 8000000 in
theorem works_any (w : World) : Calls Try.prog 12 #[] w (RetV (.bool true) w) := by
  obtain ⟨W, hW⟩ : ∃ W, W = (w.alloc (.cells #[.int .u64 0, .int .u64 0] 49)).alloc (.cells #[.int .u64 3, .int .u64 3] 49) := ⟨_, rfl⟩
  have GW := Lib.hid (show w.grownBy W none by rw [hW]; exact al2 _ _ _)
  have SA := sc_one W w.heap.size _ 0 0 (by rw [hW]; exact (IsB.new w _ _).alloc _) (by unfold B64; decide) (by unfold B64; decide)
  have SB := sc_one W (w.heap.size + 1) _ 3 3 (by rw [hW]; exact isb_two _ _ _ _) (by unfold B64; decide) (by unfold B64; decide)
  have PS := Lib.hid (psubX_any W _ _ 1 1 1 1 2 [(0, 0)] [(3, 3)] SA SB (by decide) (by decide))
  rw [ws1] at PS
  unfold RetCE at PS
  clear SA SB
  go_enter Try.func12, Try.ntmps12
  go_wp2_with fail
  rw [← hW]
  clear hW
  refine PS.out.mono ?_
  rintro e w1 ⟨V, rfl, o1, g1⟩
  obtain ⟨a, c, rfl⟩ := o1.shape
  have O1 := Lib.hid o1
  have S1 := Lib.hid (sc_own o1 ws_wf)
  have G1 := Lib.hid (gb_trans GW.out g1)
  have PC := pcount_any w1 a 2 c 2 [(0, 2), (2, 3)] S1.out (by decide)
  rw [ws2] at PC
  unfold RetCnt at PC
  clear o1 g1 PS
  rw [show [((0 : Nat), (2 : Nat)), (2, 3)].length = 2 from rfl]
  go_wp2_with fail
  refine PC.mono ?_
  rintro e w2 ⟨rfl, g2⟩
  have G2 := Lib.hid (gb_trans G1.out g2)
  have O2 := Lib.hid (O1.out.keep0 g2)
  have S2 := Lib.hid (S1.out.keep0 g2)
  clear g2 PC
  go_wp2_with fail
  have EQ := eql_any (w2.alloc (.cells #[.int .u64 0, .int .u64 2, .int .u64 2, .int .u64 3] 49)) W.heap.size w2.heap.size (.slice a 2 c) (.slice (some ⟨w2.heap.size, 0, none⟩) 2 2) [(0, 2), (2, 3)] [(0, 2), (2, 3)] (O2.out.keep0 (gb_alloc _ _ none)) (two_own w2) (by decide) (by decide)
  rw [decide_eq_true rfl] at EQ
  unfold RetV at EQ
  refine EQ.mono ?_
  rintro e w3 ⟨rfl, g3⟩
  have G3 := Lib.hid (gb_trans (gb_alloc w2 (.cells #[.int .u64 0, .int .u64 2, .int .u64 2, .int .u64 3] 49) none) g3)
  have S3 := Lib.hid (S2.out.keep0 G3.out)
  clear g3 EQ
  have C2 := cont_any w3 a 2 c [(0, 2), (2, 3)] 2 S3.out (by decide) (by unfold B64; decide)
  rw [ws3] at C2
  unfold RetV at C2
  go_wp2_with fail
  refine C2.mono ?_
  rintro e w4 ⟨rfl, g4⟩
  have G4 := Lib.hid (gb_trans G3.out g4)
  have S4 := Lib.hid (S3.out.keep0 g4)
  clear g4 C2
  have C3 := cont_any w4 a 2 c [(0, 2), (2, 3)] 3 S4.out (by decide) (by unfold B64; decide)
  rw [ws4] at C3
  unfold RetV at C3
  go_wp2_with fail
  refine C3.mono ?_
  rintro e w5 ⟨rfl, g5⟩
  have G5 := Lib.hid (gb_trans G2.out (gb_trans G4.out g5))
  clear g5 C3
  go_wp2
  go_ret
  exact ⟨rfl, G5.out⟩
set_option maxRecDepth 100000 in
set_option maxHeartbeats 2000000 in
theorem small_any (w : World) (a b : Option Addr) (n c m d : Nat) : Calls Try.prog 11 #[.slice a n c, .slice b m d] w (RetS (.bool (decide (n ≤ 10) && decide (m ≤ 8))) w) := by
  go_enter Try.func11, Try.ntmps11
  by_cases h1 : n ≤ 10
  · have e1 : (n : Int) ≤ 10 := by omega
    by_cases h2 : m ≤ 8
    · have e2 : (m : Int) ≤ 8 := by omega
      rw [decide_eq_true h1, decide_eq_true h2]
      clear h1 h2
      go_wp2
      go_ret
      exact ⟨rfl, rfl⟩
    · have e2 : ¬ (m : Int) ≤ 8 := by omega
      rw [decide_eq_true h1, decide_eq_false h2]
      clear h1 h2
      go_wp2
      go_ret
      exact ⟨rfl, rfl⟩
  · have e1 : ¬ (n : Int) ≤ 10 := by omega
    rw [decide_eq_false h1]
    clear h1
    go_wp2
    go_ret
    exact ⟨rfl, rfl⟩
end Go.Proofs.Yteemhabgliglmaa
