/- Ternary: the walks of Min, Contains, Subset, Intersect, of the program and of the reference. -/
import Derived.Test.YteemhabgliglmaaTeA
namespace Go.Proofs.Yteemhabgliglmaa
open Go.RowKit
set_option linter.unusedVariables false

theorem xor_and_zero (a b m : Nat) : (a ^^^ b) &&& m = 0 ↔ a &&& m = b &&& m := by
  rw [tb_zero]
  constructor
  · intro h
    apply Nat.eq_of_testBit_eq
    intro i
    have k := h i
    rw [Nat.testBit_and, Nat.testBit_xor] at k
    rw [Nat.testBit_and, Nat.testBit_and]
    revert k
    cases a.testBit i <;> cases b.testBit i <;> cases m.testBit i <;> simp
  · intro h i
    have k := congrArg (fun x => x.testBit i) h
    simp only [Nat.testBit_and] at k
    rw [Nat.testBit_and, Nat.testBit_xor]
    revert k
    cases a.testBit i <;> cases b.testBit i <;> cases m.testBit i <;> simp
/-- A cube in memory. -/
def cubeV (v m : Nat) : Value := .agg #[.int .u64 v, .int .u64 m]
def minN (v m : Nat) : Nat := v &&& m
set_option maxRecDepth 100000 in
theorem min_any (w : World) (v m : Nat) (hv : B64 v) (hm : B64 m) : Calls Try.prog 54 #[.agg #[.int .u64 v, .int .u64 m]] w (RetV (.int .u64 (minN v m)) w) := by
  obtain ⟨p, hp, hpl, ep⟩ := bA v m hv hm
  have e : minN v m = p := hp.symm
  rw [e]
  clear hp e
  go_enter Try.func54, Try.ntmps54
  go_wp2
  go_ret
  exact ⟨rfl, gb_alloc _ _ _⟩
set_option maxRecDepth 100000 in
theorem rmin_any (w : World) (v m : Nat) (hv : B64 v) (hm : B64 m) : Calls Try.prog 55 #[.agg #[.int .u64 v, .int .u64 m]] w (RetV (.int .u64 (minN v m)) w) := by
  obtain ⟨p, hp, hpl, ep⟩ := bA v m hv hm
  have e : minN v m = p := hp.symm
  rw [e]
  clear hp e
  go_enter Try.func55, Try.ntmps55
  go_wp2
  go_ret
  exact ⟨rfl, gb_alloc _ _ _⟩
/-- The cube holds the number. -/
def hasN (v m n : Nat) : Bool := iAgree v n m
set_option maxRecDepth 100000 in
theorem contains_any (w : World) (v m n : Nat) (hv : B64 v) (hm : B64 m) (hn : B64 n) : Calls Try.prog 50 #[.agg #[.int .u64 v, .int .u64 m], .int .u64 n] w (RetV (.bool (hasN v m n)) w) := by
  have AG := Lib.hid (fun w => agree_any w v n m hv hn hm)
  go_enter Try.func50, Try.ntmps50
  go_wp2_with fail
  refine (AG.out _).mono ?_
  rintro e w1 ⟨rfl, rfl⟩
  go_wp2
  go_ret
  exact ⟨rfl, gb_alloc _ _ _⟩
set_option maxRecDepth 100000 in
theorem rcontains_any (w : World) (v m n : Nat) (hv : B64 v) (hm : B64 m) (hn : B64 n) : Calls Try.prog 51 #[.agg #[.int .u64 v, .int .u64 m], .int .u64 n] w (RetV (.bool (hasN v m n)) w) := by
  obtain ⟨p, hp, hpl, ep⟩ := bA v m hv hm
  obtain ⟨q, hq, hql, eq⟩ := bA n m hn hm
  have e : hasN v m n = decide (q = p) := by
    unfold hasN iAgree
    rw [decide_eq_decide, xor_and_zero, hp, hq]
    exact eq_comm
  rw [e]
  clear hp hq e
  by_cases h : q = p
  · subst h
    rw [decide_eq_true rfl]
    have h2 : ((q : Int) == q) = true := by rw [beq_iff_eq]
    go_enter Try.func51, Try.ntmps51
    go_wp2
    go_ret
    exact ⟨rfl, gb_alloc _ _ _⟩
  · rw [decide_eq_false h]
    have h2 : ((q : Int) == p) = false := by rw [beq_eq_false_iff_ne]; omega
    have h3 : ¬ (q : Int) = p := by omega
    go_enter Try.func51, Try.ntmps51
    go_wp2
    go_ret
    exact ⟨rfl, gb_alloc _ _ _⟩
/-- The first cube lies in the second. -/
def subN (v m v2 m2 : Nat) : Bool := decide (andN m2 m = 0) && iAgree v v2 m2
theorem al2 (w : World) (a b : Obj) : w.grownBy ((w.alloc a).alloc b) none := gb_trans (gb_alloc w a none) (gb_alloc _ b none)
theorem al3 (w : World) (a b c : Obj) : w.grownBy (((w.alloc a).alloc b).alloc c) none := gb_trans (al2 w a b) (gb_alloc _ c none)
theorem andN_zero (m2 m : Nat) (hm2 : B64 m2) (hm : B64 m) : andN m2 m = 0 ↔ m &&& m2 = m2 := by
  rw [tb_zero]
  constructor
  · intro h
    apply Nat.eq_of_testBit_eq
    intro i
    have k := h i
    rw [tb_andN _ _ _ hm2 hm] at k
    rw [Nat.testBit_and]
    revert k
    cases m.testBit i <;> cases m2.testBit i <;> simp
  · intro h i
    have k := congrArg (fun x => x.testBit i) h
    simp only [Nat.testBit_and] at k
    rw [tb_andN _ _ _ hm2 hm]
    revert k
    cases m.testBit i <;> cases m2.testBit i <;> simp
set_option maxRecDepth 100000 in
theorem rsubset_any (w : World) (v m v2 m2 : Nat) (hv : B64 v) (hm : B64 m) (hv2 : B64 v2) (hm2 : B64 m2) : Calls Try.prog 61 #[.agg #[.int .u64 v, .int .u64 m], .agg #[.int .u64 v2, .int .u64 m2]] w (RetV (.bool (subN v m v2 m2)) w) := by
  obtain ⟨p, hp, hpl, ep⟩ := bA m m2 hm hm2
  obtain ⟨q, hq, hql, eq⟩ := bA v m2 hv hm2
  obtain ⟨r, hr, hrl, er⟩ := bA v2 m2 hv2 hm2
  have e : subN v m v2 m2 = (decide (p = m2) && decide (q = r)) := by
    unfold subN iAgree
    rw [hp, hq, hr]
    congr 1
    · rw [decide_eq_decide, andN_zero _ _ hm2 hm]
    · rw [decide_eq_decide, xor_and_zero]
  rw [e]
  clear hp hq hr e
  by_cases h : p = m2
  · have h1 : ((p : Int) == m2) = true := by rw [beq_iff_eq, h]
    have h1' : (p : Int) = m2 := by rw [h]
    rw [decide_eq_true h, Bool.true_and]
    by_cases h2 : q = r
    · have h3 : ((q : Int) == r) = true := by rw [beq_iff_eq, h2]
      have h3' : (q : Int) = r := by rw [h2]
      rw [decide_eq_true h2]
      clear h h2
      go_enter Try.func61, Try.ntmps61
      go_wp2
      go_ret
      exact ⟨rfl, al2 _ _ _⟩
    · have h3 : ((q : Int) == r) = false := by rw [beq_eq_false_iff_ne]; omega
      have h3' : ¬ (q : Int) = r := by omega
      rw [decide_eq_false h2]
      clear h h2
      go_enter Try.func61, Try.ntmps61
      go_wp2
      go_ret
      exact ⟨rfl, al2 _ _ _⟩
  · have h1 : ((p : Int) == m2) = false := by rw [beq_eq_false_iff_ne]; omega
    have h1' : ¬ (p : Int) = m2 := by omega
    rw [decide_eq_false h, Bool.false_and]
    clear h
    go_enter Try.func61, Try.ntmps61
    go_wp2
    go_ret
    exact ⟨rfl, al2 _ _ _⟩
end Go.Proofs.Yteemhabgliglmaa
