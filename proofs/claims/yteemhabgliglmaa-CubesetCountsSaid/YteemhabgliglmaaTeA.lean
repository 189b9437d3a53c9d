/- Ternary: numbers of 64 bits; the walks of agree, validWidth, lowBits, low. -/
import Derived.Test.YteemhabgliglmaaMem
namespace Go.Proofs.Yteemhabgliglmaa
open Go.RowKit
set_option linter.unusedVariables false

def RetS (v : Value) (w : World) (e : Ending) (w' : World) : Prop := e = .returned v ∧ w' = w
def RetV (v : Value) (w : World) (e : Ending) (w' : World) : Prop := e = .returned v ∧ w.grownBy w' none
/-- A number of 64 bits. -/
def B64 (n : Nat) : Prop := n < 18446744073709551616
theorem bA (a b : Nat) (ha : B64 a) (hb : B64 b) : ∃ p : Nat, p = a &&& b ∧ B64 p ∧ bits .and .u64 (a : Int) (b : Int) = (p : Int) :=
  ⟨_, rfl, Nat.and_lt_two_pow (n := 64) _ hb, u64_and_nat a b ha hb⟩
theorem bO (a b : Nat) (ha : B64 a) (hb : B64 b) : ∃ p : Nat, p = a ||| b ∧ B64 p ∧ bits .or .u64 (a : Int) (b : Int) = (p : Int) :=
  ⟨_, rfl, Nat.or_lt_two_pow (n := 64) ha hb, u64_or_nat a b ha hb⟩
theorem bX (a b : Nat) (ha : B64 a) (hb : B64 b) : ∃ p : Nat, p = a ^^^ b ∧ B64 p ∧ bits .xor .u64 (a : Int) (b : Int) = (p : Int) :=
  ⟨_, rfl, Nat.xor_lt_two_pow (n := 64) ha hb, u64_xor_nat a b ha hb⟩
/-- a without the bits of b. -/
def andN (a b : Nat) : Nat := a &&& (18446744073709551615 - b)
theorem bN (a b : Nat) (ha : B64 a) (hb : B64 b) : ∃ p : Nat, p = andN a b ∧ B64 p ∧ bits .andNot .u64 (a : Int) (b : Int) = (p : Int) :=
  ⟨_, rfl, Nat.lt_of_le_of_lt Nat.and_le_left ha, u64_andNot_nat a b ha hb⟩
theorem tb_max (i : Nat) : (18446744073709551615 : Nat).testBit i = decide (i < 64) := by
  rw [show (18446744073709551615 : Nat) = 2 ^ 64 - 1 from rfl, Nat.testBit_two_pow_sub_one]
theorem tb_not (b i : Nat) (hb : B64 b) : (18446744073709551615 - b).testBit i = (decide (i < 64) && !b.testBit i) := by
  have h : 18446744073709551615 - b = 2 ^ 64 - (b + 1) := by omega
  rw [h, Nat.testBit_two_pow_sub_succ hb]
theorem tb_big (a i : Nat) (ha : B64 a) (hi : 64 ≤ i) : a.testBit i = false := Nat.testBit_lt_two_pow (Nat.lt_of_lt_of_le (m := 2 ^ 64) ha (Nat.pow_le_pow_right (by decide) hi))
theorem tb_andN (a b i : Nat) (ha : B64 a) (hb : B64 b) : (andN a b).testBit i = (a.testBit i && !b.testBit i) := by
  unfold andN
  rw [Nat.testBit_and, tb_not b i hb]
  by_cases h : i < 64
  · simp [h]
  · rw [tb_big a i ha (by omega)]; simp
theorem tb_zero {x : Nat} : x = 0 ↔ ∀ i, x.testBit i = false := by
  constructor
  · intro h i; rw [h]; exact Nat.zero_testBit i
  · intro h; exact Nat.eq_of_testBit_eq fun i => by rw [h i, Nat.zero_testBit]
def lowN (k : Nat) : Nat := 2 ^ k - 1
theorem lowN_lt (k : Nat) (h : k ≤ 64) : B64 (lowN k) := by
  unfold lowN B64
  have := Nat.pow_le_pow_right (n := 2) (by decide) h
  have := Nat.two_pow_pos k
  omega
theorem lowN_succ (k : Nat) : lowN (k + 1) = 2 * lowN k + 1 := by
  unfold lowN
  have := Nat.two_pow_pos k
  rw [Nat.pow_succ]; omega
theorem tb_low (k i : Nat) : (lowN k).testBit i = decide (i < k) := Nat.testBit_two_pow_sub_one k i
theorem low_shr : ∀ k : Fin 65, (18446744073709551615 : Int) / 2 ^ min (64 - (k.val : Int)).toNat 64 = (lowN k.val : Int) := by decide +kernel
theorem u64w (n : Nat) (h : B64 n) : IntKind.u64.wrap (n : Int) = (n : Int) := by rw [IntKind.wrap_u64]; unfold B64 at h; omega

def iAgree (a b m : Nat) : Bool := decide ((a ^^^ b) &&& m = 0)
theorem agree_any (w : World) (a b m : Nat) (ha : B64 a) (hb : B64 b) (hm : B64 m) : Calls Try.prog 68 #[.int .u64 a, .int .u64 b, .int .u64 m] w (RetS (.bool (iAgree a b m)) w) := by
  obtain ⟨p, hp, hpl, ep⟩ := bX a b ha hb
  obtain ⟨q, hq, hql, eq⟩ := bA p m hpl hm
  have e : iAgree a b m = decide (q = 0) := by unfold iAgree; rw [hq, hp]
  rw [e]
  clear hp hq e ha hb hm hpl hql
  by_cases h : q = 0
  · subst h
    go_enter Try.func68, Try.ntmps68
    go_wp2
    go_ret
    exact ⟨rfl, rfl⟩
  · rw [decide_eq_false h]
    have h2 : ((q : Int) == 0) = false := by rw [beq_eq_false_iff_ne]; omega
    go_enter Try.func68, Try.ntmps68
    go_wp2
    go_ret
    exact ⟨rfl, rfl⟩
theorem valid_any (w : World) (n : Int) : Calls Try.prog 69 #[.int .i64 n] w (RetS (.bool (decide (1 ≤ n ∧ n ≤ 64))) w) := by
  by_cases h1 : 1 ≤ n
  · by_cases h2 : n ≤ 64
    · rw [decide_eq_true (show 1 ≤ n ∧ n ≤ 64 from ⟨h1, h2⟩)]
      go_enter Try.func69, Try.ntmps69
      go_wp2
      go_ret
      exact ⟨rfl, rfl⟩
    · rw [decide_eq_false (show ¬ (1 ≤ n ∧ n ≤ 64) from fun h => h2 h.2)]
      go_enter Try.func69, Try.ntmps69
      go_wp2
      go_ret
      exact ⟨rfl, rfl⟩
  · rw [decide_eq_false (show ¬ (1 ≤ n ∧ n ≤ 64) from fun h => h1 h.1)]
    go_enter Try.func69, Try.ntmps69
    go_wp2
    go_ret
    exact ⟨rfl, rfl⟩
theorem lowb_any (w : World) (k : Nat) (hk : k ≤ 64) : Calls Try.prog 71 #[.int .i64 k] w (RetS (.int .u64 (lowN k)) w) := by
  have e := low_shr ⟨k, by omega⟩
  simp only at e
  obtain ⟨m, hm⟩ : ∃ m : Nat, m = 64 - k := ⟨_, rfl⟩
  have h1 : (64 : Int) - (k : Int) = (m : Int) := by omega
  have h2 : (0 : Int) ≤ (m : Int) := by omega
  have hml : m ≤ 64 := by omega
  rw [h1] at e
  have e1 := e
  rw [Int.toNat_natCast, Nat.min_eq_left hml] at e1
  clear hm
  go_enter Try.func71, Try.ntmps71
  go_wp2
  go_ret
  exact ⟨rfl, rfl⟩
theorem rlow_any (w : World) (k : Nat) (hk : k ≤ 64) : Calls Try.prog 75 #[.int .i64 k] w (RetS (.int .u64 (lowN k)) w) := by
  go_enter Try.func75, Try.ntmps75
  go_wp2
  go_loopw [3, 4] (fun x i wr => ∃ j : Nat, j ≤ k ∧ i = .int .i64 j ∧ x = .int .u64 (lowN j) ∧ wr = w) (fun _ i _ => k - (intOf i).toNat)
  case atStart => exact ⟨0, Nat.zero_le _, rfl, rfl, rfl⟩
  case round =>
    obtain ⟨j, hj, rfl, rfl, rfl⟩ := hrel
    by_cases hlt : j < k
    · have i1 : (j : Int) < k := by omega
      have HS := Lib.hid (lowN_succ j)
      have hb : B64 (lowN (j + 1)) := lowN_lt _ (by omega)
      rw [lowN_succ] at hb
      obtain ⟨x, hx⟩ : ∃ x, x = lowN j := ⟨_, rfl⟩
      rw [← hx] at HS hb ⊢
      unfold B64 at hb
      clear hx
      go_wp2
      go_roundw
      case rel => exact ⟨j + 1, by omega, by go_num, by rw [HS.out]; simp, trivial⟩
      case measure => simp [intOf]; omega
    · have hje : j = k := by omega
      subst hje
      go_wp2
      go_ret
      exact ⟨rfl, rfl⟩
end Go.Proofs.Yteemhabgliglmaa
