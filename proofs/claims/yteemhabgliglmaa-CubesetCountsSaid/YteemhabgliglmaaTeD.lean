/- Ternary: the walks of OnesCount64 and FreeBits. -/
import Derived.Test.YteemhabgliglmaaTeC
import Derived.Test.YteemhabgliglmaaTeP
namespace Go.Proofs.Yteemhabgliglmaa
open Go.RowKit
set_option linter.unusedVariables false

theorem wraps_i64 (n : Int) (h₀ : 0 ≤ n) (h₁ : n < 2 ^ 63) : IntKind.i64.wrap n = n := by
  simp at h₁
  simp [IntKind.wrap, IntKind.bits, IntKind.signed]
  omega
set_option maxRecDepth 100000 in
set_option maxHeartbeats 1000000 in
theorem ones_any (w : World) (x : Nat) (hx : B64 x) : Calls Try.prog 70 #[.int .u64 x] w (RetS (.int .i64 (popTo 64 x)) w) := by
  obtain ⟨p0, p1, p2, p3, p4, p5, p6, p7, h0, h1, h2, h3, h4, h5, h6, h7, hs, hp⟩ := pop_bytes x hx
  have hsum := pop_sum _ p0 p1 p2 p3 p4 p5 p6 p7 h0 h1 h2 h3 h4 h5 h6 h7 hs
  rw [hp]
  have m5 : 85 * rep 8 = 6148914691236517205 := by decide
  have m3 : 51 * rep 8 = 3689348814741910323 := by decide
  have mf : 15 * rep 8 = 1085102592571150095 := by decide
  unfold B64 at hx
  -- first step
  obtain ⟨y1, hy1⟩ : ∃ y, y = x / 2 := ⟨_, rfl⟩
  have ey1 : (x : Int) / 2 = (y1 : Int) := by omega
  obtain ⟨a1, ha1, la1, ea1⟩ := bA y1 6148914691236517205 (by unfold B64; omega) (by unfold B64; decide)
  obtain ⟨b1, hb1, lb1, eb1⟩ := bA x 6148914691236517205 hx (by unfold B64; decide)
  have la1' : a1 ≤ 6148914691236517205 := by rw [ha1]; exact Nat.and_le_right
  have lb1' : b1 ≤ 6148914691236517205 := by rw [hb1]; exact Nat.and_le_right
  obtain ⟨s1, hs1⟩ : ∃ s, s = a1 + b1 := ⟨_, rfl⟩
  have es1 : (a1 : Int) + (b1 : Int) = (s1 : Int) := by omega
  have ls1 : s1 < 18446744073709551616 := by omega
  have q1 : f1 8 x = s1 := by unfold f1; rw [m5, hs1, ha1, hb1, hy1]
  -- second
  obtain ⟨y2, hy2⟩ : ∃ y, y = s1 / 4 := ⟨_, rfl⟩
  have ey2 : (s1 : Int) / 4 = (y2 : Int) := by omega
  obtain ⟨a2, ha2, la2, ea2⟩ := bA y2 3689348814741910323 (by unfold B64; omega) (by unfold B64; decide)
  obtain ⟨b2, hb2, lb2, eb2⟩ := bA s1 3689348814741910323 ls1 (by unfold B64; decide)
  have la2' : a2 ≤ 3689348814741910323 := by rw [ha2]; exact Nat.and_le_right
  have lb2' : b2 ≤ 3689348814741910323 := by rw [hb2]; exact Nat.and_le_right
  obtain ⟨s2, hs2⟩ : ∃ s, s = a2 + b2 := ⟨_, rfl⟩
  have es2 : (a2 : Int) + (b2 : Int) = (s2 : Int) := by omega
  have ls2 : s2 ≤ 7378697629483820646 := by omega
  have q2 : f2 8 s1 = s2 := by unfold f2; rw [m3, hs2, ha2, hb2, hy2]
  -- third
  obtain ⟨y3, hy3⟩ : ∃ y, y = s2 / 16 := ⟨_, rfl⟩
  have ey3 : (s2 : Int) / 16 = (y3 : Int) := by omega
  obtain ⟨t3, ht3⟩ : ∃ t, t = y3 + s2 := ⟨_, rfl⟩
  have et3 : (y3 : Int) + (s2 : Int) = (t3 : Int) := by omega
  have lt3 : t3 < 18446744073709551616 := by omega
  obtain ⟨s3, hs3, ls3, es3⟩ := bA t3 1085102592571150095 lt3 (by unfold B64; decide)
  have ls3' : s3 ≤ 1085102592571150095 := by rw [hs3]; exact Nat.and_le_right
  have q3 : f3 8 s2 = s3 := by unfold f3; rw [mf, hs3, ht3, hy3]
  rw [q1, q2, q3] at hsum
  -- the sums
  obtain ⟨s4, hs4⟩ : ∃ s, s = s3 + s3 / 256 := ⟨_, rfl⟩
  have es4 : (s3 : Int) + (s3 : Int) / 256 = (s4 : Int) := by omega
  have ls4 : s4 < 2000000000000000000 := by omega
  obtain ⟨s5, hs5⟩ : ∃ s, s = s4 + s4 / 65536 := ⟨_, rfl⟩
  have es5 : (s4 : Int) + (s4 : Int) / 65536 = (s5 : Int) := by omega
  have ls5 : s5 < 2100000000000000000 := by omega
  obtain ⟨s6, hs6⟩ : ∃ s, s = s5 + s5 / 4294967296 := ⟨_, rfl⟩
  have es6 : (s5 : Int) + (s5 : Int) / 4294967296 = (s6 : Int) := by omega
  have ls6 : s6 < 2200000000000000000 := by omega
  rw [← hs4, ← hs5, ← hs6] at hsum
  rw [← hsum]
  have ea1' : bits .and .u64 (y1 : Int) 6148914691236517205 = (a1 : Int) := ea1
  have eb1' : bits .and .u64 (x : Int) 6148914691236517205 = (b1 : Int) := eb1
  have ea2' : bits .and .u64 (y2 : Int) 3689348814741910323 = (a2 : Int) := ea2
  have eb2' : bits .and .u64 (s1 : Int) 3689348814741910323 = (b2 : Int) := eb2
  have es3' : bits .and .u64 (t3 : Int) 1085102592571150095 = (s3 : Int) := es3
  have em : bits .and .i64 (s6 : Int) 127 = ((s6 % 128 : Nat) : Int) := by
    have k := bits_mask .i64 63 (by decide) wraps_i64 7 (by decide) (s6 : Int) (by omega) (by simp; omega)
    simpa using k
  clear hsum hp hs q1 q2 q3 hs1 hs2 hs3 hs4 hs5 hs6 ha1 hb1 ha2 hb2 ht3 hy1 hy2 hy3 m5 m3 mf ea1 eb1 ea2 eb2 es3 h0 h1 h2 h3 h4 h5 h6 h7
  go_enter Try.func70, Try.ntmps70
  go_wp2
  go_ret
  exact ⟨ret_i (by omega), rfl⟩
theorem popTo_low (m k : Nat) (hk : k ≤ 64) : popTo 64 (m &&& lowN k) = popTo k m := by
  have e : m &&& lowN k = m % 2 ^ k := Nat.and_two_pow_sub_one_eq_mod m k
  rw [e]
  have key : ∀ j, popTo j (m % 2 ^ k) = popTo (min j k) m := by
    intro j
    induction j with
    | zero => simp [popTo]
    | succ j ih =>
      have e1 : popTo (j + 1) (m % 2 ^ k) = popTo j (m % 2 ^ k) + m % 2 ^ k / 2 ^ j % 2 := rfl
      rw [e1, ih, ← Nat.toNat_testBit, Nat.testBit_mod_two_pow]
      by_cases h : j < k
      · rw [Nat.min_eq_left (show j ≤ k by omega), Nat.min_eq_left (show j + 1 ≤ k by omega)]
        have e2 : popTo (j + 1) m = popTo j m + m / 2 ^ j % 2 := rfl
        rw [e2, ← Nat.toNat_testBit]
        simp [h]
      · rw [Nat.min_eq_right (show k ≤ j by omega), Nat.min_eq_right (show k ≤ j + 1 by omega)]
        simp [h]
  rw [key 64, Nat.min_eq_right hk]
/-- The number of wildcards. -/
def freeN (m : Nat) (w : Int) : Int := if 1 ≤ w ∧ w ≤ 64 then w - (popTo w.toNat m : Nat) else 0
set_option maxRecDepth 100000 in
theorem free_any (W : World) (v m : Nat) (w : Int) (hv : B64 v) (hm : B64 m) : Calls Try.prog 52 #[.agg #[.int .u64 v, .int .u64 m], .int .i64 w] W (RetV (.int .i64 (freeN m w)) W) := by
  have VA := Lib.hid (fun W => valid_any W w)
  by_cases hw : 1 ≤ w ∧ w ≤ 64
  · rw [decide_eq_true hw] at VA
    obtain ⟨k, rfl⟩ : ∃ k : Nat, w = (k : Int) := ⟨w.toNat, by omega⟩
    have HL := Lib.hid (fun W => lowb_any W k (by omega))
    have lb := lowN_lt k (by omega)
    obtain ⟨p, hp, hpl, ep⟩ := bA m (lowN k) hm lb
    have HO := Lib.hid (fun W => ones_any W p hpl)
    have e : freeN m (k : Int) = (k : Int) - (popTo 64 p : Nat) := by
      unfold freeN
      rw [if_pos hw, Int.toNat_natCast, hp, popTo_low m k (by omega)]
    rw [e]
    have hb := popTo_le 64 p
    have hk64 : k ≤ 64 := by omega
    generalize popTo 64 p = c at *
    generalize lowN k = l at *
    clear hp e hw
    go_enter Try.func52, Try.ntmps52
    go_wp2_with fail
    refine (VA.out _).mono ?_
    rintro e w1 ⟨rfl, rfl⟩
    go_wp2
    go_quiet (first | (go_at_call 71; exact Calls.quiet_of_same (HL.out _)) | (go_at_call 70; exact Calls.quiet_of_same (HO.out _)))
    go_wp2
    go_ret
    exact ⟨rfl, gb_trans (gb_alloc _ _ none) (gb_drewN _ _ _)⟩
  · rw [decide_eq_false hw] at VA
    have e : freeN m w = 0 := by unfold freeN; rw [if_neg hw]
    rw [e]
    clear hw e
    go_enter Try.func52, Try.ntmps52
    go_wp2_with fail
    refine (VA.out _).mono ?_
    rintro e w1 ⟨rfl, rfl⟩
    go_wp2
    go_ret
    exact ⟨rfl, gb_alloc _ _ _⟩
set_option maxRecDepth 100000 in
theorem rfree_any (W : World) (v m : Nat) (w : Int) (hv : B64 v) (hm : B64 m) : Calls Try.prog 53 #[.agg #[.int .u64 v, .int .u64 m], .int .i64 w] W (RetV (.int .i64 (freeN m w)) W) := by
  by_cases hw : 1 ≤ w ∧ w ≤ 64
  · obtain ⟨k, rfl⟩ : ∃ k : Nat, w = (k : Int) := ⟨w.toNat, by omega⟩
    have HE := Lib.hid (show freeN m (k : Int) = (k : Int) - (popTo k m : Nat) by unfold freeN; rw [if_pos hw, Int.toNat_natCast])
    obtain ⟨hw1, hw2⟩ := hw
    have g1 : ¬ (k : Int) < 1 := by omega
    have g2 : ¬ (64 : Int) < k := by omega
    have B1 := Lib.hid (IsB.new W 49 #[.int .u64 v, .int .u64 m])
    have cm : (W.alloc (.cells #[.int .u64 v, .int .u64 m] 49)).cell? ⟨W.heap.size, 1, none⟩ = some (.int .u64 m) := B1.out.cell 1
    have G1 := Lib.hid (gb_alloc W (.cells #[.int .u64 v, .int .u64 m] 49) none)
    clear B1
    go_enter Try.func53, Try.ntmps53
    go_wp2
    generalize W.alloc (.cells #[.int .u64 v, .int .u64 m] 49) = w1 at *
    go_loopw [5, 6] (fun n i wr => ∃ j : Nat, j ≤ k ∧ i = .int .i64 j ∧ n = .int .i64 ((j : Int) - (popTo j m : Nat)) ∧ wr = w1) (fun _ i _ => k - (intOf i).toNat)
    case atStart => exact ⟨0, Nat.zero_le _, rfl, rfl, rfl⟩
    case round =>
      obtain ⟨j, hj, rfl, rfl, rfl⟩ := hrel
      by_cases hlt : j < k
      · have i1 : (j : Int) < k := by omega
        have i2 : (0 : Int) ≤ j := by omega
        have hj64 : j ≤ 64 := by omega
        have hPS := Lib.hid (show popTo (j + 1) m = popTo j m + m / 2 ^ j % 2 from rfl)
        have hpl := popTo_le j m
        obtain ⟨y, hy⟩ : ∃ y, y = m / 2 ^ j := ⟨_, rfl⟩
        rw [← hy] at hPS
        have hyl : B64 y := by rw [hy]; exact Nat.lt_of_le_of_lt (Nat.div_le_self _ _) hm
        have ey : (m : Int) / 2 ^ j = (y : Int) := by rw [hy]; simp
        have eb : bits .and .u64 (y : Int) 1 = ((y % 2 : Nat) : Int) := by
          have q := u64_and_nat y 1 hyl (by decide)
          rw [Nat.and_one_is_mod] at q
          exact q
        generalize popTo j m = c at *
        clear hy
        by_cases h0 : y % 2 = 0
        · rw [h0] at eb hPS
          go_wp2
          go_roundw
          case rel => exact ⟨j + 1, by omega, by go_num, by rw [hPS.out]; simp; omega, trivial⟩
          case measure => simp [intOf]; omega
        · have h1 : y % 2 = 1 := by omega
          rw [h1] at eb hPS
          go_wp2
          go_roundw
          case rel => exact ⟨j + 1, by omega, by go_num, by rw [hPS.out]; simp; omega, trivial⟩
          case measure => simp [intOf]; omega
      · have hje : j = k := by omega
        subst hje
        go_wp2
        go_ret
        exact ⟨by rw [HE.out]; rfl, G1.out⟩
  · have e : freeN m w = 0 := by unfold freeN; rw [if_neg hw]
    rw [e]
    by_cases h1 : w < 1
    · go_enter Try.func53, Try.ntmps53
      go_wp2
      go_ret
      exact ⟨rfl, gb_alloc _ _ _⟩
    · have h2 : 64 < w := by omega
      go_enter Try.func53, Try.ntmps53
      go_wp2
      go_ret
      exact ⟨rfl, gb_alloc _ _ _⟩
end Go.Proofs.Yteemhabgliglmaa
