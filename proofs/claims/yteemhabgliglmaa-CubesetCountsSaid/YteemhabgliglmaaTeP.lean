/- The count of ones of a number of 64 bits, by halves: plain arithmetic; no condition. -/
import Derived.Test.YteemhabgliglmaaTeA
namespace Go.Proofs.Yteemhabgliglmaa
set_option linter.unusedVariables false

/-- How many of the k lowest bits are ones. -/
def popTo : Nat → Nat → Nat
  | 0, _ => 0
  | k + 1, x => popTo k x + x / 2 ^ k % 2
theorem popTo_le (k x : Nat) : popTo k x ≤ k := by
  induction k with
  | zero => exact Nat.le_refl _
  | succ k ih => unfold popTo; omega
theorem popTo_add (k a b : Nat) (ha : a < 256) : popTo (8 + k) (a + 256 * b) = popTo 8 a + popTo k b := by
  induction k with
  | zero =>
    have h : ∀ j, j ≤ 8 → popTo j (a + 256 * b) = popTo j a := by
      intro j
      induction j with
      | zero => intro _; rfl
      | succ j ih =>
        intro hj
        unfold popTo
        rw [ih (by omega)]
        congr 1
        have e : 256 * b = 2 ^ j * (2 * (2 ^ (7 - j) * b)) := by
          rw [← Nat.mul_assoc, ← Nat.mul_assoc, show 2 ^ j * 2 * 2 ^ (7 - j) = 256 by
            rw [← Nat.pow_succ, ← Nat.pow_add, show j.succ + (7 - j) = 8 by omega]]
        rw [e, Nat.add_mul_div_left _ _ (Nat.two_pow_pos j)]
        omega
    exact h 8 (Nat.le_refl _)
  | succ k ih =>
    show popTo (8 + k) (a + 256 * b) + (a + 256 * b) / 2 ^ (8 + k) % 2 = popTo 8 a + (popTo k b + b / 2 ^ k % 2)
    have e : (a + 256 * b) / 2 ^ (8 + k) = b / 2 ^ k := by
      rw [Nat.pow_add, ← Nat.div_div_eq_div_mul]
      congr 1
      omega
    rw [ih, e]; omega
theorem and_split (a b c d : Nat) (ha : a < 256) (hc : c < 256) : (a + 256 * b) &&& (c + 256 * d) = (a &&& c) + 256 * (b &&& d) := by
  have hac : a &&& c < 2 ^ 8 := Nat.lt_of_le_of_lt Nat.and_le_left ha
  have e1 : a + 256 * b = 2 ^ 8 * b + a := by omega
  have e2 : c + 256 * d = 2 ^ 8 * d + c := by omega
  have e3 : (a &&& c) + 256 * (b &&& d) = 2 ^ 8 * (b &&& d) + (a &&& c) := by omega
  rw [e1, e2, e3]
  apply Nat.eq_of_testBit_eq
  intro i
  rw [Nat.testBit_and, Nat.testBit_two_pow_mul_add _ (show a < 2 ^ 8 from ha), Nat.testBit_two_pow_mul_add _ (show c < 2 ^ 8 from hc), Nat.testBit_two_pow_mul_add _ hac]
  split
  · rw [Nat.testBit_and]
  · rw [Nat.testBit_and]
/-- 1, 257, 65793 and so on. -/
def rep : Nat → Nat
  | 0 => 0
  | k + 1 => 1 + 256 * rep k
def f1 (k x : Nat) : Nat := ((x / 2) &&& (85 * rep k)) + (x &&& (85 * rep k))
def f2 (k x : Nat) : Nat := ((x / 4) &&& (51 * rep k)) + (x &&& (51 * rep k))
def f3 (k x : Nat) : Nat := (x / 16 + x) &&& (15 * rep k)
def g1 (a : Nat) : Nat := ((a / 2) &&& 85) + (a &&& 85)
def g2 (a : Nat) : Nat := ((a / 4) &&& 51) + (a &&& 51)
def g3 (a : Nat) : Nat := (a / 16 + a) &&& 15
theorem lo1 : ∀ (a : Fin 256) (e : Fin 2), (a.val / 2 + 128 * e.val) &&& 85 = (a.val / 2) &&& 85 := by decide +kernel
theorem lo2 : ∀ (a : Fin 256) (e : Fin 4), (a.val / 4 + 64 * e.val) &&& 51 = (a.val / 4) &&& 51 := by decide +kernel
theorem lo3 : ∀ (a : Fin 256) (e : Fin 5), (a.val / 16 + 16 * e.val + a.val) &&& 15 = (a.val / 16 + a.val) &&& 15 := by decide +kernel
theorem g1_lt : ∀ a : Fin 256, g1 a.val < 256 := by decide +kernel
theorem g2_lt : ∀ a : Fin 256, g2 (g1 a.val) < 256 ∧ g2 (g1 a.val) / 16 ≤ 4 ∧ g2 (g1 a.val) % 16 ≤ 4 := by decide +kernel
theorem g3_is : ∀ a : Fin 256, g3 (g2 (g1 a.val)) = popTo 8 a.val := by decide +kernel
theorem f1_step (k a b : Nat) (ha : a < 256) : f1 (k + 1) (a + 256 * b) = g1 a + 256 * f1 k b := by
  unfold f1 g1
  have e1 : (a + 256 * b) / 2 = (a / 2 + 128 * (b % 2)) + 256 * (b / 2) := by omega
  have e2 : 85 * rep (k + 1) = 85 + 256 * (85 * rep k) := by show 85 * (1 + 256 * rep k) = _; omega
  have hlo := lo1 ⟨a, ha⟩ ⟨b % 2, by omega⟩
  simp only at hlo
  rw [e1, e2, and_split _ _ _ _ (by omega) (by decide), and_split _ _ _ _ ha (by decide), hlo]
  omega
theorem f2_step (k a b : Nat) (ha : a < 256) : f2 (k + 1) (a + 256 * b) = g2 a + 256 * f2 k b := by
  unfold f2 g2
  have e1 : (a + 256 * b) / 4 = (a / 4 + 64 * (b % 4)) + 256 * (b / 4) := by omega
  have e2 : 51 * rep (k + 1) = 51 + 256 * (51 * rep k) := by show 51 * (1 + 256 * rep k) = _; omega
  have hlo := lo2 ⟨a, ha⟩ ⟨b % 4, by omega⟩
  simp only at hlo
  rw [e1, e2, and_split _ _ _ _ (by omega) (by decide), and_split _ _ _ _ ha (by decide), hlo]
  omega
theorem f3_step (k a b : Nat) (ha : a < 256) (h1 : a / 16 ≤ 4) (h2 : a % 16 ≤ 4) (hb : b % 16 ≤ 4) : f3 (k + 1) (a + 256 * b) = g3 a + 256 * f3 k b := by
  unfold f3 g3
  have e1 : (a + 256 * b) / 16 + (a + 256 * b) = (a / 16 + 16 * (b % 16) + a) + 256 * (b / 16 + b) := by omega
  have e2 : 15 * rep (k + 1) = 15 + 256 * (15 * rep k) := by show 15 * (1 + 256 * rep k) = _; omega
  have hlo := lo3 ⟨a, ha⟩ ⟨b % 16, by omega⟩
  simp only at hlo
  rw [e1, e2, and_split _ _ _ _ (by omega) (by decide), hlo]
theorem f2_low (k b : Nat) : f2 k (f1 k b) % 16 ≤ 4 := by
  cases k with
  | zero => simp [f2, f1, rep]
  | succ k =>
    obtain ⟨a, c, ha, rfl⟩ : ∃ a c, a < 256 ∧ b = a + 256 * c := ⟨b % 256, b / 256, by omega, by omega⟩
    have hg : g1 a < 256 := g1_lt ⟨a, ha⟩
    rw [f1_step k _ _ ha, f2_step k _ _ hg]
    have : g2 (g1 a) % 16 ≤ 4 := (g2_lt ⟨a, ha⟩).2.2
    omega
def sumP : Nat → Nat → Nat
  | 0, _ => 0
  | k + 1, x => popTo 8 (x % 256) + 256 * sumP k (x / 256)
theorem fff (k : Nat) : ∀ x, f3 k (f2 k (f1 k x)) = sumP k x := by
  induction k with
  | zero => intro x; simp [f3, rep, sumP]
  | succ k ih =>
    intro x
    obtain ⟨a, c, ha, rfl⟩ : ∃ a c, a < 256 ∧ x = a + 256 * c := ⟨x % 256, x / 256, by omega, by omega⟩
    have hg : g1 a < 256 := g1_lt ⟨a, ha⟩
    have h : g2 (g1 a) < 256 ∧ g2 (g1 a) / 16 ≤ 4 ∧ g2 (g1 a) % 16 ≤ 4 := g2_lt ⟨a, ha⟩
    have h3 : g3 (g2 (g1 a)) = popTo 8 a := g3_is ⟨a, ha⟩
    rw [f1_step k _ _ ha, f2_step k _ _ hg, f3_step k _ _ h.1 h.2.1 h.2.2 (f2_low k _), ih, h3]
    show _ = popTo 8 ((a + 256 * c) % 256) + 256 * sumP k ((a + 256 * c) / 256)
    rw [show (a + 256 * c) % 256 = a by omega, show (a + 256 * c) / 256 = c by omega]
theorem pop_bytes (x : Nat) (hx : B64 x) : ∃ p0 p1 p2 p3 p4 p5 p6 p7 : Nat, p0 ≤ 8 ∧ p1 ≤ 8 ∧ p2 ≤ 8 ∧ p3 ≤ 8 ∧ p4 ≤ 8 ∧ p5 ≤ 8 ∧ p6 ≤ 8 ∧ p7 ≤ 8 ∧
    f3 8 (f2 8 (f1 8 x)) = p0 + 256 * (p1 + 256 * (p2 + 256 * (p3 + 256 * (p4 + 256 * (p5 + 256 * (p6 + 256 * p7)))))) ∧ popTo 64 x = p0 + p1 + p2 + p3 + p4 + p5 + p6 + p7 := by
  have step : ∀ k y, popTo (8 + k) y = popTo 8 (y % 256) + popTo k (y / 256) := by
    intro k y
    have e : y = y % 256 + 256 * (y / 256) := by omega
    conv => lhs; rw [e]
    exact popTo_add k _ _ (by omega)
  refine ⟨popTo 8 (x % 256), popTo 8 (x / 256 % 256), popTo 8 (x / 256 / 256 % 256), popTo 8 (x / 256 / 256 / 256 % 256), popTo 8 (x / 256 / 256 / 256 / 256 % 256), popTo 8 (x / 256 / 256 / 256 / 256 / 256 % 256), popTo 8 (x / 256 / 256 / 256 / 256 / 256 / 256 % 256), popTo 8 (x / 256 / 256 / 256 / 256 / 256 / 256 / 256 % 256), popTo_le 8 _, popTo_le 8 _, popTo_le 8 _, popTo_le 8 _, popTo_le 8 _, popTo_le 8 _, popTo_le 8 _, popTo_le 8 _, ?_, ?_⟩
  · rw [fff]
    unfold sumP sumP sumP sumP sumP sumP sumP sumP sumP
    rfl
  · rw [show (64 : Nat) = 8 + 56 from rfl, step 56, show (56 : Nat) = 8 + 48 from rfl, step 48, show (48 : Nat) = 8 + 40 from rfl, step 40, show (40 : Nat) = 8 + 32 from rfl, step 32, show (32 : Nat) = 8 + 24 from rfl, step 24, show (24 : Nat) = 8 + 16 from rfl, step 16, show (16 : Nat) = 8 + 8 from rfl, step 8]
    have e : popTo 8 (x / 256 / 256 / 256 / 256 / 256 / 256 / 256) = popTo 8 (x / 256 / 256 / 256 / 256 / 256 / 256 / 256 % 256) := by
      congr 1
      unfold B64 at hx
      omega
    rw [e]
    omega
/-- The last three steps and the mask. -/
theorem pop_sum (s : Nat) (p0 p1 p2 p3 p4 p5 p6 p7 : Nat) (h0 : p0 ≤ 8) (h1 : p1 ≤ 8) (h2 : p2 ≤ 8) (h3 : p3 ≤ 8) (h4 : p4 ≤ 8) (h5 : p5 ≤ 8) (h6 : p6 ≤ 8) (h7 : p7 ≤ 8)
    (hs : s = p0 + 256 * (p1 + 256 * (p2 + 256 * (p3 + 256 * (p4 + 256 * (p5 + 256 * (p6 + 256 * p7))))))) :
    (s + s / 256 + (s + s / 256) / 65536 + (s + s / 256 + (s + s / 256) / 65536) / 4294967296) % 128 = p0 + p1 + p2 + p3 + p4 + p5 + p6 + p7 := by
  have t1 : s / 256 = p1 + 256 * (p2 + 256 * (p3 + 256 * (p4 + 256 * (p5 + 256 * (p6 + 256 * (p7)))))) := by omega
  obtain ⟨q0, q1, q2, q3, q4, q5, q6, q7, e0, e1, e2, e3, e4, e5, e6, e7⟩ : ∃ q0 q1 q2 q3 q4 q5 q6 q7 : Nat, q0 = p0 + p1 ∧ q1 = p1 + p2 ∧ q2 = p2 + p3 ∧ q3 = p3 + p4 ∧ q4 = p4 + p5 ∧ q5 = p5 + p6 ∧ q6 = p6 + p7 ∧ q7 = p7 := ⟨_, _, _, _, _, _, _, _, rfl, rfl, rfl, rfl, rfl, rfl, rfl, rfl⟩
  have t2 : s + s / 256 = q0 + 256 * (q1 + 256 * (q2 + 256 * (q3 + 256 * (q4 + 256 * (q5 + 256 * (q6 + 256 * (q7))))))) := by rw [t1, hs]; omega
  rw [t2]
  obtain ⟨u, hu⟩ : ∃ u, u = q0 + 256 * (q1 + 256 * (q2 + 256 * (q3 + 256 * (q4 + 256 * (q5 + 256 * (q6 + 256 * (q7))))))) := ⟨_, rfl⟩
  rw [← hu]
  have b0 : q0 ≤ 16 := by omega
  have b1 : q1 ≤ 16 := by omega
  have b2 : q2 ≤ 16 := by omega
  have b3 : q3 ≤ 16 := by omega
  have b4 : q4 ≤ 16 := by omega
  have b5 : q5 ≤ 16 := by omega
  have b6 : q6 ≤ 16 := by omega
  have b7 : q7 ≤ 16 := by omega
  have hT : q0 + q2 + q4 + q6 = p0 + p1 + p2 + p3 + p4 + p5 + p6 + p7 := by omega
  rw [← hT]
  clear t1 t2 hs e0 e1 e2 e3 e4 e5 e6 e7 h0 h1 h2 h3 h4 h5 h6 h7 hT
  have t3 : u / 65536 = q2 + 256 * (q3 + 256 * (q4 + 256 * (q5 + 256 * (q6 + 256 * (q7))))) := by omega
  obtain ⟨r4, hr4⟩ : ∃ r, r = q4 + q6 := ⟨_, rfl⟩
  have t4 : u + u / 65536 = (q0 + q2) + 256 * ((q1 + q3) + 256 * ((q2 + q4) + 256 * ((q3 + q5) + 256 * (r4 + 256 * ((q5 + q7) + 256 * (q6 + 256 * q7)))))) := by rw [t3, hu, hr4]; omega
  rw [t4]
  obtain ⟨v, hv⟩ : ∃ v, v = (q0 + q2) + 256 * ((q1 + q3) + 256 * ((q2 + q4) + 256 * ((q3 + q5) + 256 * (r4 + 256 * ((q5 + q7) + 256 * (q6 + 256 * q7)))))) := ⟨_, rfl⟩
  rw [← hv]
  have t5 : v / 4294967296 = r4 + 256 * ((q5 + q7) + 256 * (q6 + 256 * q7)) := by omega
  rw [t5]
  omega
end Go.Proofs.Yteemhabgliglmaa
