/- The law LexerLimits: its theory and its walk; no condition. -/
import Derived.Test.YtmbdpiffdiiggaaLxV
namespace Go.Proofs.Ytmbdpiffdiiggaa
open Go.RowKit
set_option linter.unusedVariables false

theorem repL_front (M : List Int) (k : Nat) : repL M (k + 1) = M ++ repL M k := by
  induction k with
  | zero => simp [repL]
  | succ k ih =>
    show repL M (k + 1) ++ M = _
    rw [ih]
    simp
    rw [← ih]
    rfl
def semis (k : Nat) : List Int := 32 :: repL [59, 32] k
theorem semis_next (k : Nat) : semis (k + 1) = 32 :: 59 :: semis k := by unfold semis; rw [repL_front]; rfl
theorem first_semi (X : List Int) : firstT (59 :: 32 :: X) = ⟨3, [59], 0, 0⟩ := by
  have k : symK (59 :: 32 :: X) = 1 := by
    unfold symK
    rw [if_neg (by intro h; exact absurd h.2 (by simp [twoS])), if_pos (by simp [oneS])]
  have a : isL ((59 :: 32 :: X).getD 0 0) = false := by show isL 59 = false; decide
  have b : isD ((59 :: 32 :: X).getD 0 0) = false := by show isD 59 = false; decide
  unfold firstT
  rw [a, b, k]
  rfl
theorem skip_semi (X : List Int) : skipK false (32 :: 59 :: X) = 1 := by
  have a : ans false 32 = true := by decide
  have b : ans false 59 = false := by decide
  have c : cst false 32 = false := by decide
  simp [skipK, a, b, c]
theorem tokF_semi (k : Nat) : ∀ (f : Nat) (line : Int) (acc : List Tok), 2 * k + 1 < f → acc.length ≤ 4096 →
    (acc.length + k ≤ 4096 → ∃ M, tokF f line acc (semis k) = (M, 0, 0) ∧ M.length = acc.length + k) ∧ (4096 < acc.length + k → tokF f line acc (semis k) = ([], line, 12)) := by
  induction k with
  | zero =>
    intro f line acc hf ha
    obtain ⟨f, rfl⟩ : ∃ g, f = g + 1 := ⟨f - 1, by omega⟩
    refine ⟨fun _ => ⟨acc, ?_, by simp⟩, fun h => by omega⟩
    rw [tokF_step, if_pos (by decide)]
  | succ k ih =>
    intro f line acc hf ha
    obtain ⟨f, rfl⟩ : ∃ g, f = g + 1 := ⟨f - 1, by omega⟩
    have e : tokF (f + 1) line acc (semis (k + 1)) = if acc.length = 4096 then ([], line, 12) else tokF f line (acc ++ [⟨3, [59], 0, line⟩]) (semis k) := by
      rw [semis_next, tokF_step, skip_semi]
      have e1 : (32 :: 59 :: semis k).drop 1 = 59 :: semis k := rfl
      have e2 : (32 :: 59 :: semis k).take 1 = [32] := rfl
      have e3 : firstT (59 :: semis k) = ⟨3, [59], 0, 0⟩ := first_semi _
      have e4 : nl [32] = 0 := by decide
      rw [e1, e2, e3, e4, if_neg (by simp)]
      simp
    rw [e]
    by_cases h4 : acc.length = 4096
    · rw [if_pos h4]
      exact ⟨fun h => by omega, fun _ => rfl⟩
    · rw [if_neg h4]
      have q := ih f line (acc ++ [⟨3, [59], 0, line⟩]) (by omega) (by rw [List.length_append, List.length_singleton]; omega)
      rw [List.length_append, List.length_singleton] at q
      refine ⟨fun h => ?_, fun h => q.2 (by omega)⟩
      obtain ⟨M, h1, h2⟩ := q.1 (by omega)
      exact ⟨M, h1, by omega⟩
theorem tok_many (t : Nat) (h1 : 1 ≤ t) (h2 : t ≤ 5000) : (t ≤ 4096 → ∃ M, tokR (10 :: repL [59, 32] t) = (M, 0, 0) ∧ M.length = t) ∧ (4096 < t → tokR (10 :: repL [59, 32] t) = ([], 2, 12)) := by
  obtain ⟨t, rfl⟩ : ∃ k, t = k + 1 := ⟨t - 1, by omega⟩
  have hl : (repL [59, 32] (t + 1)).length = (t + 1) * 2 := repL_len _ _
  have e : tokR (10 :: repL [59, 32] (t + 1)) = tokF ((t + 1) * 2 + 1) 2 [⟨3, [59], 0, 2⟩] (semis t) := by
    unfold tokR
    rw [if_neg (by rw [List.length_cons, hl]; omega), List.length_cons, hl, repL_front]
    have k1 : skipK false (10 :: ([59, 32] ++ repL [59, 32] t)) = 1 := by
      have a : ans false 10 = true := by decide
      have b : ans false 59 = false := by decide
      have c : cst false 10 = false := by decide
      simp [skipK, a, b, c]
    have e1 : (10 :: ([59, 32] ++ repL [59, 32] t)).drop 1 = 59 :: semis t := rfl
    have e2 : (10 :: ([59, 32] ++ repL [59, 32] t)).take 1 = [10] := rfl
    have e3 : firstT (59 :: semis t) = ⟨3, [59], 0, 0⟩ := first_semi _
    have e4 : nl [10] = 1 := by decide
    rw [tokF_step, k1, e1, e2, e3, e4, if_neg (by simp), if_neg (by simp), if_neg (by simp)]
    rfl
  rw [e]
  have q := tokF_semi t ((t + 1) * 2 + 1) 2 [⟨3, [59], 0, 2⟩] (by omega) (by simp)
  simp only [List.length_singleton] at q
  refine ⟨fun h => ?_, fun h => q.2 (by omega)⟩
  obtain ⟨M, h1, h2⟩ := q.1 (by omega)
  exact ⟨M, h1, by omega⟩
theorem skip_blank (n : Nat) : skipK false (repL [32] n) = n := by
  induction n with
  | zero => rfl
  | succ n ih =>
    rw [repL_front]
    have a : ans false 32 = true := by decide
    have c : cst false 32 = false := by decide
    show (if ans false 32 = true then skipK (cst false 32) (repL [32] n) + 1 else 0) = _
    rw [if_pos a, c, ih]
theorem tok_blank (n : Nat) : tokR (repL [32] n) = if 16384 < n then ([], 0, 4) else ([], 0, 0) := by
  have hl : (repL [32] n).length = n := by rw [repL_len]; simp
  unfold tokR
  rw [hl]
  split
  · rfl
  · rw [tokF_step, if_pos]
    rw [skip_blank]
    apply List.drop_of_length_le
    omega
theorem span_q (m : Nat) : spanK isW (repL [113] m) = m := by
  have hl : (repL [113] m).length = m := by rw [repL_len]; simp
  have h : ∀ x ∈ repL [113] m, isW x = true := by
    induction m with
    | zero => intro x hx; simp [repL] at hx
    | succ m ih =>
      intro x hx
      rcases List.mem_append.1 hx with h | h
      · exact ih (by rw [repL_len]; simp) x h
      · simp at h; subst h; decide
  have := spanK_all.2 h
  omega
theorem tok_long (m : Nat) (h1 : 1 ≤ m) (h2 : m ≤ 1000) : (m ≤ 16 → ∃ M, tokR (10 :: 10 :: repL [113] m) = (M, 0, 0)) ∧ (16 < m → tokR (10 :: 10 :: repL [113] m) = ([], 3, 4)) := by
  obtain ⟨m, rfl⟩ : ∃ k, m = k + 1 := ⟨m - 1, by omega⟩
  have hl : (repL [113] (m + 1)).length = m + 1 := by rw [repL_len]; simp
  have k1 : skipK false (10 :: 10 :: repL [113] (m + 1)) = 2 := by
    rw [repL_front]
    have a : ans false 10 = true := by decide
    have b : ans false 113 = false := by decide
    have c : cst false 10 = false := by decide
    simp [skipK, a, b, c]
  have e1 : (10 :: 10 :: repL [113] (m + 1)).drop 2 = repL [113] (m + 1) := rfl
  have e2 : (10 :: 10 :: repL [113] (m + 1)).take 2 = [10, 10] := rfl
  have e4 : nl [10, 10] = 2 := by decide
  have c1 : repL [113] (m + 1) ≠ [] := by intro h; rw [h] at hl; simp at hl
  have hg : (repL [113] (m + 1)).getD 0 0 = 113 := by rw [repL_front]; rfl
  have hF : firstT (repL [113] (m + 1)) = nameT (repL [113] (m + 1)) := by
    unfold firstT
    rw [hg, if_pos (by decide), span_q, List.take_of_length_le (by omega)]
  have e : tokR (10 :: 10 :: repL [113] (m + 1)) = tokF (m + 4) 1 [] (10 :: 10 :: repL [113] (m + 1)) := by
    unfold tokR
    rw [if_neg (by simp [hl]; omega)]
    simp [hl]
  rw [e, tokF_step, k1, e1, e2, e4, if_neg c1, if_neg (by simp), hF]
  refine ⟨fun h => ?_, fun h => ?_⟩
  · have hn : nameT (repL [113] (m + 1)) = ⟨1, repL [113] (m + 1), 0, 0⟩ := if_pos (by omega)
    rw [hn, if_neg (by simp)]
    have hd : ∀ ln acc, tokF (m + 3) ln acc [] = (acc, 0, 0) := fun ln acc => by rw [tokF_step, if_pos (by decide)]
    simp only [List.drop_length]
    exact ⟨_, hd _ _⟩
  · have hn : nameT (repL [113] (m + 1)) = noTk 4 := if_neg (by omega)
    rw [hn, if_pos (by simp [noTk])]
    rfl

set_option maxRecDepth 100000 in
set_option maxHeartbeats 2000000 in
theorem limits_walk (n k : Int) (W : World) (wn : (Lit.int .u8 n).wf = true) (wk : (Lit.int .u8 k).wf = true) : Calls Try.prog 7 #[.int .u8 n, .int .u8 k] W (HoldsT W) := by
  have hn := u8_bd wn
  have hk := u8_bd wk
  clear wn wk
  obtain ⟨r, hr⟩ : ∃ r : Nat, n % 16 = r := ⟨(n % 16).toNat, by omega⟩
  obtain ⟨q, hq⟩ : ∃ q : Nat, k % 16 = q := ⟨(k % 16).toNat, by omega⟩
  have hr16 : r < 16 := by omega
  have hq16 : q < 16 := by omega
  have H1 := Lib.hid (show ∀ w, Calls Try.prog 21 #[.string ⟨#[59, 32]⟩, .int .i64 (4088 + (r : Int))] w (RetQ (.string (strOf (repL [59, 32] (4088 + r)))) w none fun _ => True) from fun w => by
    have h := repeat_any w [59, 32] (4088 + r) (by decide) (by decide) (by simp; omega) (by omega)
    rw [show ((4088 + r : Nat) : Int) = 4088 + (r : Int) by omega] at h
    exact h)
  have H2 := Lib.hid (show ∀ w, Calls Try.prog 21 #[.string ⟨#[32]⟩, .int .i64 (16376 + (q : Int))] w (RetQ (.string (strOf (repL [32] (16376 + q)))) w none fun _ => True) from fun w => by
    have h := repeat_any w [32] (16376 + q) (by decide) (by decide) (by simp; omega) (by omega)
    rw [show ((16376 + q : Nat) : Int) = 16376 + (q : Int) by omega] at h
    exact h)
  have H3 := Lib.hid (show ∀ w, Calls Try.prog 21 #[.string ⟨#[113]⟩, .int .i64 (8 + (r : Int))] w (RetQ (.string (strOf (repL [113] (8 + r)))) w none fun _ => True) from fun w => by
    have h := repeat_any w [113] (8 + r) (by decide) (by decide) (by simp; omega) (by omega)
    rw [show ((8 + r : Nat) : Int) = 8 + (r : Int) by omega] at h
    exact h)
  have T1 := Lib.hid (fun w => tokenize_all w (10 :: repL [59, 32] (4088 + r)) (by
    intro x hx
    rcases List.mem_cons.1 hx with h | h
    · omega
    · exact repL_range [59, 32] (by decide) _ x h))
  rw [← cons_str 10 10 rfl] at T1
  have T2 := Lib.hid (fun w => tokenize_all w (repL [32] (16376 + q)) (repL_range [32] (by decide) _))
  have T3 := Lib.hid (fun w => tokenize_all w (10 :: 10 :: repL [113] (8 + r)) (by
    intro x hx
    rcases List.mem_cons.1 hx with h | h
    · omega
    · rcases List.mem_cons.1 h with h | h
      · omega
      · exact repL_range [113] (by decide) _ x h))
  have e3 : strOf (10 :: 10 :: repL [113] (8 + r)) = (⟨#[10, 10]⟩ : ByteArray) ++ strOf (repL [113] (8 + r)) := by
    rw [show (⟨#[10, 10]⟩ : ByteArray) = strOf [10, 10] from rfl, strOf_app]; rfl
  rw [e3] at T3
  have z1 := strOf_size (repL [59, 32] (4088 + r))
  rw [repL_len] at z1
  have z3 := strOf_size (repL [113] (8 + r))
  rw [repL_len] at z3
  have M1 := Lib.hid (tok_many (4088 + r) (by omega) (by omega))
  have M2 := Lib.hid (tok_blank (16376 + q))
  have M3 := Lib.hid (tok_long (8 + r) (by omega) (by omega))
  obtain ⟨s1, hs1⟩ : ∃ s, s = strOf (repL [59, 32] (4088 + r)) := ⟨_, rfl⟩
  rw [← hs1] at H1 T1 z1
  obtain ⟨s2, hs2⟩ : ∃ s, s = strOf (repL [32] (16376 + q)) := ⟨_, rfl⟩
  rw [← hs2] at H2 T2
  obtain ⟨s3, hs3⟩ : ∃ s, s = strOf (repL [113] (8 + r)) := ⟨_, rfl⟩
  rw [← hs3] at H3 T3 z3
  have j1 : (⟨#[10]⟩ : ByteArray).size + s1.size ≤ 9223372036854775807 := by rw [z1, show (⟨#[10]⟩ : ByteArray).size = 1 from rfl]; simp; omega
  have j3 : (⟨#[10, 10]⟩ : ByteArray).size + s3.size ≤ 9223372036854775807 := by rw [z3, show (⟨#[10, 10]⟩ : ByteArray).size = 2 from rfl]; simp; omega
  clear hs1 hs2 hs3 z1 z3 e3
  by_cases hr8 : r ≤ 8
  · obtain ⟨N1, m1, l1⟩ := M1.out.1 (by omega)
    obtain ⟨N3, m3⟩ := M3.out.1 (by omega)
    rw [m1] at T1
    rw [m3] at T3
    have HL1 := Lib.hid l1
    clear M1 M3 m1 m3 l1
    have i1 : (4088 + (r : Int)) ≤ 4096 := by omega
    have i3 : (8 + (r : Int)) ≤ 16 := by omega
    have i4 : ((N1.length : Int) == 4088 + (r : Int)) = true := by rw [beq_iff_eq]; have := HL1.out; omega
    have i5 : ((N1.length : Int) != 4088 + (r : Int)) = false := by simp [bne, i4]
    by_cases hq8 : q ≤ 8
    · have i2 : (16376 + (q : Int)) ≤ 16384 := by omega
      have e2 : tokR (repL [32] (16376 + q)) = ([], 0, 0) := by rw [M2.out, if_neg (by omega)]
      rw [e2] at T2
      clear M2 e2
      go_enter Try.func7, Try.ntmps7
      go_wp2_with fail
      refine (H1.out _).mono ?_
      rintro e w1 ⟨rfl, g1, _⟩
      go_wp2_with fail
      refine (T1.out _).mono ?_
      rintro e w2 ⟨V2, rfl, o2, g2⟩
      obtain ⟨a2, c2, rfl⟩ := o2.shape
      have G2 := Lib.hid (gb_trans g1 g2)
      clear o2 g1 g2
      go_wp2_with fail
      refine (H2.out _).mono ?_
      rintro e w3 ⟨rfl, g3, _⟩
      go_wp2_with fail
      refine (T2.out _).mono ?_
      rintro e w4 ⟨V4, rfl, o4, g4⟩
      obtain ⟨a4, c4, rfl⟩ := o4.shape
      have G4 := Lib.hid (gb_trans G2.out (gb_trans g3 g4))
      clear o4 g3 g4
      go_wp2_with fail
      refine (H3.out _).mono ?_
      rintro e w5 ⟨rfl, g5, _⟩
      go_wp2_with fail
      refine (T3.out _).mono ?_
      rintro e w6 ⟨V6, rfl, o6, g6⟩
      obtain ⟨a6, c6, rfl⟩ := o6.shape
      have G6 := Lib.hid (gb_trans G4.out (gb_trans g5 g6))
      clear o6 g5 g6 G2 G4
      go_wp2_with fail
      refine (works_any _).mono ?_
      rintro e w7 ⟨rfl, g7, _⟩
      have G7 := Lib.hid (gb_trans G6.out g7)
      clear g7
      go_wp2
      go_ret
      exact ⟨rfl, gb_below0 G7.out⟩
    · have i2 : ¬ (16376 + (q : Int)) ≤ 16384 := by omega
      have e2 : tokR (repL [32] (16376 + q)) = ([], 0, 4) := by rw [M2.out, if_pos (by omega)]
      rw [e2] at T2
      clear M2 e2
      go_enter Try.func7, Try.ntmps7
      go_wp2_with fail
      refine (H1.out _).mono ?_
      rintro e w1 ⟨rfl, g1, _⟩
      go_wp2_with fail
      refine (T1.out _).mono ?_
      rintro e w2 ⟨V2, rfl, o2, g2⟩
      obtain ⟨a2, c2, rfl⟩ := o2.shape
      have G2 := Lib.hid (gb_trans g1 g2)
      clear o2 g1 g2
      go_wp2_with fail
      refine (H2.out _).mono ?_
      rintro e w3 ⟨rfl, g3, _⟩
      go_wp2_with fail
      refine (T2.out _).mono ?_
      rintro e w4 ⟨V4, rfl, o4, g4⟩
      obtain ⟨a4, c4, rfl⟩ := o4.shape
      have G4 := Lib.hid (gb_trans G2.out (gb_trans g3 g4))
      clear o4 g3 g4
      go_wp2_with fail
      refine (H3.out _).mono ?_
      rintro e w5 ⟨rfl, g5, _⟩
      go_wp2_with fail
      refine (T3.out _).mono ?_
      rintro e w6 ⟨V6, rfl, o6, g6⟩
      obtain ⟨a6, c6, rfl⟩ := o6.shape
      have G6 := Lib.hid (gb_trans G4.out (gb_trans g5 g6))
      clear o6 g5 g6 G2 G4
      go_wp2_with fail
      refine (works_any _).mono ?_
      rintro e w7 ⟨rfl, g7, _⟩
      have G7 := Lib.hid (gb_trans G6.out g7)
      clear g7
      go_wp2
      go_ret
      exact ⟨rfl, gb_below0 G7.out⟩
  · have m1 := M1.out.2 (by omega)
    have m3 := M3.out.2 (by omega)
    rw [m1] at T1
    rw [m3] at T3
    clear M1 M3 m1 m3
    have i1 : ¬ (4088 + (r : Int)) ≤ 4096 := by omega
    have i3 : ¬ (8 + (r : Int)) ≤ 16 := by omega
    by_cases hq8 : q ≤ 8
    · have i2 : (16376 + (q : Int)) ≤ 16384 := by omega
      have e2 : tokR (repL [32] (16376 + q)) = ([], 0, 0) := by rw [M2.out, if_neg (by omega)]
      rw [e2] at T2
      clear M2 e2
      go_enter Try.func7, Try.ntmps7
      go_wp2_with fail
      refine (H1.out _).mono ?_
      rintro e w1 ⟨rfl, g1, _⟩
      go_wp2_with fail
      refine (T1.out _).mono ?_
      rintro e w2 ⟨V2, rfl, o2, g2⟩
      obtain ⟨a2, c2, rfl⟩ := o2.shape
      have G2 := Lib.hid (gb_trans g1 g2)
      clear o2 g1 g2
      go_wp2_with fail
      refine (H2.out _).mono ?_
      rintro e w3 ⟨rfl, g3, _⟩
      go_wp2_with fail
      refine (T2.out _).mono ?_
      rintro e w4 ⟨V4, rfl, o4, g4⟩
      obtain ⟨a4, c4, rfl⟩ := o4.shape
      have G4 := Lib.hid (gb_trans G2.out (gb_trans g3 g4))
      clear o4 g3 g4
      go_wp2_with fail
      refine (H3.out _).mono ?_
      rintro e w5 ⟨rfl, g5, _⟩
      go_wp2_with fail
      refine (T3.out _).mono ?_
      rintro e w6 ⟨V6, rfl, o6, g6⟩
      obtain ⟨a6, c6, rfl⟩ := o6.shape
      have G6 := Lib.hid (gb_trans G4.out (gb_trans g5 g6))
      clear o6 g5 g6 G2 G4
      go_wp2_with fail
      refine (works_any _).mono ?_
      rintro e w7 ⟨rfl, g7, _⟩
      have G7 := Lib.hid (gb_trans G6.out g7)
      clear g7
      go_wp2
      go_ret
      exact ⟨rfl, gb_below0 G7.out⟩
    · have i2 : ¬ (16376 + (q : Int)) ≤ 16384 := by omega
      have e2 : tokR (repL [32] (16376 + q)) = ([], 0, 4) := by rw [M2.out, if_pos (by omega)]
      rw [e2] at T2
      clear M2 e2
      go_enter Try.func7, Try.ntmps7
      go_wp2_with fail
      refine (H1.out _).mono ?_
      rintro e w1 ⟨rfl, g1, _⟩
      go_wp2_with fail
      refine (T1.out _).mono ?_
      rintro e w2 ⟨V2, rfl, o2, g2⟩
      obtain ⟨a2, c2, rfl⟩ := o2.shape
      have G2 := Lib.hid (gb_trans g1 g2)
      clear o2 g1 g2
      go_wp2_with fail
      refine (H2.out _).mono ?_
      rintro e w3 ⟨rfl, g3, _⟩
      go_wp2_with fail
      refine (T2.out _).mono ?_
      rintro e w4 ⟨V4, rfl, o4, g4⟩
      obtain ⟨a4, c4, rfl⟩ := o4.shape
      have G4 := Lib.hid (gb_trans G2.out (gb_trans g3 g4))
      clear o4 g3 g4
      go_wp2_with fail
      refine (H3.out _).mono ?_
      rintro e w5 ⟨rfl, g5, _⟩
      go_wp2_with fail
      refine (T3.out _).mono ?_
      rintro e w6 ⟨V6, rfl, o6, g6⟩
      obtain ⟨a6, c6, rfl⟩ := o6.shape
      have G6 := Lib.hid (gb_trans G4.out (gb_trans g5 g6))
      clear o6 g5 g6 G2 G4
      go_wp2_with fail
      refine (works_any _).mono ?_
      rintro e w7 ⟨rfl, g7, _⟩
      have G7 := Lib.hid (gb_trans G6.out g7)
      clear g7
      go_wp2
      go_ret
      exact ⟨rfl, gb_below0 G7.out⟩
end Go.Proofs.Ytmbdpiffdiiggaa
