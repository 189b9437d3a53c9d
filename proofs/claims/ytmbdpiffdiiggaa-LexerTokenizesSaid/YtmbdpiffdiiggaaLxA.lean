/- The lexer's classes of bytes, and the extent of what begins a text: the walks; no condition but sizes and the bytes' range. -/
import Derived.Test.YtmbdpiffdiiggaaNtM
namespace Go.Proofs.Ytmbdpiffdiiggaa
open Go.RowKit
set_option linter.unusedVariables false

def isL (c : Int) : Bool := decide ((97 ≤ c ∧ c ≤ 122) ∨ (65 ≤ c ∧ c ≤ 90))
def isD (c : Int) : Bool := decide (48 ≤ c ∧ c ≤ 57)
def isX (c : Int) : Bool := isD c || decide (97 ≤ c ∧ c ≤ 102)
def isA (c : Int) : Bool := isL c || isD c
def isW (c : Int) : Bool := isL c || isD c || decide (c = 95)
/-- The call returns v and leaves the world as it is. -/
def RetS (v : Value) (w : World) (e : Ending) (w' : World) : Prop := e = .returned v ∧ w' = w

theorem isLetter_any (w : World) (c : Int) (h0 : 0 ≤ c) (h1 : c ≤ 255) : Calls Try.prog 49 #[.int .u8 c] w (RetS (.bool (isL c)) w) := by
  rcases (show (c < 65 ∧ c < 97) ∨ (65 ≤ c ∧ c ≤ 90) ∨ (90 < c ∧ c < 97) ∨ (97 ≤ c ∧ c ≤ 122) ∨ (122 < c ∧ 90 < c) by omega) with ⟨h, k⟩ | ⟨h, k⟩ | ⟨h, k⟩ | ⟨h, k⟩ | ⟨h, k⟩
  all_goals
    go_enter Try.func49, Try.ntmps49
    go_wp2
    go_ret
    exact ⟨ret_b (by unfold isL; first | exact (decide_eq_true (by omega)).symm | exact (decide_eq_false (by omega)).symm | (rw [Bool.eq_iff_iff]; simp only [Bool.or_eq_true, decide_eq_true_eq]; omega)), rfl⟩
theorem rletter_any (w : World) (c : Int) (h0 : 0 ≤ c) (h1 : c ≤ 255) : Calls Try.prog 51 #[.int .u8 c] w (RetS (.bool (isL c)) w) := by
  rcases (show (c < 65 ∧ c < 97) ∨ (65 ≤ c ∧ c ≤ 90) ∨ (90 < c ∧ c < 97) ∨ (97 ≤ c ∧ c ≤ 122) ∨ (122 < c ∧ 90 < c) by omega) with ⟨h, k⟩ | ⟨h, k⟩ | ⟨h, k⟩ | ⟨h, k⟩ | ⟨h, k⟩
  all_goals
    go_enter Try.func51, Try.ntmps51
    go_wp2
    go_ret
    exact ⟨ret_b (by unfold isL; first | exact (decide_eq_true (by omega)).symm | exact (decide_eq_false (by omega)).symm | (rw [Bool.eq_iff_iff]; simp only [Bool.or_eq_true, decide_eq_true_eq]; omega)), rfl⟩
theorem isDigit_any (w : World) (c : Int) (h0 : 0 ≤ c) (h1 : c ≤ 255) : Calls Try.prog 65 #[.int .u8 c] w (RetS (.bool (isD c)) w) := by
  rcases (show (c < 48) ∨ (48 ≤ c ∧ c ≤ 57) ∨ (57 < c) by omega) with h | ⟨h, k⟩ | h
  all_goals
    go_enter Try.func65, Try.ntmps65
    go_wp2
    go_ret
    exact ⟨ret_b (by unfold isD; simp; omega), rfl⟩
theorem rdigit5_any (w : World) (c : Int) (h0 : 0 ≤ c) (h1 : c ≤ 255) : Calls Try.prog 52 #[.int .u8 c] w (RetS (.bool (isD c)) w) := by
  rcases (show (c < 48) ∨ (48 ≤ c ∧ c ≤ 57) ∨ (57 < c) by omega) with h | ⟨h, k⟩ | h
  all_goals
    go_enter Try.func52, Try.ntmps52
    go_wp2
    go_ret
    exact ⟨ret_b (by unfold isD; simp; omega), rfl⟩
theorem isHexDigit_any (w : World) (c : Int) (h0 : 0 ≤ c) (h1 : c ≤ 255) : Calls Try.prog 94 #[.int .u8 c] w (RetS (.bool (isX c)) w) := by
  have HC := Lib.hid (isDigit_any w c h0 h1)
  cases hb : isD c
  · have HB := Lib.hid hb
    rw [hb] at HC
    clear hb
    rcases (show (c < 97) ∨ (97 ≤ c ∧ c ≤ 102) ∨ (102 < c) by omega) with h | ⟨h, k⟩ | h
    all_goals
      go_enter Try.func94, Try.ntmps94
      go_wp2_with fail
      refine HC.out.mono ?_
      rintro e w' ⟨rfl, rfl⟩
      go_wp2
      go_ret
      exact ⟨ret_b (by unfold isX; rw [HB.out]; simp; omega), rfl⟩
  · have HB := Lib.hid hb
    rw [hb] at HC
    clear hb
    go_enter Try.func94, Try.ntmps94
    go_wp2_with fail
    refine HC.out.mono ?_
    rintro e w' ⟨rfl, rfl⟩
    go_wp2
    go_ret
    exact ⟨ret_b (by unfold isX; rw [HB.out]; simp), rfl⟩
theorem rhexDigit_any (w : World) (c : Int) (h0 : 0 ≤ c) (h1 : c ≤ 255) : Calls Try.prog 88 #[.int .u8 c] w (RetS (.bool (isX c)) w) := by
  have HC := Lib.hid (rdigit5_any w c h0 h1)
  cases hb : isD c
  · have HB := Lib.hid hb
    rw [hb] at HC
    clear hb
    rcases (show (c < 97) ∨ (97 ≤ c ∧ c ≤ 102) ∨ (102 < c) by omega) with h | ⟨h, k⟩ | h
    all_goals
      go_enter Try.func88, Try.ntmps88
      go_wp2_with fail
      refine HC.out.mono ?_
      rintro e w' ⟨rfl, rfl⟩
      go_wp2
      go_ret
      exact ⟨ret_b (by unfold isX; rw [HB.out]; simp; omega), rfl⟩
  · have HB := Lib.hid hb
    rw [hb] at HC
    clear hb
    go_enter Try.func88, Try.ntmps88
    go_wp2_with fail
    refine HC.out.mono ?_
    rintro e w' ⟨rfl, rfl⟩
    go_wp2
    go_ret
    exact ⟨ret_b (by unfold isX; rw [HB.out]; simp), rfl⟩
theorem nameIs_any (w : World) (c : Int) (h0 : 0 ≤ c) (h1 : c ≤ 255) : Calls Try.prog 73 #[.int .u8 c] w (RetS (.bool (isW c)) w) := by
  have HC := Lib.hid (isLetter_any w c h0 h1)
  have HD := Lib.hid (isDigit_any w c h0 h1)
  have HW := Lib.hid (show isW c = (isL c || isD c || decide (c = 95)) from rfl)
  cases hl : isL c
  · cases hd : isD c
    · have hr : decide (c = 95) = (c == 95) := by rw [Bool.eq_iff_iff]; simp
      rw [hl] at HC HW
      rw [hd] at HD HW
      have HR := Lib.hid hr
      clear hl hd hr
      go_enter Try.func73, Try.ntmps73
      go_wp2_with fail
      refine HC.out.mono ?_
      rintro e w' ⟨rfl, rfl⟩
      go_wp2_with fail
      refine HD.out.mono ?_
      rintro e w' ⟨rfl, rfl⟩
      go_wp2
      go_ret
      exact ⟨ret_b (by rw [HW.out, HR.out]; simp), rfl⟩
    · rw [hl] at HC HW
      rw [hd] at HD HW
      clear hl hd
      go_enter Try.func73, Try.ntmps73
      go_wp2_with fail
      refine HC.out.mono ?_
      rintro e w' ⟨rfl, rfl⟩
      go_wp2_with fail
      refine HD.out.mono ?_
      rintro e w' ⟨rfl, rfl⟩
      go_wp2
      go_ret
      exact ⟨ret_b (by rw [HW.out]; simp), rfl⟩
  · rw [hl] at HC HW
    clear hl
    go_enter Try.func73, Try.ntmps73
    go_wp2_with fail
    refine HC.out.mono ?_
    rintro e w' ⟨rfl, rfl⟩
    go_wp2
    go_ret
    exact ⟨ret_b (by rw [HW.out]; simp), rfl⟩
theorem numberIs_any (w : World) (c : Int) (h0 : 0 ≤ c) (h1 : c ≤ 255) : Calls Try.prog 84 #[.int .u8 c] w (RetS (.bool (isA c)) w) := by
  have HC := Lib.hid (isLetter_any w c h0 h1)
  have HD := Lib.hid (isDigit_any w c h0 h1)
  have HW := Lib.hid (show isA c = (isL c || isD c) from rfl)
  cases hl : isL c
  · rw [hl] at HC HW
    clear hl
    go_enter Try.func84, Try.ntmps84
    go_wp2_with fail
    refine HC.out.mono ?_
    rintro e w' ⟨rfl, rfl⟩
    go_wp2_with fail
    refine HD.out.mono ?_
    rintro e w' ⟨rfl, rfl⟩
    go_wp2
    go_ret
    exact ⟨ret_b (by rw [HW.out]; simp), rfl⟩
  · rw [hl] at HC HW
    clear hl
    go_enter Try.func84, Try.ntmps84
    go_wp2_with fail
    refine HC.out.mono ?_
    rintro e w' ⟨rfl, rfl⟩
    go_wp2
    go_ret
    exact ⟨ret_b (by rw [HW.out]; simp), rfl⟩

theorem extent_any (f : Nat) (cp : Array Value) (w : World) (L : List Int) (k0 : Nat) (P : Nat → Bool) (J : Nat → World → Prop) (hL : ∀ x ∈ L, 0 ≤ x ∧ x ≤ 255) (hl : L.length ≤ 1000000) (hk : k0 ≤ L.length)
    (hyes : ∀ j, j < k0 → P j = true) (hno : k0 < L.length → P k0 = false) (hJ : J 0 w)
    (hcf : ∀ (args : Array Value) (w : World), (callFunc f args).run Try.prog w = .ok (.enter f args) w)
    (hstep : ∀ i w', i < L.length → J i w' → Calls Try.prog f (#[.int .u8 (L.getD i 0)] ++ cp) w' fun e w2 => e = .returned (.bool (P i)) ∧ J (i + 1) w2) :
    Calls Try.prog 62 #[.string (strOf L), .func (.func f) #[] cp] w fun e w' => e = .returned (.int .i64 k0) ∧ J (if k0 < L.length then k0 + 1 else k0) w' := by
  have HJ := Lib.hid hJ
  have HT := Lib.hid hstep
  have HY := Lib.hid hyes
  have HN := Lib.hid hno
  have z := strOf_size L
  have HI := Lib.hid (fun i h => strOf_at L hL i h)
  obtain ⟨r, hr⟩ : ∃ r, r = strOf L := ⟨_, rfl⟩
  rw [← hr] at z ⊢
  have HRr := Lib.hid hr
  clear hJ hstep hyes hno hL hr
  go_enter Try.func62, Try.ntmps62
  go_wp2
  go_loopw [8] (fun i wr => ∃ k : Nat, k ≤ k0 ∧ i = .int .i64 k ∧ J k wr) (fun i _ => L.length - (intOf i).toNat)
  case atStart => exact ⟨0, Nat.zero_le _, rfl, HJ.out⟩
  case round =>
    obtain ⟨k, hkk, rfl, hg⟩ := hrel
    have HG := Lib.hid hg
    clear hg
    by_cases hlt : k < L.length
    · have hi : (k : Int) < L.length := by omega
      have hat : ∀ (h : k < r.size), (((r[k]'h).toNat : Nat) : Int) = L.getD k 0 := by
        have q := HI.out k
        rw [← HRr.out] at q
        exact q
      have HC := Lib.hid (HT.out k wr hlt HG.out)
      obtain ⟨x, hx⟩ : ∃ x, x = L.getD k 0 := ⟨_, rfl⟩
      rw [← hx] at hat HC
      clear hx
      by_cases hke : k < k0
      · have HP := Lib.hid (HY.out k hke)
        rw [HP.out] at HC
        go_wp2_with fail
        refine HC.out.mono ?_
        rintro e w2 ⟨rfl, hj2⟩
        have HJ2 := Lib.hid hj2
        clear hj2
        go_wp2
        go_roundw
        case rel => exact ⟨k + 1, by omega, by go_num, HJ2.out⟩
        case measure => simp [intOf]; omega
      · have hk2 : k = k0 := by omega
        subst hk2
        have HP := Lib.hid (HN.out hlt)
        rw [HP.out] at HC
        have HE := Lib.hid (show (if k < L.length then k + 1 else k) = k + 1 from if_pos hlt)
        go_wp2_with fail
        refine HC.out.mono ?_
        rintro e w2 ⟨rfl, hj2⟩
        have HJ2 := Lib.hid hj2
        clear hj2
        go_wp2
        go_ret
        exact ⟨rfl, HJ2.out⟩
    · have hk2 : k = k0 := by omega
      have hk3 : L.length = k0 := by omega
      subst hk2
      have HE := Lib.hid (show (if k < L.length then k + 1 else k) = k from if_neg hlt)
      rw [hk3] at z
      go_wp2
      go_ret
      first | exact ⟨rfl, HG.out⟩ | (rw [HE.out]; exact ⟨rfl, HG.out⟩)
end Go.Proofs.Ytmbdpiffdiiggaa
