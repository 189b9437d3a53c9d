/- The reference's parsing: the walks of digit, decimal, ParseInt, ParseUint32 and DecodeHex; no condition but sizes and the bytes' range. -/
import Derived.Test.YtmbdpiffdiiggaaNtI
namespace Go.Proofs.Ytmbdpiffdiiggaa
open Go.RowKit
set_option linter.unusedVariables false

def rdg (c : Int) : Int := if dv c < 16 then dv c else -1
theorem rdg_any (w : World) (c : Int) (h0 : 0 ≤ c) (h1 : c ≤ 255) : Calls Try.prog 85 #[.int .u8 c] w fun e w' => e = .returned (.int .i64 (rdg c)) ∧ w = w' := by
  by_cases a1 : 48 ≤ c
  · by_cases a2 : c ≤ 57
    · have e1 : rdg c = c - 48 := by unfold rdg dv; (repeat' split) <;> omega
      go_enter Try.func85, Try.ntmps85
      go_wp2
      go_ret
      exact ⟨ret_i (by omega), rfl⟩
    · by_cases a3 : 97 ≤ c
      · by_cases a4 : c ≤ 102
        · have e1 : rdg c = c - 87 := by unfold rdg dv; (repeat' split) <;> omega
          go_enter Try.func85, Try.ntmps85
          go_wp2
          go_ret
          exact ⟨ret_i (by omega), rfl⟩
        · have e1 : rdg c = -1 := by unfold rdg dv; (repeat' split) <;> omega
          go_enter Try.func85, Try.ntmps85
          go_wp2
          go_ret
          exact ⟨ret_i (by omega), rfl⟩
      · have e1 : rdg c = -1 := by unfold rdg dv; (repeat' split) <;> omega
        go_enter Try.func85, Try.ntmps85
        go_wp2
        go_ret
        exact ⟨ret_i (by omega), rfl⟩
  · have e1 : rdg c = -1 := by unfold rdg dv; (repeat' split) <;> omega
    go_enter Try.func85, Try.ntmps85
    go_wp2
    go_ret
    exact ⟨ret_i (by omega), rfl⟩
theorem dv_ten (x : Int) : dv x < 10 ↔ (48 ≤ x ∧ x ≤ 57) := by unfold dv; (repeat' split) <;> omega
theorem dv_low (x : Int) (h : 48 ≤ x ∧ x ≤ 57) : dv x = x - 48 := by unfold dv; rw [if_pos h]

set_option maxHeartbeats 1000000 in
theorem rdec_any (w : World) (L : List Int) (most : Nat) (hmost : most ≤ 10) (hl : L.length ≤ 1000000) (hL : ∀ x ∈ L, 0 ≤ x ∧ x ≤ 255) :
    Calls Try.prog 86 #[.string (strOf L), .int .i64 most] w fun e w' => e = .returned (.tuple #[.int .u64 (toE 10 most L).1, .bool (toE 10 most L).2]) ∧ w = w' := by
  have HL := Lib.hid hL
  have z := strOf_size L
  have HI := Lib.hid (fun i h => strOf_at L hL i h)
  obtain ⟨r, hr⟩ : ∃ r, r = strOf L := ⟨_, rfl⟩
  rw [← hr] at z ⊢
  have HRr := Lib.hid hr
  clear hL hr
  by_cases h0 : L.length < 1
  · have HR := Lib.hid (show toE 10 most L = (0, false) by unfold toE; rw [if_neg (by omega)])
    go_enter Try.func86, Try.ntmps86
    go_wp2
    go_ret2
    rw [HR.out]
    exact ⟨rfl, rfl⟩
  · by_cases h1 : most < L.length
    · have HR := Lib.hid (show toE 10 most L = (0, false) by unfold toE; rw [if_neg (by omega)])
      have h1' : (most : Int) < L.length := by omega
      have h0' : ¬ (L.length : Int) < 1 := by omega
      go_enter Try.func86, Try.ntmps86
      go_wp2
      go_ret2
      rw [HR.out]
      exact ⟨rfl, rfl⟩
    · have h1' : ¬ (most : Int) < L.length := by omega
      have h0' : ¬ (L.length : Int) < 1 := by omega
      have h1d : decide (most < L.length) = false := decide_eq_false h1
      have h0d : decide (L.length < 1) = false := decide_eq_false h0
      go_enter Try.func86, Try.ntmps86
      go_wp2
      go_loopw [6, 7] (fun v i wr => ∃ k : Nat, k ≤ L.length ∧ v = .int .u64 (valF 10 0 (L.take k)) ∧ i = .int .i64 k ∧ okD 10 (L.take k) = true ∧ w = wr) (fun _ i _ => L.length - (intOf i).toNat)
      case atStart => exact ⟨0, Nat.zero_le _, rfl, rfl, rfl, rfl⟩
      case round =>
        obtain ⟨k, hk, rfl, rfl, hok, rfl⟩ := hrel
        have hv := valF_range 10 (Or.inl rfl) (L.take k) (by simp; omega) hok
        have HOK := Lib.hid hok
        clear hok
        by_cases hlt : k < L.length
        · have hi : (k : Int) < L.length := by omega
          have hat : ∀ (h : k < r.size), (((r[k]'h).toNat : Nat) : Int) = L.getD k 0 := by
            have q := HI.out k
            rw [← HRr.out] at q
            exact q
          have hx := getD_byte HL.out k
          have HS := Lib.hid (take_snoc L k hlt)
          by_cases hd : 48 ≤ L.getD k 0 ∧ L.getD k 0 ≤ 57
          · have HE1 := Lib.hid (show valF 10 0 (L.take (k + 1)) = 10 * valF 10 0 (L.take k) + (L.getD k 0 - 48) by rw [HS.out, valF_snoc, dv_low _ hd]; omega)
            have HE2 := Lib.hid (show okD 10 (L.take (k + 1)) = true by rw [HS.out]; unfold okD at *; rw [List.all_append, HOK.out]; simpa using (dv_ten _).2 hd)
            obtain ⟨x, hxx⟩ : ∃ x, x = L.getD k 0 := ⟨_, rfl⟩
            rw [← hxx] at hx hd HE1 hat
            obtain ⟨v, hvv⟩ : ∃ v, v = valF 10 0 (L.take k) := ⟨_, rfl⟩
            rw [← hvv] at hv HE1 ⊢
            obtain ⟨d1, d2⟩ := hd
            clear hxx hvv HS
            go_wp2
            go_roundw
            case rel => exact ⟨k + 1, by omega, by rw [HE1.out], by go_num, HE2.out, by first | rfl | trivial⟩
            case measure => simp [intOf]; omega
          · have HR := Lib.hid (show toE 10 most L = (0, false) by
              unfold toE
              rw [if_neg]
              intro hh
              exact hd ((dv_ten _).1 (okD_at hh.2.2 k hlt)))
            obtain ⟨x, hxx⟩ : ∃ x, x = L.getD k 0 := ⟨_, rfl⟩
            rw [← hxx] at hx hd hat
            clear hxx HS
            by_cases d1 : x < 48
            · go_wp2
              go_ret2
              rw [HR.out]
              exact ⟨rfl, rfl⟩
            · have d2 : 57 < x := by omega
              go_wp2
              go_ret2
              rw [HR.out]
              exact ⟨rfl, rfl⟩
        · have hke : k = L.length := by omega
          have HR := Lib.hid (show toE 10 most L = (valF 10 0 (L.take k), true) by
            have k2 := HOK.out
            rw [hke, List.take_length] at *
            unfold toE
            rw [if_pos ⟨by omega, by omega, k2⟩])
          have hi : ¬ (k : Int) < L.length := by omega
          obtain ⟨v, hvv⟩ : ∃ v, v = valF 10 0 (L.take k) := ⟨_, rfl⟩
          rw [← hvv] at HR hv ⊢
          clear hvv HOK
          go_wp2
          go_ret2
          rw [HR.out]
          exact ⟨rfl, rfl⟩
end Go.Proofs.Ytmbdpiffdiiggaa
