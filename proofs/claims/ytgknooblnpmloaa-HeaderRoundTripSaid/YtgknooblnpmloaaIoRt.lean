/- Plain facts on bits that are written and read back; no condition but the ranges. -/
import Derived.Test.YtgknooblnpmloaaIoPa
namespace Go.Proofs.Ytgknooblnpmloaa
open Go.RowKit
set_option linter.unusedVariables false

theorem digit (a0 a1 a2 a3 a4 a5 a6 a7 : Int) (h : (0 ≤ a0 ∧ a0 ≤ 1) ∧ (0 ≤ a1 ∧ a1 ≤ 1) ∧ (0 ≤ a2 ∧ a2 ≤ 1) ∧ (0 ≤ a3 ∧ a3 ≤ 1) ∧ (0 ≤ a4 ∧ a4 ≤ 1) ∧ (0 ≤ a5 ∧ a5 ≤ 1) ∧ (0 ≤ a6 ∧ a6 ≤ 1) ∧ (0 ≤ a7 ∧ a7 ≤ 1)) :
    (a0 * 128 + a1 * 64 + a2 * 32 + a3 * 16 + a4 * 8 + a5 * 4 + a6 * 2 + a7) / 128 % 2 = a0 ∧ (a0 * 128 + a1 * 64 + a2 * 32 + a3 * 16 + a4 * 8 + a5 * 4 + a6 * 2 + a7) / 64 % 2 = a1 ∧
    (a0 * 128 + a1 * 64 + a2 * 32 + a3 * 16 + a4 * 8 + a5 * 4 + a6 * 2 + a7) / 32 % 2 = a2 ∧ (a0 * 128 + a1 * 64 + a2 * 32 + a3 * 16 + a4 * 8 + a5 * 4 + a6 * 2 + a7) / 16 % 2 = a3 ∧
    (a0 * 128 + a1 * 64 + a2 * 32 + a3 * 16 + a4 * 8 + a5 * 4 + a6 * 2 + a7) / 8 % 2 = a4 ∧ (a0 * 128 + a1 * 64 + a2 * 32 + a3 * 16 + a4 * 8 + a5 * 4 + a6 * 2 + a7) / 4 % 2 = a5 ∧
    (a0 * 128 + a1 * 64 + a2 * 32 + a3 * 16 + a4 * 8 + a5 * 4 + a6 * 2 + a7) / 2 % 2 = a6 ∧ (a0 * 128 + a1 * 64 + a2 * 32 + a3 * 16 + a4 * 8 + a5 * 4 + a6 * 2 + a7) % 2 = a7 := by
  refine ⟨?_, ?_, ?_, ?_, ?_, ?_, ?_, ?_⟩ <;> omega
/-- A bit of the packed bytes is the bit that was packed. -/
theorem bit_pack (L : List Bool) (p : Nat) (h : p < L.length) : bitAt (packB L) p = bv L p := by
  unfold bitAt
  rw [packB_get L (p / 8) (by omega)]
  have hd : 8 * (p / 8) + p % 8 = p := Nat.div_add_mod _ _
  have hr : p % 8 < 8 := Nat.mod_lt _ (by decide)
  generalize hq : p / 8 = q at *
  generalize hm : p % 8 = m at *
  have D := digit (bv L (8 * q)) (bv L (8 * q + 1)) (bv L (8 * q + 2)) (bv L (8 * q + 3)) (bv L (8 * q + 4)) (bv L (8 * q + 5)) (bv L (8 * q + 6)) (bv L (8 * q + 7))
    ⟨bv_range _ _, bv_range _ _, bv_range _ _, bv_range _ _, bv_range _ _, bv_range _ _, bv_range _ _, bv_range _ _⟩
  have cs : m = 0 ∨ m = 1 ∨ m = 2 ∨ m = 3 ∨ m = 4 ∨ m = 5 ∨ m = 6 ∨ m = 7 := by omega
  unfold byteAt
  rcases cs with e | e | e | e | e | e | e | e
  · subst e; rw [← hd]; simpa using D.1
  · subst e; rw [← hd]; simpa using D.2.1
  · subst e; rw [← hd]; simpa using D.2.2.1
  · subst e; rw [← hd]; simpa using D.2.2.2.1
  · subst e; rw [← hd]; simpa using D.2.2.2.2.1
  · subst e; rw [← hd]; simpa using D.2.2.2.2.2.1
  · subst e; rw [← hd]; simpa using D.2.2.2.2.2.2.1
  · subst e; rw [← hd]; simpa using D.2.2.2.2.2.2.2
theorem acc_of (bs : List Int) (pos n : Nat) (v : Int) (h0 : 0 ≤ v) (h1 : v < 2 ^ n) (h : ∀ i, i < n → bitAt bs (pos + i) = v / 2 ^ (n - 1 - i) % 2) : accB bs pos n = v := by
  induction n generalizing v with
  | zero => simp at h1; simp only [accB]; omega
  | succ n ih =>
    have k := ih (v / 2) (by omega) (by rw [Int.pow_succ] at h1; omega) (by
      intro i hi
      have e := h i (by omega)
      rw [show n + 1 - 1 - i = (n - 1 - i) + 1 by omega, Int.pow_succ, Int.mul_comm (2 ^ (n - 1 - i)) 2, ← Int.ediv_ediv_of_nonneg (by decide : (0 : Int) ≤ 2)] at e
      exact e)
    have e := h n (by omega)
    rw [show n + 1 - 1 - n = 0 by omega] at e
    simp only [accB]
    rw [k, e]
    simp
    omega

/-- The width and the number that the law makes of its arguments. -/
def nA (ws : List Int) (k : Nat) : Int := 1 + ws.getD k 0 % 32
def vA (vals ws : List Int) (k : Nat) : Int := vals.getD k 0 / 2 ^ (32 - nA ws k).toNat
def Lk (vals ws : List Int) : Nat → List Bool
  | 0 => []
  | k + 1 => Lk vals ws k ++ bitsOf (vA vals ws k) (nA ws k).toNat
def vk (vals ws : List Int) (k : Nat) : List Int := (List.range k).map (vA vals ws)
theorem nA_range (ws : List Int) (k : Nat) : 1 ≤ nA ws k ∧ nA ws k ≤ 32 := by unfold nA; omega
theorem vA_range (vals ws : List Int) (k : Nat) (h : 0 ≤ vals.getD k 0 ∧ vals.getD k 0 < 4294967296) : 0 ≤ vA vals ws k ∧ vA vals ws k < 2 ^ (nA ws k).toNat := by
  have n := nA_range ws k
  unfold vA
  have hp := pow_pos' (32 - nA ws k).toNat
  refine ⟨Int.ediv_nonneg h.1 (Int.le_of_lt hp), ?_⟩
  apply Int.ediv_lt_of_lt_mul hp
  rw [← Int.pow_add, show (nA ws k).toNat + (32 - nA ws k).toNat = 32 by omega]
  simpa using h.2
theorem vk_len (vals ws : List Int) (k : Nat) : (vk vals ws k).length = k := by simp [vk]
theorem vk_succ (vals ws : List Int) (k : Nat) : vk vals ws (k + 1) = vk vals ws k ++ [vA vals ws k] := by simp [vk, List.range_succ]
theorem vk_get (vals ws : List Int) (m k : Nat) (h : k < m) : (vk vals ws m).getD k 0 = vA vals ws k := by simp [vk, h]
theorem Lk_len_succ (vals ws : List Int) (k : Nat) : (Lk vals ws (k + 1)).length = (Lk vals ws k).length + (nA ws k).toNat := by simp [Lk, bitsOf_len]
theorem Lk_len_le (vals ws : List Int) (k : Nat) : (Lk vals ws k).length ≤ 32 * k := by
  induction k with
  | zero => simp [Lk]
  | succ k ih => rw [Lk_len_succ]; have := nA_range ws k; omega
theorem Lk_mono (vals ws : List Int) (k m : Nat) (h : k ≤ m) : ∃ R, Lk vals ws m = Lk vals ws k ++ R := by
  induction m with
  | zero =>
    have e : k = 0 := by omega
    rw [e]; exact ⟨[], by simp⟩
  | succ m ih =>
    by_cases e : k = m + 1
    · subst e; exact ⟨[], by simp⟩
    · obtain ⟨R, hR⟩ := ih (by omega)
      exact ⟨R ++ bitsOf (vA vals ws m) (nA ws m).toNat, by rw [Lk, hR, List.append_assoc]⟩
/-- The k-th number is read back at its place, whatever bits follow. -/
theorem read_back (vals ws : List Int) (m k : Nat) (R : List Bool) (hk : k < m) (h : 0 ≤ vals.getD k 0 ∧ vals.getD k 0 < 4294967296) :
    accB (packB (Lk vals ws m ++ R)) (Lk vals ws k).length (nA ws k).toNat = vA vals ws k := by
  have hv := vA_range vals ws k h
  refine acc_of _ _ _ _ hv.1 hv.2 ?_
  intro i hi
  obtain ⟨R2, hR2⟩ := Lk_mono vals ws (k + 1) m (by omega)
  have hlen : (Lk vals ws k).length + i < (Lk vals ws m ++ R).length := by
    rw [hR2]
    simp only [List.length_append, Lk_len_succ]; omega
  rw [bit_pack _ _ hlen]
  have e : (Lk vals ws m ++ R).getD ((Lk vals ws k).length + i) false = vb (vA vals ws k) (nA ws k).toNat i := by
    rw [hR2, Lk, List.append_assoc, List.append_assoc, List.getD_eq_getElem?_getD, List.getElem?_append_right (by omega), Nat.add_sub_cancel_left, List.getElem?_append_left (by rw [bitsOf_len]; exact hi)]
    simp [bitsOf, hi]
  unfold bv
  rw [e]
  unfold vb
  by_cases q : vA vals ws k / 2 ^ ((nA ws k).toNat - 1 - i) % 2 = 1
  · simp [q]
  · simp [q]; omega
theorem wrStep_k (vals ws : List Int) (k : Nat) (h : 0 ≤ vals.getD k 0 ∧ vals.getD k 0 < 4294967296) : wrStep (Lk vals ws k) (vA vals ws k) (nA ws k) = (0, Lk vals ws (k + 1)) :=
  wr_good _ _ _ (nA_range ws k) (vA_range vals ws k h).2
theorem wrStep_pad (L : List Bool) (n : Int) (h : 1 ≤ n ∧ n ≤ 32) : wrStep L 0 n = (0, L ++ bitsOf 0 n.toNat) := wr_good _ _ _ h (pow_pos' _)
end Go.Proofs.Ytgknooblnpmloaa
