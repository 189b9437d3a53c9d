/- Plain facts on bits, numbers and bytes: what is unpacked packs to the same bytes; no condition but the ranges. -/
import Derived.Test.YtgknooblnpmloaaIoS
namespace Go.Proofs.Ytgknooblnpmloaa
open Go.RowKit
set_option linter.unusedVariables false

def sumL : List Int → Nat
  | [] => 0
  | n :: t => n.toNat + sumL t
def goodL (l : List Int) : Prop := ∀ n ∈ l, 1 ≤ n ∧ n ≤ 32
def numsB (bs : List Int) : Nat → List Int → List Int
  | _, [] => []
  | pos, n :: t => accB bs pos n.toNat :: numsB bs (pos + n.toNat) t
def bitsTo (bs : List Int) (p : Nat) : List Bool := (List.range p).map fun j => decide (bitAt bs j = 1)
theorem numsB_len (bs : List Int) (pos : Nat) (l : List Int) : (numsB bs pos l).length = l.length := by
  induction l generalizing pos with
  | nil => rfl
  | cons n t ih => simp [numsB, ih]
theorem goodL_tail {n : Int} {t : List Int} (h : goodL (n :: t)) : (1 ≤ n ∧ n ≤ 32) ∧ goodL t := ⟨h n (by simp), fun m hm => h m (by simp [hm])⟩
theorem rd_good (bs : List Int) (pos : Nat) (n : Int) (h1 : 1 ≤ n ∧ n ≤ 32) (h2 : pos + n.toNat ≤ 8 * bs.length) : rdStep bs pos n = (0, accB bs pos n.toNat, pos + n.toNat) := by
  unfold rdStep
  rw [if_pos (show okW n = true from decide_eq_true h1), if_pos (by omega)]
theorem upRun_good (bs : List Int) (l : List Int) (pos : Nat) (us : List Int) (hg : goodL l) (h : pos + sumL l ≤ 8 * bs.length) : upRun bs pos us l = (0, pos + sumL l, us ++ numsB bs pos l) := by
  induction l generalizing pos us with
  | nil => simp [upRun, sumL, numsB]
  | cons n t ih =>
    obtain ⟨hn, ht⟩ := goodL_tail hg
    simp only [sumL] at h
    rw [upRun, rd_good bs pos n hn (by omega)]
    simp only [if_true]
    rw [ih _ _ ht (by omega)]
    simp [numsB, sumL]
    omega
theorem acc_bit (bs : List Int) (pos n i : Nat) (hi : i < n) : accB bs pos n / 2 ^ (n - 1 - i) % 2 = bitAt bs (pos + i) := by
  induction n with
  | zero => omega
  | succ n ih =>
    have b := bitAt_range bs (pos + n)
    simp only [accB]
    by_cases e : i = n
    · subst e
      rw [show i + 1 - 1 - i = 0 by omega]
      simp; omega
    · have k := ih (by omega)
      rw [show n + 1 - 1 - i = (n - 1 - i) + 1 by omega, Int.pow_succ, Int.mul_comm (2 ^ (n - 1 - i)) 2, ← Int.ediv_ediv_of_nonneg (by decide : (0 : Int) ≤ 2)]
      rw [show (2 * accB bs pos n + bitAt bs (pos + n)) / 2 = accB bs pos n by omega]
      exact k
theorem bits_acc (bs : List Int) (pos n : Nat) : bitsOf (accB bs pos n) n = (List.range n).map fun i => decide (bitAt bs (pos + i) = 1) := by
  unfold bitsOf
  apply List.map_congr_left
  intro i hi
  have hi := List.mem_range.1 hi
  unfold vb
  rw [acc_bit bs pos n i hi]
theorem bitsTo_add (bs : List Int) (p n : Nat) : bitsTo bs (p + n) = bitsTo bs p ++ bitsOf (accB bs p n) n := by
  rw [bits_acc]
  unfold bitsTo
  rw [List.range_add, List.map_append, List.map_map]
  rfl
theorem bitsTo_len (bs : List Int) (p : Nat) : (bitsTo bs p).length = p := by simp [bitsTo]
theorem wr_good (L : List Bool) (v n : Int) (h1 : 1 ≤ n ∧ n ≤ 32) (h2 : v < 2 ^ n.toNat) : wrStep L v n = (0, L ++ bitsOf v n.toNat) := by
  unfold wrStep
  rw [if_pos (show okW n = true from decide_eq_true h1), if_pos (show fitsB v n = true from decide_eq_true ⟨h1.1, h1.2, h2⟩)]
theorem pkRun_good (bs : List Int) (l : List Int) (pos : Nat) (hg : goodL l) : pkRun (bitsTo bs pos) ((numsB bs pos l).zip l) = (0, bitsTo bs (pos + sumL l)) := by
  induction l generalizing pos with
  | nil => simp [numsB, pkRun, sumL]
  | cons n t ih =>
    obtain ⟨hn, ht⟩ := goodL_tail hg
    simp only [numsB, List.zip_cons_cons]
    rw [pkRun, wr_good _ _ _ hn (accB_range bs pos n.toNat).2]
    simp only [if_true]
    rw [← bitsTo_add, ih _ ht]
    simp only [sumL]
    rw [Nat.add_assoc]
theorem bv_bits (bs : List Int) (p q : Nat) (h : q < p) : bv (bitsTo bs p) q = bitAt bs q := by
  have b := bitAt_range bs q
  unfold bv bitsTo
  by_cases e : bitAt bs q = 1
  · simp [h, e]
  · simp [h, e]; omega
theorem byte_bits (x : Int) (h0 : 0 ≤ x) (h1 : x ≤ 255) : x / 128 % 2 * 128 + x / 64 % 2 * 64 + x / 32 % 2 * 32 + x / 16 % 2 * 16 + x / 8 % 2 * 8 + x / 4 % 2 * 4 + x / 2 % 2 * 2 + x % 2 = x := by omega
theorem byteAt_bits (bs : List Int) (i : Nat) (hi : i < bs.length) (hb : 0 ≤ bs.getD i 0 ∧ bs.getD i 0 ≤ 255) : byteAt (bitsTo bs (8 * bs.length)) i = bs.getD i 0 := by
  have e : ∀ j, j < 8 → bv (bitsTo bs (8 * bs.length)) (8 * i + j) = bs.getD i 0 / 2 ^ (7 - j) % 2 := by
    intro j hj
    rw [bv_bits _ _ _ (by omega)]
    unfold bitAt
    rw [show (8 * i + j) / 8 = i by omega, show (8 * i + j) % 8 = j by omega]
  have e0 := e 0 (by omega); have e1 := e 1 (by omega); have e2 := e 2 (by omega); have e3 := e 3 (by omega)
  have e4 := e 4 (by omega); have e5 := e 5 (by omega); have e6 := e 6 (by omega); have e7 := e 7 (by omega)
  unfold byteAt
  rw [show 8 * i = 8 * i + 0 from rfl] 
  rw [e0, e1, e2, e3, e4, e5, e6, e7]
  have k := byte_bits _ hb.1 hb.2
  simpa using k
theorem pack_bits (bs : List Int) (hb : ∀ b ∈ bs, 0 ≤ b ∧ b ≤ 255) : packB (bitsTo bs (8 * bs.length)) = bs := by
  apply List.ext_getElem
  · rw [packB_len, bitsTo_len]; omega
  · intro i h1 h2
    rw [packB_at]
    have k := hb bs[i] (List.getElem_mem h2)
    rw [byteAt_bits bs i h2 (by simpa [h2] using k)]
    simp [h2]
/-- What has been unpacked whole packs to the same bytes. -/
theorem repack_eq (bs l : List Int) (hb : ∀ b ∈ bs, 0 ≤ b ∧ b ≤ 255) (hg : goodL l) (hs : sumL l = 8 * bs.length) :
    unpackR bs l = (0, numsB bs 0 l) ∧ packR (numsB bs 0 l) l = (0, bs) := by
  have u := upRun_good bs l 0 [] hg (by omega)
  have p := pkRun_good bs l 0 hg
  rw [Nat.zero_add] at u p
  constructor
  · unfold unpackR
    rw [u]
    simp only [if_true]
    rw [if_neg (by omega)]
    simp
  · unfold packR
    rw [if_pos (numsB_len bs 0 l), show ([] : List Bool) = bitsTo bs 0 from rfl, p]
    simp only [if_true]
    rw [hs, pack_bits bs hb, if_pos (by rw [bitsTo_len]; omega)]
theorem unpack_left (bs l : List Int) (hg : goodL l) (hs : sumL l < 8 * bs.length) : unpackR bs l = (4, []) := by
  have u := upRun_good bs l 0 [] hg (by omega)
  rw [Nat.zero_add] at u
  unfold unpackR
  rw [u]
  simp only [if_true]
  rw [if_pos hs]
theorem numsB_range (bs l : List Int) (pos : Nat) (hg : goodL l) : ∀ x ∈ numsB bs pos l, 0 ≤ x ∧ x < 4294967296 := by
  induction l generalizing pos with
  | nil => intro x hx; simp [numsB] at hx
  | cons n t ih =>
    obtain ⟨hn, ht⟩ := goodL_tail hg
    intro x hx
    simp only [numsB, List.mem_cons] at hx
    rcases hx with rfl | hx
    · have r := accB_range bs pos n.toNat
      have p := pow_le32 n hn.2
      omega
    · exact ih _ ht x hx
theorem sumL_snoc (l : List Int) (n : Int) : sumL (l ++ [n]) = sumL l + n.toNat := by
  induction l with
  | nil => simp [sumL]
  | cons m t ih => simp only [List.cons_append, sumL, ih]; omega
theorem goodL_snoc {l : List Int} {n : Int} (h : goodL l) (hn : 1 ≤ n ∧ n ≤ 32) : goodL (l ++ [n]) := by
  intro m hm
  rcases List.mem_append.1 hm with k | k
  · exact h m k
  · simp at k; subst k; exact hn
end Go.Proofs.Ytgknooblnpmloaa
