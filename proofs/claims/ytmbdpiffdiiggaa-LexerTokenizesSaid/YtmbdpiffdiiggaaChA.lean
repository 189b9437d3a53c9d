/- Hashing and feeding bytes: the walks of FNV1a and what it calls; no condition but the bytes' range. -/
import Derived.Test.YtmbdpiffdiiggaaMem
namespace Go.Proofs.Ytmbdpiffdiiggaa
open Go.RowKit
set_option linter.unusedVariables false

def fxor (h b : Int) : Int := ((h.toNat ^^^ b.toNat : Nat) : Int)
def fnvS (h b : Int) : Int := fxor h b * 16777619 % 4294967296
def fnvG (h : Int) (bs : List Int) : Int := bs.foldl fnvS h
def fnv (bs : List Int) : Int := fnvG 2166136261 bs
theorem fxor_range (h b : Int) (h0 : 0 ≤ h) (h1 : h < 4294967296) (b0 : 0 ≤ b) (b1 : b < 4294967296) : 0 ≤ fxor h b ∧ fxor h b < 4294967296 := by
  have k := Nat.xor_lt_two_pow (n := 32) (x := h.toNat) (y := b.toNat) (by omega) (by omega)
  unfold fxor; omega
theorem xor32 (h b : Int) (h0 : 0 ≤ h) (h1 : h < 4294967296) (b0 : 0 ≤ b) (b1 : b < 4294967296) : bits .xor .u32 h b = fxor h b := by
  have ea : h = (h.toNat : Int) := by omega
  have eb : b = (b.toNat : Int) := by omega
  have hx : h.toNat ^^^ b.toNat < 2 ^ 32 := Nat.xor_lt_two_pow (by omega) (by omega)
  have h1' : (BitVec.ofInt 32 (h.toNat : Int)).toNat = h.toNat := by
    rw [BitVec.ofInt_natCast, BitVec.toNat_ofNat]; exact Nat.mod_eq_of_lt (by omega)
  have h2' : (BitVec.ofInt 32 (b.toNat : Int)).toNat = b.toNat := by
    rw [BitVec.ofInt_natCast, BitVec.toNat_ofNat]; exact Nat.mod_eq_of_lt (by omega)
  rw [ea, eb]
  show IntKind.u32.wrap ((BitVec.ofInt 32 (h.toNat : Int) ^^^ BitVec.ofInt 32 (b.toNat : Int)).toNat : Int) = _
  rw [BitVec.toNat_xor, h1', h2', wrap32_u]
  simp only [fxor, Int.toNat_natCast]
  omega
theorem xor64 (h b : Int) (h0 : 0 ≤ h) (h1 : h < 4294967296) (b0 : 0 ≤ b) (b1 : b < 4294967296) : bits .xor .u64 h b = fxor h b := by
  have ea : h = (h.toNat : Int) := by omega
  have eb : b = (b.toNat : Int) := by omega
  have k := bits_xor_u64_nat h.toNat b.toNat (by omega) (by omega)
  unfold fxor
  rw [← k, ← ea, ← eb]
theorem fnvS_range (h b : Int) : 0 ≤ fnvS h b ∧ fnvS h b < 4294967296 := by unfold fnvS; omega
theorem fnvG_range (bs : List Int) (h : Int) (h0 : 0 ≤ h) (h1 : h < 4294967296) : 0 ≤ fnvG h bs ∧ fnvG h bs < 4294967296 := by
  induction bs generalizing h with
  | nil => exact ⟨h0, h1⟩
  | cons b t ih => exact ih (fnvS h b) (fnvS_range h b).1 (fnvS_range h b).2
theorem fnvG_snoc (h : Int) (bs : List Int) (b : Int) : fnvG h (bs ++ [b]) = fnvS (fnvG h bs) b := by simp [fnvG]
theorem take_snoc (bs : List Int) (k : Nat) (h : k < bs.length) : bs.take (k + 1) = bs.take k ++ [bs.getD k 0] := by
  rw [List.take_add_one]; simp [h]
theorem fnv_step (bs : List Int) (k : Nat) (h : k < bs.length) : fnv (bs.take (k + 1)) = fnvS (fnv (bs.take k)) (bs.getD k 0) := by
  rw [take_snoc bs k h]; exact fnvG_snoc _ _ _
theorem fnv_range (bs : List Int) : 0 ≤ fnv bs ∧ fnv bs < 4294967296 := fnvG_range bs _ (by decide) (by decide)
theorem getD_byte {bs : List Int} (hb : ∀ x ∈ bs, 0 ≤ x ∧ x ≤ 255) (k : Nat) : 0 ≤ bs.getD k 0 ∧ bs.getD k 0 ≤ 255 := by
  by_cases h : k < bs.length
  · have := hb bs[k] (List.getElem_mem h)
    simpa [h] using this
  · simp [h]

/-- The call gives nothing back, and changes one block alone, in this way. -/
def Turn (w : World) (g : Nat) (t : TypeId) (cs : Array Value) (e : Ending) (w' : World) : Prop := e = .returned (.tuple #[]) ∧ w.grownBy w' (some g) ∧ IsB w' g t cs

end Go.Proofs.Ytmbdpiffdiiggaa
