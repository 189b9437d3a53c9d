/- Laws on text: the walks of NumtextFormats, NumtextInts, NumtextHex, NumtextCanonical; no condition. -/
import Derived.Test.YtmbdpiffdiiggaaNtH
import Derived.Test.YtmbdpiffdiiggaaNtP
namespace Go.Proofs.Ytmbdpiffdiiggaa
open Go.RowKit
set_option linter.unusedVariables false

theorem gb_below0 {W w : World} (g : W.grownBy w none) : Below W.heap.size W w := (Below.refl _ _).grown g (Nat.le_refl _) (by intro k hk; cases hk)
/-- The law holds. -/
def HoldsT (W : World) (e : Ending) (w' : World) : Prop := e = .returned (.bool true) ∧ Below W.heap.size W w'
theorem cons_str (c : UInt8) (x : Int) (hx : UInt8.ofNat x.toNat = c) (L : List Int) : (⟨#[c]⟩ : ByteArray) ++ strOf L = strOf (x :: L) := by
  have e : (⟨#[c]⟩ : ByteArray) = strOf [x] := by rw [← hx]; rfl
  rw [e, strOf_app]; rfl
theorem snoc_str (c : UInt8) (x : Int) (hx : UInt8.ofNat x.toNat = c) (L : List Int) : strOf L ++ (⟨#[c]⟩ : ByteArray) = strOf (L ++ [x]) := by
  have e : (⟨#[c]⟩ : ByteArray) = strOf [x] := by rw [← hx]; rfl
  rw [e, strOf_app]
theorem fmtI_len (n : Int) : (fmtI n).length ≤ 21 := by
  rw [fmtI_def]
  split
  · have := dec_len (-n); simp; omega
  · have := dec_len n; omega
/-- A slice of bytes as a law is handed it. -/
structure ArgT (W : World) (a : Option Addr) (len cap : Nat) (bs : List Int) : Prop where
  slr : SlR W a len cap (bs.map (Value.int .u8))
  rng : ∀ x ∈ bs, 0 ≤ x ∧ x ≤ 255
  len : bs.length = len
theorem argT_of {W : World} {a : Option Addr} {len cap : Nat} {z : List Int} (h : IsRow .u8 W a len cap z) : ArgT W a len cap (z.take len) :=
  ⟨row_slr h, fun x hx => u8_bd (row_wf h x hx), row_len h⟩
/-- The bytes of a string. -/
def bytesI (s : ByteArray) : List Int := s.data.toList.map fun b => (b.toNat : Int)
theorem bytesI_str (s : ByteArray) : strOf (bytesI s) = s := by
  apply str_ext
  rw [strOf_data]
  unfold bytesI
  rw [List.map_map]
  have e : ((fun n : Int => UInt8.ofNat n.toNat) ∘ fun b : UInt8 => ((b.toNat : Nat) : Int)) = id := by
    funext b
    simp
  rw [e, List.map_id]
theorem bytesI_range (s : ByteArray) : ∀ x ∈ bytesI s, 0 ≤ x ∧ x ≤ 255 := by
  intro x hx
  unfold bytesI at hx
  obtain ⟨b, _, rfl⟩ := List.mem_map.1 hx
  have := b.toNat_lt
  omega
theorem bytesI_len (s : ByteArray) : (bytesI s).length = s.size := by unfold bytesI; simp
end Go.Proofs.Ytmbdpiffdiiggaa
