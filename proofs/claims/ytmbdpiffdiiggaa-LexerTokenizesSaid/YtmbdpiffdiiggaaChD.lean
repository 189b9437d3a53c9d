/- Records decoded: the walks of Unframe and its reference, of the reference's Internet checksum; strings of bytes; no condition but sizes and the bytes' range. -/
import Derived.Test.YtmbdpiffdiiggaaChC
import Derived.Deep.RegionHeld3
namespace Go.Proofs.Ytmbdpiffdiiggaa
open Go.RowKit
set_option linter.unusedVariables false

theorem push_data (b : ByteArray) (x : UInt8) : (b.push x).data = b.data.push x := rfl
theorem strOf_data (bs : List Int) : (strOf bs).data.toList = bs.map fun n => UInt8.ofNat n.toNat := by
  have k : ∀ (bs : List Int) (r : ByteArray), (bs.foldl (fun r n => r.push (UInt8.ofNat n.toNat)) r).data.toList = r.data.toList ++ bs.map fun n => UInt8.ofNat n.toNat := by
    intro bs
    induction bs with
    | nil => intro r; simp
    | cons b t ih =>
      intro r
      rw [List.foldl_cons, ih, push_data]
      simp
  have := k bs ByteArray.empty
  simpa [strOf] using this
theorem byte_inj {L M : List Int} (hl : ∀ x ∈ L, 0 ≤ x ∧ x ≤ 255) (hm : ∀ x ∈ M, 0 ≤ x ∧ x ≤ 255) (h : (L.map fun n => UInt8.ofNat n.toNat) = M.map fun n => UInt8.ofNat n.toNat) : L = M := by
  induction L generalizing M with
  | nil => cases M with
    | nil => rfl
    | cons b t => simp at h
  | cons a s ih => cases M with
    | nil => simp at h
    | cons b t =>
      simp only [List.map_cons, List.cons.injEq] at h
      have h1 := congrArg UInt8.toNat h.1
      have ha := hl a (by simp)
      have hb := hm b (by simp)
      simp only [UInt8.toNat_ofNat'] at h1
      have e1 : a = b := by omega
      rw [e1, ih (fun x hx => hl x (by simp [hx])) (fun x hx => hm x (by simp [hx])) h.2]
theorem strOf_inj {L M : List Int} (hl : ∀ x ∈ L, 0 ≤ x ∧ x ≤ 255) (hm : ∀ x ∈ M, 0 ≤ x ∧ x ≤ 255) (h : strOf L = strOf M) : L = M := by
  have k := congrArg (fun b : ByteArray => b.data.toList) h
  simp only [strOf_data] at k
  exact byte_inj hl hm k

end Go.Proofs.Ytmbdpiffdiiggaa
