/- Strings as lists of bytes. -/
import Derived.Test.YtphejamjognmpaaTeA
namespace Go.Proofs.Ytphejamjognmpaa
open Go.RowKit
set_option linter.unusedVariables false

theorem push_data (b : ByteArray) (x : UInt8) : (b.push x).data = b.data.push x := rfl
theorem strOf_data (bs : List Int) : (strOf bs).data.toList = bs.map fun n => UInt8.ofNat n.toNat := by
  have k : ∀ (bs : List Int) (r : ByteArray), (bs.foldl (fun r n => r.push (UInt8.ofNat n.toNat)) r).data.toList = r.data.toList ++ bs.map fun n => UInt8.ofNat n.toNat := by
    intro bs
    induction bs with
    | nil => intro r; simp
    | cons b t ih =>
      intro r
      rw [List.foldl_cons, ih, push_data]
      simp
  have := k bs ByteArray.empty
  simpa [strOf] using this
theorem byte_inj {L M : List Int} (hl : ∀ x ∈ L, 0 ≤ x ∧ x ≤ 255) (hm : ∀ x ∈ M, 0 ≤ x ∧ x ≤ 255) (h : (L.map fun n => UInt8.ofNat n.toNat) = M.map fun n => UInt8.ofNat n.toNat) : L = M := by
  induction L generalizing M with
  | nil => cases M with
    | nil => rfl
    | cons b t => simp at h
  | cons a s ih => cases M with
    | nil => simp at h
    | cons b t =>
      simp only [List.map_cons, List.cons.injEq] at h
      have h1 := congrArg UInt8.toNat h.1
      have ha := hl a (by simp)
      have hb := hm b (by simp)
      simp only [UInt8.toNat_ofNat'] at h1
      have e1 : a = b := by omega
      rw [e1, ih (fun x hx => hl x (by simp [hx])) (fun x hx => hm x (by simp [hx])) h.2]
theorem strOf_size (L : List Int) : (strOf L).size = L.length := by
  have k := congrArg List.length (strOf_data L)
  simpa using k
theorem str_ext {a b : ByteArray} (h : a.data.toList = b.data.toList) : a = b := by
  apply ByteArray.ext
  exact Array.ext' h
theorem strOf_app (L M : List Int) : strOf L ++ strOf M = strOf (L ++ M) := by
  apply str_ext
  rw [ByteArray.data_append, Array.toList_append, strOf_data, strOf_data, strOf_data, List.map_append]
theorem strOf_cut (L : List Int) (a b : Nat) : (strOf L).extract a b = strOf ((L.drop a).take (b - a)) := by
  apply str_ext
  rw [ByteArray.data_extract, strOf_data, Array.toList_extract, List.extract_eq_take_drop, strOf_data, List.map_take, List.map_drop]
theorem strOf_eq {L M : List Int} (h : L = M) : ((strOf L).toList == (strOf M).toList) = true := by rw [h, beq_iff_eq]
theorem strOf_ne {L M : List Int} (hl : ∀ x ∈ L, 0 ≤ x ∧ x ≤ 255) (hm : ∀ x ∈ M, 0 ≤ x ∧ x ≤ 255) (h : ¬ L = M) : ((strOf L).toList == (strOf M).toList) = false := by
  rw [beq_eq_false_iff_ne]
  intro e
  rw [ByteArray.toList_eq, ByteArray.toList_eq, strOf_data, strOf_data] at e
  exact h (byte_inj hl hm e)
theorem strOf_at (L : List Int) (hL : ∀ x ∈ L, 0 ≤ x ∧ x ≤ 255) (i : Nat) (h : i < (strOf L).size) : ((((strOf L)[i]'h).toNat : Nat) : Int) = L.getD i 0 := by
  have hi : i < L.length := by rw [strOf_size] at h; exact h
  have e : (strOf L)[i]'h = (strOf L).data.toList[i]'(by rw [strOf_data]; simpa using hi) := rfl
  rw [e]
  have k := hL L[i] (List.getElem_mem hi)
  simp only [strOf_data, List.getElem_map]
  rw [UInt8.toNat_ofNat']
  simp [hi]
  omega
def bytesI (s : ByteArray) : List Int := s.data.toList.map fun b => (b.toNat : Int)
theorem bytesI_str (s : ByteArray) : strOf (bytesI s) = s := by
  apply str_ext
  rw [strOf_data]
  unfold bytesI
  rw [List.map_map]
  have e : ((fun n : Int => UInt8.ofNat n.toNat) ∘ fun b : UInt8 => ((b.toNat : Nat) : Int)) = id := by
    funext b
    simp
  rw [e, List.map_id]
theorem bytesI_range (s : ByteArray) : ∀ x ∈ bytesI s, 0 ≤ x ∧ x ≤ 255 := by
  intro x hx
  unfold bytesI at hx
  obtain ⟨b, _, rfl⟩ := List.mem_map.1 hx
  have := b.toNat_lt
  omega
theorem bytesI_len (s : ByteArray) : (bytesI s).length = s.size := by unfold bytesI; simp
end Go.Proofs.Ytphejamjognmpaa
