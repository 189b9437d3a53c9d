/- Reading numbers out of a text: the walks of digit and toEnd; no condition but sizes and the bytes' range. -/
import Derived.Test.YtmbdpiffdiiggaaNtB
namespace Go.Proofs.Ytmbdpiffdiiggaa
open Go.RowKit
set_option linter.unusedVariables false

theorem drop_head (L : List Int) (o : Nat) (h : o < L.length) : L.drop o = L.getD o 0 :: L.drop (o + 1) := by
  rw [List.drop_eq_getElem_cons h]; simp [h]
theorem strOf_full (x : Int) (T : List Int) : ¬ (strOf (x :: T)).toList = [] := by
  rw [ByteArray.toList_eq, strOf_data]; simp

set_option maxHeartbeats 1000000 in
theorem digit_yes (w : World) (b : Nat) (t : TypeId) (cs : Array Value) (L : List Int) (o : Nat) (base : Int) (h : Cur w b t cs L o) (hl : L.length ≤ 1000000) (hL : ∀ x ∈ L, 0 ≤ x ∧ x ≤ 255) (ho : o < L.length) (hd : dv (L.getD o 0) < base) :
    Calls Try.prog 97 #[.pointer (some ⟨b, 0, none⟩), .func (.func 98) #[.int .u64 base] #[]] w (Moved (.tuple #[.int .u64 (dv (L.getD o 0)), .bool true]) w b t cs L (o + 1)) := by
  have HU := Lib.hid (unread_any w b t cs L o h hl)
  have HC := Lib.hid h
  have hx := getD_byte hL o
  rw [drop_head L o ho] at HU
  have hT : ∀ y ∈ L.getD o 0 :: L.drop (o + 1), 0 ≤ y ∧ y ≤ 255 := by rw [← drop_head L o ho]; exact fun y hy => hL y (List.mem_of_mem_drop hy)
  obtain ⟨T, hTT⟩ : ∃ T, T = L.drop (o + 1) := ⟨_, rfl⟩
  rw [← hTT] at HU hT
  obtain ⟨x, hxx⟩ : ∃ x, x = L.getD o 0 := ⟨_, rfl⟩
  rw [← hxx] at HU hx hd hT ⊢
  have z1 := strOf_size (x :: T)
  rw [List.length_cons] at z1
  have n1 := strOf_full x T
  have hi : ∀ (h : 0 < (strOf (x :: T)).size), ((((strOf (x :: T))[0]'h).toNat : Nat) : Int) = x := fun h => strOf_at (x :: T) hT 0 h
  obtain ⟨r, hr⟩ : ∃ r, r = strOf (x :: T) := ⟨_, rfl⟩
  rw [← hr] at HU z1 n1 hi
  have n2 : (r.toList == ([] : List UInt8)) = false := by rw [beq_eq_false_iff_ne]; exact n1
  have n3 : r.toList.isEmpty = false := by rw [List.isEmpty_eq_false_iff]; exact n1
  have hlT : T.length ≤ 1000000 := by rw [hTT]; simp; omega
  clear hr hT hTT hxx h hL
  have hd2 : decide (dv x < base) = true := decide_eq_true hd
  have i1 : (0 : Int) < (T.length : Int) + 1 := by omega
  go_enter Try.func97, Try.ntmps97
  go_wp2_with fail
  refine HU.out.mono ?_
  rintro e w1 ⟨rfl, g1, _⟩
  have C1 := Lib.hid (HC.out.keep0 g1)
  have G1 := Lib.hid g1
  have c1 : w1.cell? ⟨b, 1, none⟩ = some (.int .i64 o) := (C1.out.blk.cell 1).trans C1.out.off
  have f1 := C1.out.blk.free 1
  have HD := Lib.hid (hasDigit_any w1 base x hx.1 hx.2)
  clear g1 HU HC
  go_wp2_with fail
  refine HD.out.mono ?_
  rintro e w2 ⟨rfl, rfl⟩
  rw [hd2]
  go_wp2_with fail
  refine (dv_any _ x hx.1 hx.2).mono ?_
  rintro e w2 ⟨rfl, rfl⟩
  go_wp2
  go_ret2
  refine ⟨rfl, ?_, ?_⟩
  · exact gb_trans (gb_any G1.out) (gb_set _ _ _ _)
  · first | exact C1.out.move (o + 1) ho | (rw [show ((o : Int) + 1) = ((o + 1 : Nat) : Int) by omega]; exact C1.out.move (o + 1) ho)
theorem digit_no (w : World) (b : Nat) (t : TypeId) (cs : Array Value) (L : List Int) (o : Nat) (base : Int) (h : Cur w b t cs L o) (hl : L.length ≤ 1000000) (hL : ∀ x ∈ L, 0 ≤ x ∧ x ≤ 255) (hn : o < L.length → ¬ dv (L.getD o 0) < base) :
    Calls Try.prog 97 #[.pointer (some ⟨b, 0, none⟩), .func (.func 98) #[.int .u64 base] #[]] w (RetQ (.tuple #[.int .u64 0, .bool false]) w none fun _ => True) := by
  have HU := Lib.hid (unread_any w b t cs L o h hl)
  by_cases ho : o < L.length
  · have hd := hn ho
    have hx := getD_byte hL o
    rw [drop_head L o ho] at HU
    have hT : ∀ y ∈ L.getD o 0 :: L.drop (o + 1), 0 ≤ y ∧ y ≤ 255 := by rw [← drop_head L o ho]; exact fun y hy => hL y (List.mem_of_mem_drop hy)
    obtain ⟨T, hTT⟩ : ∃ T, T = L.drop (o + 1) := ⟨_, rfl⟩
    rw [← hTT] at HU hT
    obtain ⟨x, hxx⟩ : ∃ x, x = L.getD o 0 := ⟨_, rfl⟩
    rw [← hxx] at HU hx hd hT
    have z1 := strOf_size (x :: T)
    rw [List.length_cons] at z1
    have n1 := strOf_full x T
    have hi : ∀ (h : 0 < (strOf (x :: T)).size), ((((strOf (x :: T))[0]'h).toNat : Nat) : Int) = x := fun h => strOf_at (x :: T) hT 0 h
    obtain ⟨r, hr⟩ : ∃ r, r = strOf (x :: T) := ⟨_, rfl⟩
    rw [← hr] at HU z1 n1 hi
    have n2 : (r.toList == ([] : List UInt8)) = false := by rw [beq_eq_false_iff_ne]; exact n1
    have n3 : r.toList.isEmpty = false := by rw [List.isEmpty_eq_false_iff]; exact n1
    have hlT : T.length ≤ 1000000 := by rw [hTT]; simp; omega
    have hd2 : decide (dv x < base) = false := decide_eq_false hd
    clear hr hT hTT hxx h hL hn hd
    go_enter Try.func97, Try.ntmps97
    go_wp2_with fail
    refine HU.out.mono ?_
    rintro e w1 ⟨rfl, g1, _⟩
    have G1 := Lib.hid g1
    have HD := Lib.hid (hasDigit_any w1 base x hx.1 hx.2)
    clear g1 HU
    go_wp2_with fail
    refine HD.out.mono ?_
    rintro e w2 ⟨rfl, rfl⟩
    rw [hd2]
    go_wp2
    go_ret2
    exact ⟨rfl, G1.out, trivial⟩
  · rw [List.drop_eq_nil_of_le (by omega)] at HU
    have e0 : strOf [] = ⟨#[]⟩ := rfl
    rw [e0] at HU
    clear h hL hn e0
    go_enter Try.func97, Try.ntmps97
    go_wp2_with fail
    refine HU.out.mono ?_
    rintro e w1 ⟨rfl, g1, _⟩
    have G1 := Lib.hid g1
    clear g1 HU
    go_wp2
    go_ret2
    exact ⟨rfl, G1.out, trivial⟩
end Go.Proofs.Ytmbdpiffdiiggaa
