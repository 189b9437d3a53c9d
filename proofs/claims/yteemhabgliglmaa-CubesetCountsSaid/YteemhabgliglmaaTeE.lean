/- Ternary: the walk of Len64, range by range. -/
import Derived.Test.YteemhabgliglmaaTeD
import Derived.Lib.BitFns
import Derived.Lib.Walk
namespace Go.Proofs.Yteemhabgliglmaa
open Go.RowKit
set_option linter.unusedVariables false

/-- How many bits the number wants. -/
def lenN (x : Nat) : Nat := Lib.bitLen x
theorem tab8 (i : Nat) (h : i < Lib.len8tab.size) : ((Lib.len8tab[i].toNat : Nat) : Int) = (Lib.bitLen i : Int) := by
  have hs := Lib.len8tab_size
  have q := Lib.len8_of (i : Int) (by omega) (by omega)
  unfold Lib.len8 at q
  rw [Int.toNat_natCast, ByteArray.getElem?_lt' _ _ h, Option.getD_some] at q
  exact q
set_option maxRecDepth 100000 in
set_option maxHeartbeats 1000000 in
theorem len_0 (w : World) (x : Int) (h0 : 0 ≤ x) (h1 : x < 256) : Calls Try.prog 74 #[.int .u64 x] w (RetS (.int .i64 (Lib.bitLen x.toNat)) w) := by
  have c1 : ¬ (4294967296 : Int) ≤ x := by omega
  have c2 : ¬ (65536 : Int) ≤ x := by omega
  have c3 : ¬ (256 : Int) ≤ x := by omega
  obtain ⟨hz0, hz1⟩ : 0 ≤ x ∧ x < (Lib.len8tab.size : Int) := by rw [Lib.len8tab_size]; omega
  have e : (x).toNat = x.toNat := by omega
  have l := Lib.bitLen_le (x.toNat) 8 (by omega) (by omega)
  have t : True := trivial
  have E := Lib.hid e
  have L := Lib.hid l
  have T := Lib.hid t
  clear e l t
  go_enter Try.func74, Try.ntmps74
  go_wp2
  go_ret
  refine ⟨ret_i ?_, rfl⟩
  have e := E.out
  have l := L.out
  have t := T.out
  rw [tab8]
  generalize Lib.bitLen (x.toNat) = u at *
  generalize Lib.bitLen x.toNat = v at *
  first | omega | (rw [IntWalk.wrap64_in (u : Int) (by omega), IntWalk.wrap64_in _ (by omega)]; try omega)
set_option maxRecDepth 100000 in
set_option maxHeartbeats 1000000 in
theorem len_8 (w : World) (x : Int) (h0 : 256 ≤ x) (h1 : x < 65536) : Calls Try.prog 74 #[.int .u64 x] w (RetS (.int .i64 (Lib.bitLen x.toNat)) w) := by
  have c1 : ¬ (4294967296 : Int) ≤ x := by omega
  have c2 : ¬ (65536 : Int) ≤ x := by omega
  have c3 : (256 : Int) ≤ x := by omega
  obtain ⟨hz0, hz1⟩ : 0 ≤ x / 256 ∧ x / 256 < (Lib.len8tab.size : Int) := by rw [Lib.len8tab_size]; omega
  have e : (x / 256).toNat = x.toNat / 256 := by omega
  have l := Lib.bitLen_le (x.toNat / 256) 8 (by omega) (by omega)
  have t := Lib.bitLen_shift8 x.toNat (by omega) (by omega)
  have E := Lib.hid e
  have L := Lib.hid l
  have T := Lib.hid t
  clear e l t
  go_enter Try.func74, Try.ntmps74
  go_wp2
  go_ret
  refine ⟨ret_i ?_, rfl⟩
  have e := E.out
  have l := L.out
  have t := T.out
  rw [tab8, e]
  generalize Lib.bitLen (x.toNat / 256) = u at *
  generalize Lib.bitLen x.toNat = v at *
  first | omega | (rw [IntWalk.wrap64_in (u : Int) (by omega), IntWalk.wrap64_in _ (by omega)]; try omega)
set_option maxRecDepth 100000 in
set_option maxHeartbeats 1000000 in
theorem len_16 (w : World) (x : Int) (h0 : 65536 ≤ x) (h1 : x < 16777216) : Calls Try.prog 74 #[.int .u64 x] w (RetS (.int .i64 (Lib.bitLen x.toNat)) w) := by
  have c1 : ¬ (4294967296 : Int) ≤ x := by omega
  have c2 : (65536 : Int) ≤ x := by omega
  have c3 : ¬ (256 : Int) ≤ x / 65536 := by omega
  obtain ⟨hz0, hz1⟩ : 0 ≤ x / 65536 ∧ x / 65536 < (Lib.len8tab.size : Int) := by rw [Lib.len8tab_size]; omega
  have e : (x / 65536).toNat = x.toNat / 65536 := by omega
  have l := Lib.bitLen_le (x.toNat / 65536) 8 (by omega) (by omega)
  have t := Lib.bitLen_shift16 x.toNat (by omega) (by omega)
  have E := Lib.hid e
  have L := Lib.hid l
  have T := Lib.hid t
  clear e l t
  go_enter Try.func74, Try.ntmps74
  go_wp2
  go_ret
  refine ⟨ret_i ?_, rfl⟩
  have e := E.out
  have l := L.out
  have t := T.out
  rw [tab8, e]
  generalize Lib.bitLen (x.toNat / 65536) = u at *
  generalize Lib.bitLen x.toNat = v at *
  first | omega | (rw [IntWalk.wrap64_in (u : Int) (by omega), IntWalk.wrap64_in _ (by omega)]; try omega)
set_option maxRecDepth 100000 in
set_option maxHeartbeats 1000000 in
theorem len_24 (w : World) (x : Int) (h0 : 16777216 ≤ x) (h1 : x < 4294967296) : Calls Try.prog 74 #[.int .u64 x] w (RetS (.int .i64 (Lib.bitLen x.toNat)) w) := by
  have c1 : ¬ (4294967296 : Int) ≤ x := by omega
  have c2 : (65536 : Int) ≤ x := by omega
  have c3 : (256 : Int) ≤ x / 65536 := by omega
  obtain ⟨hz0, hz1⟩ : 0 ≤ x / 65536 / 256 ∧ x / 65536 / 256 < (Lib.len8tab.size : Int) := by rw [Lib.len8tab_size]; omega
  have e : (x / 65536 / 256).toNat = x.toNat / 16777216 := by omega
  have l := Lib.bitLen_le (x.toNat / 16777216) 8 (by omega) (by omega)
  have t := Lib.bitLen_shift24 x.toNat (by omega) (by omega)
  have E := Lib.hid e
  have L := Lib.hid l
  have T := Lib.hid t
  clear e l t
  go_enter Try.func74, Try.ntmps74
  go_wp2
  go_ret
  refine ⟨ret_i ?_, rfl⟩
  have e := E.out
  have l := L.out
  have t := T.out
  rw [tab8, e]
  generalize Lib.bitLen (x.toNat / 16777216) = u at *
  generalize Lib.bitLen x.toNat = v at *
  first | omega | (rw [IntWalk.wrap64_in (u : Int) (by omega), IntWalk.wrap64_in _ (by omega)]; try omega)
set_option maxRecDepth 100000 in
set_option maxHeartbeats 1000000 in
theorem len_32 (w : World) (x : Int) (h0 : 4294967296 ≤ x) (h1 : x < 1099511627776) : Calls Try.prog 74 #[.int .u64 x] w (RetS (.int .i64 (Lib.bitLen x.toNat)) w) := by
  have c1 : (4294967296 : Int) ≤ x := by omega
  have c2 : ¬ (65536 : Int) ≤ x / 4294967296 := by omega
  have c3 : ¬ (256 : Int) ≤ x / 4294967296 := by omega
  obtain ⟨hz0, hz1⟩ : 0 ≤ x / 4294967296 ∧ x / 4294967296 < (Lib.len8tab.size : Int) := by rw [Lib.len8tab_size]; omega
  have e : (x / 4294967296).toNat = x.toNat / 4294967296 := by omega
  have l := Lib.bitLen_le (x.toNat / 4294967296) 8 (by omega) (by omega)
  have t := Lib.bitLen_shift32 x.toNat (by omega) (by omega)
  have E := Lib.hid e
  have L := Lib.hid l
  have T := Lib.hid t
  clear e l t
  go_enter Try.func74, Try.ntmps74
  go_wp2
  go_ret
  refine ⟨ret_i ?_, rfl⟩
  have e := E.out
  have l := L.out
  have t := T.out
  rw [tab8, e]
  generalize Lib.bitLen (x.toNat / 4294967296) = u at *
  generalize Lib.bitLen x.toNat = v at *
  first | omega | (rw [IntWalk.wrap64_in (u : Int) (by omega), IntWalk.wrap64_in _ (by omega)]; try omega)
set_option maxRecDepth 100000 in
set_option maxHeartbeats 1000000 in
theorem len_40 (w : World) (x : Int) (h0 : 1099511627776 ≤ x) (h1 : x < 281474976710656) : Calls Try.prog 74 #[.int .u64 x] w (RetS (.int .i64 (Lib.bitLen x.toNat)) w) := by
  have c1 : (4294967296 : Int) ≤ x := by omega
  have c2 : ¬ (65536 : Int) ≤ x / 4294967296 := by omega
  have c3 : (256 : Int) ≤ x / 4294967296 := by omega
  obtain ⟨hz0, hz1⟩ : 0 ≤ x / 4294967296 / 256 ∧ x / 4294967296 / 256 < (Lib.len8tab.size : Int) := by rw [Lib.len8tab_size]; omega
  have e : (x / 4294967296 / 256).toNat = x.toNat / 1099511627776 := by omega
  have l := Lib.bitLen_le (x.toNat / 1099511627776) 8 (by omega) (by omega)
  have t := Lib.bitLen_shift40 x.toNat (by omega) (by omega)
  have E := Lib.hid e
  have L := Lib.hid l
  have T := Lib.hid t
  clear e l t
  go_enter Try.func74, Try.ntmps74
  go_wp2
  go_ret
  refine ⟨ret_i ?_, rfl⟩
  have e := E.out
  have l := L.out
  have t := T.out
  rw [tab8, e]
  generalize Lib.bitLen (x.toNat / 1099511627776) = u at *
  generalize Lib.bitLen x.toNat = v at *
  first | omega | (rw [IntWalk.wrap64_in (u : Int) (by omega), IntWalk.wrap64_in _ (by omega)]; try omega)
set_option maxRecDepth 100000 in
set_option maxHeartbeats 1000000 in
theorem len_48 (w : World) (x : Int) (h0 : 281474976710656 ≤ x) (h1 : x < 72057594037927936) : Calls Try.prog 74 #[.int .u64 x] w (RetS (.int .i64 (Lib.bitLen x.toNat)) w) := by
  have c1 : (4294967296 : Int) ≤ x := by omega
  have c2 : (65536 : Int) ≤ x / 4294967296 := by omega
  have c3 : ¬ (256 : Int) ≤ x / 4294967296 / 65536 := by omega
  obtain ⟨hz0, hz1⟩ : 0 ≤ x / 4294967296 / 65536 ∧ x / 4294967296 / 65536 < (Lib.len8tab.size : Int) := by rw [Lib.len8tab_size]; omega
  have e : (x / 4294967296 / 65536).toNat = x.toNat / 281474976710656 := by omega
  have l := Lib.bitLen_le (x.toNat / 281474976710656) 8 (by omega) (by omega)
  have t := Lib.bitLen_shift48 x.toNat (by omega) (by omega)
  have E := Lib.hid e
  have L := Lib.hid l
  have T := Lib.hid t
  clear e l t
  go_enter Try.func74, Try.ntmps74
  go_wp2
  go_ret
  refine ⟨ret_i ?_, rfl⟩
  have e := E.out
  have l := L.out
  have t := T.out
  rw [tab8, e]
  generalize Lib.bitLen (x.toNat / 281474976710656) = u at *
  generalize Lib.bitLen x.toNat = v at *
  first | omega | (rw [IntWalk.wrap64_in (u : Int) (by omega), IntWalk.wrap64_in _ (by omega)]; try omega)
set_option maxRecDepth 100000 in
set_option maxHeartbeats 1000000 in
theorem len_56 (w : World) (x : Int) (h0 : 72057594037927936 ≤ x) (h1 : x < 18446744073709551616) : Calls Try.prog 74 #[.int .u64 x] w (RetS (.int .i64 (Lib.bitLen x.toNat)) w) := by
  have c1 : (4294967296 : Int) ≤ x := by omega
  have c2 : (65536 : Int) ≤ x / 4294967296 := by omega
  have c3 : (256 : Int) ≤ x / 4294967296 / 65536 := by omega
  obtain ⟨hz0, hz1⟩ : 0 ≤ x / 4294967296 / 65536 / 256 ∧ x / 4294967296 / 65536 / 256 < (Lib.len8tab.size : Int) := by rw [Lib.len8tab_size]; omega
  have e : (x / 4294967296 / 65536 / 256).toNat = x.toNat / 72057594037927936 := by omega
  have l := Lib.bitLen_le (x.toNat / 72057594037927936) 8 (by omega) (by omega)
  have t := Lib.bitLen_shift56 x.toNat (by omega) (by omega)
  have E := Lib.hid e
  have L := Lib.hid l
  have T := Lib.hid t
  clear e l t
  go_enter Try.func74, Try.ntmps74
  go_wp2
  go_ret
  refine ⟨ret_i ?_, rfl⟩
  have e := E.out
  have l := L.out
  have t := T.out
  rw [tab8, e]
  generalize Lib.bitLen (x.toNat / 72057594037927936) = u at *
  generalize Lib.bitLen x.toNat = v at *
  first | omega | (rw [IntWalk.wrap64_in (u : Int) (by omega), IntWalk.wrap64_in _ (by omega)]; try omega)
theorem len_any (w : World) (x : Nat) (hx : B64 x) : Calls Try.prog 74 #[.int .u64 x] w (RetS (.int .i64 (lenN x)) w) := by
  unfold B64 at hx
  have e : Lib.bitLen x = Lib.bitLen (x : Int).toNat := by rw [Int.toNat_natCast]
  unfold lenN
  rw [e]
  by_cases h0 : (x : Int) < 256
  · exact len_0 w x (by omega) h0
  by_cases h8 : (x : Int) < 65536
  · exact len_8 w x (by omega) h8
  by_cases h16 : (x : Int) < 16777216
  · exact len_16 w x (by omega) h16
  by_cases h24 : (x : Int) < 4294967296
  · exact len_24 w x (by omega) h24
  by_cases h32 : (x : Int) < 1099511627776
  · exact len_32 w x (by omega) h32
  by_cases h40 : (x : Int) < 281474976710656
  · exact len_40 w x (by omega) h40
  by_cases h48 : (x : Int) < 72057594037927936
  · exact len_48 w x (by omega) h48
  exact len_56 w x (by omega) (by omega)
end Go.Proofs.Yteemhabgliglmaa
