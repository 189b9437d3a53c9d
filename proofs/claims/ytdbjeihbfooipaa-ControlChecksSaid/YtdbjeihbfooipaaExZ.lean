/- Expr: the reference: operators; no condition but that the operands fit their widths. -/
import Derived.Test.YtdbjeihbfooipaaExY
namespace Go.Proofs.Ytdbjeihbfooipaa
open Go.RowKit
set_option linter.unusedVariables false
theorem addr0 (ad : Addr) : ad.add 0 = ad := by cases ad; unfold Addr.add; split <;> simp_all
set_option maxRecDepth 100000 in
set_option maxHeartbeats 4000000 in
theorem rop_not (w : World) (ad : Addr) (c_ : Nat) (op n wd a : Int) (h0 : w.cell? (ad.add 0) = some (.int .i64 a))  :
    Calls Try.prog 157 #[.agg #[.int .i64 5, .int .i64 n, .int .i64 wd], .slice (some ad) 1 c_] w (RetV (.tuple #[.int .i64 a, .int .i64 0]) w) := by
  obtain ⟨A, hA⟩ : ∃ A, A = w.heap.size := ⟨_, rfl⟩
  obtain ⟨w1, hw1⟩ : ∃ w1, w1 = w.alloc (.cells #[.int .i64 5, .int .i64 n, .int .i64 wd] 61) := ⟨_, rfl⟩
  have BA := Lib.hid (show IsB w1 A 61 #[.int .i64 5, .int .i64 n, .int .i64 wd] from by rw [hw1, hA]; exact IsB.new _ _ _)
  have GZ := Lib.hid (show w.grownBy w1 none from by rw [hw1]; exact gb_al (gb_refl _ _))
  have k0 : w1.cell? (ad.add 0) = some (.int .i64 a) := GZ.out.cell h0 (by simp)
  have k0' : w1.cell? ad = some (.int .i64 a) := by have := k0; rwa [addr0] at this
  go_enter Try.func157, Try.ntmps157
  go_upto_region 1 with fail
  rw [← hA, ← hw1]
  clear hw1 hA
  have a0 : w1.cell? ⟨A, 0, none⟩ = some (.int .i64 5) := BA.out.cell 0
  have a1 : w1.cell? ⟨A, 1, none⟩ = some (.int .i64 n) := BA.out.cell 1
  have a2 : w1.cell? ⟨A, 2, none⟩ = some (.int .i64 wd) := BA.out.cell 2
  go_wp2
  go_ret2
  exact ⟨rfl, GZ.out⟩
set_option maxRecDepth 100000 in
set_option maxHeartbeats 4000000 in
theorem rop_sh6 (w : World) (ad : Addr) (c_ : Nat) (op n wd a : Int) (h0 : w.cell? (ad.add 0) = some (.int .i64 a)) (hn : 0 ≤ n ∧ n ≤ 31) :
    Calls Try.prog 157 #[.agg #[.int .i64 6, .int .i64 n, .int .i64 wd], .slice (some ad) 1 c_] w (RetV (.tuple #[.int .i64 a, .int .i64 0]) w) := by
  obtain ⟨n0, n1⟩ := hn
  have n2 : ¬ n < 0 := by omega
  have n3 : ¬ 31 < n := by omega
  obtain ⟨A, hA⟩ : ∃ A, A = w.heap.size := ⟨_, rfl⟩
  obtain ⟨w1, hw1⟩ : ∃ w1, w1 = w.alloc (.cells #[.int .i64 6, .int .i64 n, .int .i64 wd] 61) := ⟨_, rfl⟩
  have BA := Lib.hid (show IsB w1 A 61 #[.int .i64 6, .int .i64 n, .int .i64 wd] from by rw [hw1, hA]; exact IsB.new _ _ _)
  have GZ := Lib.hid (show w.grownBy w1 none from by rw [hw1]; exact gb_al (gb_refl _ _))
  have k0 : w1.cell? (ad.add 0) = some (.int .i64 a) := GZ.out.cell h0 (by simp)
  have k0' : w1.cell? ad = some (.int .i64 a) := by have := k0; rwa [addr0] at this
  go_enter Try.func157, Try.ntmps157
  go_upto_region 1 with fail
  rw [← hA, ← hw1]
  clear hw1 hA
  have a0 : w1.cell? ⟨A, 0, none⟩ = some (.int .i64 6) := BA.out.cell 0
  have a1 : w1.cell? ⟨A, 1, none⟩ = some (.int .i64 n) := BA.out.cell 1
  have a2 : w1.cell? ⟨A, 2, none⟩ = some (.int .i64 wd) := BA.out.cell 2
  go_wp2
  go_ret2
  exact ⟨rfl, GZ.out⟩
set_option maxRecDepth 100000 in
set_option maxHeartbeats 4000000 in
theorem rop_shn6 (w : World) (ad : Addr) (c_ : Nat) (op n wd a : Int) (h0 : w.cell? (ad.add 0) = some (.int .i64 a)) (hn : n < 0) :
    Calls Try.prog 157 #[.agg #[.int .i64 6, .int .i64 n, .int .i64 wd], .slice (some ad) 1 c_] w (RetV (.tuple #[.int .i64 0, .int .i64 9]) w) := by
  obtain ⟨A, hA⟩ : ∃ A, A = w.heap.size := ⟨_, rfl⟩
  obtain ⟨w1, hw1⟩ : ∃ w1, w1 = w.alloc (.cells #[.int .i64 6, .int .i64 n, .int .i64 wd] 61) := ⟨_, rfl⟩
  have BA := Lib.hid (show IsB w1 A 61 #[.int .i64 6, .int .i64 n, .int .i64 wd] from by rw [hw1, hA]; exact IsB.new _ _ _)
  have GZ := Lib.hid (show w.grownBy w1 none from by rw [hw1]; exact gb_al (gb_refl _ _))
  have k0 : w1.cell? (ad.add 0) = some (.int .i64 a) := GZ.out.cell h0 (by simp)
  have k0' : w1.cell? ad = some (.int .i64 a) := by have := k0; rwa [addr0] at this
  go_enter Try.func157, Try.ntmps157
  go_upto_region 1 with fail
  rw [← hA, ← hw1]
  clear hw1 hA
  have a0 : w1.cell? ⟨A, 0, none⟩ = some (.int .i64 6) := BA.out.cell 0
  have a1 : w1.cell? ⟨A, 1, none⟩ = some (.int .i64 n) := BA.out.cell 1
  have a2 : w1.cell? ⟨A, 2, none⟩ = some (.int .i64 wd) := BA.out.cell 2
  go_wp2
  go_ret2
  exact ⟨rfl, GZ.out⟩
set_option maxRecDepth 100000 in
set_option maxHeartbeats 4000000 in
theorem rop_shp6 (w : World) (ad : Addr) (c_ : Nat) (op n wd a : Int) (h0 : w.cell? (ad.add 0) = some (.int .i64 a)) (hn : 31 < n) :
    Calls Try.prog 157 #[.agg #[.int .i64 6, .int .i64 n, .int .i64 wd], .slice (some ad) 1 c_] w (RetV (.tuple #[.int .i64 0, .int .i64 9]) w) := by
  have n2 : ¬ n < 0 := by omega
  obtain ⟨A, hA⟩ : ∃ A, A = w.heap.size := ⟨_, rfl⟩
  obtain ⟨w1, hw1⟩ : ∃ w1, w1 = w.alloc (.cells #[.int .i64 6, .int .i64 n, .int .i64 wd] 61) := ⟨_, rfl⟩
  have BA := Lib.hid (show IsB w1 A 61 #[.int .i64 6, .int .i64 n, .int .i64 wd] from by rw [hw1, hA]; exact IsB.new _ _ _)
  have GZ := Lib.hid (show w.grownBy w1 none from by rw [hw1]; exact gb_al (gb_refl _ _))
  have k0 : w1.cell? (ad.add 0) = some (.int .i64 a) := GZ.out.cell h0 (by simp)
  have k0' : w1.cell? ad = some (.int .i64 a) := by have := k0; rwa [addr0] at this
  go_enter Try.func157, Try.ntmps157
  go_upto_region 1 with fail
  rw [← hA, ← hw1]
  clear hw1 hA
  have a0 : w1.cell? ⟨A, 0, none⟩ = some (.int .i64 6) := BA.out.cell 0
  have a1 : w1.cell? ⟨A, 1, none⟩ = some (.int .i64 n) := BA.out.cell 1
  have a2 : w1.cell? ⟨A, 2, none⟩ = some (.int .i64 wd) := BA.out.cell 2
  go_wp2
  go_ret2
  exact ⟨rfl, GZ.out⟩
set_option maxRecDepth 100000 in
set_option maxHeartbeats 4000000 in
theorem rop_sh7 (w : World) (ad : Addr) (c_ : Nat) (op n wd a : Int) (h0 : w.cell? (ad.add 0) = some (.int .i64 a)) (hn : 0 ≤ n ∧ n ≤ 31) :
    Calls Try.prog 157 #[.agg #[.int .i64 7, .int .i64 n, .int .i64 wd], .slice (some ad) 1 c_] w (RetV (.tuple #[.int .i64 a, .int .i64 0]) w) := by
  obtain ⟨n0, n1⟩ := hn
  have n2 : ¬ n < 0 := by omega
  have n3 : ¬ 31 < n := by omega
  obtain ⟨A, hA⟩ : ∃ A, A = w.heap.size := ⟨_, rfl⟩
  obtain ⟨w1, hw1⟩ : ∃ w1, w1 = w.alloc (.cells #[.int .i64 7, .int .i64 n, .int .i64 wd] 61) := ⟨_, rfl⟩
  have BA := Lib.hid (show IsB w1 A 61 #[.int .i64 7, .int .i64 n, .int .i64 wd] from by rw [hw1, hA]; exact IsB.new _ _ _)
  have GZ := Lib.hid (show w.grownBy w1 none from by rw [hw1]; exact gb_al (gb_refl _ _))
  have k0 : w1.cell? (ad.add 0) = some (.int .i64 a) := GZ.out.cell h0 (by simp)
  have k0' : w1.cell? ad = some (.int .i64 a) := by have := k0; rwa [addr0] at this
  go_enter Try.func157, Try.ntmps157
  go_upto_region 1 with fail
  rw [← hA, ← hw1]
  clear hw1 hA
  have a0 : w1.cell? ⟨A, 0, none⟩ = some (.int .i64 7) := BA.out.cell 0
  have a1 : w1.cell? ⟨A, 1, none⟩ = some (.int .i64 n) := BA.out.cell 1
  have a2 : w1.cell? ⟨A, 2, none⟩ = some (.int .i64 wd) := BA.out.cell 2
  go_wp2
  go_ret2
  exact ⟨rfl, GZ.out⟩
set_option maxRecDepth 100000 in
set_option maxHeartbeats 4000000 in
theorem rop_shn7 (w : World) (ad : Addr) (c_ : Nat) (op n wd a : Int) (h0 : w.cell? (ad.add 0) = some (.int .i64 a)) (hn : n < 0) :
    Calls Try.prog 157 #[.agg #[.int .i64 7, .int .i64 n, .int .i64 wd], .slice (some ad) 1 c_] w (RetV (.tuple #[.int .i64 0, .int .i64 9]) w) := by
  obtain ⟨A, hA⟩ : ∃ A, A = w.heap.size := ⟨_, rfl⟩
  obtain ⟨w1, hw1⟩ : ∃ w1, w1 = w.alloc (.cells #[.int .i64 7, .int .i64 n, .int .i64 wd] 61) := ⟨_, rfl⟩
  have BA := Lib.hid (show IsB w1 A 61 #[.int .i64 7, .int .i64 n, .int .i64 wd] from by rw [hw1, hA]; exact IsB.new _ _ _)
  have GZ := Lib.hid (show w.grownBy w1 none from by rw [hw1]; exact gb_al (gb_refl _ _))
  have k0 : w1.cell? (ad.add 0) = some (.int .i64 a) := GZ.out.cell h0 (by simp)
  have k0' : w1.cell? ad = some (.int .i64 a) := by have := k0; rwa [addr0] at this
  go_enter Try.func157, Try.ntmps157
  go_upto_region 1 with fail
  rw [← hA, ← hw1]
  clear hw1 hA
  have a0 : w1.cell? ⟨A, 0, none⟩ = some (.int .i64 7) := BA.out.cell 0
  have a1 : w1.cell? ⟨A, 1, none⟩ = some (.int .i64 n) := BA.out.cell 1
  have a2 : w1.cell? ⟨A, 2, none⟩ = some (.int .i64 wd) := BA.out.cell 2
  go_wp2
  go_ret2
  exact ⟨rfl, GZ.out⟩
set_option maxRecDepth 100000 in
set_option maxHeartbeats 4000000 in
theorem rop_shp7 (w : World) (ad : Addr) (c_ : Nat) (op n wd a : Int) (h0 : w.cell? (ad.add 0) = some (.int .i64 a)) (hn : 31 < n) :
    Calls Try.prog 157 #[.agg #[.int .i64 7, .int .i64 n, .int .i64 wd], .slice (some ad) 1 c_] w (RetV (.tuple #[.int .i64 0, .int .i64 9]) w) := by
  have n2 : ¬ n < 0 := by omega
  obtain ⟨A, hA⟩ : ∃ A, A = w.heap.size := ⟨_, rfl⟩
  obtain ⟨w1, hw1⟩ : ∃ w1, w1 = w.alloc (.cells #[.int .i64 7, .int .i64 n, .int .i64 wd] 61) := ⟨_, rfl⟩
  have BA := Lib.hid (show IsB w1 A 61 #[.int .i64 7, .int .i64 n, .int .i64 wd] from by rw [hw1, hA]; exact IsB.new _ _ _)
  have GZ := Lib.hid (show w.grownBy w1 none from by rw [hw1]; exact gb_al (gb_refl _ _))
  have k0 : w1.cell? (ad.add 0) = some (.int .i64 a) := GZ.out.cell h0 (by simp)
  have k0' : w1.cell? ad = some (.int .i64 a) := by have := k0; rwa [addr0] at this
  go_enter Try.func157, Try.ntmps157
  go_upto_region 1 with fail
  rw [← hA, ← hw1]
  clear hw1 hA
  have a0 : w1.cell? ⟨A, 0, none⟩ = some (.int .i64 7) := BA.out.cell 0
  have a1 : w1.cell? ⟨A, 1, none⟩ = some (.int .i64 n) := BA.out.cell 1
  have a2 : w1.cell? ⟨A, 2, none⟩ = some (.int .i64 wd) := BA.out.cell 2
  go_wp2
  go_ret2
  exact ⟨rfl, GZ.out⟩
set_option maxRecDepth 100000 in
set_option maxHeartbeats 4000000 in
theorem rop_slneg (w : World) (ad : Addr) (c_ : Nat) (op n wd a : Int) (h0 : w.cell? (ad.add 0) = some (.int .i64 a)) (hn : n < 0) :
    Calls Try.prog 157 #[.agg #[.int .i64 8, .int .i64 n, .int .i64 wd], .slice (some ad) 1 c_] w (RetV (.tuple #[.int .i64 0, .int .i64 9]) w) := by
  obtain ⟨A, hA⟩ : ∃ A, A = w.heap.size := ⟨_, rfl⟩
  obtain ⟨w1, hw1⟩ : ∃ w1, w1 = w.alloc (.cells #[.int .i64 8, .int .i64 n, .int .i64 wd] 61) := ⟨_, rfl⟩
  have BA := Lib.hid (show IsB w1 A 61 #[.int .i64 8, .int .i64 n, .int .i64 wd] from by rw [hw1, hA]; exact IsB.new _ _ _)
  have GZ := Lib.hid (show w.grownBy w1 none from by rw [hw1]; exact gb_al (gb_refl _ _))
  have k0 : w1.cell? (ad.add 0) = some (.int .i64 a) := GZ.out.cell h0 (by simp)
  have k0' : w1.cell? ad = some (.int .i64 a) := by have := k0; rwa [addr0] at this
  go_enter Try.func157, Try.ntmps157
  go_upto_region 1 with fail
  rw [← hA, ← hw1]
  clear hw1 hA
  have a0 : w1.cell? ⟨A, 0, none⟩ = some (.int .i64 8) := BA.out.cell 0
  have a1 : w1.cell? ⟨A, 1, none⟩ = some (.int .i64 n) := BA.out.cell 1
  have a2 : w1.cell? ⟨A, 2, none⟩ = some (.int .i64 wd) := BA.out.cell 2
  go_wp2
  go_ret2
  exact ⟨rfl, GZ.out⟩
set_option maxRecDepth 100000 in
set_option maxHeartbeats 4000000 in
theorem rop_sl1 (w : World) (ad : Addr) (c_ : Nat) (op n wd a : Int) (h0 : w.cell? (ad.add 0) = some (.int .i64 a)) (hn : 0 ≤ n) (hw : wd < 1) :
    Calls Try.prog 157 #[.agg #[.int .i64 8, .int .i64 n, .int .i64 wd], .slice (some ad) 1 c_] w (RetV (.tuple #[.int .i64 0, .int .i64 10]) w) := by
  have n2 : ¬ n < 0 := by omega
  have e0 : decide (wd < 1) = true := decide_eq_true hw
  obtain ⟨A, hA⟩ : ∃ A, A = w.heap.size := ⟨_, rfl⟩
  obtain ⟨w1, hw1⟩ : ∃ w1, w1 = w.alloc (.cells #[.int .i64 8, .int .i64 n, .int .i64 wd] 61) := ⟨_, rfl⟩
  have BA := Lib.hid (show IsB w1 A 61 #[.int .i64 8, .int .i64 n, .int .i64 wd] from by rw [hw1, hA]; exact IsB.new _ _ _)
  have GZ := Lib.hid (show w.grownBy w1 none from by rw [hw1]; exact gb_al (gb_refl _ _))
  have k0 : w1.cell? (ad.add 0) = some (.int .i64 a) := GZ.out.cell h0 (by simp)
  have k0' : w1.cell? ad = some (.int .i64 a) := by have := k0; rwa [addr0] at this
  go_enter Try.func157, Try.ntmps157
  go_upto_region 1 with fail
  rw [← hA, ← hw1]
  clear hw1 hA
  have a0 : w1.cell? ⟨A, 0, none⟩ = some (.int .i64 8) := BA.out.cell 0
  have a1 : w1.cell? ⟨A, 1, none⟩ = some (.int .i64 n) := BA.out.cell 1
  have a2 : w1.cell? ⟨A, 2, none⟩ = some (.int .i64 wd) := BA.out.cell 2
  go_upto_region 12 with fail
  refine wp_region_held_drew (S := (fun w' : World => w'.cell? ⟨A, 1, none⟩ = some (.int .i64 n) ∧ w'.cell? ⟨A, 2, none⟩ = some (.int .i64 wd) ∧ w'.cell? ad = some (.int .i64 a) ∧ True)) (by kernel_rfl) ⟨a1, a2, k0', trivial⟩ (fun hH0 => ?_)
  refine wpAnyH_take (i := 0) (v := ?v1) rfl (by kernel_rfl) (by kernel_rfl) (by kernel_rfl) (fun _ _ _ h => h) (Or.inl ⟨by rfl, ?hy1⟩) (by assumption) ?rest1
  case hy1 => (intro wz hSw; (try dsimp only at hSw); first | (go_simp; done) | (go_simp; with_reducible rfl))
  try simp only [Act.put, List.getElem_toArray, List.getElem_cons_zero, List.setIfInBounds_toArray, List.set_cons_zero, List.set_cons_succ]
  refine wpAnyH_take (i := 1) (v := ?v2) rfl (by kernel_rfl) (by kernel_rfl) (by kernel_rfl) (fun _ _ _ h => h) (Or.inl ⟨by rfl, ?hy2⟩) (by assumption) ?rest2
  case hy2 => (intro wz hSw; (try dsimp only at hSw); first | (go_simp; done) | (go_simp; with_reducible rfl))
  try simp only [Act.put, List.getElem_toArray, List.getElem_cons_succ, List.getElem_cons_zero, List.setIfInBounds_toArray, List.set_cons_zero, List.set_cons_succ]
  refine wpAnyH_take (i := 2) (v := ?v3) rfl (by kernel_rfl) (by kernel_rfl) (by kernel_rfl) (fun _ _ _ h => h) (Or.inl ⟨by rfl, ?hy3⟩) (by assumption) ?rest3
  case hy3 => (intro wz hSw; (try dsimp only at hSw); first | (go_simp; done) | (go_simp; with_reducible rfl))
  try simp only [Act.put, List.getElem_toArray, List.getElem_cons_succ, List.getElem_cons_zero, List.setIfInBounds_toArray, List.set_cons_zero, List.set_cons_succ]
  refine wpAnyH_take (i := 3) (v := ?v4) rfl (by kernel_rfl) (by kernel_rfl) (by kernel_rfl) (fun _ _ _ h => h) (Or.inl ⟨by rfl, ?hy4⟩) (by assumption) ?rest4
  case hy4 => (intro wz hSw; (try dsimp only at hSw); first | (go_simp; done) | (go_simp; with_reducible rfl))
  try simp only [Act.put, List.getElem_toArray, List.getElem_cons_succ, List.getElem_cons_zero, List.setIfInBounds_toArray, List.set_cons_zero, List.set_cons_succ]
  refine wpAnyH_take (i := 4) (v := undef) rfl (by kernel_rfl) (by kernel_rfl) (by kernel_rfl) (fun _ _ _ h => h) (Or.inr ⟨by rfl, rfl⟩) (by assumption) ?_
  try simp only [Act.put, List.getElem_toArray, List.getElem_cons_succ, List.getElem_cons_zero, List.setIfInBounds_toArray, List.set_cons_zero, List.set_cons_succ]
  refine wpAnyH_take (i := 5) (v := undef) rfl (by kernel_rfl) (by kernel_rfl) (by kernel_rfl) (fun _ _ _ h => h) (Or.inr ⟨by rfl, rfl⟩) (by assumption) ?_
  try simp only [Act.put, List.getElem_toArray, List.getElem_cons_succ, List.getElem_cons_zero, List.setIfInBounds_toArray, List.set_cons_zero, List.set_cons_succ]
  refine wpAnyH_take (i := 6) (v := undef) rfl (by kernel_rfl) (by kernel_rfl) (by kernel_rfl) (fun _ _ _ h => h) (Or.inr ⟨by rfl, rfl⟩) (by assumption) ?_
  try simp only [Act.put, List.getElem_toArray, List.getElem_cons_succ, List.getElem_cons_zero, List.setIfInBounds_toArray, List.set_cons_zero, List.set_cons_succ]
  refine wpAnyH_take (i := 7) (v := ?v8) rfl (by kernel_rfl) (by kernel_rfl) (by kernel_rfl) (fun _ _ _ h => h) (Or.inl ⟨by rfl, ?hy8⟩) (by assumption) ?rest8
  case hy8 => (intro wz hSw; (try dsimp only at hSw); first | (go_simp; done) | (go_simp; with_reducible rfl))
  try simp only [Act.put, List.getElem_toArray, List.getElem_cons_succ, List.getElem_cons_zero, List.setIfInBounds_toArray, List.set_cons_zero, List.set_cons_succ]
  refine wpAnyH_take (i := 8) (v := ?v9) rfl (by kernel_rfl) (by kernel_rfl) (by kernel_rfl) (fun _ _ _ h => h) (Or.inl ⟨by rfl, ?hy9⟩) (by assumption) ?rest9
  case hy9 => (intro wz hSw; (try dsimp only at hSw); first | (go_simp; done) | (go_simp; with_reducible rfl))
  try simp only [Act.put, List.getElem_toArray, List.getElem_cons_succ, List.getElem_cons_zero, List.setIfInBounds_toArray, List.set_cons_zero, List.set_cons_succ]
  refine wpAnyH_take (i := 9) (v := undef) rfl (by kernel_rfl) (by kernel_rfl) (by kernel_rfl) (fun _ _ _ h => h) (Or.inr ⟨by rfl, rfl⟩) (by assumption) ?_
  try simp only [Act.put, List.getElem_toArray, List.getElem_cons_succ, List.getElem_cons_zero, List.setIfInBounds_toArray, List.set_cons_zero, List.set_cons_succ]
  refine wpAnyH_take (i := 10) (v := undef) rfl (by kernel_rfl) (by kernel_rfl) (by kernel_rfl) (fun _ _ _ h => h) (Or.inr ⟨by rfl, rfl⟩) (by assumption) ?_
  try simp only [Act.put, List.getElem_toArray, List.getElem_cons_succ, List.getElem_cons_zero, List.setIfInBounds_toArray, List.set_cons_zero, List.set_cons_succ]
  refine wpAnyH_take (i := 11) (v := undef) rfl (by kernel_rfl) (by kernel_rfl) (by kernel_rfl) (fun _ _ _ h => h) (Or.inr ⟨by rfl, rfl⟩) (by assumption) ?_
  try simp only [Act.put, List.getElem_toArray, List.getElem_cons_succ, List.getElem_cons_zero, List.setIfInBounds_toArray, List.set_cons_zero, List.set_cons_succ]
  refine wpAnyH_take (i := 12) (v := undef) rfl (by kernel_rfl) (by kernel_rfl) (by kernel_rfl) (fun _ _ _ h => h) (Or.inr ⟨by rfl, rfl⟩) (by assumption) ?_
  try simp only [Act.put, List.getElem_toArray, List.getElem_cons_succ, List.getElem_cons_zero, List.setIfInBounds_toArray, List.set_cons_zero, List.set_cons_succ]
  refine wpAnyH_take (i := 13) (v := undef) rfl (by kernel_rfl) (by kernel_rfl) (by kernel_rfl) (fun _ _ _ h => h) (Or.inr ⟨by rfl, rfl⟩) (by assumption) ?_
  try simp only [Act.put, List.getElem_toArray, List.getElem_cons_succ, List.getElem_cons_zero, List.setIfInBounds_toArray, List.set_cons_zero, List.set_cons_succ]
  refine wpAnyH_take (i := 14) (v := undef) rfl (by kernel_rfl) (by kernel_rfl) (by kernel_rfl) (fun _ _ _ h => h) (Or.inr ⟨by rfl, rfl⟩) (by assumption) ?_
  try simp only [Act.put, List.getElem_toArray, List.getElem_cons_succ, List.getElem_cons_zero, List.setIfInBounds_toArray, List.set_cons_zero, List.set_cons_succ]
  refine wpAnyH_take (i := 15) (v := undef) rfl (by kernel_rfl) (by kernel_rfl) (by kernel_rfl) (fun _ _ _ h => h) (Or.inr ⟨by rfl, rfl⟩) (by assumption) ?_
  try simp only [Act.put, List.getElem_toArray, List.getElem_cons_succ, List.getElem_cons_zero, List.setIfInBounds_toArray, List.set_cons_zero, List.set_cons_succ]
  refine wpAnyH_take (i := 16) (v := undef) rfl (by kernel_rfl) (by kernel_rfl) (by kernel_rfl) (fun _ _ _ h => h) (Or.inr ⟨by rfl, rfl⟩) (by assumption) ?_
  try simp only [Act.put, List.getElem_toArray, List.getElem_cons_succ, List.getElem_cons_zero, List.setIfInBounds_toArray, List.set_cons_zero, List.set_cons_succ]
  refine wpAnyH_take (i := 17) (v := undef) rfl (by kernel_rfl) (by kernel_rfl) (by kernel_rfl) (fun _ _ _ h => h) (Or.inr ⟨by rfl, rfl⟩) (by assumption) ?_
  try simp only [Act.put, List.getElem_toArray, List.getElem_cons_succ, List.getElem_cons_zero, List.setIfInBounds_toArray, List.set_cons_zero, List.set_cons_succ]
  refine wpAnyH_take (i := 18) (v := ?v19) rfl (by kernel_rfl) (by kernel_rfl) (by kernel_rfl) (fun _ _ _ h => h) (Or.inl ⟨by rfl, ?hy19⟩) (by assumption) ?rest19
  case hy19 => (intro wz hSw; (try dsimp only at hSw); first | (go_simp; done) | (go_simp; with_reducible rfl))
  try simp only [Act.put, List.getElem_toArray, List.getElem_cons_succ, List.getElem_cons_zero, List.setIfInBounds_toArray, List.set_cons_zero, List.set_cons_succ]
  refine wpAnyH_take (i := 19) (v := ?v20) rfl (by kernel_rfl) (by kernel_rfl) (by kernel_rfl) (fun _ _ _ h => h) (Or.inl ⟨by rfl, ?hy20⟩) (by assumption) ?rest20
  case hy20 => (intro wz hSw; (try dsimp only at hSw); first | (go_simp; done) | (go_simp; with_reducible rfl))
  try simp only [Act.put, List.getElem_toArray, List.getElem_cons_succ, List.getElem_cons_zero, List.setIfInBounds_toArray, List.set_cons_zero, List.set_cons_succ]
  refine wpAnyH_done (by kernel_rfl) ?_ _
  go_wp2
  go_ret2
  exact ⟨rfl, gb_dr1 GZ.out⟩
set_option maxRecDepth 100000 in
set_option maxHeartbeats 4000000 in
theorem rop_sl2 (w : World) (ad : Addr) (c_ : Nat) (op n wd a : Int) (h0 : w.cell? (ad.add 0) = some (.int .i64 a)) (hn : 0 ≤ n) (hw : 32 < wd) :
    Calls Try.prog 157 #[.agg #[.int .i64 8, .int .i64 n, .int .i64 wd], .slice (some ad) 1 c_] w (RetV (.tuple #[.int .i64 0, .int .i64 10]) w) := by
  have n2 : ¬ n < 0 := by omega
  have e0 : decide (wd < 1) = false := decide_eq_false (by omega)
  have e1 : decide (32 < wd) = true := decide_eq_true hw
  obtain ⟨A, hA⟩ : ∃ A, A = w.heap.size := ⟨_, rfl⟩
  obtain ⟨w1, hw1⟩ : ∃ w1, w1 = w.alloc (.cells #[.int .i64 8, .int .i64 n, .int .i64 wd] 61) := ⟨_, rfl⟩
  have BA := Lib.hid (show IsB w1 A 61 #[.int .i64 8, .int .i64 n, .int .i64 wd] from by rw [hw1, hA]; exact IsB.new _ _ _)
  have GZ := Lib.hid (show w.grownBy w1 none from by rw [hw1]; exact gb_al (gb_refl _ _))
  have k0 : w1.cell? (ad.add 0) = some (.int .i64 a) := GZ.out.cell h0 (by simp)
  have k0' : w1.cell? ad = some (.int .i64 a) := by have := k0; rwa [addr0] at this
  go_enter Try.func157, Try.ntmps157
  go_upto_region 1 with fail
  rw [← hA, ← hw1]
  clear hw1 hA
  have a0 : w1.cell? ⟨A, 0, none⟩ = some (.int .i64 8) := BA.out.cell 0
  have a1 : w1.cell? ⟨A, 1, none⟩ = some (.int .i64 n) := BA.out.cell 1
  have a2 : w1.cell? ⟨A, 2, none⟩ = some (.int .i64 wd) := BA.out.cell 2
  go_upto_region 12 with fail
  refine wp_region_held_drew (S := (fun w' : World => w'.cell? ⟨A, 1, none⟩ = some (.int .i64 n) ∧ w'.cell? ⟨A, 2, none⟩ = some (.int .i64 wd) ∧ w'.cell? ad = some (.int .i64 a) ∧ True)) (by kernel_rfl) ⟨a1, a2, k0', trivial⟩ (fun hH0 => ?_)
  refine wpAnyH_take (i := 0) (v := ?v21) rfl (by kernel_rfl) (by kernel_rfl) (by kernel_rfl) (fun _ _ _ h => h) (Or.inl ⟨by rfl, ?hy21⟩) (by assumption) ?rest21
  case hy21 => (intro wz hSw; (try dsimp only at hSw); first | (go_simp; done) | (go_simp; with_reducible rfl))
  try simp only [Act.put, List.getElem_toArray, List.getElem_cons_zero, List.setIfInBounds_toArray, List.set_cons_zero, List.set_cons_succ]
  refine wpAnyH_take (i := 1) (v := ?v22) rfl (by kernel_rfl) (by kernel_rfl) (by kernel_rfl) (fun _ _ _ h => h) (Or.inl ⟨by rfl, ?hy22⟩) (by assumption) ?rest22
  case hy22 => (intro wz hSw; (try dsimp only at hSw); first | (go_simp; done) | (go_simp; with_reducible rfl))
  try simp only [Act.put, List.getElem_toArray, List.getElem_cons_succ, List.getElem_cons_zero, List.setIfInBounds_toArray, List.set_cons_zero, List.set_cons_succ]
  refine wpAnyH_take (i := 2) (v := ?v23) rfl (by kernel_rfl) (by kernel_rfl) (by kernel_rfl) (fun _ _ _ h => h) (Or.inl ⟨by rfl, ?hy23⟩) (by assumption) ?rest23
  case hy23 => (intro wz hSw; (try dsimp only at hSw); first | (go_simp; done) | (go_simp; with_reducible rfl))
  try simp only [Act.put, List.getElem_toArray, List.getElem_cons_succ, List.getElem_cons_zero, List.setIfInBounds_toArray, List.set_cons_zero, List.set_cons_succ]
  refine wpAnyH_take (i := 3) (v := ?v24) rfl (by kernel_rfl) (by kernel_rfl) (by kernel_rfl) (fun _ _ _ h => h) (Or.inl ⟨by rfl, ?hy24⟩) (by assumption) ?rest24
  case hy24 => (intro wz hSw; (try dsimp only at hSw); first | (go_simp; done) | (go_simp; with_reducible rfl))
  try simp only [Act.put, List.getElem_toArray, List.getElem_cons_succ, List.getElem_cons_zero, List.setIfInBounds_toArray, List.set_cons_zero, List.set_cons_succ]
  refine wpAnyH_take (i := 4) (v := ?v25) rfl (by kernel_rfl) (by kernel_rfl) (by kernel_rfl) (fun _ _ _ h => h) (Or.inl ⟨by rfl, ?hy25⟩) (by assumption) ?rest25
  case hy25 => (intro wz hSw; (try dsimp only at hSw); first | (go_simp; done) | (go_simp; with_reducible rfl))
  try simp only [Act.put, List.getElem_toArray, List.getElem_cons_succ, List.getElem_cons_zero, List.setIfInBounds_toArray, List.set_cons_zero, List.set_cons_succ]
  refine wpAnyH_take (i := 5) (v := ?v26) rfl (by kernel_rfl) (by kernel_rfl) (by kernel_rfl) (fun _ _ _ h => h) (Or.inl ⟨by rfl, ?hy26⟩) (by assumption) ?rest26
  case hy26 => (intro wz hSw; (try dsimp only at hSw); first | (go_simp; done) | (go_simp; with_reducible rfl))
  try simp only [Act.put, List.getElem_toArray, List.getElem_cons_succ, List.getElem_cons_zero, List.setIfInBounds_toArray, List.set_cons_zero, List.set_cons_succ]
  refine wpAnyH_take (i := 6) (v := ?v27) rfl (by kernel_rfl) (by kernel_rfl) (by kernel_rfl) (fun _ _ _ h => h) (Or.inl ⟨by rfl, ?hy27⟩) (by assumption) ?rest27
  case hy27 => (intro wz hSw; (try dsimp only at hSw); first | (go_simp; done) | (go_simp; with_reducible rfl))
  try simp only [Act.put, List.getElem_toArray, List.getElem_cons_succ, List.getElem_cons_zero, List.setIfInBounds_toArray, List.set_cons_zero, List.set_cons_succ]
  refine wpAnyH_take (i := 7) (v := ?v28) rfl (by kernel_rfl) (by kernel_rfl) (by kernel_rfl) (fun _ _ _ h => h) (Or.inl ⟨by rfl, ?hy28⟩) (by assumption) ?rest28
  case hy28 => (intro wz hSw; (try dsimp only at hSw); first | (go_simp; done) | (go_simp; with_reducible rfl))
  try simp only [Act.put, List.getElem_toArray, List.getElem_cons_succ, List.getElem_cons_zero, List.setIfInBounds_toArray, List.set_cons_zero, List.set_cons_succ]
  refine wpAnyH_take (i := 8) (v := ?v29) rfl (by kernel_rfl) (by kernel_rfl) (by kernel_rfl) (fun _ _ _ h => h) (Or.inl ⟨by rfl, ?hy29⟩) (by assumption) ?rest29
  case hy29 => (intro wz hSw; (try dsimp only at hSw); first | (go_simp; done) | (go_simp; with_reducible rfl))
  try simp only [Act.put, List.getElem_toArray, List.getElem_cons_succ, List.getElem_cons_zero, List.setIfInBounds_toArray, List.set_cons_zero, List.set_cons_succ]
  refine wpAnyH_take (i := 9) (v := undef) rfl (by kernel_rfl) (by kernel_rfl) (by kernel_rfl) (fun _ _ _ h => h) (Or.inr ⟨by rfl, rfl⟩) (by assumption) ?_
  try simp only [Act.put, List.getElem_toArray, List.getElem_cons_succ, List.getElem_cons_zero, List.setIfInBounds_toArray, List.set_cons_zero, List.set_cons_succ]
  refine wpAnyH_take (i := 10) (v := undef) rfl (by kernel_rfl) (by kernel_rfl) (by kernel_rfl) (fun _ _ _ h => h) (Or.inr ⟨by rfl, rfl⟩) (by assumption) ?_
  try simp only [Act.put, List.getElem_toArray, List.getElem_cons_succ, List.getElem_cons_zero, List.setIfInBounds_toArray, List.set_cons_zero, List.set_cons_succ]
  refine wpAnyH_take (i := 11) (v := undef) rfl (by kernel_rfl) (by kernel_rfl) (by kernel_rfl) (fun _ _ _ h => h) (Or.inr ⟨by rfl, rfl⟩) (by assumption) ?_
  try simp only [Act.put, List.getElem_toArray, List.getElem_cons_succ, List.getElem_cons_zero, List.setIfInBounds_toArray, List.set_cons_zero, List.set_cons_succ]
  refine wpAnyH_take (i := 12) (v := undef) rfl (by kernel_rfl) (by kernel_rfl) (by kernel_rfl) (fun _ _ _ h => h) (Or.inr ⟨by rfl, rfl⟩) (by assumption) ?_
  try simp only [Act.put, List.getElem_toArray, List.getElem_cons_succ, List.getElem_cons_zero, List.setIfInBounds_toArray, List.set_cons_zero, List.set_cons_succ]
  refine wpAnyH_take (i := 13) (v := undef) rfl (by kernel_rfl) (by kernel_rfl) (by kernel_rfl) (fun _ _ _ h => h) (Or.inr ⟨by rfl, rfl⟩) (by assumption) ?_
  try simp only [Act.put, List.getElem_toArray, List.getElem_cons_succ, List.getElem_cons_zero, List.setIfInBounds_toArray, List.set_cons_zero, List.set_cons_succ]
  refine wpAnyH_take (i := 14) (v := undef) rfl (by kernel_rfl) (by kernel_rfl) (by kernel_rfl) (fun _ _ _ h => h) (Or.inr ⟨by rfl, rfl⟩) (by assumption) ?_
  try simp only [Act.put, List.getElem_toArray, List.getElem_cons_succ, List.getElem_cons_zero, List.setIfInBounds_toArray, List.set_cons_zero, List.set_cons_succ]
  refine wpAnyH_take (i := 15) (v := undef) rfl (by kernel_rfl) (by kernel_rfl) (by kernel_rfl) (fun _ _ _ h => h) (Or.inr ⟨by rfl, rfl⟩) (by assumption) ?_
  try simp only [Act.put, List.getElem_toArray, List.getElem_cons_succ, List.getElem_cons_zero, List.setIfInBounds_toArray, List.set_cons_zero, List.set_cons_succ]
  refine wpAnyH_take (i := 16) (v := undef) rfl (by kernel_rfl) (by kernel_rfl) (by kernel_rfl) (fun _ _ _ h => h) (Or.inr ⟨by rfl, rfl⟩) (by assumption) ?_
  try simp only [Act.put, List.getElem_toArray, List.getElem_cons_succ, List.getElem_cons_zero, List.setIfInBounds_toArray, List.set_cons_zero, List.set_cons_succ]
  refine wpAnyH_take (i := 17) (v := undef) rfl (by kernel_rfl) (by kernel_rfl) (by kernel_rfl) (fun _ _ _ h => h) (Or.inr ⟨by rfl, rfl⟩) (by assumption) ?_
  try simp only [Act.put, List.getElem_toArray, List.getElem_cons_succ, List.getElem_cons_zero, List.setIfInBounds_toArray, List.set_cons_zero, List.set_cons_succ]
  refine wpAnyH_take (i := 18) (v := ?v39) rfl (by kernel_rfl) (by kernel_rfl) (by kernel_rfl) (fun _ _ _ h => h) (Or.inl ⟨by rfl, ?hy39⟩) (by assumption) ?rest39
  case hy39 => (intro wz hSw; (try dsimp only at hSw); first | (go_simp; done) | (go_simp; with_reducible rfl))
  try simp only [Act.put, List.getElem_toArray, List.getElem_cons_succ, List.getElem_cons_zero, List.setIfInBounds_toArray, List.set_cons_zero, List.set_cons_succ]
  refine wpAnyH_take (i := 19) (v := ?v40) rfl (by kernel_rfl) (by kernel_rfl) (by kernel_rfl) (fun _ _ _ h => h) (Or.inl ⟨by rfl, ?hy40⟩) (by assumption) ?rest40
  case hy40 => (intro wz hSw; (try dsimp only at hSw); first | (go_simp; done) | (go_simp; with_reducible rfl))
  try simp only [Act.put, List.getElem_toArray, List.getElem_cons_succ, List.getElem_cons_zero, List.setIfInBounds_toArray, List.set_cons_zero, List.set_cons_succ]
  refine wpAnyH_done (by kernel_rfl) ?_ _
  go_wp2
  go_ret2
  exact ⟨rfl, gb_dr1 GZ.out⟩
set_option maxRecDepth 100000 in
set_option maxHeartbeats 4000000 in
theorem rop_sl3 (w : World) (ad : Addr) (c_ : Nat) (op n wd a : Int) (h0 : w.cell? (ad.add 0) = some (.int .i64 a)) (hn : 0 ≤ n) (hw : 1 ≤ wd ∧ wd ≤ 32) (ha : 1 ≤ a ∧ a ≤ 32) (hg : a - wd < n) :
    Calls Try.prog 157 #[.agg #[.int .i64 8, .int .i64 n, .int .i64 wd], .slice (some ad) 1 c_] w (RetV (.tuple #[.int .i64 0, .int .i64 10]) w) := by
  have n2 : ¬ n < 0 := by omega
  have e0 : decide (wd < 1) = false := decide_eq_false (by omega)
  have e1 : decide (32 < wd) = false := decide_eq_false (by omega)
  have e2 : decide (a - wd < n) = true := decide_eq_true hg
  have e3 : IntKind.i64.wrap (a - wd) = a - wd := IntWalk.i64_in _ (by omega)
  have e4 : wrap64 (a - wd) = a - wd := IntWalk.wrap64_in _ (by omega)
  obtain ⟨A, hA⟩ : ∃ A, A = w.heap.size := ⟨_, rfl⟩
  obtain ⟨w1, hw1⟩ : ∃ w1, w1 = w.alloc (.cells #[.int .i64 8, .int .i64 n, .int .i64 wd] 61) := ⟨_, rfl⟩
  have BA := Lib.hid (show IsB w1 A 61 #[.int .i64 8, .int .i64 n, .int .i64 wd] from by rw [hw1, hA]; exact IsB.new _ _ _)
  have GZ := Lib.hid (show w.grownBy w1 none from by rw [hw1]; exact gb_al (gb_refl _ _))
  have k0 : w1.cell? (ad.add 0) = some (.int .i64 a) := GZ.out.cell h0 (by simp)
  have k0' : w1.cell? ad = some (.int .i64 a) := by have := k0; rwa [addr0] at this
  go_enter Try.func157, Try.ntmps157
  go_upto_region 1 with fail
  rw [← hA, ← hw1]
  clear hw1 hA
  have a0 : w1.cell? ⟨A, 0, none⟩ = some (.int .i64 8) := BA.out.cell 0
  have a1 : w1.cell? ⟨A, 1, none⟩ = some (.int .i64 n) := BA.out.cell 1
  have a2 : w1.cell? ⟨A, 2, none⟩ = some (.int .i64 wd) := BA.out.cell 2
  go_upto_region 12 with fail
  refine wp_region_held_drew (S := (fun w' : World => w'.cell? ⟨A, 1, none⟩ = some (.int .i64 n) ∧ w'.cell? ⟨A, 2, none⟩ = some (.int .i64 wd) ∧ w'.cell? ad = some (.int .i64 a) ∧ True)) (by kernel_rfl) ⟨a1, a2, k0', trivial⟩ (fun hH0 => ?_)
  refine wpAnyH_take (i := 0) (v := ?v41) rfl (by kernel_rfl) (by kernel_rfl) (by kernel_rfl) (fun _ _ _ h => h) (Or.inl ⟨by rfl, ?hy41⟩) (by assumption) ?rest41
  case hy41 => (intro wz hSw; (try dsimp only at hSw); first | (go_simp; done) | (go_simp; with_reducible rfl))
  try simp only [Act.put, List.getElem_toArray, List.getElem_cons_zero, List.setIfInBounds_toArray, List.set_cons_zero, List.set_cons_succ]
  refine wpAnyH_take (i := 1) (v := ?v42) rfl (by kernel_rfl) (by kernel_rfl) (by kernel_rfl) (fun _ _ _ h => h) (Or.inl ⟨by rfl, ?hy42⟩) (by assumption) ?rest42
  case hy42 => (intro wz hSw; (try dsimp only at hSw); first | (go_simp; done) | (go_simp; with_reducible rfl))
  try simp only [Act.put, List.getElem_toArray, List.getElem_cons_succ, List.getElem_cons_zero, List.setIfInBounds_toArray, List.set_cons_zero, List.set_cons_succ]
  refine wpAnyH_take (i := 2) (v := ?v43) rfl (by kernel_rfl) (by kernel_rfl) (by kernel_rfl) (fun _ _ _ h => h) (Or.inl ⟨by rfl, ?hy43⟩) (by assumption) ?rest43
  case hy43 => (intro wz hSw; (try dsimp only at hSw); first | (go_simp; done) | (go_simp; with_reducible rfl))
  try simp only [Act.put, List.getElem_toArray, List.getElem_cons_succ, List.getElem_cons_zero, List.setIfInBounds_toArray, List.set_cons_zero, List.set_cons_succ]
  refine wpAnyH_take (i := 3) (v := ?v44) rfl (by kernel_rfl) (by kernel_rfl) (by kernel_rfl) (fun _ _ _ h => h) (Or.inl ⟨by rfl, ?hy44⟩) (by assumption) ?rest44
  case hy44 => (intro wz hSw; (try dsimp only at hSw); first | (go_simp; done) | (go_simp; with_reducible rfl))
  try simp only [Act.put, List.getElem_toArray, List.getElem_cons_succ, List.getElem_cons_zero, List.setIfInBounds_toArray, List.set_cons_zero, List.set_cons_succ]
  refine wpAnyH_take (i := 4) (v := ?v45) rfl (by kernel_rfl) (by kernel_rfl) (by kernel_rfl) (fun _ _ _ h => h) (Or.inl ⟨by rfl, ?hy45⟩) (by assumption) ?rest45
  case hy45 => (intro wz hSw; (try dsimp only at hSw); first | (go_simp; done) | (go_simp; with_reducible rfl))
  try simp only [Act.put, List.getElem_toArray, List.getElem_cons_succ, List.getElem_cons_zero, List.setIfInBounds_toArray, List.set_cons_zero, List.set_cons_succ]
  refine wpAnyH_take (i := 5) (v := ?v46) rfl (by kernel_rfl) (by kernel_rfl) (by kernel_rfl) (fun _ _ _ h => h) (Or.inl ⟨by rfl, ?hy46⟩) (by assumption) ?rest46
  case hy46 => (intro wz hSw; (try dsimp only at hSw); first | (go_simp; done) | (go_simp; with_reducible rfl))
  try simp only [Act.put, List.getElem_toArray, List.getElem_cons_succ, List.getElem_cons_zero, List.setIfInBounds_toArray, List.set_cons_zero, List.set_cons_succ]
  refine wpAnyH_take (i := 6) (v := ?v47) rfl (by kernel_rfl) (by kernel_rfl) (by kernel_rfl) (fun _ _ _ h => h) (Or.inl ⟨by rfl, ?hy47⟩) (by assumption) ?rest47
  case hy47 => (intro wz hSw; (try dsimp only at hSw); first | (go_simp; done) | (go_simp; with_reducible rfl))
  try simp only [Act.put, List.getElem_toArray, List.getElem_cons_succ, List.getElem_cons_zero, List.setIfInBounds_toArray, List.set_cons_zero, List.set_cons_succ]
  refine wpAnyH_take (i := 7) (v := ?v48) rfl (by kernel_rfl) (by kernel_rfl) (by kernel_rfl) (fun _ _ _ h => h) (Or.inl ⟨by rfl, ?hy48⟩) (by assumption) ?rest48
  case hy48 => (intro wz hSw; (try dsimp only at hSw); first | (go_simp; done) | (go_simp; with_reducible rfl))
  try simp only [Act.put, List.getElem_toArray, List.getElem_cons_succ, List.getElem_cons_zero, List.setIfInBounds_toArray, List.set_cons_zero, List.set_cons_succ]
  refine wpAnyH_take (i := 8) (v := ?v49) rfl (by kernel_rfl) (by kernel_rfl) (by kernel_rfl) (fun _ _ _ h => h) (Or.inl ⟨by rfl, ?hy49⟩) (by assumption) ?rest49
  case hy49 => (intro wz hSw; (try dsimp only at hSw); first | (go_simp; done) | (go_simp; with_reducible rfl))
  try simp only [Act.put, List.getElem_toArray, List.getElem_cons_succ, List.getElem_cons_zero, List.setIfInBounds_toArray, List.set_cons_zero, List.set_cons_succ]
  refine wpAnyH_take (i := 9) (v := ?v50) rfl (by kernel_rfl) (by kernel_rfl) (by kernel_rfl) (fun _ _ _ h => h) (Or.inl ⟨by rfl, ?hy50⟩) (by assumption) ?rest50
  case hy50 => (intro wz hSw; (try dsimp only at hSw); first | (go_simp; done) | (go_simp; with_reducible rfl))
  try simp only [Act.put, List.getElem_toArray, List.getElem_cons_succ, List.getElem_cons_zero, List.setIfInBounds_toArray, List.set_cons_zero, List.set_cons_succ]
  refine wpAnyH_take (i := 10) (v := ?v51) rfl (by kernel_rfl) (by kernel_rfl) (by kernel_rfl) (fun _ _ _ h => h) (Or.inl ⟨by rfl, ?hy51⟩) (by assumption) ?rest51
  case hy51 => (intro wz hSw; (try dsimp only at hSw); first | (go_simp; done) | (go_simp; with_reducible rfl))
  try simp only [Act.put, List.getElem_toArray, List.getElem_cons_succ, List.getElem_cons_zero, List.setIfInBounds_toArray, List.set_cons_zero, List.set_cons_succ]
  refine wpAnyH_take (i := 11) (v := ?v52) rfl (by kernel_rfl) (by kernel_rfl) (by kernel_rfl) (fun _ _ _ h => h) (Or.inl ⟨by rfl, ?hy52⟩) (by assumption) ?rest52
  case hy52 => (intro wz hSw; (try dsimp only at hSw); first | (go_simp; done) | (go_simp; with_reducible rfl))
  try simp only [Act.put, List.getElem_toArray, List.getElem_cons_succ, List.getElem_cons_zero, List.setIfInBounds_toArray, List.set_cons_zero, List.set_cons_succ]
  refine wpAnyH_take (i := 12) (v := ?v53) rfl (by kernel_rfl) (by kernel_rfl) (by kernel_rfl) (fun _ _ _ h => h) (Or.inl ⟨by rfl, ?hy53⟩) (by assumption) ?rest53
  case hy53 => (intro wz hSw; (try dsimp only at hSw); first | (go_simp; done) | (go_simp; with_reducible rfl))
  try simp only [Act.put, List.getElem_toArray, List.getElem_cons_succ, List.getElem_cons_zero, List.setIfInBounds_toArray, List.set_cons_zero, List.set_cons_succ]
  refine wpAnyH_take (i := 13) (v := ?v54) rfl (by kernel_rfl) (by kernel_rfl) (by kernel_rfl) (fun _ _ _ h => h) (Or.inl ⟨by rfl, ?hy54⟩) (by assumption) ?rest54
  case hy54 => (intro wz hSw; (try dsimp only at hSw); first | (go_simp; done) | (go_simp; with_reducible rfl))
  try simp only [Act.put, List.getElem_toArray, List.getElem_cons_succ, List.getElem_cons_zero, List.setIfInBounds_toArray, List.set_cons_zero, List.set_cons_succ]
  refine wpAnyH_take (i := 14) (v := ?v55) rfl (by kernel_rfl) (by kernel_rfl) (by kernel_rfl) (fun _ _ _ h => h) (Or.inl ⟨by rfl, ?hy55⟩) (by assumption) ?rest55
  case hy55 => (intro wz hSw; (try dsimp only at hSw); first | (go_simp; done) | (go_simp; with_reducible rfl))
  try simp only [Act.put, List.getElem_toArray, List.getElem_cons_succ, List.getElem_cons_zero, List.setIfInBounds_toArray, List.set_cons_zero, List.set_cons_succ]
  refine wpAnyH_take (i := 15) (v := ?v56) rfl (by kernel_rfl) (by kernel_rfl) (by kernel_rfl) (fun _ _ _ h => h) (Or.inl ⟨by rfl, ?hy56⟩) (by assumption) ?rest56
  case hy56 => (intro wz hSw; (try dsimp only at hSw); first | (go_simp; done) | (go_simp; with_reducible rfl))
  try simp only [Act.put, List.getElem_toArray, List.getElem_cons_succ, List.getElem_cons_zero, List.setIfInBounds_toArray, List.set_cons_zero, List.set_cons_succ]
  refine wpAnyH_take (i := 16) (v := ?v57) rfl (by kernel_rfl) (by kernel_rfl) (by kernel_rfl) (fun _ _ _ h => h) (Or.inl ⟨by rfl, ?hy57⟩) (by assumption) ?rest57
  case hy57 => (intro wz hSw; (try dsimp only at hSw); first | (go_simp; done) | (go_simp; with_reducible rfl))
  try simp only [Act.put, List.getElem_toArray, List.getElem_cons_succ, List.getElem_cons_zero, List.setIfInBounds_toArray, List.set_cons_zero, List.set_cons_succ]
  refine wpAnyH_take (i := 17) (v := ?v58) rfl (by kernel_rfl) (by kernel_rfl) (by kernel_rfl) (fun _ _ _ h => h) (Or.inl ⟨by rfl, ?hy58⟩) (by assumption) ?rest58
  case hy58 => (intro wz hSw; (try dsimp only at hSw); first | (go_simp; done) | (go_simp; with_reducible rfl))
  try simp only [Act.put, List.getElem_toArray, List.getElem_cons_succ, List.getElem_cons_zero, List.setIfInBounds_toArray, List.set_cons_zero, List.set_cons_succ]
  refine wpAnyH_take (i := 18) (v := ?v59) rfl (by kernel_rfl) (by kernel_rfl) (by kernel_rfl) (fun _ _ _ h => h) (Or.inl ⟨by rfl, ?hy59⟩) (by assumption) ?rest59
  case hy59 => (intro wz hSw; (try dsimp only at hSw); first | (go_simp; done) | (go_simp; with_reducible rfl))
  try simp only [Act.put, List.getElem_toArray, List.getElem_cons_succ, List.getElem_cons_zero, List.setIfInBounds_toArray, List.set_cons_zero, List.set_cons_succ]
  refine wpAnyH_take (i := 19) (v := ?v60) rfl (by kernel_rfl) (by kernel_rfl) (by kernel_rfl) (fun _ _ _ h => h) (Or.inl ⟨by rfl, ?hy60⟩) (by assumption) ?rest60
  case hy60 => (intro wz hSw; (try dsimp only at hSw); first | (go_simp; done) | (go_simp; with_reducible rfl))
  try simp only [Act.put, List.getElem_toArray, List.getElem_cons_succ, List.getElem_cons_zero, List.setIfInBounds_toArray, List.set_cons_zero, List.set_cons_succ]
  refine wpAnyH_done (by kernel_rfl) ?_ _
  go_wp2
  go_ret2
  exact ⟨rfl, gb_dr1 GZ.out⟩
set_option maxRecDepth 100000 in
set_option maxHeartbeats 4000000 in
theorem rop_sl4 (w : World) (ad : Addr) (c_ : Nat) (op n wd a : Int) (h0 : w.cell? (ad.add 0) = some (.int .i64 a)) (hn : 0 ≤ n) (hw : 1 ≤ wd ∧ wd ≤ 32) (ha : 1 ≤ a ∧ a ≤ 32) (hg : n ≤ a - wd) :
    Calls Try.prog 157 #[.agg #[.int .i64 8, .int .i64 n, .int .i64 wd], .slice (some ad) 1 c_] w (RetV (.tuple #[.int .i64 wd, .int .i64 0]) w) := by
  have n2 : ¬ n < 0 := by omega
  have e0 : decide (wd < 1) = false := decide_eq_false (by omega)
  have e1 : decide (32 < wd) = false := decide_eq_false (by omega)
  have e2 : decide (a - wd < n) = false := decide_eq_false (by omega)
  have e3 : IntKind.i64.wrap (a - wd) = a - wd := IntWalk.i64_in _ (by omega)
  have e4 : wrap64 (a - wd) = a - wd := IntWalk.wrap64_in _ (by omega)
  obtain ⟨A, hA⟩ : ∃ A, A = w.heap.size := ⟨_, rfl⟩
  obtain ⟨w1, hw1⟩ : ∃ w1, w1 = w.alloc (.cells #[.int .i64 8, .int .i64 n, .int .i64 wd] 61) := ⟨_, rfl⟩
  have BA := Lib.hid (show IsB w1 A 61 #[.int .i64 8, .int .i64 n, .int .i64 wd] from by rw [hw1, hA]; exact IsB.new _ _ _)
  have GZ := Lib.hid (show w.grownBy w1 none from by rw [hw1]; exact gb_al (gb_refl _ _))
  have k0 : w1.cell? (ad.add 0) = some (.int .i64 a) := GZ.out.cell h0 (by simp)
  have k0' : w1.cell? ad = some (.int .i64 a) := by have := k0; rwa [addr0] at this
  go_enter Try.func157, Try.ntmps157
  go_upto_region 1 with fail
  rw [← hA, ← hw1]
  clear hw1 hA
  have a0 : w1.cell? ⟨A, 0, none⟩ = some (.int .i64 8) := BA.out.cell 0
  have a1 : w1.cell? ⟨A, 1, none⟩ = some (.int .i64 n) := BA.out.cell 1
  have a2 : w1.cell? ⟨A, 2, none⟩ = some (.int .i64 wd) := BA.out.cell 2
  go_upto_region 12 with fail
  refine wp_region_held_drew (S := (fun w' : World => w'.cell? ⟨A, 1, none⟩ = some (.int .i64 n) ∧ w'.cell? ⟨A, 2, none⟩ = some (.int .i64 wd) ∧ w'.cell? ad = some (.int .i64 a) ∧ True)) (by kernel_rfl) ⟨a1, a2, k0', trivial⟩ (fun hH0 => ?_)
  refine wpAnyH_take (i := 0) (v := ?v61) rfl (by kernel_rfl) (by kernel_rfl) (by kernel_rfl) (fun _ _ _ h => h) (Or.inl ⟨by rfl, ?hy61⟩) (by assumption) ?rest61
  case hy61 => (intro wz hSw; (try dsimp only at hSw); first | (go_simp; done) | (go_simp; with_reducible rfl))
  try simp only [Act.put, List.getElem_toArray, List.getElem_cons_zero, List.setIfInBounds_toArray, List.set_cons_zero, List.set_cons_succ]
  refine wpAnyH_take (i := 1) (v := ?v62) rfl (by kernel_rfl) (by kernel_rfl) (by kernel_rfl) (fun _ _ _ h => h) (Or.inl ⟨by rfl, ?hy62⟩) (by assumption) ?rest62
  case hy62 => (intro wz hSw; (try dsimp only at hSw); first | (go_simp; done) | (go_simp; with_reducible rfl))
  try simp only [Act.put, List.getElem_toArray, List.getElem_cons_succ, List.getElem_cons_zero, List.setIfInBounds_toArray, List.set_cons_zero, List.set_cons_succ]
  refine wpAnyH_take (i := 2) (v := ?v63) rfl (by kernel_rfl) (by kernel_rfl) (by kernel_rfl) (fun _ _ _ h => h) (Or.inl ⟨by rfl, ?hy63⟩) (by assumption) ?rest63
  case hy63 => (intro wz hSw; (try dsimp only at hSw); first | (go_simp; done) | (go_simp; with_reducible rfl))
  try simp only [Act.put, List.getElem_toArray, List.getElem_cons_succ, List.getElem_cons_zero, List.setIfInBounds_toArray, List.set_cons_zero, List.set_cons_succ]
  refine wpAnyH_take (i := 3) (v := ?v64) rfl (by kernel_rfl) (by kernel_rfl) (by kernel_rfl) (fun _ _ _ h => h) (Or.inl ⟨by rfl, ?hy64⟩) (by assumption) ?rest64
  case hy64 => (intro wz hSw; (try dsimp only at hSw); first | (go_simp; done) | (go_simp; with_reducible rfl))
  try simp only [Act.put, List.getElem_toArray, List.getElem_cons_succ, List.getElem_cons_zero, List.setIfInBounds_toArray, List.set_cons_zero, List.set_cons_succ]
  refine wpAnyH_take (i := 4) (v := ?v65) rfl (by kernel_rfl) (by kernel_rfl) (by kernel_rfl) (fun _ _ _ h => h) (Or.inl ⟨by rfl, ?hy65⟩) (by assumption) ?rest65
  case hy65 => (intro wz hSw; (try dsimp only at hSw); first | (go_simp; done) | (go_simp; with_reducible rfl))
  try simp only [Act.put, List.getElem_toArray, List.getElem_cons_succ, List.getElem_cons_zero, List.setIfInBounds_toArray, List.set_cons_zero, List.set_cons_succ]
  refine wpAnyH_take (i := 5) (v := ?v66) rfl (by kernel_rfl) (by kernel_rfl) (by kernel_rfl) (fun _ _ _ h => h) (Or.inl ⟨by rfl, ?hy66⟩) (by assumption) ?rest66
  case hy66 => (intro wz hSw; (try dsimp only at hSw); first | (go_simp; done) | (go_simp; with_reducible rfl))
  try simp only [Act.put, List.getElem_toArray, List.getElem_cons_succ, List.getElem_cons_zero, List.setIfInBounds_toArray, List.set_cons_zero, List.set_cons_succ]
  refine wpAnyH_take (i := 6) (v := ?v67) rfl (by kernel_rfl) (by kernel_rfl) (by kernel_rfl) (fun _ _ _ h => h) (Or.inl ⟨by rfl, ?hy67⟩) (by assumption) ?rest67
  case hy67 => (intro wz hSw; (try dsimp only at hSw); first | (go_simp; done) | (go_simp; with_reducible rfl))
  try simp only [Act.put, List.getElem_toArray, List.getElem_cons_succ, List.getElem_cons_zero, List.setIfInBounds_toArray, List.set_cons_zero, List.set_cons_succ]
  refine wpAnyH_take (i := 7) (v := ?v68) rfl (by kernel_rfl) (by kernel_rfl) (by kernel_rfl) (fun _ _ _ h => h) (Or.inl ⟨by rfl, ?hy68⟩) (by assumption) ?rest68
  case hy68 => (intro wz hSw; (try dsimp only at hSw); first | (go_simp; done) | (go_simp; with_reducible rfl))
  try simp only [Act.put, List.getElem_toArray, List.getElem_cons_succ, List.getElem_cons_zero, List.setIfInBounds_toArray, List.set_cons_zero, List.set_cons_succ]
  refine wpAnyH_take (i := 8) (v := ?v69) rfl (by kernel_rfl) (by kernel_rfl) (by kernel_rfl) (fun _ _ _ h => h) (Or.inl ⟨by rfl, ?hy69⟩) (by assumption) ?rest69
  case hy69 => (intro wz hSw; (try dsimp only at hSw); first | (go_simp; done) | (go_simp; with_reducible rfl))
  try simp only [Act.put, List.getElem_toArray, List.getElem_cons_succ, List.getElem_cons_zero, List.setIfInBounds_toArray, List.set_cons_zero, List.set_cons_succ]
  refine wpAnyH_take (i := 9) (v := ?v70) rfl (by kernel_rfl) (by kernel_rfl) (by kernel_rfl) (fun _ _ _ h => h) (Or.inl ⟨by rfl, ?hy70⟩) (by assumption) ?rest70
  case hy70 => (intro wz hSw; (try dsimp only at hSw); first | (go_simp; done) | (go_simp; with_reducible rfl))
  try simp only [Act.put, List.getElem_toArray, List.getElem_cons_succ, List.getElem_cons_zero, List.setIfInBounds_toArray, List.set_cons_zero, List.set_cons_succ]
  refine wpAnyH_take (i := 10) (v := ?v71) rfl (by kernel_rfl) (by kernel_rfl) (by kernel_rfl) (fun _ _ _ h => h) (Or.inl ⟨by rfl, ?hy71⟩) (by assumption) ?rest71
  case hy71 => (intro wz hSw; (try dsimp only at hSw); first | (go_simp; done) | (go_simp; with_reducible rfl))
  try simp only [Act.put, List.getElem_toArray, List.getElem_cons_succ, List.getElem_cons_zero, List.setIfInBounds_toArray, List.set_cons_zero, List.set_cons_succ]
  refine wpAnyH_take (i := 11) (v := ?v72) rfl (by kernel_rfl) (by kernel_rfl) (by kernel_rfl) (fun _ _ _ h => h) (Or.inl ⟨by rfl, ?hy72⟩) (by assumption) ?rest72
  case hy72 => (intro wz hSw; (try dsimp only at hSw); first | (go_simp; done) | (go_simp; with_reducible rfl))
  try simp only [Act.put, List.getElem_toArray, List.getElem_cons_succ, List.getElem_cons_zero, List.setIfInBounds_toArray, List.set_cons_zero, List.set_cons_succ]
  refine wpAnyH_take (i := 12) (v := ?v73) rfl (by kernel_rfl) (by kernel_rfl) (by kernel_rfl) (fun _ _ _ h => h) (Or.inl ⟨by rfl, ?hy73⟩) (by assumption) ?rest73
  case hy73 => (intro wz hSw; (try dsimp only at hSw); first | (go_simp; done) | (go_simp; with_reducible rfl))
  try simp only [Act.put, List.getElem_toArray, List.getElem_cons_succ, List.getElem_cons_zero, List.setIfInBounds_toArray, List.set_cons_zero, List.set_cons_succ]
  refine wpAnyH_take (i := 13) (v := ?v74) rfl (by kernel_rfl) (by kernel_rfl) (by kernel_rfl) (fun _ _ _ h => h) (Or.inl ⟨by rfl, ?hy74⟩) (by assumption) ?rest74
  case hy74 => (intro wz hSw; (try dsimp only at hSw); first | (go_simp; done) | (go_simp; with_reducible rfl))
  try simp only [Act.put, List.getElem_toArray, List.getElem_cons_succ, List.getElem_cons_zero, List.setIfInBounds_toArray, List.set_cons_zero, List.set_cons_succ]
  refine wpAnyH_take (i := 14) (v := ?v75) rfl (by kernel_rfl) (by kernel_rfl) (by kernel_rfl) (fun _ _ _ h => h) (Or.inl ⟨by rfl, ?hy75⟩) (by assumption) ?rest75
  case hy75 => (intro wz hSw; (try dsimp only at hSw); first | (go_simp; done) | (go_simp; with_reducible rfl))
  try simp only [Act.put, List.getElem_toArray, List.getElem_cons_succ, List.getElem_cons_zero, List.setIfInBounds_toArray, List.set_cons_zero, List.set_cons_succ]
  refine wpAnyH_take (i := 15) (v := ?v76) rfl (by kernel_rfl) (by kernel_rfl) (by kernel_rfl) (fun _ _ _ h => h) (Or.inl ⟨by rfl, ?hy76⟩) (by assumption) ?rest76
  case hy76 => (intro wz hSw; (try dsimp only at hSw); first | (go_simp; done) | (go_simp; with_reducible rfl))
  try simp only [Act.put, List.getElem_toArray, List.getElem_cons_succ, List.getElem_cons_zero, List.setIfInBounds_toArray, List.set_cons_zero, List.set_cons_succ]
  refine wpAnyH_take (i := 16) (v := ?v77) rfl (by kernel_rfl) (by kernel_rfl) (by kernel_rfl) (fun _ _ _ h => h) (Or.inl ⟨by rfl, ?hy77⟩) (by assumption) ?rest77
  case hy77 => (intro wz hSw; (try dsimp only at hSw); first | (go_simp; done) | (go_simp; with_reducible rfl))
  try simp only [Act.put, List.getElem_toArray, List.getElem_cons_succ, List.getElem_cons_zero, List.setIfInBounds_toArray, List.set_cons_zero, List.set_cons_succ]
  refine wpAnyH_take (i := 17) (v := ?v78) rfl (by kernel_rfl) (by kernel_rfl) (by kernel_rfl) (fun _ _ _ h => h) (Or.inl ⟨by rfl, ?hy78⟩) (by assumption) ?rest78
  case hy78 => (intro wz hSw; (try dsimp only at hSw); first | (go_simp; done) | (go_simp; with_reducible rfl))
  try simp only [Act.put, List.getElem_toArray, List.getElem_cons_succ, List.getElem_cons_zero, List.setIfInBounds_toArray, List.set_cons_zero, List.set_cons_succ]
  refine wpAnyH_take (i := 18) (v := ?v79) rfl (by kernel_rfl) (by kernel_rfl) (by kernel_rfl) (fun _ _ _ h => h) (Or.inl ⟨by rfl, ?hy79⟩) (by assumption) ?rest79
  case hy79 => (intro wz hSw; (try dsimp only at hSw); first | (go_simp; done) | (go_simp; with_reducible rfl))
  try simp only [Act.put, List.getElem_toArray, List.getElem_cons_succ, List.getElem_cons_zero, List.setIfInBounds_toArray, List.set_cons_zero, List.set_cons_succ]
  refine wpAnyH_take (i := 19) (v := ?v80) rfl (by kernel_rfl) (by kernel_rfl) (by kernel_rfl) (fun _ _ _ h => h) (Or.inl ⟨by rfl, ?hy80⟩) (by assumption) ?rest80
  case hy80 => (intro wz hSw; (try dsimp only at hSw); first | (go_simp; done) | (go_simp; with_reducible rfl))
  try simp only [Act.put, List.getElem_toArray, List.getElem_cons_succ, List.getElem_cons_zero, List.setIfInBounds_toArray, List.set_cons_zero, List.set_cons_succ]
  refine wpAnyH_done (by kernel_rfl) ?_ _
  go_wp2
  go_ret2
  exact ⟨rfl, gb_dr1 GZ.out⟩
end Go.Proofs.Ytdbjeihbfooipaa
