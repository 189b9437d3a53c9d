/- Cubeset: the program's Min. -/
import Derived.Test.YteemhabgliglmaaCsK
namespace Go.Proofs.Yteemhabgliglmaa
open Go.RowKit
set_option linter.unusedVariables false

theorem minI_pred (L : List (Nat × Nat)) (k : Nat) : minI L k = min (minI L (k - 1)) (minN (L.getD k (0, 0)).1 (L.getD k (0, 0)).2) := by
  cases k with
  | zero => exact (Nat.min_self _).symm
  | succ k => rfl
set_option maxRecDepth 100000 in
set_option maxHeartbeats 4000000 in
theorem minS_any (w : World) (a : Option Addr) (n c : Nat) (L : List (Nat × Nat)) (h : SC w a n c L) (hn : n ≤ 100000) : Calls Try.prog 32 #[.slice a n c] w (RetIB (if n = 0 then 0 else (minI L (n - 1) : Nat)) (decide (n ≠ 0)) w) := by
  by_cases h0 : n = 0
  · subst h0
    rw [if_pos rfl]
    clear h
    go_enter Try.func32, Try.ntmps32
    go_wp2
    go_ret2
    exact ⟨by first | rfl | simp, gb_refl _ _⟩
  · rw [if_neg h0, decide_eq_true h0]
    obtain ⟨ad, rfl⟩ := h.some (by omega)
    have HH := Lib.hid h
    obtain ⟨r, hr⟩ : ∃ r, r = minI L (n - 1) := ⟨_, rfl⟩
    rw [← hr]
    have HR := Lib.hid hr
    have C0 := Lib.hid (h.cells ad rfl 0 (by omega))
    obtain ⟨b0, b1⟩ := h.wfAt 0 (by omega)
    have M0 := Lib.hid (show minI L 0 = minN (L.getD 0 (0, 0)).1 (L.getD 0 (0, 0)).2 from rfl)
    obtain ⟨p, hp⟩ : ∃ p, p = L.getD 0 (0, 0) := ⟨_, rfl⟩
    rw [← hp] at C0 b0 b1 M0
    obtain ⟨v, m⟩ := p
    have RM := Lib.hid (fun w => min_any w v m b0 b1)
    unfold RetV at RM
    obtain ⟨c0, c1⟩ := C0.out
    simp only [Nat.zero_mul, Addr.add_zero'] at c0 c1
    have n0 : (0 : Int) < n := by omega
    have n1 : ((n : Int) == 0) = false := by rw [beq_eq_false_iff_ne]; omega
    have n2 : ¬ (n : Int) = 0 := by omega
    have MB := Lib.hid (show B64 (minN v m) from Nat.lt_of_le_of_lt Nat.and_le_left b0)
    obtain ⟨x0, hx0⟩ : ∃ x0, x0 = minN v m := ⟨_, rfl⟩
    rw [← hx0] at RM MB M0
    clear h hr hp b0 b1 C0 h0 hx0
    go_enter Try.func32, Try.ntmps32
    go_wp2_with fail
    refine (RM.out _).mono ?_
    rintro e w1 ⟨rfl, g1⟩
    have G1 := Lib.hid g1
    clear g1 c0 c1 RM
    go_wp2
    go_loopw [4, 16] (fun o s wr => ∃ j : Nat, j ≤ n ∧ s = .int .i64 (j : Int) ∧ o = .int .u64 (minI L (j - 1) : Nat) ∧ w.grownBy wr none) (fun _ s _ => n - (intOf s).toNat)
    case atStart => exact ⟨0, by omega, by go_num, by rw [M0.out], G1.out⟩
    case round =>
      obtain ⟨q, hj, rfl, rfl, hg⟩ := hrel
      have HG := Lib.hid hg
      clear hg
      have MS := Lib.hid (minI_pred L q)
      obtain ⟨y, hy⟩ : ∃ y, y = minI L (q - 1) := ⟨_, rfl⟩
      rw [← hy] at MS ⊢
      have HY := Lib.hid hy
      clear hy
      by_cases hlt : q < n
      · have i1 : (q : Int) < n := by omega
        have i0 : (0 : Int) ≤ (q : Int) := by omega
        obtain ⟨c0, c1⟩ := (HH.out.keep0 HG.out).cells ad rfl q hlt
        obtain ⟨b0, b1⟩ := HH.out.wfAt q hlt
        obtain ⟨p, hp⟩ : ∃ p, p = L.getD q (0, 0) := ⟨_, rfl⟩
        rw [← hp] at c0 c1 b0 b1 MS
        obtain ⟨v2, m2⟩ := p
        have RM := Lib.hid (fun w => min_any w v2 m2 b0 b1)
        unfold RetV at RM
        generalize minN v2 m2 = z at *
        clear hp b0 b1
        go_wp2_with fail
        refine (RM.out _).mono ?_
        rintro e w3 ⟨rfl, g3⟩
        have G3 := Lib.hid (gb_trans HG.out (gb_trans (gb_alloc wr _ none) g3))
        clear g3 c0 c1
        by_cases hyz : y ≤ z
        · have i2 : (y : Int) ≤ z := by omega
          have i3 : ¬ (z : Int) < y := by omega
          have M2 := Lib.hid (show minI L q = y by rw [MS.out]; exact Nat.min_eq_left hyz)
          go_wp2
          go_roundw
          case rel => exact ⟨q + 1, by omega, by go_num, by rw [Nat.add_sub_cancel, M2.out, Int.min_eq_left i2], G3.out⟩
          case measure => simp [intOf]; omega
        · have i2 : ¬ (y : Int) ≤ z := by omega
          have i3 : (z : Int) < y := by omega
          have M2 := Lib.hid (show minI L q = z by rw [MS.out]; exact Nat.min_eq_right (by omega))
          go_wp2
          go_roundw
          case rel => exact ⟨q + 1, by omega, by go_num, by rw [Nat.add_sub_cancel, M2.out, Int.min_eq_right (by omega)], G3.out⟩
          case measure => simp [intOf]; omega
      · have hqe : q = n := by omega
        have RR := Lib.hid (show r = y by rw [HR.out, HY.out, ← hqe])
        have i1 : ¬ (q : Int) < n := by omega
        clear hlt
        go_wp2
        go_ret2
        rw [RR.out]
        exact ⟨rfl, HG.out⟩
end Go.Proofs.Yteemhabgliglmaa
