/- Cubeset: the reference's Min. -/
import Derived.Test.YteemhabgliglmaaCsJ
namespace Go.Proofs.Yteemhabgliglmaa
open Go.RowKit
set_option linter.unusedVariables false

/-- The least of the first j + 1 cubes' least numbers. -/
def minI (L : List (Nat × Nat)) : Nat → Nat
  | 0 => minN (L.getD 0 (0, 0)).1 (L.getD 0 (0, 0)).2
  | j + 1 => min (minI L j) (minN (L.getD (j + 1) (0, 0)).1 (L.getD (j + 1) (0, 0)).2)
def RetIB (x : Int) (b : Bool) (w : World) (e : Ending) (w' : World) : Prop := e = .returned (.tuple #[.int .u64 x, .bool b]) ∧ w.grownBy w' none
set_option maxRecDepth 100000 in
set_option maxHeartbeats 4000000 in
theorem rminS_any (w : World) (a : Option Addr) (n c : Nat) (L : List (Nat × Nat)) (h : SC w a n c L) (hn : n ≤ 100000) : Calls Try.prog 33 #[.slice a n c] w (RetIB (if n = 0 then 0 else (minI L (n - 1) : Nat)) (decide (n ≠ 0)) w) := by
  by_cases h0 : n = 0
  · subst h0
    rw [if_pos rfl]
    clear h
    go_enter Try.func33, Try.ntmps33
    go_wp2
    go_ret2
    exact ⟨by first | rfl | simp, gb_refl _ _⟩
  · rw [if_neg h0, decide_eq_true h0]
    obtain ⟨ad, rfl⟩ := h.some (by omega)
    have HH := Lib.hid h
    obtain ⟨r, hr⟩ : ∃ r, r = minI L (n - 1) := ⟨_, rfl⟩
    rw [← hr]
    have HR := Lib.hid hr
    have C0 := Lib.hid (h.cells ad rfl 0 (by omega))
    obtain ⟨b0, b1⟩ := h.wfAt 0 (by omega)
    have M0 := Lib.hid (show minI L 0 = minN (L.getD 0 (0, 0)).1 (L.getD 0 (0, 0)).2 from rfl)
    obtain ⟨p, hp⟩ : ∃ p, p = L.getD 0 (0, 0) := ⟨_, rfl⟩
    rw [← hp] at C0 b0 b1 M0
    obtain ⟨v, m⟩ := p
    have RM := Lib.hid (fun w => rmin_any w v m b0 b1)
    unfold RetV at RM
    obtain ⟨c0, c1⟩ := C0.out
    simp only [Nat.zero_mul, Addr.add_zero'] at c0 c1
    have n0 : (0 : Int) < n := by omega
    have n1 : ((n : Int) == 0) = false := by rw [beq_eq_false_iff_ne]; omega
    have n2 : ¬ (n : Int) = 0 := by omega
    have MB := Lib.hid (show B64 (minN v m) from Nat.lt_of_le_of_lt Nat.and_le_left b0)
    obtain ⟨x0, hx0⟩ : ∃ x0, x0 = minN v m := ⟨_, rfl⟩
    rw [← hx0] at RM MB M0
    clear h hr hp b0 b1 C0 h0 hx0
    go_enter Try.func33, Try.ntmps33
    go_wp2_with fail
    refine (RM.out _).mono ?_
    rintro e w1 ⟨rfl, g1⟩
    have G1 := Lib.hid g1
    clear g1 c0 c1 RM
    go_wp2
    go_loopw [4, 5] (fun o s wr => ∃ j : Nat, j + 1 ≤ n ∧ s = .int .i64 ((j : Int) + 1) ∧ o = .int .u64 (minI L j : Nat) ∧ w.grownBy wr none) (fun _ s _ => n - (intOf s).toNat)
    case atStart => exact ⟨0, by omega, by go_num, by rw [M0.out], G1.out⟩
    case round =>
      obtain ⟨j, hj, rfl, rfl, hg⟩ := hrel
      have HG := Lib.hid hg
      clear hg
      have MS := Lib.hid (show minI L (j + 1) = min (minI L j) (minN (L.getD (j + 1) (0, 0)).1 (L.getD (j + 1) (0, 0)).2) from rfl)
      obtain ⟨y, hy⟩ : ∃ y, y = minI L j := ⟨_, rfl⟩
      rw [← hy] at MS ⊢
      have HY := Lib.hid hy
      clear hy
      obtain ⟨q, hq⟩ : ∃ q : Nat, q = j + 1 := ⟨_, rfl⟩
      have e1 : (j : Int) + 1 = (q : Int) := by omega
      rw [← hq] at MS
      rw [e1]
      have HQ := Lib.hid hq
      by_cases hlt : q < n
      · have i1 : (q : Int) < n := by omega
        have i0 : (0 : Int) ≤ (q : Int) := by omega
        obtain ⟨c0, c1⟩ := (HH.out.keep0 HG.out).cells ad rfl q hlt
        obtain ⟨b0, b1⟩ := HH.out.wfAt q hlt
        obtain ⟨p, hp⟩ : ∃ p, p = L.getD q (0, 0) := ⟨_, rfl⟩
        rw [← hp] at c0 c1 b0 b1 MS
        obtain ⟨v2, m2⟩ := p
        have RM := Lib.hid (fun w => rmin_any w v2 m2 b0 b1)
        unfold RetV at RM
        generalize minN v2 m2 = z at *
        clear hp b0 b1 e1 hq
        go_wp2_with fail
        refine (RM.out _).mono ?_
        rintro e w3 ⟨rfl, g3⟩
        have G3 := Lib.hid (gb_trans HG.out g3)
        clear g3 c0 c1
        by_cases hyz : y ≤ z
        · have i2 : (y : Int) ≤ z := by omega
          have i3 : ¬ (z : Int) < y := by omega
          have M2 := Lib.hid (show minI L q = y by rw [MS.out]; exact Nat.min_eq_left hyz)
          go_wp2
          go_roundw
          case rel => exact ⟨q, by omega, by go_num, by rw [M2.out, Int.min_eq_left i2], G3.out⟩
          case measure => simp [intOf]; omega
        · have i2 : ¬ (y : Int) ≤ z := by omega
          have i3 : (z : Int) < y := by omega
          have M2 := Lib.hid (show minI L q = z by rw [MS.out]; exact Nat.min_eq_right (by omega))
          go_wp2
          go_roundw
          case rel => exact ⟨q, by omega, by go_num, by rw [M2.out, Int.min_eq_right (by omega)], G3.out⟩
          case measure => simp [intOf]; omega
      · have hqe : q = n := by omega
        have RR := Lib.hid (show r = y by rw [HR.out, HY.out, ← hqe, HQ.out]; rfl)
        have i1 : ¬ (q : Int) < n := by omega
        clear e1 hq hlt
        go_wp2
        go_ret2
        rw [RR.out]
        exact ⟨rfl, HG.out⟩
end Go.Proofs.Yteemhabgliglmaa
