/- Cubeset: slices.Index and slices.Contains of numbers. -/
import Derived.Test.YteemhabgliglmaaCsR
namespace Go.Proofs.Yteemhabgliglmaa
open Go.RowKit
set_option linter.unusedVariables false
/-- A number as a value. -/
def u64V (x : Nat) : Value := .int .u64 (x : Int)
theorem any_snoc (L : List Nat) (P : Nat → Bool) (j : Nat) (h : j < L.length) : (L.take (j + 1)).any P = ((L.take j).any P || P (L.getD j 0)) := by
  rw [take_one L 0 j h, List.any_append]; simp
set_option maxRecDepth 100000 in
set_option maxHeartbeats 4000000 in
theorem uix_any (w : World) (a : Option Addr) (n c : Nat) (L : List Nat) (h : SlR w a n c (L.map u64V)) (hn : n ≤ 100000) (x : Nat) : Calls Try.prog 76 #[.slice a n c, .int .u64 x] w (fun e w' => ∃ i : Int, e = .returned (.int .i64 i) ∧ ((L.any (· == x) = true ∧ 0 ≤ i) ∨ (L.any (· == x) = false ∧ i = -1)) ∧ w.grownBy w' none) := by
  have HH := Lib.hid h
  have HL := Lib.hid (show L.length = n by have := h.1; rwa [List.length_map] at this)
  clear h
  go_enter Try.func76, Try.ntmps76
  go_wp2
  go_loopw [8] (fun i wr => ∃ j : Nat, j ≤ n ∧ i = .int .i64 j ∧ (L.take j).any (· == x) = false ∧ w.grownBy wr none) (fun i _ => n - (intOf i).toNat)
  case atStart => exact ⟨0, Nat.zero_le _, rfl, rfl, gb_refl _ _⟩
  case round =>
    obtain ⟨j, hj, rfl, ht, hg⟩ := hrel
    have HT := Lib.hid ht
    have HG := Lib.hid hg
    clear ht hg
    by_cases hlt : j < n
    · have hl : j < L.length := by rw [HL.out]; exact hlt
      obtain ⟨ad, rfl⟩ : ∃ ad, a = some ad := by
        cases a with
        | none => have := (HH.out.2.1 rfl).1; omega
        | some ad => exact ⟨ad, rfl⟩
      have i1 : (j : Int) < n := by omega
      have i0 : (0 : Int) ≤ (j : Int) := by omega
      have c0 := (HH.out.keep0 HG.out).2.2 ad rfl j (u64V (L.getD j 0)) (by rw [List.getElem?_map, List.getElem?_eq_getElem hl, List.getD_eq_getElem?_getD, List.getElem?_eq_getElem hl]; rfl)
      unfold u64V at c0
      have ST := Lib.hid (any_snoc L (· == x) j hl)
      have YES := Lib.hid (show (L.getD j 0 == x) = true → L.any (· == x) = true from fun e => by
        rw [List.any_eq_true]
        exact ⟨L.getD j 0, by rw [List.getD_eq_getElem?_getD, List.getElem?_eq_getElem hl]; exact List.getElem_mem _, e⟩)
      generalize L.getD j 0 = y at *
      clear hl
      by_cases hh : y = x
      · have R2 := Lib.hid (YES.out (by rw [hh]; simp))
        subst hh
        clear ST YES
        go_wp2
        go_ret
        exact ⟨_, rfl, .inl ⟨R2.out, by omega⟩, HG.out⟩
      · have S2 := Lib.hid (show (L.take (j + 1)).any (· == x) = false by rw [ST.out, HT.out]; simpa using hh)
        have n1 : ¬ (y : Int) = x := by omega
        have n2 : ¬ (x : Int) = y := by omega
        have n3 : ((x : Int) == (y : Int)) = false := by rw [beq_eq_false_iff_ne]; exact n2
        clear ST YES
        go_wp2
        go_roundw
        case rel => exact ⟨j + 1, by omega, by go_num, S2.out, HG.out⟩
        case measure => simp [intOf]; omega
    · have hje : j = n := by omega
      have R2 := Lib.hid (show L.any (· == x) = false by have := HT.out; rwa [List.take_of_length_le (by rw [HL.out]; omega)] at this)
      subst hje
      go_wp2
      go_ret
      exact ⟨_, rfl, .inr ⟨R2.out, rfl⟩, HG.out⟩
theorem uct_any (w : World) (a : Option Addr) (n c : Nat) (L : List Nat) (h : SlR w a n c (L.map u64V)) (hn : n ≤ 100000) (x : Nat) : Calls Try.prog 72 #[.slice a n c, .int .u64 x] w (RetV (.bool (L.any (· == x))) w) := by
  have IX := Lib.hid (uix_any w a n c L h hn x)
  clear h
  go_enter Try.func72, Try.ntmps72
  go_wp2_with fail
  refine IX.out.mono ?_
  rintro e w3 ⟨i, rfl, hi, g3⟩
  have G3 := Lib.hid g3
  clear g3
  rcases hi with ⟨ha, h0⟩ | ⟨ha, rfl⟩
  · have HA := Lib.hid ha
    clear ha
    go_wp2
    go_ret
    exact ⟨by rw [HA.out]; rfl, G3.out⟩
  · have HA := Lib.hid ha
    clear ha
    go_wp2
    go_ret
    exact ⟨by rw [HA.out]; rfl, G3.out⟩
end Go.Proofs.Yteemhabgliglmaa
