/- Register: equality of rows on both sides; no condition but sizes. -/
import Derived.Test.YtolifmpnhflegaaRgC
namespace Go.Proofs.Ytolifmpnhflegaa
open Go.RowKit
set_option linter.unusedVariables false

set_option maxRecDepth 100000 in
set_option maxHeartbeats 1000000 in
theorem requ_any (w : World) (a b : Option Addr) (n c m d : Nat) (X Y : List Int) (h : SU w a n c X) (g : SU w b m d Y) (hn : n ≤ 1000000) (hm : m ≤ 1000000) :
    Calls Try.prog 37 #[.slice a n c, .slice b m d] w (RetD (.bool (decide (X = Y))) w) := by
  have H1 := Lib.hid h
  have H2 := Lib.hid g
  have hx := h.len
  have hy := g.len
  clear h g
  by_cases hl : X.length = Y.length
  · have e0 : n = m := by omega
    have HX := Lib.hid hx
    have HY := Lib.hid (show Y.length = n by omega)
    clear hx hy hl
    subst e0
    go_enter Try.func37, Try.ntmps37
    go_wp2
    go_loopw [5] (fun s wr => ∃ k : Nat, k ≤ n ∧ s = .int .i64 k ∧ (∀ j, j < k → X.getD j 0 = Y.getD j 0) ∧ ∃ m, wr = w.drewN m) (fun s _ => n - (intOf s).toNat)
    case atStart => exact ⟨0, Nat.zero_le _, rfl, fun j hj => absurd hj (Nat.not_lt_zero _), dn_zero _⟩
    case round =>
      obtain ⟨k, hk, rfl, hno, hg⟩ := hrel
      have HG := Lib.hid hg
      have HN := Lib.hid hno
      clear hg hno
      by_cases hlt : k < n
      · obtain ⟨ar, rfl⟩ := H1.out.some (by omega)
        obtain ⟨br, rfl⟩ := H2.out.some (by omega)
        have c1 := (H1.out.keep0 (dn_gb HG.out _)).cells ar rfl k hlt
        have c2 := (H2.out.keep0 (dn_gb HG.out _)).cells br rfl k hlt
        have i0 : (0 : Int) ≤ (k : Int) := by omega
        have i2 : (k : Int) < (n : Int) := by omega
        by_cases he : X.getD k 0 = Y.getD k 0
        · have HA := Lib.hid (show ∀ j, j < k + 1 → X.getD j 0 = Y.getD j 0 from fun j hj => by
            rcases (show j < k ∨ j = k by omega) with q | rfl
            · exact HN.out j q
            · exact he)
          rw [← he] at c2
          clear he
          generalize X.getD k 0 = z at *
          go_wp2
          (try go_quiet (fail))
          (try go_wp2)
          go_roundw
          case rel => exact ⟨k + 1, by omega, by go_num, HA.out, dn_more HG.out _⟩
          case measure => simp [intOf]; omega
        · have HE := Lib.hid (show decide (X = Y) = false from decide_eq_false fun e => he (by rw [e]))
          generalize X.getD k 0 = z at *
          generalize Y.getD k 0 = y at *
          go_wp2
          (try go_quiet (fail))
          (try go_wp2)
          go_ret
          exact ⟨by rw [HE.out] <;> rfl, dn_more HG.out _⟩
      · have hke : k = n := by omega
        subst hke
        have HE := Lib.hid (show decide (X = Y) = true from decide_eq_true (by
          apply List.ext_getElem (by rw [HX.out, HY.out])
          intro i h1 h2
          have q := HN.out i (by have := HX.out; omega)
          simpa [h1, h2] using q))
        go_wp2
        go_ret
        exact ⟨by rw [HE.out] <;> rfl, HG.out⟩
  · have HE := Lib.hid (show decide (X = Y) = false from decide_eq_false fun e => hl (by rw [e]))
    have hne : ¬ n = m := by omega
    have hne2 : ¬ (n : Int) = (m : Int) := by omega
    clear hx hy hl
    go_enter Try.func37, Try.ntmps37
    go_wp2
    go_ret
    exact ⟨by rw [HE.out] <;> rfl, dn_zero _⟩

set_option maxRecDepth 100000 in
set_option maxHeartbeats 1000000 in
theorem sequ_any (w : World) (a b : Option Addr) (n c m d : Nat) (X Y : List Int) (h : SU w a n c X) (g : SU w b m d Y) (hn : n ≤ 1000000) (hm : m ≤ 1000000) :
    Calls Try.prog 54 #[.slice a n c, .slice b m d] w (RetD (.bool (decide (X = Y))) w) := by
  have H1 := Lib.hid h
  have H2 := Lib.hid g
  have hx := h.len
  have hy := g.len
  clear h g
  by_cases hl : X.length = Y.length
  · have e0 : n = m := by omega
    have HX := Lib.hid hx
    have HY := Lib.hid (show Y.length = n by omega)
    clear hx hy hl
    subst e0
    go_enter Try.func54, Try.ntmps54
    go_wp2
    go_loopw [13] (fun s wr => ∃ k : Nat, k ≤ n ∧ s = .int .i64 k ∧ (∀ j, j < k → X.getD j 0 = Y.getD j 0) ∧ ∃ m, wr = w.drewN m) (fun s _ => n - (intOf s).toNat)
    case atStart => exact ⟨0, Nat.zero_le _, rfl, fun j hj => absurd hj (Nat.not_lt_zero _), dn_zero _⟩
    case round =>
      obtain ⟨k, hk, rfl, hno, hg⟩ := hrel
      have HG := Lib.hid hg
      have HN := Lib.hid hno
      clear hg hno
      by_cases hlt : k < n
      · obtain ⟨ar, rfl⟩ := H1.out.some (by omega)
        obtain ⟨br, rfl⟩ := H2.out.some (by omega)
        have c1 := (H1.out.keep0 (dn_gb HG.out _)).cells ar rfl k hlt
        have c2 := (H2.out.keep0 (dn_gb HG.out _)).cells br rfl k hlt
        have i0 : (0 : Int) ≤ (k : Int) := by omega
        have i2 : (k : Int) < (n : Int) := by omega
        by_cases he : X.getD k 0 = Y.getD k 0
        · have HA := Lib.hid (show ∀ j, j < k + 1 → X.getD j 0 = Y.getD j 0 from fun j hj => by
            rcases (show j < k ∨ j = k by omega) with q | rfl
            · exact HN.out j q
            · exact he)
          rw [← he] at c2
          clear he
          generalize X.getD k 0 = z at *
          go_wp2
          (try go_quiet (fail))
          (try go_wp2)
          go_roundw
          case rel => exact ⟨k + 1, by omega, by go_num, HA.out, dn_more HG.out _⟩
          case measure => simp [intOf]; omega
        · have HE := Lib.hid (show decide (X = Y) = false from decide_eq_false fun e => he (by rw [e]))
          generalize X.getD k 0 = z at *
          generalize Y.getD k 0 = y at *
          go_wp2
          (try go_quiet (fail))
          (try go_wp2)
          go_ret
          exact ⟨by rw [HE.out] <;> rfl, dn_more HG.out _⟩
      · have hke : k = n := by omega
        subst hke
        have HE := Lib.hid (show decide (X = Y) = true from decide_eq_true (by
          apply List.ext_getElem (by rw [HX.out, HY.out])
          intro i h1 h2
          have q := HN.out i (by have := HX.out; omega)
          simpa [h1, h2] using q))
        go_wp2
        go_ret
        exact ⟨by rw [HE.out] <;> rfl, HG.out⟩
  · have HE := Lib.hid (show decide (X = Y) = false from decide_eq_false fun e => hl (by rw [e]))
    have hne : ¬ n = m := by omega
    have hne2 : ¬ (n : Int) = (m : Int) := by omega
    clear hx hy hl
    go_enter Try.func54, Try.ntmps54
    go_wp2
    go_ret
    exact ⟨by rw [HE.out] <;> rfl, dn_zero _⟩
end Go.Proofs.Ytolifmpnhflegaa
