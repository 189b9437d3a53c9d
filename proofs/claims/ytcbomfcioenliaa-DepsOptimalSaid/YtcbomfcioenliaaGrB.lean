/- The comparison of the reference: EqualInts; the walks; no condition. -/
import Derived.Test.YtcbomfcioenliaaGrA
namespace Go.Proofs.Ytcbomfcioenliaa
open Go.RowKit
set_option linter.unusedVariables false

theorem SlR.len' {w : World} {a : Option Addr} {n c : Nat} {f : Int → Value} {zs : List Int} (h : SlR w a n c (zs.map f)) : zs.length = n := by simpa using h.1
theorem eq_of_getD {xs ys : List Int} (hl : xs.length = ys.length) (h : ∀ j, j < xs.length → xs.getD j 0 = ys.getD j 0) : xs = ys := by
  apply List.ext_getElem hl
  intro j h1 h2
  have := h j h1
  simpa [h1, h2] using this

theorem reqints_any (w : World) (a b : Option Addr) (n c m d : Nat) (xs ys : List Int) (h : SlR w a n c (xs.map (Value.int .i64))) (g : SlR w b m d (ys.map (Value.int .i64))) (hn : n ≤ 9223372036854775807) (hm : m ≤ 9223372036854775807) :
    Calls Try.prog 8 #[.slice a n c, .slice b m d] w (RetD (.bool (decide (xs = ys))) w) := by
  have hx := h.len'
  have hy := g.len'
  subst hx hy
  have H1 := Lib.hid h
  have H2 := Lib.hid g
  clear h g
  by_cases hl : xs.length = ys.length
  · go_enter Try.func8, Try.ntmps8
    go_wp2
    go_loopw [5] (fun s wr => ∃ k : Nat, k ≤ xs.length ∧ s = .int .i64 k ∧ (∀ j, j < k → xs.getD j 0 = ys.getD j 0) ∧ ∃ m, wr = w.drewN m) (fun s _ => xs.length - (intOf s).toNat)
    case atStart => exact ⟨0, Nat.zero_le _, rfl, fun j hj => absurd hj (Nat.not_lt_zero _), dn_zero _⟩
    case round =>
      obtain ⟨k, hk, rfl, hno, hg⟩ := hrel
      have HG := Lib.hid hg
      have HN := Lib.hid hno
      clear hg hno
      by_cases hlt : k < xs.length
      · cases a with
        | none => exact absurd (H1.out.2.1 rfl).1 (by omega)
        | some ar =>
          cases b with
          | none => exact absurd (H2.out.2.1 rfl).1 (by omega)
          | some br =>
            have c1 := (H1.out.keep0 (dn_gb HG.out _)).cellAt k hlt
            have c2 := (H2.out.keep0 (dn_gb HG.out _)).cellAt k (by omega)
            have i2 : (k : Int) < (xs.length : Int) := by omega
            have i3 : (k : Int) < (ys.length : Int) := by omega
            by_cases he : xs.getD k 0 = ys.getD k 0
            · have HY := Lib.hid (show ∀ j, j < k + 1 → xs.getD j 0 = ys.getD j 0 from fun j hj => by
                rcases (show j < k ∨ j = k by omega) with q | rfl
                · exact HN.out j q
                · exact he)
              rw [← he] at c2
              clear he
              generalize xs.getD k 0 = z at *
              go_wp2
              go_quiet (fail)
              go_wp2
              go_roundw
              case rel => exact ⟨k + 1, by omega, by go_num, HY.out, dn_more HG.out _⟩
              case measure => simp [intOf]; omega
            · have HE := Lib.hid (show ¬ xs = ys from fun e => he (by rw [e]))
              generalize xs.getD k 0 = z at *
              generalize ys.getD k 0 = y at *
              go_wp2
              go_quiet (fail)
              go_wp2
              go_ret
              exact ret_bd (decide_eq_false HE.out).symm (dn_more HG.out _)
      · have i2 : ¬ (k : Int) < (xs.length : Int) := by omega
        have HE := Lib.hid (show xs = ys from eq_of_getD hl fun j hj => HN.out j (by omega))
        go_wp2
        go_ret
        exact ret_bd (decide_eq_true HE.out).symm HG.out
  · have HE := Lib.hid (show ¬ xs = ys from fun e => hl (by rw [e]))
    go_enter Try.func8, Try.ntmps8
    go_wp2
    go_ret
    exact ret_bd (decide_eq_false HE.out).symm (dn_zero _)

end Go.Proofs.Ytcbomfcioenliaa
