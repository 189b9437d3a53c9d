/- The comparisons of the reference: EqualInts, EqualBools, EqualGraphs; the walks; no condition. -/
import Derived.Test.YtaikpjnegopelaaGrA
namespace Go.Proofs.Ytaikpjnegopelaa
open Go.RowKit
set_option linter.unusedVariables false

theorem SlR.len' {w : World} {a : Option Addr} {n c : Nat} {f : Int → Value} {zs : List Int} (h : SlR w a n c (zs.map f)) : zs.length = n := by simpa using h.1
theorem eq_of_getD {xs ys : List Int} (hl : xs.length = ys.length) (h : ∀ j, j < xs.length → xs.getD j 0 = ys.getD j 0) : xs = ys := by
  apply List.ext_getElem hl
  intro j h1 h2
  have := h j h1
  simpa [h1, h2] using this

theorem reqints_any (w : World) (a b : Option Addr) (n c m d : Nat) (xs ys : List Int) (h : SlR w a n c (xs.map (Value.int .i64))) (g : SlR w b m d (ys.map (Value.int .i64))) (hn : n ≤ 9223372036854775807) (hm : m ≤ 9223372036854775807) :
    Calls Try.prog 19 #[.slice a n c, .slice b m d] w (RetD (.bool (decide (xs = ys))) w) := by
  have hx := h.len'
  have hy := g.len'
  subst hx hy
  have H1 := Lib.hid h
  have H2 := Lib.hid g
  clear h g
  by_cases hl : xs.length = ys.length
  · go_enter Try.func19, Try.ntmps19
    go_wp2
    go_loopw [5] (fun s wr => ∃ k : Nat, k ≤ xs.length ∧ s = .int .i64 k ∧ (∀ j, j < k → xs.getD j 0 = ys.getD j 0) ∧ ∃ m, wr = w.drewN m) (fun s _ => xs.length - (intOf s).toNat)
    case atStart => exact ⟨0, Nat.zero_le _, rfl, fun j hj => absurd hj (Nat.not_lt_zero _), dn_zero _⟩
    case round =>
      obtain ⟨k, hk, rfl, hno, hg⟩ := hrel
      have HG := Lib.hid hg
      have HN := Lib.hid hno
      clear hg hno
      by_cases hlt : k < xs.length
      · cases a with
        | none => exact absurd (H1.out.2.1 rfl).1 (by omega)
        | some ar =>
          cases b with
          | none => exact absurd (H2.out.2.1 rfl).1 (by omega)
          | some br =>
            have c1 := (H1.out.keep0 (dn_gb HG.out _)).cellAt k hlt
            have c2 := (H2.out.keep0 (dn_gb HG.out _)).cellAt k (by omega)
            have i2 : (k : Int) < (xs.length : Int) := by omega
            have i3 : (k : Int) < (ys.length : Int) := by omega
            by_cases he : xs.getD k 0 = ys.getD k 0
            · have HY := Lib.hid (show ∀ j, j < k + 1 → xs.getD j 0 = ys.getD j 0 from fun j hj => by
                rcases (show j < k ∨ j = k by omega) with q | rfl
                · exact HN.out j q
                · exact he)
              rw [← he] at c2
              clear he
              generalize xs.getD k 0 = z at *
              go_wp2
              go_quiet (fail)
              go_wp2
              go_roundw
              case rel => exact ⟨k + 1, by omega, by go_num, HY.out, dn_more HG.out _⟩
              case measure => simp [intOf]; omega
            · have HE := Lib.hid (show ¬ xs = ys from fun e => he (by rw [e]))
              generalize xs.getD k 0 = z at *
              generalize ys.getD k 0 = y at *
              go_wp2
              go_quiet (fail)
              go_wp2
              go_ret
              exact ret_bd (decide_eq_false HE.out).symm (dn_more HG.out _)
      · have i2 : ¬ (k : Int) < (xs.length : Int) := by omega
        have HE := Lib.hid (show xs = ys from eq_of_getD hl fun j hj => HN.out j (by omega))
        go_wp2
        go_ret
        exact ret_bd (decide_eq_true HE.out).symm HG.out
  · have HE := Lib.hid (show ¬ xs = ys from fun e => hl (by rw [e]))
    go_enter Try.func19, Try.ntmps19
    go_wp2
    go_ret
    exact ret_bd (decide_eq_false HE.out).symm (dn_zero _)

theorem SlR.boolAt {w : World} {ad : Addr} {n c : Nat} {zs : List Bool} (h : SlR w (some ad) n c (zs.map Value.bool)) (j : Nat) (hj : j < zs.length) : w.cell? (ad.add j) = some (.bool (zs.getD j false)) := by
  refine h.2.2 ad rfl j _ ?_
  simp [hj]
theorem eq_of_getB {xs ys : List Bool} (hl : xs.length = ys.length) (h : ∀ j, j < xs.length → xs.getD j false = ys.getD j false) : xs = ys := by
  apply List.ext_getElem hl
  intro j h1 h2
  have := h j h1
  simpa [h1, h2] using this
theorem reqbools_any (w : World) (a b : Option Addr) (n c m d : Nat) (xs ys : List Bool) (h : SlR w a n c (xs.map Value.bool)) (g : SlR w b m d (ys.map Value.bool)) (hn : n ≤ 9223372036854775807) (hm : m ≤ 9223372036854775807) :
    Calls Try.prog 14 #[.slice a n c, .slice b m d] w (RetD (.bool (decide (xs = ys))) w) := by
  have hx : xs.length = n := by simpa using h.1
  have hy : ys.length = m := by simpa using g.1
  subst hx hy
  have H1 := Lib.hid h
  have H2 := Lib.hid g
  clear h g
  by_cases hl : xs.length = ys.length
  · go_enter Try.func14, Try.ntmps14
    go_wp2
    go_loopw [5] (fun s wr => ∃ k : Nat, k ≤ xs.length ∧ s = .int .i64 k ∧ (∀ j, j < k → xs.getD j false = ys.getD j false) ∧ ∃ m, wr = w.drewN m) (fun s _ => xs.length - (intOf s).toNat)
    case atStart => exact ⟨0, Nat.zero_le _, rfl, fun j hj => absurd hj (Nat.not_lt_zero _), dn_zero _⟩
    case round =>
      obtain ⟨k, hk, rfl, hno, hg⟩ := hrel
      have HG := Lib.hid hg
      have HN := Lib.hid hno
      clear hg hno
      by_cases hlt : k < xs.length
      · cases a with
        | none => exact absurd (H1.out.2.1 rfl).1 (by omega)
        | some ar =>
          cases b with
          | none => exact absurd (H2.out.2.1 rfl).1 (by omega)
          | some br =>
            have c1 := (H1.out.keep0 (dn_gb HG.out _)).boolAt k hlt
            have c2 := (H2.out.keep0 (dn_gb HG.out _)).boolAt k (by omega)
            have i2 : (k : Int) < (xs.length : Int) := by omega
            have i3 : (k : Int) < (ys.length : Int) := by omega
            by_cases he : xs.getD k false = ys.getD k false
            · have HY := Lib.hid (show ∀ j, j < k + 1 → xs.getD j false = ys.getD j false from fun j hj => by
                rcases (show j < k ∨ j = k by omega) with q | rfl
                · exact HN.out j q
                · exact he)
              rw [← he] at c2
              clear he
              generalize xs.getD k false = z at *
              go_wp2
              go_quiet (fail)
              go_wp2
              go_roundw
              case rel => exact ⟨k + 1, by omega, by go_num, HY.out, dn_more HG.out _⟩
              case measure => simp [intOf]; omega
            · have HE := Lib.hid (show ¬ xs = ys from fun e => he (by rw [e]))
              have hb : (xs.getD k false == ys.getD k false) = false := by simpa using he
              generalize xs.getD k false = z at *
              generalize ys.getD k false = y at *
              go_wp2
              go_quiet (fail)
              go_wp2
              go_ret
              exact ret_bd (decide_eq_false HE.out).symm (dn_more HG.out _)
      · have i2 : ¬ (k : Int) < (xs.length : Int) := by omega
        have HE := Lib.hid (show xs = ys from eq_of_getB hl fun j hj => HN.out j (by omega))
        go_wp2
        go_ret
        exact ret_bd (decide_eq_true HE.out).symm HG.out
  · have HE := Lib.hid (show ¬ xs = ys from fun e => hl (by rw [e]))
    go_enter Try.func14, Try.ntmps14
    go_wp2
    go_ret
    exact ret_bd (decide_eq_false HE.out).symm (dn_zero _)

theorem reqgraphs_any (w : World) (a b : Option Addr) (n c m d : Nat) (g h : List (List Int)) (H : SlG w a n c g) (K : SlG w b m d h) :
    Calls Try.prog 28 #[.slice a n c, .slice b m d] w (RetD (.bool (decide (g = h))) w) := by
  have hx := H.1
  have hy := K.1
  have hm1 := H.2.2.1
  have hm2 := K.2.2.1
  subst hx hy
  have H1 := Lib.hid H
  have H2 := Lib.hid K
  clear H K
  by_cases hl : g.length = h.length
  · rw [← hl] at H2 ⊢
    have HL := Lib.hid hl
    clear hl hm2
    go_enter Try.func28, Try.ntmps28
    go_wp2
    go_loopw [5] (fun s wr => ∃ k : Nat, k ≤ g.length ∧ s = .int .i64 k ∧ (∀ j, j < k → g.getD j [] = h.getD j []) ∧ ∃ m, wr = w.drewN m) (fun s _ => g.length - (intOf s).toNat)
    case atStart => exact ⟨0, Nat.zero_le _, rfl, fun j hj => absurd hj (Nat.not_lt_zero _), dn_zero _⟩
    case round =>
      obtain ⟨k, hk, rfl, hno, hg⟩ := hrel
      have HG := Lib.hid hg
      have HN := Lib.hid hno
      clear hg hno
      by_cases hlt : k < g.length
      · cases a with
        | none => exact absurd (H1.out.2.1 rfl).1 (by omega)
        | some ar =>
          cases b with
          | none => exact absurd (H2.out.2.1 rfl).1 (by omega)
          | some br =>
            obtain ⟨A1, C1, c1, r1, l1⟩ := (H1.out.keep0 (dn_gb HG.out _)).row k hlt
            obtain ⟨A2, C2, c2, r2, l2⟩ := (H2.out.keep0 (dn_gb HG.out _)).row k (by omega)
            have HQ := Lib.hid fun q : Nat => reqints_any (wr.drewN q) A1 A2 _ C1 _ C2 (g.getD k []) (h.getD k []) (r1.keep0 (gb_drewN _ _ _)) (r2.keep0 (gb_drewN _ _ _)) l1 l2
            have i2 : (k : Int) < (g.length : Int) := by omega
            have HX := Lib.hid (show ∀ j, j < k + 1 → g.getD k [] = h.getD k [] → g.getD j [] = h.getD j [] from fun j hj he => by
                rcases (show j < k ∨ j = k by omega) with q | rfl
                · exact HN.out j q
                · exact he)
            have HE := Lib.hid (show ¬ g.getD k [] = h.getD k [] → ¬ g = h from fun e q => e (by rw [q]))
            clear r1 r2
            generalize g.getD k [] = x at *
            generalize h.getD k [] = y at *
            by_cases he : x = y
            · subst he
              have HY := Lib.hid (show ∀ j, j < k + 1 → g.getD j [] = h.getD j [] from fun j hj => HX.out j hj rfl)
              have HQ2 := Lib.hid fun q => (show _ = true from decide_eq_true (rfl : x = x)) ▸ HQ.out q
              go_wp2
              go_quiet ((go_at_call 19; exact Calls.quiet_of (HQ2.out _)))
              go_wp2
              go_roundw
              case rel => exact ⟨k + 1, by omega, by go_num, HY.out, dn_more HG.out _⟩
              case measure => simp [intOf]; omega
            · have HQ2 := Lib.hid fun q => (show _ = false from decide_eq_false he) ▸ HQ.out q
              go_wp2
              go_quiet ((go_at_call 19; exact Calls.quiet_of (HQ2.out _)))
              go_wp2
              go_ret
              exact ret_bd (decide_eq_false (HE.out he)).symm (dn_more HG.out _)
      · have i2 : ¬ (k : Int) < (g.length : Int) := by omega
        have HE := Lib.hid (show g = h from by
          apply List.ext_getElem HL.out
          intro j h1 h2
          have := HN.out j (by omega)
          simpa [h1, h2] using this)
        go_wp2
        go_ret
        exact ret_bd (decide_eq_true HE.out).symm HG.out
  · have HE := Lib.hid (show ¬ g = h from fun e => hl (by rw [e]))
    go_enter Try.func28, Try.ntmps28
    go_wp2
    go_ret
    exact ret_bd (decide_eq_false HE.out).symm (dn_zero _)
end Go.Proofs.Ytaikpjnegopelaa
