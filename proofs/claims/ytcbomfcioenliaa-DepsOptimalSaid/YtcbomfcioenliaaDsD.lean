/- What an element counts as: the walks of the program's dependency and of the reference's at; no condition. -/
import Derived.Test.YtcbomfcioenliaaDsC
namespace Go.Proofs.Ytcbomfcioenliaa
open Go.RowKit
set_option linter.unusedVariables false

theorem dep_any (w : World) (a : Option Addr) (n c : Nat) (g : List (List Int)) (i j : Nat) (h : SlG w a n c g) (hi : i < n) (hj : j < (g.getD i []).length) :
    Calls Try.prog 15 #[.slice a n c, .int .i64 i, .int .i64 j] w (RetD (.int .i64 (dp g i j)) w) := by
  have hl := h.1
  have hm := h.2.2.1
  cases a with
  | none => exact absurd (h.2.1 rfl).1 (by omega)
  | some ad =>
    obtain ⟨A, C, c1, r1, l1⟩ := h.row i hi
    cases A with
    | none => exact absurd (r1.2.1 rfl).1 (by omega)
    | some ar =>
      have c2 := r1.cellAt j hj
      have i1 : (i : Int) < (n : Int) := by omega
      have i2 : (j : Int) < ((g.getD i []).length : Int) := by omega
      by_cases hij : i < j
      · have q1 : ¬ (j : Int) ≤ (i : Int) := by omega
        by_cases hjn : j < n
        · have q2 : ¬ (n : Int) ≤ (j : Int) := by omega
          by_cases z1 : (g.getD i []).getD j 0 = 1
          · have HE := Lib.hid (dp_is (g := g) ⟨hij, by omega⟩ 1 z1 (.inl rfl))
            rw [z1] at c2
            clear z1 r1 h
            generalize (g.getD i []).length = m at *
            clear hl
            go_enter Try.func15, Try.ntmps15
            go_wp2
            go_ret
            exact ⟨ret_i HE.out.symm, dn_zero _⟩
          · by_cases z2 : (g.getD i []).getD j 0 = 2
            · have HE := Lib.hid (dp_is (g := g) ⟨hij, by omega⟩ 2 z2 (.inr rfl))
              rw [z2] at c2
              clear z1 z2 r1 h
              generalize (g.getD i []).length = m at *
              clear hl
              go_enter Try.func15, Try.ntmps15
              go_wp2
              go_ret
              exact ⟨ret_i HE.out.symm, dn_zero _⟩
            · have HE := Lib.hid (dp_none (g := g) (i := i) (j := j) (fun k => k.elim z1 z2))
              clear r1 h
              generalize (g.getD i []).getD j 0 = z at *
              have b1 : (z != 1) = true := by simpa using z1
              have b2 : (z != 2) = true := by simpa using z2
              generalize (g.getD i []).length = m at *
              clear hl
              go_enter Try.func15, Try.ntmps15
              go_wp2
              go_ret
              exact ⟨ret_i HE.out.symm, dn_zero _⟩
        · have q2 : (n : Int) ≤ (j : Int) := by omega
          have HE := Lib.hid (dp_off (g := g) (i := i) (j := j) (fun k => by omega))
          clear r1 h c1 c2
          generalize (g.getD i []).length = m at *
          clear hl
          go_enter Try.func15, Try.ntmps15
          go_wp2
          go_ret
          exact ⟨ret_i HE.out.symm, dn_zero _⟩
      · have q1 : (j : Int) ≤ (i : Int) := by omega
        have HE := Lib.hid (dp_off (g := g) (i := i) (j := j) (fun k => by omega))
        clear r1 h c1 c2
        generalize (g.getD i []).length = m at *
        clear hl
        go_enter Try.func15, Try.ntmps15
        go_wp2
        go_ret
        exact ⟨ret_i HE.out.symm, dn_zero _⟩

theorem at_any (w : World) (a : Option Addr) (n c : Nat) (g : List (List Int)) (i j : Nat) (h : SlG w a n c g) (hi : i < n) (hj : j < n) :
    Calls Try.prog 16 #[.slice a n c, .int .i64 i, .int .i64 j] w (RetD (.int .i64 (dp g i j)) w) := by
  have hl := h.1
  have hm := h.2.2.1
  cases a with
  | none => exact absurd (h.2.1 rfl).1 (by omega)
  | some ad =>
    obtain ⟨A, C, c1, r1, l1⟩ := h.row i hi
    have i1 : (i : Int) < (n : Int) := by omega
    by_cases hij : i < j
    · have q1 : ¬ (j : Int) ≤ (i : Int) := by omega
      by_cases hjn : j < (g.getD i []).length
      · cases A with
        | none => exact absurd (r1.2.1 rfl).1 (by omega)
        | some ar =>
          have c2 := r1.cellAt j hjn
          have q2 : ¬ ((g.getD i []).length : Int) ≤ (j : Int) := by omega
          have i2 : (j : Int) < ((g.getD i []).length : Int) := by omega
          by_cases z1 : (g.getD i []).getD j 0 = 1
          · have HE := Lib.hid (dp_is (g := g) ⟨hij, by omega⟩ 1 z1 (.inl rfl))
            rw [z1] at c2
            clear z1 r1 h
            generalize (g.getD i []).length = m at *
            clear hl
            go_enter Try.func16, Try.ntmps16
            go_wp2
            go_ret
            exact ⟨ret_i HE.out.symm, dn_zero _⟩
          · by_cases z2 : (g.getD i []).getD j 0 = 2
            · have HE := Lib.hid (dp_is (g := g) ⟨hij, by omega⟩ 2 z2 (.inr rfl))
              rw [z2] at c2
              clear z1 z2 r1 h
              generalize (g.getD i []).length = m at *
              clear hl
              go_enter Try.func16, Try.ntmps16
              go_wp2
              go_ret
              exact ⟨ret_i HE.out.symm, dn_zero _⟩
            · have HE := Lib.hid (dp_none (g := g) (i := i) (j := j) (fun k => k.elim z1 z2))
              clear r1 h
              generalize (g.getD i []).getD j 0 = z at *
              have b1 : (z != 1) = true := by simpa using z1
              have b2 : (z != 2) = true := by simpa using z2
              generalize (g.getD i []).length = m at *
              clear hl
              go_enter Try.func16, Try.ntmps16
              go_wp2
              go_ret
              exact ⟨ret_i HE.out.symm, dn_zero _⟩
      · have q2 : ((g.getD i []).length : Int) ≤ (j : Int) := by omega
        have HE := Lib.hid (dp_far (g := g) (i := i) (j := j) (by omega))
        clear r1 h
        generalize (g.getD i []).length = m at *
        clear hl
        go_enter Try.func16, Try.ntmps16
        go_wp2
        go_ret
        exact ⟨ret_i HE.out.symm, dn_zero _⟩
    · have q1 : (j : Int) ≤ (i : Int) := by omega
      have HE := Lib.hid (dp_off (g := g) (i := i) (j := j) (fun k => by omega))
      clear r1 h c1
      generalize (g.getD i []).length = m at *
      clear hl
      go_enter Try.func16, Try.ntmps16
      go_wp2
      go_ret
      exact ⟨ret_i HE.out.symm, dn_zero _⟩
end Go.Proofs.Ytcbomfcioenliaa
