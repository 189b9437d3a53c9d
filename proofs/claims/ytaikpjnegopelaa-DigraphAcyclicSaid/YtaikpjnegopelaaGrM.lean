/- The walks of the reference's Check and of the law's large. -/
import Derived.Test.YtaikpjnegopelaaGrB
namespace Go.Proofs.Ytaikpjnegopelaa
open Go.RowKit
set_option linter.unusedVariables false

def gOk (g : List (List Int)) : Bool := g.all fun r => r.all fun x => decide (0 ≤ x ∧ x < (g.length : Int))
/-- The error that the reference's Check gives. -/
def chk (g : List (List Int)) : Int := if 4096 < g.length then 12 else if gOk g then 0 else 9
def big (g : List (List Int)) : Bool := decide (24 < g.length) || g.any fun r => decide (40 < r.length)
theorem gOk_no {g : List (List Int)} {i j : Nat} (hi : i < g.length) (hj : j < (g.getD i []).length) (h : ¬ (0 ≤ (g.getD i []).getD j 0 ∧ (g.getD i []).getD j 0 < (g.length : Int))) : gOk g = false := by
  rw [Bool.eq_false_iff]
  intro k
  unfold gOk at k
  rw [List.all_eq_true] at k
  have k1 := k (g.getD i []) (by simp [hi])
  rw [List.all_eq_true] at k1
  have k2 := k1 ((g.getD i []).getD j 0) (by simp only [List.getD_eq_getElem?_getD] at hj ⊢; simp [hj])
  exact h (of_decide_eq_true k2)
theorem gOk_yes {g : List (List Int)} (h : ∀ i, i < g.length → ∀ j, j < (g.getD i []).length → 0 ≤ (g.getD i []).getD j 0 ∧ (g.getD i []).getD j 0 < (g.length : Int)) : gOk g = true := by
  unfold gOk
  rw [List.all_eq_true]
  intro r hr
  rw [List.all_eq_true]
  intro x hx
  obtain ⟨i, hi, rfl⟩ := List.mem_iff_getElem.1 hr
  obtain ⟨j, hj, rfl⟩ := List.mem_iff_getElem.1 hx
  have := h i hi j (by simpa [hi] using hj)
  refine decide_eq_true ?_
  simpa [hi, hj] using this

set_option maxRecDepth 100000 in
set_option maxHeartbeats 1000000 in
theorem rchk_any (w : World) (a : Option Addr) (n c : Nat) (g : List (List Int)) (h : SlG w a n c g) :
    Calls Try.prog 11 #[.slice a n c] w (RetD (.int .i64 (chk g)) w) := by
  have HH := Lib.hid h
  have hl := h.1
  have hm := h.2.2.1
  subst hl
  clear h
  by_cases hb : 4096 < g.length
  · have HE := Lib.hid (show chk g = 12 by unfold chk; rw [if_pos hb])
    go_enter Try.func11, Try.ntmps11
    go_wp2
    go_ret
    exact ⟨ret_i HE.out.symm, dn_zero _⟩
  · have HE := Lib.hid (show chk g = if gOk g then 0 else 9 by unfold chk; rw [if_neg hb])
    go_enter Try.func11, Try.ntmps11
    go_wp2
    go_loopw [3] (fun s wr => ∃ k : Nat, k ≤ g.length ∧ s = .int .i64 k ∧ (∀ i, i < k → ∀ j, j < (g.getD i []).length → 0 ≤ (g.getD i []).getD j 0 ∧ (g.getD i []).getD j 0 < (g.length : Int)) ∧ wr = w) (fun s _ => g.length - (intOf s).toNat)
    case atStart => exact ⟨0, Nat.zero_le _, rfl, fun i hi => absurd hi (Nat.not_lt_zero _), rfl⟩
    case round =>
      obtain ⟨k, hk, rfl, hno, rfl⟩ := hrel
      have HN := Lib.hid hno
      clear hno
      by_cases hlt : k < g.length
      · cases a with
        | none => exact absurd (HH.out.2.1 rfl).1 (by omega)
        | some ad =>
          obtain ⟨A, C, c1, r1, l1⟩ := HH.out.row k hlt
          have R1 := Lib.hid r1
          have i1 : (k : Int) < g.length := by omega
          obtain ⟨row, hrow⟩ : ∃ row, row = g.getD k [] := ⟨_, rfl⟩
          rw [← hrow] at c1 R1 l1
          have HROW := Lib.hid hrow
          clear r1 hrow
          go_wp2
          go_loopw [4] (fun s wr2 => ∃ i : Nat, i ≤ row.length ∧ s = .int .i64 i ∧ (∀ j, j < i → 0 ≤ row.getD j 0 ∧ row.getD j 0 < (g.length : Int)) ∧ wr2 = wr) (fun s _ => row.length - (intOf s).toNat)
          case atStart => exact ⟨0, Nat.zero_le _, rfl, fun i hi => absurd hi (Nat.not_lt_zero _), rfl⟩
          case round =>
            obtain ⟨i, hi, rfl, hin, rfl⟩ := hrel
            have HI := Lib.hid hin
            clear hin
            by_cases hit : i < row.length
            · cases A with
              | none => exact absurd (R1.out.2.1 rfl).1 (by omega)
              | some ar =>
                have c2 := R1.out.cellAt i hit
                have i2 : (i : Int) < row.length := by omega
                by_cases hok : 0 ≤ row.getD i 0 ∧ row.getD i 0 < (g.length : Int)
                · have HX := Lib.hid (show ∀ j, j < i + 1 → 0 ≤ row.getD j 0 ∧ row.getD j 0 < (g.length : Int) from fun j hj => by
                    rcases (show j < i ∨ j = i by omega) with q | rfl
                    · exact HI.out j q
                    · exact hok)
                  obtain ⟨k1, k2⟩ := hok
                  generalize row.getD i 0 = z at *
                  go_wp2
                  go_roundw
                  case rel => exact ⟨i + 1, by omega, by go_num, HX.out, trivial⟩
                  case measure => simp [intOf]; omega
                · have HX := Lib.hid (show chk g = 9 by rw [HE.out, gOk_no hlt (by rw [← HROW.out]; exact hit) (by rw [← HROW.out]; exact hok)]; rfl)
                  by_cases k1 : 0 ≤ row.getD i 0
                  · have k2 : ¬ row.getD i 0 < (g.length : Int) := fun q => hok ⟨k1, q⟩
                    clear hok
                    generalize row.getD i 0 = z at *
                    go_wp2
                    go_ret
                    exact ⟨ret_i HX.out.symm, dn_zero _⟩
                  · clear hok
                    generalize row.getD i 0 = z at *
                    go_wp2
                    go_ret
                    exact ⟨ret_i HX.out.symm, dn_zero _⟩
            · have i2 : ¬ (i : Int) < row.length := by omega
              have HX := Lib.hid (show ∀ i, i < k + 1 → ∀ j, j < (g.getD i []).length → 0 ≤ (g.getD i []).getD j 0 ∧ (g.getD i []).getD j 0 < (g.length : Int) from fun i2 hi2 => by
                rcases (show i2 < k ∨ i2 = k by omega) with q | rfl
                · exact HN.out i2 q
                · rw [← HROW.out]; exact fun j hj => HI.out j (by omega))
              go_wp2
              go_roundw
              case rel => exact ⟨k + 1, by omega, by go_num, HX.out, trivial⟩
              case measure => simp [intOf]; omega
      · have i1 : ¬ (k : Int) < g.length := by omega
        have HX := Lib.hid (show chk g = 0 by rw [HE.out, gOk_yes fun i hi => HN.out i (by omega)]; rfl)
        go_wp2
        go_ret
        exact ⟨ret_i HX.out.symm, dn_zero _⟩

theorem large_any (w : World) (a : Option Addr) (n c : Nat) (g : List (List Int)) (h : SlG w a n c g) :
    Calls Try.prog 13 #[.slice a n c] w (RetD (.bool (big g)) w) := by
  have HH := Lib.hid h
  have hl := h.1
  have hm := h.2.2.1
  subst hl
  clear h
  by_cases hb : 24 < g.length
  · have HE := Lib.hid (show big g = true by unfold big; rw [decide_eq_true hb]; rfl)
    go_enter Try.func13, Try.ntmps13
    go_wp2
    go_ret
    exact ret_bd HE.out.symm (dn_zero _)
  · have HE := Lib.hid (show big g = g.any fun r => decide (40 < r.length) by unfold big; rw [decide_eq_false hb]; rfl)
    go_enter Try.func13, Try.ntmps13
    go_wp2
    go_loopw [3] (fun s wr => ∃ k : Nat, k ≤ g.length ∧ s = .int .i64 k ∧ (∀ i, i < k → (g.getD i []).length ≤ 40) ∧ wr = w) (fun s _ => g.length - (intOf s).toNat)
    case atStart => exact ⟨0, Nat.zero_le _, rfl, fun i hi => absurd hi (Nat.not_lt_zero _), rfl⟩
    case round =>
      obtain ⟨k, hk, rfl, hno, rfl⟩ := hrel
      have HN := Lib.hid hno
      clear hno
      by_cases hlt : k < g.length
      · cases a with
        | none => exact absurd (HH.out.2.1 rfl).1 (by omega)
        | some ad =>
          obtain ⟨A, C, c1, r1, l1⟩ := HH.out.row k hlt
          have i1 : (k : Int) < g.length := by omega
          clear r1
          by_cases h40 : 40 < (g.getD k []).length
          · have HX := Lib.hid (show big g = true by
              rw [HE.out, List.any_eq_true]
              exact ⟨g.getD k [], by simp [hlt], decide_eq_true h40⟩)
            generalize (g.getD k []).length = m at *
            go_wp2
            go_ret
            exact ret_bd HX.out.symm (dn_zero _)
          · have HX := Lib.hid (show ∀ i, i < k + 1 → (g.getD i []).length ≤ 40 from fun i2 hi2 => by
              rcases (show i2 < k ∨ i2 = k by omega) with q | rfl
              · exact HN.out i2 q
              · omega)
            generalize (g.getD k []).length = m at *
            go_wp2
            go_roundw
            case rel => exact ⟨k + 1, by omega, by go_num, HX.out, trivial⟩
            case measure => simp [intOf]; omega
      · have i1 : ¬ (k : Int) < g.length := by omega
        have HX := Lib.hid (show big g = false by
          rw [HE.out, Bool.eq_false_iff]
          intro q
          rw [List.any_eq_true] at q
          obtain ⟨r, hr, hr2⟩ := q
          obtain ⟨i, hi, rfl⟩ := List.mem_iff_getElem.1 hr
          have := HN.out i (by omega)
          have h2 := of_decide_eq_true hr2
          simp [hi] at this
          omega)
        go_wp2
        go_ret
        exact ret_bd HX.out.symm (dn_zero _)
end Go.Proofs.Ytaikpjnegopelaa
