/- Header: the walk of the program's FieldIndex; no condition but sizes. -/
import Derived.Test.YtgknooblnpmloaaHdA
namespace Go.Proofs.Ytgknooblnpmloaa
open Go.RowKit
set_option linter.unusedVariables false

set_option maxRecDepth 100000 in
set_option maxHeartbeats 4000000 in
theorem find_any (w : World) (hs : ByteArray) (a : Option Addr) (n c : Nat) (L : List Fld) (s : ByteArray) (h : SF w a n c L) (hn : n ≤ 100000) :
    Calls Try.prog 10 #[.agg #[.string hs, .slice a n c], .string s] w (RetG (.tuple #[.int .i64 (fIdx L s), .bool (hasNm L s)]) w) := by
  have HH := Lib.hid h
  obtain ⟨r1, e1⟩ : ∃ r, r = ((fIdx L s : Nat) : Int) := ⟨_, rfl⟩
  obtain ⟨r2, e2⟩ : ∃ r, r = hasNm L s := ⟨_, rfl⟩
  rw [← e1, ← e2]
  have HE1 := Lib.hid e1
  have HE2 := Lib.hid e2
  clear h e1 e2
  go_enter Try.func10, Try.ntmps10
  go_wp2
  go_loopw [11] (fun i wr => ∃ j : Nat, j ≤ n ∧ i = .int .i64 j ∧ hasNm (L.take j) s = false ∧ (w.alloc (.cells #[.string hs, .slice a n c] 24)).grownBy wr none) (fun i _ => n - (intOf i).toNat)
  case atStart => exact ⟨0, Nat.zero_le _, rfl, rfl, gb_refl _ _⟩
  case round =>
    obtain ⟨j, hj, rfl, ht, hg⟩ := hrel
    have HT := Lib.hid ht
    have HG := Lib.hid hg
    clear ht hg
    by_cases hlt : j < n
    · obtain ⟨ad, rfl⟩ := sf_some HH.out (by omega)
      have i1 : (j : Int) < n := by omega
      have i0 : (0 : Int) ≤ (j : Int) := by omega
      have hl : j < L.length := by rw [HH.out.len]; exact hlt
      obtain ⟨c0, c1⟩ := (HH.out.keep0 (gb_trans (gb_alloc w _ none) HG.out)).cells ad rfl j hlt
      have ST := Lib.hid (nm_take L s j hl)
      have YES := Lib.hid (find_at L s j hl HT.out)
      obtain ⟨p, hp⟩ : ∃ p, p = L.getD j fz := ⟨_, rfl⟩
      rw [← hp] at c0 c1 ST YES
      obtain ⟨v, m⟩ := p
      clear hp hl
      have hm : (m == m) = true := by simp
      cases hh : eqS v s
      · have S2 := Lib.hid (show hasNm (L.take (j + 1)) s = false by rw [ST.out, HT.out]; exact hh)
        unfold eqS at hh
        clear ST YES
        go_wp2
        go_roundw
        case rel => exact ⟨j + 1, by omega, by go_num, S2.out, gb_trans HG.out (gb_alloc _ _ _)⟩
        case measure => simp [intOf]; omega
      · have Y := Lib.hid (YES.out hh)
        unfold eqS at hh
        clear ST YES
        go_wp2
        go_ret2
        exact ⟨ret_ib2 (by rw [HE1.out, Y.out.2]) (by rw [HE2.out, Y.out.1]), gb_trans (gb_alloc w _ none) (gb_trans HG.out (gb_alloc _ _ _))⟩
    · have hje : j = n := by omega
      have R2 := Lib.hid (show hasNm L s = false by have := HT.out; rwa [List.take_of_length_le (by rw [HH.out.len]; omega)] at this)
      subst hje
      go_wp2
      go_ret2
      exact ⟨ret_ib2 (by rw [HE1.out, find_no L s R2.out]; rfl) (by rw [HE2.out, R2.out]), gb_trans (gb_alloc w _ none) HG.out⟩
end Go.Proofs.Ytgknooblnpmloaa
