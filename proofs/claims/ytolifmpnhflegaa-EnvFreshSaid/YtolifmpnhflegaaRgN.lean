/- Register: CheckContents of the program; no condition but sizes. -/
import Derived.Test.YtolifmpnhflegaaRgF
namespace Go.Proofs.Ytolifmpnhflegaa
open Go.RowKit
set_option linter.unusedVariables false
theorem bool_no {b : Bool} {P : Prop} (h : b = true ↔ P) (k : ¬ P) : b = false := by
  cases b
  · rfl
  · exact absurd (h.1 rfl) k
set_option maxRecDepth 100000 in
set_option maxHeartbeats 4000000 in
theorem idxu_any (w : World) (a : Option Addr) (n c : Nat) (l : List Int) (h : SU w a n c l) (hn : n ≤ 1000000) (f : Nat) (cp : Array Value) (P : Int → Bool)
    (hcf : ∀ (args : Array Value) (w : World), (callFunc f args).run Try.prog w = .ok (.enter f args) w)
    (hstep : ∀ v W, w.grownBy W none → Calls Try.prog f (#[.int .u32 v] ++ cp) W (RetV (.bool (P v)) W)) :
    Calls Try.prog 72 #[.slice a n c, .func (.func f) #[] cp] w (fun e w' => ∃ i : Int, e = .returned (.int .i64 i) ∧ ((l.any P = true ∧ 0 ≤ i) ∨ (l.any P = false ∧ i = -1)) ∧ w.grownBy w' none) := by
  have HH := Lib.hid h
  have HS := Lib.hid hstep
  clear h hstep
  go_enter Try.func72, Try.ntmps72
  go_wp2
  go_loopw [8] (fun i wr => ∃ j : Nat, j ≤ n ∧ i = .int .i64 j ∧ (l.take j).any P = false ∧ w.grownBy wr none) (fun i _ => n - (intOf i).toNat)
  case atStart => exact ⟨0, Nat.zero_le _, rfl, rfl, gb_refl _ _⟩
  case round =>
    obtain ⟨j, hj, rfl, ht, hg⟩ := hrel
    have HT := Lib.hid ht
    have HG := Lib.hid hg
    clear ht hg
    by_cases hlt : j < n
    · obtain ⟨ad, rfl⟩ := HH.out.some (by omega)
      have i1 : (j : Int) < n := by omega
      have i0 : (0 : Int) ≤ (j : Int) := by omega
      have hl : j < l.length := by rw [HH.out.len]; exact hlt
      have c0 := (HH.out.keep0 HG.out).cells ad rfl j hlt
      have ST := Lib.hid (show (l.take (j + 1)).any P = ((l.take j).any P || P (l.getD j 0)) by
        rw [List.take_add_one, List.any_append, List.getD_eq_getElem?_getD, List.getElem?_eq_getElem hl]; simp)
      have YES := Lib.hid (show P (l.getD j 0) = true → l.any P = true from fun e => by
        rw [List.any_eq_true]
        exact ⟨l.getD j 0, by rw [List.getD_eq_getElem?_getD, List.getElem?_eq_getElem hl]; exact List.getElem_mem _, e⟩)
      obtain ⟨v, hp⟩ : ∃ p, p = l.getD j 0 := ⟨_, rfl⟩
      rw [← hp] at c0 ST YES
      have CO := Lib.hid (HS.out v wr HG.out)
      unfold RetV at CO
      clear hp hl
      cases hh : P v
      · rw [hh] at CO
        have S2 := Lib.hid (show (l.take (j + 1)).any P = false by rw [ST.out, HT.out, hh]; rfl)
        clear hh ST YES
        go_wp2_with fail
        refine CO.out.mono ?_
        rintro e w3 ⟨rfl, g3⟩
        have G3 := Lib.hid (gb_trans HG.out g3)
        clear g3 c0
        go_wp2
        go_roundw
        case rel => exact ⟨j + 1, by omega, by go_num, S2.out, G3.out⟩
        case measure => simp [intOf]; omega
      · rw [hh] at CO
        have R2 := Lib.hid (YES.out hh)
        clear hh ST YES
        go_wp2_with fail
        refine CO.out.mono ?_
        rintro e w3 ⟨rfl, g3⟩
        have G3 := Lib.hid (gb_trans HG.out g3)
        clear g3 c0
        go_wp2
        go_ret
        exact ⟨_, rfl, .inl ⟨R2.out, by omega⟩, G3.out⟩
    · have hje : j = n := by omega
      have R2 := Lib.hid (show l.any P = false by have := HT.out; rwa [List.take_of_length_le (by rw [HH.out.len]; omega)] at this)
      subst hje
      go_wp2
      go_ret
      exact ⟨_, rfl, .inr ⟨R2.out, rfl⟩, HG.out⟩
theorem cfu_any (w : World) (a : Option Addr) (n c : Nat) (l : List Int) (h : SU w a n c l) (hn : n ≤ 1000000) (f : Nat) (cp : Array Value) (P : Int → Bool)
    (hcf : ∀ (args : Array Value) (w : World), (callFunc f args).run Try.prog w = .ok (.enter f args) w)
    (hstep : ∀ v W, w.grownBy W none → Calls Try.prog f (#[.int .u32 v] ++ cp) W (RetV (.bool (P v)) W)) :
    Calls Try.prog 64 #[.slice a n c, .func (.func f) #[] cp] w (RetV (.bool (l.any P)) w) := by
  have IX := Lib.hid (idxu_any w a n c l h hn f cp P hcf hstep)
  clear h hstep
  go_enter Try.func64, Try.ntmps64
  go_wp2_with fail
  refine IX.out.mono ?_
  rintro e w3 ⟨i, rfl, hi, g3⟩
  have G3 := Lib.hid g3
  clear g3
  rcases hi with ⟨ha, h0⟩ | ⟨ha, rfl⟩
  · have HA := Lib.hid ha
    clear ha
    go_wp2
    go_ret
    exact ⟨by rw [HA.out]; rfl, G3.out⟩
  · have HA := Lib.hid ha
    clear ha
    go_wp2
    go_ret
    exact ⟨by rw [HA.out]; rfl, G3.out⟩
end Go.Proofs.Ytolifmpnhflegaa
