/- Cubeset: slices of cubes that are only read; the reference's Contains and Min. -/
import Derived.Test.YteemhabgliglmaaTeQ
import Derived.Deep.RegionWith
namespace Go.Proofs.Yteemhabgliglmaa
open Go.RowKit
set_option linter.unusedVariables false

/-- A slice that reads as a list of cubes. -/
structure SC (w : World) (a : Option Addr) (n c : Nat) (L : List (Nat × Nat)) : Prop where
  len : L.length = n
  nil : a = none → n = 0 ∧ c = 0
  cap : n ≤ c
  cells : ∀ ad, a = some ad → ∀ j, j < n → w.cell? (ad.add (j * 2)) = some (.int .u64 (L.getD j (0, 0)).1) ∧ w.cell? ⟨(ad.add (j * 2)).block, (ad.add (j * 2)).off + 1, none⟩ = some (.int .u64 (L.getD j (0, 0)).2)
  wf : ∀ p ∈ L, B64 p.1 ∧ B64 p.2
theorem SC.keep0 {w w2 : World} {a : Option Addr} {n c : Nat} {L : List (Nat × Nat)} (h : SC w a n c L) (k : w.grownBy w2 none) : SC w2 a n c L :=
  ⟨h.len, h.nil, h.cap, fun ad e j hj => ⟨k.cell (h.cells ad e j hj).1 (by simp), k.cell (h.cells ad e j hj).2 (by simp)⟩, h.wf⟩
theorem SC.some {w : World} {a : Option Addr} {n c : Nat} {L : List (Nat × Nat)} (h : SC w a n c L) (hn : 0 < n) : ∃ ad, a = some ad := by
  cases a with
  | none => have := (h.nil rfl).1; omega
  | some ad => exact ⟨ad, rfl⟩
theorem SC.wfAt {w : World} {a : Option Addr} {n c : Nat} {L : List (Nat × Nat)} (h : SC w a n c L) (j : Nat) (hj : j < n) : B64 (L.getD j (0, 0)).1 ∧ B64 (L.getD j (0, 0)).2 := by
  have hl : j < L.length := by rw [h.len]; exact hj
  refine h.wf _ ?_
  rw [List.getD_eq_getElem?_getD, List.getElem?_eq_getElem hl]
  exact List.getElem_mem _
def hasP (p : Nat × Nat) (x : Nat) : Bool := hasN p.1 p.2 x
/-- Some cube holds the number. -/
def anyN (L : List (Nat × Nat)) (x : Nat) : Bool := L.any fun p => hasP p x
theorem take_one {α : Type} (L : List α) (d : α) (j : Nat) (h : j < L.length) : L.take (j + 1) = L.take j ++ [L.getD j d] := by
  rw [List.take_add_one]; simp [h]
set_option maxRecDepth 100000 in
set_option maxHeartbeats 4000000 in
theorem rcont_any (w : World) (a : Option Addr) (n c : Nat) (L : List (Nat × Nat)) (x : Nat) (h : SC w a n c L) (hn : n ≤ 100000) (hx : B64 x) : Calls Try.prog 27 #[.slice a n c, .int .u64 x] w (RetV (.bool (anyN L x)) w) := by
  have HH := Lib.hid h
  obtain ⟨r, hr⟩ : ∃ r, r = anyN L x := ⟨_, rfl⟩
  rw [← hr]
  have HR := Lib.hid hr
  have HX := Lib.hid hx
  clear h hr hx
  go_enter Try.func27, Try.ntmps27
  go_wp2
  go_loopw [5] (fun i wr => ∃ j : Nat, j ≤ n ∧ i = .int .i64 j ∧ anyN (L.take j) x = false ∧ w.grownBy wr none) (fun i _ => n - (intOf i).toNat)
  case atStart => exact ⟨0, Nat.zero_le _, rfl, rfl, gb_refl _ _⟩
  case round =>
    obtain ⟨j, hj, rfl, ht, hg⟩ := hrel
    have HT := Lib.hid ht
    have HG := Lib.hid hg
    clear ht hg
    by_cases hlt : j < n
    · obtain ⟨ad, rfl⟩ := HH.out.some (by omega)
      have i1 : (j : Int) < n := by omega
      have i0 : (0 : Int) ≤ (j : Int) := by omega
      have hl : j < L.length := by rw [HH.out.len]; exact hlt
      obtain ⟨c0, c1⟩ := (HH.out.keep0 HG.out).cells ad rfl j hlt
      obtain ⟨b0, b1⟩ := HH.out.wfAt j hlt
      have ST := Lib.hid (show anyN (L.take (j + 1)) x = (anyN (L.take j) x || hasP (L.getD j (0, 0)) x) by rw [take_one L (0, 0) j hl]; unfold anyN; rw [List.any_append]; simp)
      have YES := Lib.hid (show hasP (L.getD j (0, 0)) x = true → anyN L x = true from fun e => by
        unfold anyN
        rw [List.any_eq_true]
        exact ⟨L.getD j (0, 0), by rw [List.getD_eq_getElem?_getD, List.getElem?_eq_getElem hl]; exact List.getElem_mem _, e⟩)
      obtain ⟨p, hp⟩ : ∃ p, p = L.getD j (0, 0) := ⟨_, rfl⟩
      rw [← hp] at c0 c1 b0 b1 ST YES
      obtain ⟨v, m⟩ := p
      have CO := Lib.hid (fun w => rcontains_any w v m x b0 b1 HX.out)
      unfold RetV at CO
      clear hp b0 b1 hl
      cases hh : hasN v m x
      · rw [hh] at CO
        have S2 := Lib.hid (show anyN (L.take (j + 1)) x = false by rw [ST.out, HT.out]; exact hh)
        clear hh ST YES
        go_wp2_with fail
        refine (CO.out _).mono ?_
        rintro e w3 ⟨rfl, g3⟩
        have G3 := Lib.hid (gb_trans HG.out g3)
        clear g3 c0 c1
        go_wp2
        go_roundw
        case rel => exact ⟨j + 1, by omega, by go_num, S2.out, G3.out⟩
        case measure => simp [intOf]; omega
      · rw [hh] at CO
        have R2 := Lib.hid (HR.out.trans (YES.out hh))
        clear hh ST YES
        go_wp2_with fail
        refine (CO.out _).mono ?_
        rintro e w3 ⟨rfl, g3⟩
        have G3 := Lib.hid (gb_trans HG.out g3)
        clear g3 c0 c1
        go_wp2
        go_ret
        exact ⟨by rw [R2.out] <;> rfl, G3.out⟩
    · have hje : j = n := by omega
      have R2 := Lib.hid (HR.out.trans (show anyN L x = false by have := HT.out; rwa [List.take_of_length_le (by rw [HH.out.len]; omega)] at this))
      subst hje
      go_wp2
      go_ret
      exact ⟨by rw [R2.out] <;> rfl, HG.out⟩
end Go.Proofs.Yteemhabgliglmaa
