/- Several texts in one: DpC, DpD. -/
import Derived.Test.YtjhknmklejkknaaDpA
import Derived.Deep.QuietTactic
import Derived.BigQuiet
import Derived.Deep.RegionWith
import Derived.StillTailTactics
section
namespace Go.Proofs.Ytjhknmklejkknaa
open Go.RowKit
set_option linter.unusedVariables false
theorem below_gb {w w2 : World} (k : w.grownBy w2 none) : Below w.heap.size w w2 := ⟨k.os, k.tape, k.output, k.size, fun i hi => k.block i hi (by simp)⟩
/-- A header in memory by its address. -/
theorem sh_hd {w : World} {a : Option Addr} {n c : Nat} {L : List (ByteArray × List Fld)} (h : SH w a n c L) (hq : ∀ x ∈ L, x.1.size ≤ 9223372036854775807 ∧ ∀ p ∈ x.2, p.1.size ≤ 9223372036854775807) (hl : ∀ x ∈ L, x.2.length ≤ 1000) {ad : Addr} (ha : a = some ad) {j : Nat} (hj : j < n) :
    ∃ fa fn fc, w.cell? (ad.add (j * 2)) = some (.string (L.getD j hz).1) ∧ w.cell? ⟨(ad.add (j * 2)).block, (ad.add (j * 2)).off + 1, none⟩ = some (.slice fa fn fc) ∧ HdOk w (L.getD j hz).1 fa fn fc (L.getD j hz).2 := by
  obtain ⟨c0, fa, fn, fc, c1, sf⟩ := h.cells ad ha j hj
  have hm : L.getD j hz ∈ L := by
    rw [List.getD_eq_getElem?_getD, List.getElem?_eq_getElem (by rw [h.len]; exact hj)]; exact List.getElem_mem _
  have q := hq _ hm
  exact ⟨fa, fn, fc, c0, c1, ⟨sf, by have := hl _ hm; rw [← sf.len]; exact this, q.2, q.1⟩⟩
/-- Sizes that suffice. -/
structure HZ (H : List (ByteArray × List Fld)) : Prop where
  nm : ∀ x ∈ H, x.1.size ≤ 9223372036854775807 ∧ ∀ p ∈ x.2, p.1.size ≤ 9223372036854775807
  fl : ∀ x ∈ H, x.2.length ≤ 1000
/-- Sizes that suffice for Emit. -/
structure PZ (hn : Nat) (H : List (ByteArray × List Fld)) (M : List Fld) (X : EX) (L : EL) : Prop where
  h : HZ H
  n : hn ≤ 100000
  m : ∀ j, ((dclL H M).getD j []).length ≤ 100000
  f : X.fn ≤ 5864062014634
  e : shP H M L → EZ X L
  p : X.pn ≤ 100000
end Go.Proofs.Ytjhknmklejkknaa
end
section
namespace Go.Proofs.Ytjhknmklejkknaa
open Go.RowKit
set_option linter.unusedVariables false
/-- The state of Emit's loop: the boxes of its arguments, its writer and the bits that are written. -/
structure EmS (W : World) (PC EC : Array Value) (bx b5 base r s : Nat) (B : List Bool) (w : World) : Prop where
  p : IsB w bx 31 PC
  e : IsB w (bx + 1) 42 EC
  v : IsB w b5 100 #[.pointer (some ⟨r, 0, none⟩)]
  wt : ∃ V, Wtr w base r s V B
  g : W.grownBy w none
  lo : W.heap.size ≤ base
  hi : base ≤ w.heap.size
theorem EmS.keep0 {W : World} {PC EC : Array Value} {bx b5 base r s : Nat} {B : List Bool} {w w2 : World} (h : EmS W PC EC bx b5 base r s B w) (k : w.grownBy w2 none) : EmS W PC EC bx b5 base r s B w2 :=
  ⟨h.p.keep0 k, h.e.keep0 k, h.v.keep0 k, (by obtain ⟨V, q⟩ := h.wt; exact ⟨V, q.keep0 k⟩), gb_trans h.g k, h.lo, Nat.le_trans h.hi k.size⟩
theorem SU.slr' {w : World} {a : Option Addr} {n c : Nat} {L : List Int} (h : SU w a n c L) : SlR w a n c (L.map (Value.int .u32)) :=
  ⟨by rw [List.length_map]; exact h.len, h.nil, fun ad e j u hu => by
    rw [List.getElem?_map] at hu
    by_cases hj : j < L.length
    · rw [List.getElem?_eq_getElem hj] at hu
      have q := h.cells ad e j (by rw [← h.len]; exact hj)
      rw [List.getD_eq_getElem?_getD, List.getElem?_eq_getElem hj] at q
      simp at hu
      rw [← hu]; exact q
    · rw [List.getElem?_eq_none (by omega)] at hu; simp at hu⟩
theorem gb_own2 {w w2 : World} {base : Nat} {e : TypeId} {size n : Nat} {v : Value} {xs : List Value} {w0 : World} (h0 : w0.grownBy w none) (hown : w.ownsRow base e size v n xs) (hb : w0.heap.size ≤ base) (k : w.grownBy w2 v.ownBlock) : w0.grownBy w2 none := by
  refine ⟨k.os.trans h0.os, k.tape.trans h0.tape, k.output.trans h0.output, Nat.le_trans h0.size k.size, fun i hi _ => ?_⟩
  rw [k.block i (by have := h0.size; omega) (fun e => by have := (World.ownsRow.lt hown i e.symm).1; omega)]
  exact h0.block i hi (by simp)
end Go.Proofs.Ytjhknmklejkknaa
end
