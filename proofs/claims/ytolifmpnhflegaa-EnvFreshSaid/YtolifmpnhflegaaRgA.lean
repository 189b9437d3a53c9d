/- Register: the declarations and the contents in memory; what the functions answer, on lists; no condition. -/
import Derived.Test.YtolifmpnhflegaaExC
import Derived.Deep.RegionWith
import Derived.Deep.RegionHeld3
import Derived.Deep.CutRange
import Derived.Laws.ResultCell
import Derived.Laws.CopyOwn
import Derived.WalkMore
namespace Go.Proofs.Ytolifmpnhflegaa
open Go.RowKit
set_option linter.unusedVariables false
theorem rng_at {L : List Int} (h : ∀ x ∈ L, 0 ≤ x ∧ x < 4294967296) (j : Nat) : 0 ≤ L.getD j 0 ∧ L.getD j 0 < 4294967296 := by
  by_cases hj : j < L.length
  · rw [List.getD_eq_getElem?_getD, List.getElem?_eq_getElem hj]; exact h _ (List.getElem_mem _)
  · rw [List.getD_eq_getElem?_getD, List.getElem?_eq_none (by omega)]; exact ⟨Int.le_refl _, by decide⟩
theorem SU.slr {w : World} {a : Option Addr} {n c : Nat} {L : List Int} (h : SU w a n c L) : SlR w a n c (L.map (Value.int .u32)) :=
  ⟨by simp [h.len], h.nil, fun ad e j u hu => by
    have hj : j < L.length := by
      have := (List.getElem?_eq_some_iff.1 hu).1
      simpa using this
    rw [h.cells ad e j (by rw [← h.len]; exact hj), ← hu]
    simp [hj]⟩
theorem sr_nil (w : World) : SR w none 0 0 [] := ⟨rfl, (fun _ => ⟨rfl, rfl⟩), Nat.le_refl _, (fun ad e => by cases e)⟩
/-- A row of numbers of the call's own. -/
def NU (w : World) (base : Nat) (V : Value) (L : List Int) : Prop := w.ownsRow base 49 1 V L.length (L.map (Value.int .u32))
theorem NU.keep0 {w w2 : World} {base : Nat} {V : Value} {L : List Int} (h : NU w base V L) (k : w.grownBy w2 none) : NU w2 base V L := own_keep0 h k
theorem nu_su {w : World} {base : Nat} {a : Option Addr} {n c : Nat} {L : List Int} (h : NU w base (.slice a n c) L) (hn : L.length = n) (hr : ∀ x ∈ L, 0 ≤ x ∧ x < 4294967296) : SU w a n c L := by
  subst hn
  have s := own_slr h
  exact ⟨rfl, s.2.1, own_cap h, fun ad e j hj => s.2.2 ad e j _ (by simp [hj]), hr⟩
theorem nu_shape {w : World} {base : Nat} {V : Value} {L : List Int} (h : NU w base V L) : ∃ a c, V = .slice a L.length c := own_shape h
def nilV : Value := .slice none 0 0
/-- Rows of the call's own, and the row of their heads. -/
structure OR (w : World) (base : Nat) (V : Value) (L : List (List Int)) (Vs : List Value) : Prop where
  out : w.ownsRow base 34 1 V L.length Vs
  own : ∀ x, x < L.length → NU w base (Vs.getD x nilV) (L.getD x [])
  dis : ∀ x y, x < L.length → y < L.length → x ≠ y → ∀ q, (Vs.getD x nilV).ownBlock = some q → (Vs.getD y nilV).ownBlock ≠ some q
  rng : ∀ l ∈ L, ∀ x ∈ l, 0 ≤ x ∧ x < 4294967296
theorem OR.nV {w : World} {base : Nat} {V : Value} {L : List (List Int)} {Vs : List Value} (h : OR w base V L Vs) : Vs.length = L.length := by simpa using h.out.1
theorem OR.keep0 {w w2 : World} {base : Nat} {V : Value} {L : List (List Int)} {Vs : List Value} (h : OR w base V L Vs) (k : w.grownBy w2 none) : OR w2 base V L Vs :=
  ⟨own_keep0 h.out k, fun x hx => (h.own x hx).keep0 k, h.dis, h.rng⟩
theorem OR.low {w : World} {base b2 : Nat} {V : Value} {L : List (List Int)} {Vs : List Value} (h : OR w base V L Vs) (hb : b2 ≤ base) : OR w b2 V L Vs :=
  ⟨own_low h.out hb, fun x hx => own_low (h.own x hx) hb, h.dis, h.rng⟩
theorem OR.shape {w : World} {base : Nat} {V : Value} {L : List (List Int)} {Vs : List Value} (h : OR w base V L Vs) : ∃ a c, V = .slice a L.length c := own_shape h.out
theorem rrng_at {L : List (List Int)} (h : ∀ l ∈ L, ∀ x ∈ l, 0 ≤ x ∧ x < 4294967296) (j : Nat) : ∀ x ∈ L.getD j [], 0 ≤ x ∧ x < 4294967296 := by
  intro x hx
  by_cases hj : j < L.length
  · rw [List.getD_eq_getElem?_getD, List.getElem?_eq_getElem hj] at hx; exact h _ (List.getElem_mem _) x hx
  · rw [List.getD_eq_getElem?_getD, List.getElem?_eq_none (by omega)] at hx; cases hx
theorem OR.sr {w : World} {base : Nat} {a : Option Addr} {n c : Nat} {L : List (List Int)} {Vs : List Value} (h : OR w base (.slice a n c) L Vs) (hn : L.length = n) : SR w a n c L := by
  subst hn
  have s := own_slr h.out
  refine ⟨rfl, s.2.1, own_cap h.out, fun ad e j hj => ?_⟩
  have hv : j < Vs.length := by rw [h.nV]; exact hj
  have o := h.own j hj
  obtain ⟨fa, fc, hs⟩ := nu_shape o
  have s2 := s.2.2 ad e j _ (List.getElem?_eq_getElem hv)
  have e2 : Vs[j] = Vs.getD j nilV := by simp [hv]
  rw [e2, hs] at s2
  rw [hs] at o
  exact ⟨fa, _, fc, s2, nu_su o rfl (rrng_at h.rng j)⟩
/-- The call returns rows of its own and makes memory at most. -/
def RetR (L : List (List Int)) (w : World) (e : Ending) (w' : World) : Prop := ∃ V Vs, e = .returned V ∧ OR w' w.heap.size V L Vs ∧ w.grownBy w' none
end Go.Proofs.Ytolifmpnhflegaa
