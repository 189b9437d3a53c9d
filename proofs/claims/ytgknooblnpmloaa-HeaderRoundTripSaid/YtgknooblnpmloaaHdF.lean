/- Header: how an argument that is a header is opened: its name and its fields; no condition. -/
import Derived.Test.YtgknooblnpmloaaHdP
import Derived.Deep.SlicePairs
import Derived.ChangeMaps5
namespace Go.Proofs.Ytgknooblnpmloaa
open Go.ChangeShapes Go.WideShapes Go.ChangeAt Go.RowKit Go.Joins Go.Deep
set_option linter.unusedVariables false

/-- A slice that reads as a list of fields. -/
structure SF (w : World) (a : Option Addr) (n c : Nat) (L : List Fld) : Prop where
  len : L.length = n
  nil : a = none → n = 0 ∧ c = 0
  cap : n ≤ c
  cells : ∀ ad, a = some ad → ∀ j, j < n → w.cell? (ad.add (j * 2)) = some (.string (L.getD j fz).1) ∧ w.cell? ⟨(ad.add (j * 2)).block, (ad.add (j * 2)).off + 1, none⟩ = some (.int .i64 (L.getD j fz).2)
theorem SF.keep0 {w w2 : World} {a : Option Addr} {n c : Nat} {L : List Fld} (h : SF w a n c L) (k : w.grownBy w2 none) : SF w2 a n c L :=
  ⟨h.len, h.nil, h.cap, fun ad e j hj => ⟨k.cell (h.cells ad e j hj).1 (by simp), k.cell (h.cells ad e j hj).2 (by simp)⟩⟩
theorem SF.below {w w2 : World} {a : Option Addr} {n c : Nat} {L : List Fld} (h : SF w a n c L) (k : Below w.heap.size w w2) : SF w2 a n c L := h.keep0 (gb_of_below k)
theorem sf_some {w : World} {a : Option Addr} {n c : Nat} {L : List Fld} (h : SF w a n c L) (hn : 0 < n) : ∃ ad, a = some ad := by
  cases a with
  | none => have := (h.nil rfl).1; omega
  | some ad => exact ⟨ad, rfl⟩
/-- The first fields alone. -/
theorem SF.cut {w : World} {a : Option Addr} {n c : Nat} {L : List Fld} (h : SF w a n c L) (m : Nat) (hm : m ≤ n) : SF w a m c (L.take m) := by
  have hl := h.len
  refine ⟨by simp; omega, fun e => ⟨by have := (h.nil e).1; omega, (h.nil e).2⟩, by have := h.cap; omega, fun ad e j hj => ?_⟩
  have e : (L.take m).getD j fz = L.getD j fz := by simp [hj]
  rw [e]
  exact h.cells ad ‹_› j (by omega)
variable {H : Type} {enc : TypeId × Value → H} {P : Program} {w : World}
theorem add_next' (ad : Addr) (k : Nat) : (⟨(ad.add k).block, (ad.add k).off + 1, none⟩ : Addr) = ad.add (k + 1) := by
  rw [← Addr.add_add]
  rfl
theorem open_header {r : Reach} {b0 : Nat} {t s e : TypeId} {f0 f1 g0 g1 : Field} {v : Value} {d : DataW H} {p : List MemPlace} (ht : P.underlying t = some (.struct #[f0, f1])) (hone : oneCellFields P #[f0, f1] = true) (hC : P.cellsOf t = 2)
    (u0 : P.underlying f0.type = some .string) (u1 : P.underlying f1.type = some (.slice e)) (he : P.underlying e = some (.struct #[g0, g1]))
    (ce : P.cellsOf e = 2) (o0 : g0.offset = 0) (o1 : g1.offset = 1) (c0 : P.cellsOf g0.type = 1) (c1 : P.cellsOf g1.type = 1) (v0 : P.underlying g0.type = some .string) (v1 : P.underlying g1.type = some (.int .i64))
    (hv : Value.okWide P w r b0 t v) (h : DataW.Trod enc P w 0 (fun _ => true) true t v d p) : ∃ s a n c L, v = .agg #[.string s, .slice a n c] ∧ SF w a n c L := by
  obtain ⟨x0, x1, y0, y1, m, rfl, _, _, h0, h1⟩ := open_agg2 ht hone hC hv h
  obtain ⟨s, e0, _, _⟩ := DataW.trod_string u0 h0
  simp at e0
  subst e0
  rcases open_slice_pairs u1 he ce o0 o1 c0 c1 h1 with ⟨hcs, _⟩ | ⟨a, len, cap, m, n, V0, V1, D0, D1, P0, P1, hcs, _, hl, _, hm, _, hx⟩
  · simp at hcs
    subst hcs
    exact ⟨_, _, _, _, [], rfl, rfl, fun _ => ⟨rfl, rfl⟩, Nat.le_refl _, (fun ad e => by cases e)⟩
  · simp at hcs
    subst hcs
    have each : ∀ i, i < len → ∃ q : Fld, w.cell? (a.add (i * 2)) = some (.string q.1) ∧ w.cell? (a.add (i * 2 + 1)) = some (.int .i64 q.2) := by
      intro i hi
      have him : i < m := by rw [hm]; simp; omega
      obtain ⟨k0, k1, g0, g1⟩ := hx i him
      obtain ⟨x, e0, _, w0⟩ := DataW.trod_string v0 g0
      obtain ⟨y, e1, _, w1⟩ := DataW.trod_int v1 g1
      simp at e0 e1
      rw [e0] at k0
      rw [e1] at k1
      exact ⟨(x, y), k0, k1⟩
    obtain ⟨q, hq⟩ := choose_lt each
    refine ⟨_, _, _, _, (List.range len).map q, rfl, by simp, (fun e => by cases e), hl, fun ad e j hj => ?_⟩
    cases e
    rw [add_next']
    have e : ((List.range len).map q).getD j fz = q j := by simp [hj]
    rw [e]
    exact hq j hj
end Go.Proofs.Ytgknooblnpmloaa
