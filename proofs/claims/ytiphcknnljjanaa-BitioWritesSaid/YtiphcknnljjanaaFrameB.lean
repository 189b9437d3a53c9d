/- How an argument that is a slice of pairs of numbers is opened; no condition. -/
import Derived.Test.YtiphcknnljjanaaFrame
import Derived.Deep.SlicePairs
namespace Go.Proofs.Ytiphcknnljjanaa
open Go.ChangeShapes Go.WideShapes Go.ChangeAt Go.RowKit Go.Joins Go.Deep
set_option linter.unusedVariables false

/-- What is known of a slice of pairs that came in: nil; or it leads to its pairs, each of a number of 32 bits and an int. -/
def IsPairs (w : World) (a : Option Addr) (len : Nat) (V N : Nat → Int) : Prop :=
  (a = none ∧ len = 0) ∨ ∃ x, a = some x ∧ ∀ i, i < len → w.cell? (x.add (i * 2)) = some (.int .u32 (V i)) ∧ w.cell? (x.add (i * 2 + 1)) = some (.int .i64 (N i)) ∧ (0 ≤ V i ∧ V i < 4294967296)
variable {H : Type} {enc : TypeId × Value → H} {P : Program} {w : World}
theorem open_pairs {r : Reach} {b0 : Nat} {t e : TypeId} {f0 f1 : Field} {v : Value} {d : DataW H} {p : List MemPlace} (ht : P.underlying t = some (.slice e)) (he : P.underlying e = some (.struct #[f0, f1]))
    (ce : P.cellsOf e = 2) (o0 : f0.offset = 0) (o1 : f1.offset = 1) (c0 : P.cellsOf f0.type = 1) (c1 : P.cellsOf f1.type = 1) (u0 : P.underlying f0.type = some (.int .u32)) (u1 : P.underlying f1.type = some (.int .i64))
    (hv : Value.okWide P w r b0 t v) (h : DataW.Trod enc P w 0 (fun _ => true) true t v d p) : ∃ a len cap V N, v = .slice a len cap ∧ IsPairs w a len V N := by
  obtain ⟨a0, len0, cap0, rfl⟩ := okWide_slice ht hv
  obtain ⟨fuel, hf⟩ := h
  rcases open_slice_pairs ht he ce o0 o1 c0 c1 hf with ⟨hcs, _⟩ | ⟨a, len, cap, m, n, V0, V1, D0, D1, P0, P1, hcs, _, hl, _, hm, _, hx⟩
  · simp [Value.cells] at hcs
    obtain ⟨rfl, rfl, rfl⟩ := hcs
    exact ⟨_, _, _, fun _ => 0, fun _ => 0, rfl, .inl ⟨rfl, rfl⟩⟩
  · simp [Value.cells] at hcs
    obtain ⟨rfl, rfl, rfl⟩ := hcs
    have each : ∀ i, i < len0 → ∃ q : Int × Int, w.cell? (a.add (i * 2)) = some (.int .u32 q.1) ∧ w.cell? (a.add (i * 2 + 1)) = some (.int .i64 q.2) ∧ (0 ≤ q.1 ∧ q.1 < 4294967296) := by
      intro i hi
      have him : i < m := by rw [hm]; simp; omega
      obtain ⟨k0, k1, g0, g1⟩ := hx i him
      obtain ⟨x, e0, _, w0⟩ := DataW.trod_int u0 g0
      obtain ⟨y, e1, _, w1⟩ := DataW.trod_int u1 g1
      simp at e0 e1
      rw [e0] at k0
      rw [e1] at k1
      exact ⟨(x, y), k0, k1, u32_bd w0⟩
    obtain ⟨q, hq⟩ := choose_lt each
    exact ⟨_, _, _, fun i => (q i).1, fun i => (q i).2, rfl, .inr ⟨a, rfl, hq⟩⟩
end Go.Proofs.Ytiphcknnljjanaa
