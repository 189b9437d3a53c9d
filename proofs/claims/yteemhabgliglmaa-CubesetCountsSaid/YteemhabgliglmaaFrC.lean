/- A list of cubes among the arguments. -/
import Derived.Test.YteemhabgliglmaaFrT
import Derived.Test.YteemhabgliglmaaCsA
import Derived.Test.YteemhabgliglmaaCsD
import Derived.Deep.SlicePairs
namespace Go.Proofs.Yteemhabgliglmaa
open Go.ChangeShapes Go.WideShapes Go.ChangeAt Go.RowKit Go.Joins Go.Deep
section
variable {H : Type} {enc : TypeId × Value → H} {P : Program} {w : World}
theorem open_cubes {r : Reach} {b0 : Nat} {t e : TypeId} {f0 f1 : Field} {v : Value} {d : DataW H} {p : List MemPlace} (ht : P.underlying t = some (.slice e)) (he : P.underlying e = some (.struct #[f0, f1]))
    (ce : P.cellsOf e = 2) (o0 : f0.offset = 0) (o1 : f1.offset = 1) (c0 : P.cellsOf f0.type = 1) (c1 : P.cellsOf f1.type = 1) (u0 : P.underlying f0.type = some (.int .u64)) (u1 : P.underlying f1.type = some (.int .u64))
    (hv : Value.okWide P w r b0 t v) (h : DataW.Trod enc P w 0 (fun _ => true) true t v d p) : ∃ a n c L, v = .slice a n c ∧ SC w a n c L := by
  obtain ⟨a0, len0, cap0, rfl⟩ := okWide_slice ht hv
  obtain ⟨fuel, hf⟩ := h
  rcases open_slice_pairs ht he ce o0 o1 c0 c1 hf with ⟨hcs, _⟩ | ⟨a, len, cap, m, n, V0, V1, D0, D1, P0, P1, hcs, hl1, hl, hl3, hm, hl4, hx⟩
  · simp [Value.cells] at hcs
    obtain ⟨rfl, rfl, rfl⟩ := hcs
    exact ⟨_, _, _, [], rfl, rfl, fun _ => ⟨rfl, rfl⟩, Nat.le_refl _, (fun ad e => by cases e), (fun p hp => by cases hp)⟩
  · simp [Value.cells] at hcs
    obtain ⟨rfl, rfl, rfl⟩ := hcs
    have each : ∀ i, i < len0 → ∃ q : Nat × Nat, w.cell? (a.add (i * 2)) = some (.int .u64 (q.1 : Int)) ∧ w.cell? (a.add (i * 2 + 1)) = some (.int .u64 (q.2 : Int)) ∧ B64 q.1 ∧ B64 q.2 := by
      intro i hi
      have him : i < m := by rw [hm]; simp; omega
      obtain ⟨k0, k1, g0, g1⟩ := hx i him
      obtain ⟨x, e0, _, w0⟩ := DataW.trod_int u0 g0
      obtain ⟨y, e1, _, w1⟩ := DataW.trod_int u1 g1
      simp at e0 e1
      rw [e0] at k0
      rw [e1] at k1
      obtain ⟨x, rfl, hx⟩ := u64_nat w0
      obtain ⟨y, rfl, hy⟩ := u64_nat w1
      exact ⟨(x, y), k0, k1, hx, hy⟩
    obtain ⟨q, hq⟩ := choose_lt each
    refine ⟨_, _, _, (List.range len0).map q, rfl, by simp, (fun e => by cases e), hl, ?_, ?_⟩
    · intro ad e j hj
      cases e
      have e : ((List.range len0).map q).getD j (0, 0) = q j := by
        rw [List.getD_eq_getElem?_getD, List.getElem?_map, List.getElem?_range hj]; rfl
      rw [e, add_next]
      exact ⟨(hq j hj).1, (hq j hj).2.1⟩
    · intro p hp
      obtain ⟨i, hi, rfl⟩ := List.mem_map.1 hp
      exact (hq i (List.mem_range.1 hi)).2.2
end
end Go.Proofs.Yteemhabgliglmaa
