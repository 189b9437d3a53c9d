/- An argument of kind [][]int, opened. -/
import Derived.Test.YtcbomfcioenliaaGrA
namespace Go.Proofs.Ytcbomfcioenliaa
open Go.ChangeShapes Go.WideShapes Go.ChangeAt Go.RowKit Go.Joins Go.Deep
set_option linter.unusedVariables false
variable {H : Type} {enc : TypeId × Value → H} {P : Program} {w : World} {base : Nat}

theorem open_graph {r : Reach} {b0 : Nat} {t e q : TypeId} {v : Value} {d : DataW H} {p : List MemPlace} (ht : P.underlying t = some (.slice e)) (he : P.underlying e = some (.slice q)) (hq : P.underlying q = some (.int .i64)) (ce : P.cellsOf e = 1) (cq : P.cellsOf q = 1)
    (hv : Value.okWide P w r b0 t v) (h : DataW.Trod enc P w 0 (fun _ => true) true t v d p) : ∃ a len cap g, v = .slice a len cap ∧ SlG w a len cap g := by
  obtain ⟨a0, len0, cap0, rfl⟩ := okWide_slice ht hv
  obtain ⟨fuel, hf⟩ := h
  rcases open_int_rows ht he hq ce cq hf with ⟨hcs, _⟩ | ⟨a, len, cap, A, L, C, Z, hcs, _, hl, hm, _, hx⟩
  · simp [Value.cells] at hcs
    obtain ⟨rfl, rfl, rfl⟩ := hcs
    exact ⟨_, _, _, [], rfl, rfl, fun _ => ⟨rfl, rfl⟩, by omega, fun ad h => by cases h⟩
  · simp [Value.cells] at hcs
    obtain ⟨rfl, rfl, rfl⟩ := hcs
    have hmm : maxLen = 9223372036854775807 := rfl
    refine ⟨_, _, _, (List.range len0).map fun r => (Z r).take (L r), rfl, by simp, (fun h => by cases h), by omega, ?_⟩
    intro ad had j zs hz
    injection had with had; subst had
    have hj : j < len0 := by
      have := (List.getElem?_eq_some_iff.1 hz).1
      simpa using this
    simp [hj] at hz
    subst hz
    obtain ⟨c1, c2, c3, c4, c5, c6, c7⟩ := hx j (by omega)
    refine ⟨A j, L j, C j, c1, ⟨by simp; omega, fun hn => ⟨by have := c6 hn; omega, c6 hn⟩, ?_⟩, by omega⟩
    intro ar har i u hu
    have hi : i < L j := by
      have := (List.getElem?_eq_some_iff.1 hu).1
      simp at this; omega
    rw [(c7 ar har).2 i (by omega), ← hu]
    simp [hi, show i < (Z j).length by omega]
end Go.Proofs.Ytcbomfcioenliaa
