/- Ternary: EqualCubes. -/
import Derived.Test.YteemhabgliglmaaTeQ
namespace Go.Proofs.Yteemhabgliglmaa
open Go.RowKit
set_option linter.unusedVariables false

theorem cubeC_at (L : List (Nat × Nat)) (j : Nat) (h : j < L.length) : (L.flatMap cubeC)[j * 2]? = some (.int .u64 (L.getD j (0, 0)).1) ∧ (L.flatMap cubeC)[j * 2 + 1]? = some (.int .u64 (L.getD j (0, 0)).2) := by
  induction L generalizing j with
  | nil => simp at h
  | cons t s ih =>
    cases j with
    | zero => simp [cubeC]
    | succ j =>
      have e1 : (j + 1) * 2 = j * 2 + 2 := by omega
      have e2 : (j + 1) * 2 + 1 = (j * 2 + 1) + 2 := by omega
      have k := ih j (by simpa using h)
      rw [List.flatMap_cons, e2, e1]
      simpa [cubeC] using k
theorem CLs.head {w : World} {base : Nat} {V : Value} {L : List (Nat × Nat)} (h : CLs w base V L) (hn : 0 < L.length) : ∃ g c, V = .slice (some ⟨g, 0, none⟩) L.length c := own_head h hn
theorem CLs.at_ {w : World} {base g c : Nat} {L : List (Nat × Nat)} (h : CLs w base (.slice (some ⟨g, 0, none⟩) L.length c) L) (j : Nat) (hj : j < L.length) :
    w.cell? ⟨g, j * 2, none⟩ = some (.int .u64 (L.getD j (0, 0)).1) ∧ w.cell? ⟨g, j * 2 + 1, none⟩ = some (.int .u64 (L.getD j (0, 0)).2) := by
  obtain ⟨k1, k2⟩ := cubeC_at L j hj
  constructor
  · rw [World.ownsRow.cellAt h (j * 2) (by omega), k1]
  · rw [World.ownsRow.cellAt h (j * 2 + 1) (by omega), k2]
theorem take_eq_snoc {L M : List (Nat × Nat)} {j : Nat} (h : L.take j = M.take j) (h1 : j < L.length) (h2 : j < M.length) (e : L.getD j (0, 0) = M.getD j (0, 0)) : L.take (j + 1) = M.take (j + 1) := by
  have a : L.take (j + 1) = L.take j ++ [L.getD j (0, 0)] := by rw [List.take_add_one]; simp [h1]
  have b : M.take (j + 1) = M.take j ++ [M.getD j (0, 0)] := by rw [List.take_add_one]; simp [h2]
  rw [a, b, h, e]
end Go.Proofs.Yteemhabgliglmaa
