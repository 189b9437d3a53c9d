/- Matrices in memory: slices of slices that read as lists of lists; no condition. -/
import Derived.Test.YtcbomfcioenliaaMem
import Derived.Deep.Matrix
namespace Go.Proofs.Ytcbomfcioenliaa
open Go.RowKit
set_option linter.unusedVariables false

/-- A slice of slices of numbers that is only read. -/
def SlG (w : World) (a : Option Addr) (n c : Nat) (g : List (List Int)) : Prop :=
  g.length = n ∧ (a = none → n = 0 ∧ c = 0) ∧ n ≤ 9223372036854775807 ∧ ∀ ad, a = some ad → ∀ j zs, g[j]? = some zs → ∃ A L C, w.cell? (ad.add j) = some (.slice A L C) ∧ SlR w A L C (zs.map (Value.int .i64)) ∧ L ≤ 9223372036854775807
theorem SlG.keep0 {w w2 : World} {a : Option Addr} {n c : Nat} {g : List (List Int)} (h : SlG w a n c g) (k : w.grownBy w2 none) : SlG w2 a n c g :=
  ⟨h.1, h.2.1, h.2.2.1, fun ad e j zs hz => by
    obtain ⟨A, L, C, h1, h2, h3⟩ := h.2.2.2 ad e j zs hz
    exact ⟨A, L, C, k.cell h1 (by simp), h2.keep0 k, h3⟩⟩
theorem SlG.below {w w2 : World} {a : Option Addr} {n c : Nat} {g : List (List Int)} (h : SlG w a n c g) (k : Below w.heap.size w w2) : SlG w2 a n c g := h.keep0 (gb_of_below k)
theorem SlG.row {w : World} {ad : Addr} {n c : Nat} {g : List (List Int)} (h : SlG w (some ad) n c g) (j : Nat) (hj : j < n) :
    ∃ A C, w.cell? (ad.add j) = some (.slice A (g.getD j []).length C) ∧ SlR w A (g.getD j []).length C ((g.getD j []).map (Value.int .i64)) ∧ (g.getD j []).length ≤ 9223372036854775807 := by
  have hl : j < g.length := by rw [h.1]; exact hj
  obtain ⟨A, L, C, h1, h2, h3⟩ := h.2.2.2 ad rfl j g[j] (by simp [hl])
  have e : g.getD j [] = g[j] := by simp [hl]
  have e2 : L = g[j].length := by simpa using h2.1.symm
  subst e2
  rw [e]
  exact ⟨A, C, h1, h2, h3⟩

theorem ret_bq {w w2 : World} {row : Option Nat} {a b : Bool} (h : a = b) (g : w.grownBy w2 row) : RetQ (.bool b) w row (fun _ => True) (.returned (.bool a)) w2 := ⟨ret_b h, g, trivial⟩

/-- The call returns v and changes nothing; it may draw. -/
def RetD (v : Value) (w : World) (e : Ending) (w' : World) : Prop := e = .returned v ∧ ∃ m, w' = w.drewN m
theorem RetD.q {v : Value} {w w' : World} {e : Ending} (h : RetD v w e w') (row : Option Nat) : RetQ v w row (fun _ => True) e w' := by
  obtain ⟨h1, m, rfl⟩ := h
  exact ⟨h1, gb_drewN _ _ _, trivial⟩
theorem ret_bd {w w2 : World} {a b : Bool} (h : a = b) (g : ∃ m, w2 = w.drewN m) : RetD (.bool b) w (.returned (.bool a)) w2 := ⟨ret_b h, g⟩
theorem dn_zero (w : World) : ∃ m, w = w.drewN m := ⟨0, rfl⟩
theorem dn_more {w w2 : World} (h : ∃ m, w2 = w.drewN m) (n : Nat) : ∃ m, w2.drewN n = w.drewN m := by
  obtain ⟨m, rfl⟩ := h
  exact ⟨m + n, World.drewN_drewN _ _ _⟩
theorem dn_gb {w w2 : World} (h : ∃ m, w2 = w.drewN m) (row : Option Nat) : w.grownBy w2 row := by
  obtain ⟨m, rfl⟩ := h
  exact gb_drewN _ _ _

end Go.Proofs.Ytcbomfcioenliaa
