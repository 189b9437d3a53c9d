/- Graphs in memory: slices of slices that read as lists of lists; the walks of the reference's Edge and of the law's comparisons; no condition. -/
import Derived.Test.YtaikpjnegopelaaMem
import Derived.Deep.Matrix
namespace Go.Proofs.Ytaikpjnegopelaa
open Go.RowKit
set_option linter.unusedVariables false

/-- A slice of slices of numbers that is only read. -/
def SlG (w : World) (a : Option Addr) (n c : Nat) (g : List (List Int)) : Prop :=
  g.length = n ∧ (a = none → n = 0 ∧ c = 0) ∧ n ≤ 9223372036854775807 ∧ ∀ ad, a = some ad → ∀ j zs, g[j]? = some zs → ∃ A L C, w.cell? (ad.add j) = some (.slice A L C) ∧ SlR w A L C (zs.map (Value.int .i64)) ∧ L ≤ 9223372036854775807
theorem SlG.keep0 {w w2 : World} {a : Option Addr} {n c : Nat} {g : List (List Int)} (h : SlG w a n c g) (k : w.grownBy w2 none) : SlG w2 a n c g :=
  ⟨h.1, h.2.1, h.2.2.1, fun ad e j zs hz => by
    obtain ⟨A, L, C, h1, h2, h3⟩ := h.2.2.2 ad e j zs hz
    exact ⟨A, L, C, k.cell h1 (by simp), h2.keep0 k, h3⟩⟩
theorem SlG.below {w w2 : World} {a : Option Addr} {n c : Nat} {g : List (List Int)} (h : SlG w a n c g) (k : Below w.heap.size w w2) : SlG w2 a n c g := h.keep0 (gb_of_below k)
theorem SlG.row {w : World} {ad : Addr} {n c : Nat} {g : List (List Int)} (h : SlG w (some ad) n c g) (j : Nat) (hj : j < n) :
    ∃ A C, w.cell? (ad.add j) = some (.slice A (g.getD j []).length C) ∧ SlR w A (g.getD j []).length C ((g.getD j []).map (Value.int .i64)) ∧ (g.getD j []).length ≤ 9223372036854775807 := by
  have hl : j < g.length := by rw [h.1]; exact hj
  obtain ⟨A, L, C, h1, h2, h3⟩ := h.2.2.2 ad rfl j g[j] (by simp [hl])
  have e : g.getD j [] = g[j] := by simp [hl]
  have e2 : L = g[j].length := by simpa using h2.1.symm
  subst e2
  rw [e]
  exact ⟨A, C, h1, h2, h3⟩

/-- There is an edge from v to w. -/
def gEdge (g : List (List Int)) (v w : Int) : Bool := decide (0 ≤ v ∧ v < g.length ∧ 0 ≤ w ∧ w < g.length ∧ w ∈ g.getD v.toNat [])
theorem gEdge_no {g : List (List Int)} {v w : Int} (h : ¬ (0 ≤ v ∧ v < g.length ∧ 0 ≤ w ∧ w < g.length)) : gEdge g v w = false := by
  unfold gEdge; simp only [decide_eq_false_iff_not]; intro k; exact h ⟨k.1, k.2.1, k.2.2.1, k.2.2.2.1⟩
theorem ret_bq {w w2 : World} {row : Option Nat} {a b : Bool} (h : a = b) (g : w.grownBy w2 row) : RetQ (.bool b) w row (fun _ => True) (.returned (.bool a)) w2 := ⟨ret_b h, g, trivial⟩

/-- The call returns v and changes nothing; it may draw. -/
def RetD (v : Value) (w : World) (e : Ending) (w' : World) : Prop := e = .returned v ∧ ∃ m, w' = w.drewN m
theorem RetD.q {v : Value} {w w' : World} {e : Ending} (h : RetD v w e w') (row : Option Nat) : RetQ v w row (fun _ => True) e w' := by
  obtain ⟨h1, m, rfl⟩ := h
  exact ⟨h1, gb_drewN _ _ _, trivial⟩
theorem ret_bd {w w2 : World} {a b : Bool} (h : a = b) (g : ∃ m, w2 = w.drewN m) : RetD (.bool b) w (.returned (.bool a)) w2 := ⟨ret_b h, g⟩
theorem dn_zero (w : World) : ∃ m, w = w.drewN m := ⟨0, rfl⟩
theorem dn_more {w w2 : World} (h : ∃ m, w2 = w.drewN m) (n : Nat) : ∃ m, w2.drewN n = w.drewN m := by
  obtain ⟨m, rfl⟩ := h
  exact ⟨m + n, World.drewN_drewN _ _ _⟩
theorem dn_gb {w w2 : World} (h : ∃ m, w2 = w.drewN m) (row : Option Nat) : w.grownBy w2 row := by
  obtain ⟨m, rfl⟩ := h
  exact gb_drewN _ _ _

theorem redge_any (w : World) (a : Option Addr) (n c : Nat) (g : List (List Int)) (v x : Int) (h : SlG w a n c g) (hv : -9223372036854775808 ≤ v ∧ v ≤ 9223372036854775807) (hx : -9223372036854775808 ≤ x ∧ x ≤ 9223372036854775807) :
    Calls Try.prog 32 #[.slice a n c, .int .i64 v, .int .i64 x] w (fun e w' => e = .returned (.bool (gEdge g v x)) ∧ w' = w) := by
  have HH := Lib.hid h
  have hl := h.1
  have hm := h.2.2.1
  obtain ⟨hv1, hv2⟩ := hv
  obtain ⟨hx1, hx2⟩ := hx
  clear h
  by_cases hin : 0 ≤ v ∧ v < n ∧ 0 ≤ x ∧ x < n
  · obtain ⟨i, rfl⟩ : ∃ i : Nat, v = (i : Int) := ⟨v.toNat, by omega⟩
    have hi : i < n := by omega
    cases a with
    | none => exact absurd (HH.out.2.1 rfl).1 (by omega)
    | some ad =>
      obtain ⟨A, C, c1, r1, l1⟩ := HH.out.row i hi
      have R1 := Lib.hid r1
      have C1 := Lib.hid c1
      have HE := Lib.hid (show gEdge g (i : Int) x = decide (x ∈ g.getD i []) by
        unfold gEdge; rw [decide_eq_decide, hl]
        constructor
        · exact fun k => k.2.2.2.2
        · exact fun k => ⟨by omega, by omega, by omega, by omega, k⟩)
      obtain ⟨zs, hz⟩ : ∃ zs, zs = g.getD i [] := ⟨_, rfl⟩
      rw [← hz] at R1 C1 HE l1 c1 r1
      clear hz r1 hl HH
      have i1 : (i : Int) < (n : Int) := by omega
      obtain ⟨_, _, x1, x2⟩ := hin
      go_enter Try.func32, Try.ntmps32
      go_wp2
      go_loopw [7] (fun s wr => ∃ k : Nat, k ≤ zs.length ∧ s = .int .i64 k ∧ (∀ j, j < k → zs.getD j 0 ≠ x) ∧ wr = w) (fun s _ => zs.length - (intOf s).toNat)
      case atStart => exact ⟨0, Nat.zero_le _, rfl, fun j hj => absurd hj (Nat.not_lt_zero _), rfl⟩
      case round =>
        obtain ⟨k, hk, rfl, hno, rfl⟩ := hrel
        have HN := Lib.hid hno
        clear hno
        by_cases hlt : k < zs.length
        · cases A with
          | none => exact absurd (R1.out.2.1 rfl).1 (by omega)
          | some ar =>
            have c3 := R1.out.cellAt k hlt
            have HX := Lib.hid (show zs.getD k 0 ∈ zs by simp [hlt])
            have i2 : (k : Int) < (zs.length : Int) := by omega
            by_cases he : zs.getD k 0 = x
            · rw [he] at c3 HX
              go_wp2
              go_ret
              exact ⟨ret_b (by rw [HE.out]; exact (decide_eq_true HX.out).symm), rfl⟩
            · have HZ := Lib.hid he
              have HY := Lib.hid (show ∀ j, j < k + 1 → zs.getD j 0 ≠ x from fun j hj => by
                rcases (show j < k ∨ j = k by omega) with q | rfl
                · exact HN.out j q
                · exact he)
              generalize zs.getD k 0 = z at *
              go_wp2
              go_roundw
              case rel => exact ⟨k + 1, by omega, by go_num, HY.out, trivial⟩
              case measure => simp [intOf]; omega
        · have i2 : ¬ (k : Int) < (zs.length : Int) := by omega
          have hn : ¬ x ∈ zs := by
            intro hm
            obtain ⟨j, hj, e⟩ := List.mem_iff_getElem.1 hm
            exact HN.out j (by omega) (by simp [hj, e])
          go_wp2
          go_ret
          exact ⟨ret_b (by rw [HE.out]; exact (decide_eq_false hn).symm), rfl⟩
  · have HE := Lib.hid (show gEdge g v x = false from gEdge_no (by rw [hl]; exact hin))
    clear hl
    by_cases q1 : 0 ≤ v
    · by_cases q2 : v < n
      · by_cases q3 : 0 ≤ x
        · have q4 : ¬ x < n := fun q4 => hin ⟨q1, q2, q3, q4⟩
          go_enter Try.func32, Try.ntmps32
          go_wp2
          go_ret
          exact ⟨ret_b HE.out.symm, rfl⟩
        · go_enter Try.func32, Try.ntmps32
          go_wp2
          go_ret
          exact ⟨ret_b HE.out.symm, rfl⟩
      · go_enter Try.func32, Try.ntmps32
        go_wp2
        go_ret
        exact ⟨ret_b HE.out.symm, rfl⟩
    · go_enter Try.func32, Try.ntmps32
      go_wp2
      go_ret
      exact ⟨ret_b HE.out.symm, rfl⟩
end Go.Proofs.Ytaikpjnegopelaa
