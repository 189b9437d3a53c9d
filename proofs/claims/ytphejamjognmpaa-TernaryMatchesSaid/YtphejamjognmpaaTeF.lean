/- Ternary: the walk of character. -/
import Derived.Test.YtphejamjognmpaaTeE
namespace Go.Proofs.Ytphejamjognmpaa
open Go.RowKit
set_option linter.unusedVariables false

theorem bitAt (x i : Nat) (hx : B64 x) : ∃ y : Nat, (x : Int) / 2 ^ i = (y : Int) ∧ y % 2 = x / 2 ^ i % 2 ∧ bits .and .u64 (y : Int) 1 = ((y % 2 : Nat) : Int) := by
  refine ⟨x / 2 ^ i, by simp, rfl, ?_⟩
  have q := u64_and_nat (x / 2 ^ i) 1 (Nat.lt_of_le_of_lt (Nat.div_le_self _ _) hx) (by decide)
  rw [Nat.and_one_is_mod] at q
  exact q
/-- How bit i of a cube is written. -/
def chr (v m i : Nat) : Int := if m / 2 ^ i % 2 = 0 then 120 else if v / 2 ^ i % 2 = 0 then 48 else 49
set_option maxRecDepth 100000 in
theorem char_any (W : World) (v m i : Nat) (hv : B64 v) (hm : B64 m) (hi : i < 64) : Calls Try.prog 29 #[.agg #[.int .u64 v, .int .u64 m], .int .i64 i] W (RetV (.int .u8 (chr v m i)) W) := by
  obtain ⟨y, ey, hy, by1⟩ := bitAt m i hm
  obtain ⟨z, ez, hz, bz1⟩ := bitAt v i hv
  have e : chr v m i = if y % 2 = 0 then 120 else if z % 2 = 0 then 48 else 49 := by unfold chr; rw [hy, hz]
  rw [e]
  have i2 : (0 : Int) ≤ i := by omega
  have i3 : i ≤ 64 := by omega
  clear hy hz e
  by_cases h0 : y % 2 = 0
  · rw [if_pos h0]
    rw [h0] at by1
    go_enter Try.func29, Try.ntmps29
    go_wp2
    go_ret
    exact ⟨rfl, gb_alloc _ _ _⟩
  · rw [if_neg h0]
    have h1 : y % 2 = 1 := by omega
    rw [h1] at by1
    clear h0
    by_cases h2 : z % 2 = 0
    · rw [if_pos h2]
      rw [h2] at bz1
      go_enter Try.func29, Try.ntmps29
      go_wp2
      go_ret
      exact ⟨rfl, gb_alloc _ _ _⟩
    · rw [if_neg h2]
      have h3 : z % 2 = 1 := by omega
      rw [h3] at bz1
      clear h2
      go_enter Try.func29, Try.ntmps29
      go_wp2
      go_ret
      exact ⟨rfl, gb_alloc _ _ _⟩
end Go.Proofs.Ytphejamjognmpaa
