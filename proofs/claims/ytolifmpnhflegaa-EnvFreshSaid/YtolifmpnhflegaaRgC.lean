/- Register: the small functions of both sides; no condition but sizes. -/
import Derived.Test.YtolifmpnhflegaaRgB
namespace Go.Proofs.Ytolifmpnhflegaa
open Go.RowKit
set_option linter.unusedVariables false
/-- The call returns v and changes nothing; it may draw. -/
def RetD (v : Value) (w : World) (e : Ending) (w' : World) : Prop := e = .returned v ∧ ∃ m, w' = w.drewN m
theorem dn_zero (w : World) : ∃ m, w = w.drewN m := ⟨0, rfl⟩
theorem dn_more {w w2 : World} (h : ∃ m, w2 = w.drewN m) (n : Nat) : ∃ m, w2.drewN n = w.drewN m := by
  obtain ⟨m, rfl⟩ := h; exact ⟨m + n, by rw [World.drewN_drewN]⟩
theorem dn_one {w w2 : World} (h : ∃ m, w2 = w.drewN m) : ∃ m, w2.drew = w.drewN m := by
  obtain ⟨m, rfl⟩ := h; exact ⟨m + 1, rfl⟩
theorem dn_trans {a b c : World} (h : ∃ m, b = a.drewN m) (k : ∃ m, c = b.drewN m) : ∃ m, c = a.drewN m := by
  obtain ⟨m, rfl⟩ := h; obtain ⟨n, rfl⟩ := k; exact ⟨m + n, by rw [World.drewN_drewN]⟩
theorem dn_gb {w w2 : World} (h : ∃ m, w2 = w.drewN m) (row : Option Nat) : w.grownBy w2 row := by
  obtain ⟨m, rfl⟩ := h; exact gb_drewN w m row
theorem RetD.v {v : Value} {w w' : World} {e : Ending} (h : RetD v w e w') : RetV v w e w' := ⟨h.1, dn_gb h.2 _⟩
theorem rfits_any (v w : Int) (W : World) (k0 : 0 ≤ v) (k1 : v < 4294967296) (h0 : 0 ≤ w) (h1 : w ≤ 32) : Calls Try.prog 28 #[.int .u32 v, .int .i64 w] W (RetS (.bool (decide (v < pw w.toNat))) W) := by
  go_enter Try.func28, Try.ntmps28
  go_wp2
  go_loop [5, 6] (fun x i => ∃ k : Nat, k ≤ w.toNat ∧ x = .int .u64 (pw k) ∧ i = .int .i64 k) (fun _ i => w.toNat - (intOf i).toNat)
  case atStart => exact ⟨0, Nat.zero_le _, rfl, rfl⟩
  case round =>
    obtain ⟨k, hk, rfl, rfl⟩ := hrel
    have hp := pw_pos k
    by_cases hlt : (k : Int) < w
    · have hb := pw_le62 k (by omega)
      go_wp2
      go_round
      case rel => exact ⟨k + 1, by omega, by rw [pw_succ], by go_num⟩
      case measure => simp [intOf]; omega
    · go_wp2
      go_ret
      exact ⟨ret_b (by rw [show k = w.toNat by omega]), rfl⟩
end Go.Proofs.Ytolifmpnhflegaa
