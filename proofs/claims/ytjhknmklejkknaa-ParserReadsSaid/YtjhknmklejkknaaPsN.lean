/- Parser: the law's equalInts; the reference: transition; no condition but sizes. -/
import Derived.Test.YtjhknmklejkknaaPsM
import Derived.Test.YtjhknmklejkknaaEvO
import Derived.Deep.QuietTactic
import Derived.BigQuiet
import Derived.Deep.RegionWith
import Derived.Deep.RegionHeld
namespace Go.Proofs.Ytjhknmklejkknaa
open Go.RowKit
set_option linter.unusedVariables false
set_option maxRecDepth 100000 in
set_option maxHeartbeats 8000000 in
theorem eqints_any (w : World) (a a2 : Option Addr) (n c n2 c2 : Nat) (X Y : List Int) (hX : SI w a n c X) (hY : SI w a2 n2 c2 Y) (hn : n ≤ 100000) (b : Bool) (hb : b = true ↔ X = Y) : Calls Try.prog 19 #[.slice a n c, .slice a2 n2 c2] w (RetV (.bool b) w) := by
  have HX := Lib.hid hX
  have HY := Lib.hid hY
  have LX := Lib.hid hX.len
  have LY := Lib.hid hY.len
  have HB := Lib.hid hb
  clear hX hY hb
  go_enter Try.func19, Try.ntmps19
  by_cases hl : n = n2
  case neg =>
    have q0 : ((n : Int) != n2) = true := by rw [bne_iff_ne]; omega
    have Z := Lib.hid (show b = false by
      cases b
      · rfl
      · exfalso
        have := congrArg List.length (HB.out.1 rfl)
        rw [LX.out, LY.out] at this
        exact hl this)
    go_wp2
    go_ret
    exact ⟨by rw [Z.out] <;> rfl, gb_refl _ _⟩
  subst hl
  go_wp2
  go_loopw [5] (fun i9 wr => ∃ j : Nat, j ≤ n ∧ i9 = .int .i64 j ∧ X.take j = Y.take j ∧ w.grownBy wr none) (fun i9 _ => n - (intOf i9).toNat)
  case atStart => exact ⟨0, Nat.zero_le _, rfl, by simp, gb_refl _ _⟩
  case round =>
    obtain ⟨j, hj, rfl, ht, hg⟩ := hrel
    have HT := Lib.hid ht
    have HG := Lib.hid hg
    clear ht hg
    by_cases hlt : j < n
    · obtain ⟨xd, hxd⟩ := HX.out.some (by omega)
      obtain ⟨yd, hyd⟩ := HY.out.some (by omega)
      subst hxd hyd
      have j1 : (j : Int) < n := by omega
      have j0 : (0 : Int) ≤ (j : Int) := by omega
      have hw : IntKind.i64.wrap ((j : Int) + 1) = ((j + 1 : Nat) : Int) := by rw [IntKind.wrap_i64]; omega
      have d0 := (HX.out.keep0 HG.out).cells xd rfl j hlt
      have d1 := (HY.out.keep0 HG.out).cells yd rfl j hlt
      have TX := Lib.hid (take_one X 0 j (by rw [LX.out]; exact hlt))
      have TY := Lib.hid (take_one Y 0 j (by rw [LY.out]; exact hlt))
      have NE := Lib.hid (show X.getD j 0 ≠ Y.getD j 0 → X ≠ Y from fun q r => q (by rw [r]))
      generalize X.getD j 0 = x at *
      generalize Y.getD j 0 = y at *
      by_cases hxy : x = y
      · subst hxy
        have q0 : (x != x) = false := by simp
        have Z := Lib.hid (show X.take (j + 1) = Y.take (j + 1) by rw [TX.out, TY.out, HT.out])
        go_upto_region 6 with fail
        go_quiet (fail)
        go_wp2
        go_roundw
        case rel => exact ⟨j + 1, by omega, by go_num, Z.out, gb_dr HG.out⟩
        case measure => simp [intOf]; omega
      · have q0 : (x != y) = true := by rw [bne_iff_ne]; exact hxy
        have Z := Lib.hid (show b = false by
          cases b
          · rfl
          · exact absurd (HB.out.1 rfl) (NE.out hxy))
        clear hxy
        go_upto_region 6 with fail
        go_quiet (fail)
        go_wp2
        go_ret
        exact ⟨by rw [Z.out] <;> rfl, gb_dr HG.out⟩
    · have hje : j = n := by omega
      have j1 : ¬ (j : Int) < n := by omega
      have Z := Lib.hid (show b = true from HB.out.2 (by
        have q := HT.out
        rwa [List.take_of_length_le (by rw [LX.out]; omega), List.take_of_length_le (by rw [LY.out]; omega)] at q))
      go_wp2
      go_ret
      exact ⟨by rw [Z.out] <;> rfl, HG.out⟩
end Go.Proofs.Ytjhknmklejkknaa
