/- Expr: the law's own test of a header's validity; no condition. -/
import Derived.Test.YtdbjeihbfooipaaExWd
namespace Go.Proofs.Ytdbjeihbfooipaa
open Go.RowKit
set_option linter.unusedVariables false
set_option maxRecDepth 100000 in
set_option maxHeartbeats 2000000 in
theorem lvalid_any (w : World) (va fa ta pa : Option Addr) (vn vc fn fc tn tc pn pc : Nat) (L : EL) (hV : SB w va vn vc L.V) (h : Int) : Calls Try.prog 19 #[.agg #[.slice va vn vc, .slice fa fn fc, .slice ta tn tc, .slice pa pn pc], .int .i64 h] w (RetV (.bool (validB L.V h)) w) := by
  have HV := Lib.hid hV
  have GB0 := Lib.hid (gb_alloc w (.cells #[.slice va vn vc, .slice fa fn fc, .slice ta tn tc, .slice pa pn pc] 38) none)
  have GB := Lib.hid (gb_alloc w (.cells #[.slice va vn vc, .slice fa fn fc, .slice ta tn tc, .slice pa pn pc] 38) none)
  have B1 := IsB.new w 38 #[.slice va vn vc, .slice fa fn fc, .slice ta tn tc, .slice pa pn pc]
  replace B1 := Lib.hid B1
  clear hV
  by_cases h0 : h < 0
  · have WE := Lib.hid (show validB L.V h = false by unfold validB; rw [(isX_not h L.V.length).2 (by omega)]; rfl)
    have h0' : ¬ (0 : Int) ≤ h := by omega
    go_enter Try.func19, Try.ntmps19
    go_upto_region 1 with fail
    generalize w.alloc (.cells #[.slice va vn vc, .slice fa fn fc, .slice ta tn tc, .slice pa pn pc] 38) = w2 at *
    obtain ⟨bx, hbx⟩ : ∃ b, b = w.heap.size := ⟨_, rfl⟩
    have Lbx := Lib.hid (show w.heap.size ≤ bx by rw [hbx]; exact Nat.le_refl _)
    rw [← hbx] at B1 ⊢
    clear hbx
    have c0 := B1.out.cell 0
    have c1 := B1.out.cell 1
    have c2 := B1.out.cell 2
    have c3 := B1.out.cell 3
    dsimp at c0 c1 c2 c3
    go_wp2
    go_ret
    exact ⟨by rw [WE.out] <;> rfl, GB.out⟩
  by_cases h1 : (vn : Int) ≤ h
  · have WE := Lib.hid (show validB L.V h = false by unfold validB; rw [(isX_not h L.V.length).2 (by rw [HV.out.len]; omega)]; rfl)
    have h0' : (0 : Int) ≤ h := by omega
    have h1' : ¬ h < (vn : Int) := by omega
    go_enter Try.func19, Try.ntmps19
    go_upto_region 1 with fail
    generalize w.alloc (.cells #[.slice va vn vc, .slice fa fn fc, .slice ta tn tc, .slice pa pn pc] 38) = w2 at *
    obtain ⟨bx, hbx⟩ : ∃ b, b = w.heap.size := ⟨_, rfl⟩
    have Lbx := Lib.hid (show w.heap.size ≤ bx by rw [hbx]; exact Nat.le_refl _)
    rw [← hbx] at B1 ⊢
    clear hbx
    have c0 := B1.out.cell 0
    have c1 := B1.out.cell 1
    have c2 := B1.out.cell 2
    have c3 := B1.out.cell 3
    dsimp at c0 c1 c2 c3
    go_wp2
    go_ret
    exact ⟨by rw [WE.out] <;> rfl, GB.out⟩
  obtain ⟨k, rfl⟩ : ∃ k : Nat, h = (k : Int) := ⟨h.toNat, by omega⟩
  have hk : k < vn := by omega
  obtain ⟨vd, hvd⟩ := HV.out.some (by omega)
  have e1 := HV.out.cells vd hvd k hk
  have WE := Lib.hid (show validB L.V (k : Int) = L.V.getD k false by unfold validB; rw [(isX_iff (k : Int) L.V.length).2 (by rw [HV.out.len]; omega), Bool.true_and, Int.toNat_natCast])
  have e2 := GB0.out.cell e1 (by simp)
  generalize L.V.getD k false = b at *
  have k0 : (0 : Int) ≤ (k : Int) := by omega
  have k1 : (k : Int) < vn := by omega
  clear h0 h1 e1
  subst hvd
  go_enter Try.func19, Try.ntmps19
  go_upto_region 1 with fail
  generalize w.alloc (.cells #[.slice (some vd) vn vc, .slice fa fn fc, .slice ta tn tc, .slice pa pn pc] 38) = w2 at *
  obtain ⟨bx, hbx⟩ : ∃ b, b = w.heap.size := ⟨_, rfl⟩
  have Lbx := Lib.hid (show w.heap.size ≤ bx by rw [hbx]; exact Nat.le_refl _)
  rw [← hbx] at B1 ⊢
  clear hbx
  have c0 := B1.out.cell 0
  have c1 := B1.out.cell 1
  have c2 := B1.out.cell 2
  have c3 := B1.out.cell 3
  dsimp at c0 c1 c2 c3
  go_wp2
  go_ret
  exact ⟨by rw [WE.out] <;> rfl, GB.out⟩
end Go.Proofs.Ytdbjeihbfooipaa
