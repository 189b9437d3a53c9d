/- Expr: the reference's Check and Eval, and the law Evaluates; no condition. -/
import Derived.Test.YtdbjeihbfooipaaExWb
import Derived.Test.YtdbjeihbfooipaaExM
import Derived.Test.YtdbjeihbfooipaaExN
import Derived.BigQuiet
namespace Go.Proofs.Ytdbjeihbfooipaa
open Go.RowKit
set_option linter.unusedVariables false
set_option maxRecDepth 100000 in
set_option maxHeartbeats 8000000 in
theorem rcheck13_any (w : World) (X : KX) (C : Cx) (N : List Nd) (hC : CR w X C N) :
    Calls Try.prog 105 #[.slice X.na X.nn X.nc, .agg #[.string X.nm, .slice X.ha X.hn X.hc, .slice X.ma X.mn X.mc, .slice X.a0 X.n0 X.c0, .slice X.a1 X.n1 X.c1, .slice X.a2 X.n2 X.c2, .slice X.a3 X.n3 X.c3, .slice X.a4 X.n4 X.c4, .slice X.a5 X.n5 X.c5, .slice X.pa X.pn X.pc]] w (RetWE (wholeT C N) w) := by
  have LN := Lib.hid hC.nd.len
  have ncap := hC.nd.cap
  have CHK := Lib.hid (fun (w2 : World) (g : w.grownBy w2 none) (h : N.length ≤ 100000) => by have z := rchk_any (N.length + 1) w2 X C N (hC.keep0 g) 0 (Nat.zero_le _) h (by omega); rw [List.drop_zero] at z; exact z)
  unfold RetChk at CHK
  clear hC
  have G1 := Lib.hid (gb_alloc w (.cells #[.string X.nm, .slice X.ha X.hn X.hc, .slice X.ma X.mn X.mc, .slice X.a0 X.n0 X.c0, .slice X.a1 X.n1 X.c1, .slice X.a2 X.n2 X.c2, .slice X.a3 X.n3 X.c3, .slice X.a4 X.n4 X.c4, .slice X.a5 X.n5 X.c5, .slice X.pa X.pn X.pc] 179) none)
  have B1 := IsB.new w 179 #[.string X.nm, .slice X.ha X.hn X.hc, .slice X.ma X.mn X.mc, .slice X.a0 X.n0 X.c0, .slice X.a1 X.n1 X.c1, .slice X.a2 X.n2 X.c2, .slice X.a3 X.n3 X.c3, .slice X.a4 X.n4 X.c4, .slice X.a5 X.n5 X.c5, .slice X.pa X.pn X.pc]
  replace B1 := Lib.hid B1
  go_enter Try.func105, Try.ntmps105
  go_upto_region 1 with fail
  generalize w.alloc (.cells #[.string X.nm, .slice X.ha X.hn X.hc, .slice X.ma X.mn X.mc, .slice X.a0 X.n0 X.c0, .slice X.a1 X.n1 X.c1, .slice X.a2 X.n2 X.c2, .slice X.a3 X.n3 X.c3, .slice X.a4 X.n4 X.c4, .slice X.a5 X.n5 X.c5, .slice X.pa X.pn X.pc] 179) = w1 at *
  obtain ⟨bx, hbx⟩ : ∃ b, b = w.heap.size := ⟨_, rfl⟩
  have Lbx := Lib.hid (show w.heap.size ≤ bx by rw [hbx]; exact Nat.le_refl _)
  rw [← hbx] at B1 ⊢
  clear hbx
  by_cases h24 : 24 < X.nn
  · have HS := Lib.hid (show wholeT C N = .error 12 by unfold wholeT; rw [if_pos (by rw [LN.out]; exact h24)])
    have i24 : (24 : Int) < (X.nn : Int) := by omega
    clear h24
    go_wp2
    go_ret2
    rw [HS.out]
    exact ⟨rfl, G1.out⟩
  have i24 : ¬ (24 : Int) < (X.nn : Int) := by omega
  have HS := Lib.hid (show wholeT C N = match subT C (N.length + 1) N with
      | .error e => .error e
      | .ok (t, l) => if l = [] then .ok t else .error 4 by
      unfold wholeT
      rw [if_neg (by rw [LN.out]; exact h24)]
      cases subT C (N.length + 1) N with
      | error e => rfl
      | ok r => obtain ⟨t, l⟩ := r; rfl)
  replace CHK := Lib.hid (fun (w2 : World) (g : w.grownBy w2 none) => CHK.out w2 g (by have := LN.out; omega))
  clear h24
  have a0 := (B1.out).cell 0
  have a1 := (B1.out).cell 1
  have a2 := (B1.out).cell 2
  have a3 := (B1.out).cell 3
  have a4 := (B1.out).cell 4
  have a5 := (B1.out).cell 5
  have a6 := (B1.out).cell 6
  have a7 := (B1.out).cell 7
  have a8 := (B1.out).cell 8
  have a9 := (B1.out).cell 9
  dsimp at a0 a1 a2 a3 a4 a5 a6 a7 a8 a9
  cases hr : subT C (N.length + 1) N with
  | error er =>
    rw [hr] at CHK HS
    have ne := sub_err C _ _ er hr
    have e1 : (er != 0) = true := by rw [bne_iff_ne]; exact ne
    have e2 : (er == 0) = false := by rw [beq_eq_false_iff_ne]; exact ne
    have e3 : ¬ er = 0 := ne
    clear hr ne
    go_wp2_with fail
    refine (CHK.out _ G1.out).mono ?_
    rintro e w7 ⟨g7, j, rfl⟩
    have G7 := Lib.hid (gb_trans G1.out g7)
    clear g7 CHK
    clear a0 a1 a2 a3 a4 a5 a6 a7 a8 a9
    go_wp2
    go_ret2
    rw [HS.out]
    exact ⟨rfl, G7.out⟩
  | ok r =>
    obtain ⟨t, l⟩ := r
    rw [hr] at CHK HS
    clear hr
    go_wp2_with fail
    refine (CHK.out _ G1.out).mono ?_
    rintro e w7 ⟨g7, k2, hk2, rfl, rfl⟩
    have G7 := Lib.hid (gb_trans G1.out g7)
    clear g7 CHK
    clear a0 a1 a2 a3 a4 a5 a6 a7 a8 a9
    by_cases hke : k2 = X.nn
    · have i1 : ¬ (k2 : Int) < (X.nn : Int) := by omega
      have HS2 := Lib.hid (show wholeT C N = .ok t by rw [HS.out]; show (if N.drop k2 = [] then _ else _) = _; rw [if_pos (List.drop_of_length_le (by rw [LN.out]; omega))])
      clear hke
      go_wp2
      go_ret2
      rw [HS2.out]
      exact ⟨rfl, G7.out⟩
    · have i1 : (k2 : Int) < (X.nn : Int) := by have := LN.out; omega
      have HS2 := Lib.hid (show wholeT C N = .error 4 by
        rw [HS.out]
        show (if N.drop k2 = [] then _ else _) = _
        rw [if_neg (fun h => by have := congrArg List.length h; rw [List.length_drop, LN.out] at this; simp at this; omega)])
      clear hke
      go_wp2
      go_ret2
      rw [HS2.out]
      exact ⟨rfl, G7.out⟩
theorem whole_ok2 {C : Cx} {N : List Nd} {t : Tm} (h : wholeT C N = .ok t) : N.length ≤ 24 ∧ subT C (N.length + 1) N = .ok (t, []) := by
  unfold wholeT at h
  split at h
  · cases h
  · rename_i h24
    refine ⟨by omega, ?_⟩
    split at h
    · cases h
    · rename_i t2 l2 hs
      split at h
      · rename_i hl; injection h with h; subst h hl; exact hs
      · cases h
theorem low13 {W W' : World} {e : Ending} (h : RetV (.bool true) W e W') : e = .returned (.bool true) ∧ Below W.heap.size W W' := ⟨h.1, ⟨h.2.os, h.2.tape, h.2.output, h.2.size, fun i hi => h.2.block i hi (by simp)⟩⟩
end Go.Proofs.Ytdbjeihbfooipaa
