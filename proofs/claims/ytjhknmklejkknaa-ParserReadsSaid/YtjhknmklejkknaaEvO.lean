/- Env: the reference's Get, modulo, sized; no condition but sizes. -/
import Derived.Test.YtjhknmklejkknaaGxB
import Derived.Test.YtjhknmklejkknaaGxA
import Derived.Test.YtjhknmklejkknaaEvM
import Derived.Test.YtjhknmklejkknaaGxD
namespace Go.Proofs.Ytjhknmklejkknaa
open Go.RowKit
set_option linter.unusedVariables false
theorem shP_iff (H : List (ByteArray × List Fld)) (M : List Fld) (L : EL) : shP H M L ↔ L.V.length = H.length ∧ L.F.length = H.length ∧ L.T.length = M.length ∧ ∀ i, i < H.length → (L.F.getD i []).length = (H.getD i hz).2.length := by
  unfold shP
  rw [dcl_len]
  constructor
  · rintro ⟨h1, h2, h3⟩
    simp at h2
    refine ⟨h1, h2.symm, ?_, fun i hi => ?_⟩
    · have := h3 0 (by omega); simpa [dclL] using this.symm
    · have := h3 (i + 1) (by omega)
      simp [dclL, hi] at this
      have e : (H.getD i hz).2 = H[i].2 := by simp [hi]
      rw [e, this]
      have hi2 : i < L.F.length := by omega
      simp [hi2]
  · rintro ⟨h1, h2, h3, h4⟩
    refine ⟨h1, by simp; omega, fun i hi => ?_⟩
    cases i with
    | zero => simpa [dclL] using h3.symm
    | succ i =>
      have hi1 : i < H.length := by omega
      have := h4 i hi1
      have e : (H.getD i hz).2 = H[i].2 := by simp [hi1]
      rw [e] at this
      have hi2 : i < L.F.length := by omega
      simp [dclL, hi1, hi2] at this ⊢
      exact this.symm
set_option maxRecDepth 100000 in
set_option maxHeartbeats 4000000 in
theorem rsized_any (w : World) (nm v3 v4 v5 v6 v7 v8 : Value) (ha ma : Option Addr) (hn hc mn mc : Nat) (H : List (ByteArray × List Fld)) (M : List Fld) (hH : SH w ha hn hc H) (hM : SF w ma mn mc M) (va fa ta pa : Option Addr) (vn vc fn fc tn tc pn pc : Nat) (L : EL) (hV : SB w va vn vc L.V) (hF : SR w fa fn fc L.F) (hT : SU w ta tn tc L.T) (hb : hn ≤ 100000) (bo : Bool) (hbo : bo = true ↔ shP H M L) :
    Calls Try.prog 51 #[.agg #[nm, .slice ha hn hc, .slice ma mn mc, v3, v4, v5, v6, v7, v8], .agg #[.slice va vn vc, .slice fa fn fc, .slice ta tn tc, .slice pa pn pc]] w (RetV (.bool bo) w) := by
  have HH := Lib.hid hH
  have HF := Lib.hid hF
  have HL := Lib.hid hH.len
  have LH := Lib.hid hb
  have HBO := Lib.hid (hbo.trans (shP_iff H M L))
  have hv := hV.len
  have hf := hF.len
  have ht := hT.len
  have hm := hM.len
  have hh := hH.len
  have GB := Lib.hid (gb_trans (gb_alloc w (.cells #[nm, .slice ha hn hc, .slice ma mn mc, v3, v4, v5, v6, v7, v8] 31) none) (gb_alloc _ (.cells #[.slice va vn vc, .slice fa fn fc, .slice ta tn tc, .slice pa pn pc] 42) none))
  have B1 := (IsB.new w 31 #[nm, .slice ha hn hc, .slice ma mn mc, v3, v4, v5, v6, v7, v8]).alloc (.cells #[.slice va vn vc, .slice fa fn fc, .slice ta tn tc, .slice pa pn pc] 42)
  have B2 := IsB.new (w.alloc (.cells #[nm, .slice ha hn hc, .slice ma mn mc, v3, v4, v5, v6, v7, v8] 31)) 42 #[.slice va vn vc, .slice fa fn fc, .slice ta tn tc, .slice pa pn pc]
  simp only [sz_al] at B2
  replace B1 := Lib.hid B1
  replace B2 := Lib.hid B2
  clear hH hM hV hF hT hb hbo
  by_cases e1 : (vn : Int) = hn
  · have d1 : ((vn : Int) != hn) = false := by rw [bne_eq_false_iff_eq]; exact e1
    by_cases e2 : (fn : Int) = hn
    · have d2 : ((fn : Int) != hn) = false := by rw [bne_eq_false_iff_eq]; exact e2
      by_cases e3 : (tn : Int) = mn
      · have d3 : ((tn : Int) != mn) = false := by rw [bne_eq_false_iff_eq]; exact e3
        have HBO2 := Lib.hid (show bo = true ↔ ∀ i, i < hn → (L.F.getD i []).length = (H.getD i hz).2.length from HBO.out.trans ⟨fun q i hi => q.2.2.2 i (by omega), fun q => ⟨by omega, by omega, by omega, fun i hi => q i (by omega)⟩⟩)
        have FN := Lib.hid (show fn = hn by omega)
        clear e1 e2 e3 HBO hv hf ht hm hh
        go_enter Try.func51, Try.ntmps51
        go_upto_region 1 with fail
        generalize (w.alloc (.cells #[nm, .slice ha hn hc, .slice ma mn mc, v3, v4, v5, v6, v7, v8] 31)).alloc (.cells #[.slice va vn vc, .slice fa fn fc, .slice ta tn tc, .slice pa pn pc] 42) = w2 at *
        obtain ⟨bx, hbx⟩ : ∃ b, b = w.heap.size := ⟨_, rfl⟩
        have Lbx := Lib.hid (show w.heap.size ≤ bx by rw [hbx]; exact Nat.le_refl _)
        rw [← hbx] at B1 B2 ⊢
        clear hbx
        have c0 := B1.out.cell 0
        have c1 := B1.out.cell 1
        have c2 := B1.out.cell 2
        have c3 := B1.out.cell 3
        have c4 := B1.out.cell 4
        have c5 := B1.out.cell 5
        have c6 := B1.out.cell 6
        have c7 := B1.out.cell 7
        have c8 := B1.out.cell 8
        dsimp at c0 c1 c2 c3 c4 c5 c6 c7 c8
        have x0 := B2.out.cell 0
        have x1 := B2.out.cell 1
        have x2 := B2.out.cell 2
        have x3 := B2.out.cell 3
        dsimp at x0 x1 x2 x3
        go_wp2
        clear c0 c1 c2 c3 c4 c5 c6 c7 c8 x0 x1 x2 x3
        go_loopw [5] (fun i wr => ∃ k : Nat, k ≤ hn ∧ i = .int .i64 k ∧ (∀ i, i < k → (L.F.getD i []).length = (H.getD i hz).2.length) ∧ w2.grownBy wr none) (fun i _ => hn - (intOf i).toNat)
        case atStart => exact ⟨0, Nat.zero_le _, rfl, (fun i hi => absurd hi (Nat.not_lt_zero _)), gb_refl _ _⟩
        case round =>
          obtain ⟨k, hk, rfl, ht, hg⟩ := hrel
          have HT := Lib.hid ht
          have HG := Lib.hid hg
          clear ht hg
          have c1 := (B1.out.keep0 HG.out).cell 1
          have x1 := (B2.out.keep0 HG.out).cell 1
          dsimp at c1 x1
          by_cases hlt : k < hn
          · obtain ⟨ad, rfl⟩ := HH.out.some (by omega)
            obtain ⟨bd, rfl⟩ := HF.out.some (by have := FN.out; omega)
            obtain ⟨-, fa2, fn2, fc2, e1, s1⟩ := (HH.out.keep0 (gb_trans GB.out HG.out)).cells ad rfl k hlt
            obtain ⟨ga, gn, gc, e2, s2⟩ := (HF.out.keep0 (gb_trans GB.out HG.out)).cells bd rfl k (by have := FN.out; omega)
            have i1 : (k : Int) < hn := by omega
            have i1' : (k : Int) < fn := by have := FN.out; omega
            have i0 : (0 : Int) ≤ (k : Int) := by omega
            have hw : IntKind.i64.wrap ((k : Int) + 1) = ((k + 1 : Nat) : Int) := by have := LH.out; rw [IntKind.wrap_i64]; omega
            have S1 := Lib.hid s1.len
            have S2 := Lib.hid s2.len
            clear s1 s2
            by_cases e : (gn : Int) = fn2
            · have d4 : ((gn : Int) != fn2) = false := by rw [bne_eq_false_iff_eq]; exact e
              have HT2 := Lib.hid (show ∀ i, i < k + 1 → (L.F.getD i []).length = (H.getD i hz).2.length from fun i hi => by
                rcases (show i < k ∨ i = k by omega) with q | rfl
                · exact HT.out i q
                · rw [S1.out, S2.out]; omega)
              clear e
              go_wp2
              (try go_quiet (fail))
              (try go_wp2)
              go_roundw
              case rel => exact ⟨k + 1, by omega, by first | rfl | (congr 1), HT2.out, gb_trans HG.out (by first | exact gb_drewN _ _ _ | exact gb_refl _ _)⟩
              case measure => simp [intOf]; omega
            · have d4 : ((gn : Int) != fn2) = true := by rw [bne_iff_ne]; exact e
              have d5 : ¬ (gn : Int) = fn2 := e
              have BF := Lib.hid (show bo = false from bool_no HBO2.out fun q => e (by have := q k hlt; rw [S1.out, S2.out] at this; omega))
              go_wp2
              (try go_quiet (fail))
              (try go_wp2)
              go_ret
              exact ⟨by rw [BF.out] <;> rfl, gb_trans GB.out (gb_trans HG.out (by first | exact gb_drewN _ _ _ | exact gb_refl _ _))⟩
          · have i1 : ¬ (k : Int) < hn := by omega
            obtain rfl : k = hn := by omega
            have BF := Lib.hid (show bo = true from HBO2.out.2 HT.out)
            go_wp2
            go_ret
            exact ⟨by rw [BF.out] <;> rfl, gb_trans GB.out HG.out⟩
      · have d3 : ((tn : Int) != mn) = true := by rw [bne_iff_ne]; exact e3
        have BF := Lib.hid (show bo = false from bool_no HBO.out fun q => e3 (by have := q.2.2.1; omega))
        clear HBO hv hf ht hm hh
        go_enter Try.func51, Try.ntmps51
        go_upto_region 1 with fail
        generalize (w.alloc (.cells #[nm, .slice ha hn hc, .slice ma mn mc, v3, v4, v5, v6, v7, v8] 31)).alloc (.cells #[.slice va vn vc, .slice fa fn fc, .slice ta tn tc, .slice pa pn pc] 42) = w2 at *
        obtain ⟨bx, hbx⟩ : ∃ b, b = w.heap.size := ⟨_, rfl⟩
        have Lbx := Lib.hid (show w.heap.size ≤ bx by rw [hbx]; exact Nat.le_refl _)
        rw [← hbx] at B1 B2 ⊢
        clear hbx
        have c0 := B1.out.cell 0
        have c1 := B1.out.cell 1
        have c2 := B1.out.cell 2
        have c3 := B1.out.cell 3
        have c4 := B1.out.cell 4
        have c5 := B1.out.cell 5
        have c6 := B1.out.cell 6
        have c7 := B1.out.cell 7
        have c8 := B1.out.cell 8
        dsimp at c0 c1 c2 c3 c4 c5 c6 c7 c8
        have x0 := B2.out.cell 0
        have x1 := B2.out.cell 1
        have x2 := B2.out.cell 2
        have x3 := B2.out.cell 3
        dsimp at x0 x1 x2 x3
        go_wp2
        go_ret
        exact ⟨by rw [BF.out] <;> rfl, GB.out⟩
    · have d2 : ((fn : Int) != hn) = true := by rw [bne_iff_ne]; exact e2
      have BF := Lib.hid (show bo = false from bool_no HBO.out fun q => e2 (by have := q.2.1; omega))
      clear HBO hv hf ht hm hh
      go_enter Try.func51, Try.ntmps51
      go_upto_region 1 with fail
      generalize (w.alloc (.cells #[nm, .slice ha hn hc, .slice ma mn mc, v3, v4, v5, v6, v7, v8] 31)).alloc (.cells #[.slice va vn vc, .slice fa fn fc, .slice ta tn tc, .slice pa pn pc] 42) = w2 at *
      obtain ⟨bx, hbx⟩ : ∃ b, b = w.heap.size := ⟨_, rfl⟩
      have Lbx := Lib.hid (show w.heap.size ≤ bx by rw [hbx]; exact Nat.le_refl _)
      rw [← hbx] at B1 B2 ⊢
      clear hbx
      have c0 := B1.out.cell 0
      have c1 := B1.out.cell 1
      have c2 := B1.out.cell 2
      have c3 := B1.out.cell 3
      have c4 := B1.out.cell 4
      have c5 := B1.out.cell 5
      have c6 := B1.out.cell 6
      have c7 := B1.out.cell 7
      have c8 := B1.out.cell 8
      dsimp at c0 c1 c2 c3 c4 c5 c6 c7 c8
      have x0 := B2.out.cell 0
      have x1 := B2.out.cell 1
      have x2 := B2.out.cell 2
      have x3 := B2.out.cell 3
      dsimp at x0 x1 x2 x3
      go_wp2
      go_ret
      exact ⟨by rw [BF.out] <;> rfl, GB.out⟩
  · have d1 : ((vn : Int) != hn) = true := by rw [bne_iff_ne]; exact e1
    have BF := Lib.hid (show bo = false from bool_no HBO.out fun q => e1 (by have := q.1; omega))
    clear HBO hv hf ht hm hh
    go_enter Try.func51, Try.ntmps51
    go_upto_region 1 with fail
    generalize (w.alloc (.cells #[nm, .slice ha hn hc, .slice ma mn mc, v3, v4, v5, v6, v7, v8] 31)).alloc (.cells #[.slice va vn vc, .slice fa fn fc, .slice ta tn tc, .slice pa pn pc] 42) = w2 at *
    obtain ⟨bx, hbx⟩ : ∃ b, b = w.heap.size := ⟨_, rfl⟩
    have Lbx := Lib.hid (show w.heap.size ≤ bx by rw [hbx]; exact Nat.le_refl _)
    rw [← hbx] at B1 B2 ⊢
    clear hbx
    have c0 := B1.out.cell 0
    have c1 := B1.out.cell 1
    have c2 := B1.out.cell 2
    have c3 := B1.out.cell 3
    have c4 := B1.out.cell 4
    have c5 := B1.out.cell 5
    have c6 := B1.out.cell 6
    have c7 := B1.out.cell 7
    have c8 := B1.out.cell 8
    dsimp at c0 c1 c2 c3 c4 c5 c6 c7 c8
    have x0 := B2.out.cell 0
    have x1 := B2.out.cell 1
    have x2 := B2.out.cell 2
    have x3 := B2.out.cell 3
    dsimp at x0 x1 x2 x3
    go_wp2
    go_ret
    exact ⟨by rw [BF.out] <;> rfl, GB.out⟩
end Go.Proofs.Ytjhknmklejkknaa
