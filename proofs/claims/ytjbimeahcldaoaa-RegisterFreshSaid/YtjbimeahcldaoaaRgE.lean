/- Register: equality of contents on both sides; no condition but sizes. -/
import Derived.Test.YtjbimeahcldaoaaRgD
namespace Go.Proofs.Ytjbimeahcldaoaa
open Go.RowKit
set_option linter.unusedVariables false

set_option maxRecDepth 100000 in
set_option maxHeartbeats 2000000 in
theorem requr_any (w : World) (a b : Option Addr) (n c m d : Nat) (L M : List (List Int)) (h : SR w a n c L) (g : SR w b m d M) (hn : n ≤ 1000000) (hm : m ≤ 1000000) (hl1 : ∀ j, (L.getD j []).length ≤ 1000000) (hl2 : ∀ j, (M.getD j []).length ≤ 1000000) :
    Calls Try.prog 12 #[.slice a n c, .slice b m d] w (RetD (.bool (decide (L = M))) w) := by
  have H1 := Lib.hid h
  have H2 := Lib.hid g
  have hx := h.len
  have hy := g.len
  clear h g
  by_cases hl : L.length = M.length
  · have e0 : n = m := by omega
    have HX := Lib.hid hx
    have HY := Lib.hid (show M.length = n by omega)
    clear hx hy hl
    subst e0
    go_enter Try.func12, Try.ntmps12
    go_wp2
    go_loopw [5] (fun s wr => ∃ k : Nat, k ≤ n ∧ s = .int .i64 k ∧ (∀ j, j < k → L.getD j [] = M.getD j []) ∧ ∃ m, wr = w.drewN m) (fun s _ => n - (intOf s).toNat)
    case atStart => exact ⟨0, Nat.zero_le _, rfl, fun j hj => absurd hj (Nat.not_lt_zero _), dn_zero _⟩
    case round =>
      obtain ⟨k, hk, rfl, hno, hg⟩ := hrel
      have HG := Lib.hid hg
      have HN := Lib.hid hno
      clear hg hno
      by_cases hlt : k < n
      · obtain ⟨ar, rfl⟩ := H1.out.some (by omega)
        obtain ⟨br, rfl⟩ := H2.out.some (by omega)
        obtain ⟨A1, N1, C1, c1, r1⟩ := (H1.out.keep0 (dn_gb HG.out _)).cells ar rfl k hlt
        obtain ⟨A2, N2, C2, c2, r2⟩ := (H2.out.keep0 (dn_gb HG.out _)).cells br rfl k hlt
        have i0 : (0 : Int) ≤ (k : Int) := by omega
        have i2 : (k : Int) < (n : Int) := by omega
        have HQ := Lib.hid fun q : Nat => requ_any (wr.drewN q) A1 A2 N1 C1 N2 C2 (L.getD k []) (M.getD k []) (r1.keep0 (gb_drewN _ _ _)) (r2.keep0 (gb_drewN _ _ _)) (by rw [← r1.len]; exact hl1 k) (by rw [← r2.len]; exact hl2 k)
        have HX2 := Lib.hid (show ∀ j, j < k + 1 → L.getD k [] = M.getD k [] → L.getD j [] = M.getD j [] from fun j hj he => by
            rcases (show j < k ∨ j = k by omega) with q | rfl
            · exact HN.out j q
            · exact he)
        have HE := Lib.hid (show ¬ L.getD k [] = M.getD k [] → ¬ L = M from fun e q => e (by rw [q]))
        clear r1 r2 hl1 hl2
        generalize L.getD k [] = x at *
        generalize M.getD k [] = y at *
        by_cases he : x = y
        · subst he
          have HA := Lib.hid (show ∀ j, j < k + 1 → L.getD j [] = M.getD j [] from fun j hj => HX2.out j hj rfl)
          have HQ2 := Lib.hid fun q => (show _ = true from decide_eq_true (rfl : x = x)) ▸ HQ.out q
          unfold RetD at HQ2
          clear HX2 HE HQ
          go_wp2
          go_quiet ((go_at_call 27; exact Calls.quiet_of (HQ2.out _)))
          go_wp2
          go_roundw
          case rel => exact ⟨k + 1, by omega, by go_num, HA.out, dn_more HG.out _⟩
          case measure => simp [intOf]; omega
        · have HQ2 := Lib.hid fun q => (show _ = false from decide_eq_false he) ▸ HQ.out q
          unfold RetD at HQ2
          have HE2 := Lib.hid (show decide (L = M) = false from decide_eq_false (HE.out he))
          clear HX2 HE HQ he
          go_wp2
          go_quiet ((go_at_call 27; exact Calls.quiet_of (HQ2.out _)))
          go_wp2
          go_ret
          exact ⟨by rw [HE2.out] <;> rfl, dn_more HG.out _⟩
      · have hke : k = n := by omega
        subst hke
        have HE := Lib.hid (show decide (L = M) = true from decide_eq_true (by
          apply List.ext_getElem (by rw [HX.out, HY.out])
          intro i h1 h2
          have q := HN.out i (by have := HX.out; omega)
          simpa [h1, h2] using q))
        go_wp2
        go_ret
        exact ⟨by rw [HE.out] <;> rfl, HG.out⟩
  · have HE := Lib.hid (show decide (L = M) = false from decide_eq_false fun e => hl (by rw [e]))
    have hne : ¬ n = m := by omega
    have hne2 : ¬ (n : Int) = (m : Int) := by omega
    clear hx hy hl
    go_enter Try.func12, Try.ntmps12
    go_wp2
    go_ret
    exact ⟨by rw [HE.out] <;> rfl, dn_zero _⟩

theorem eq1_any (w : World) (a b : Option Addr) (n c m d : Nat) (X Y : List Int) (h : SU w a n c X) (g : SU w b m d Y) (hn : n ≤ 1000000) (hm : m ≤ 1000000) :
    Calls Try.prog 32 #[.slice a n c, .slice b m d] w (RetD (.bool (decide (X = Y))) w) := by
  have Q := Lib.hid (sequ_any w a b n c m d X Y h g hn hm)
  clear h g
  go_enter Try.func32, Try.ntmps32
  go_wp2_with fail
  refine Q.out.mono ?_
  rintro e w2 ⟨rfl, g2⟩
  have G2 := Lib.hid g2
  clear g2
  go_wp2
  go_ret
  exact ⟨rfl, G2.out⟩

set_option maxRecDepth 100000 in
set_option maxHeartbeats 2000000 in
theorem sequr_any (w : World) (a b : Option Addr) (n c m d : Nat) (L M : List (List Int)) (h : SR w a n c L) (g : SR w b m d M) (hn : n ≤ 1000000) (hm : m ≤ 1000000) (hl1 : ∀ j, (L.getD j []).length ≤ 1000000) (hl2 : ∀ j, (M.getD j []).length ≤ 1000000) :
    Calls Try.prog 34 #[.slice a n c, .slice b m d, .func (.func 32) #[] #[]] w (RetD (.bool (decide (L = M))) w) := by
  have H1 := Lib.hid h
  have H2 := Lib.hid g
  have hx := h.len
  have hy := g.len
  clear h g
  by_cases hl : L.length = M.length
  · have e0 : n = m := by omega
    have HX := Lib.hid hx
    have HY := Lib.hid (show M.length = n by omega)
    clear hx hy hl
    subst e0
    go_enter Try.func34, Try.ntmps34
    go_wp2
    go_loopw [17] (fun s wr => ∃ k : Nat, k ≤ n ∧ s = .int .i64 k ∧ (∀ j, j < k → L.getD j [] = M.getD j []) ∧ ∃ m, wr = w.drewN m) (fun s _ => n - (intOf s).toNat)
    case atStart => exact ⟨0, Nat.zero_le _, rfl, fun j hj => absurd hj (Nat.not_lt_zero _), dn_zero _⟩
    case round =>
      obtain ⟨k, hk, rfl, hno, hg⟩ := hrel
      have HG := Lib.hid hg
      have HN := Lib.hid hno
      clear hg hno
      by_cases hlt : k < n
      · obtain ⟨ar, rfl⟩ := H1.out.some (by omega)
        obtain ⟨br, rfl⟩ := H2.out.some (by omega)
        obtain ⟨A1, N1, C1, c1, r1⟩ := (H1.out.keep0 (dn_gb HG.out _)).cells ar rfl k hlt
        obtain ⟨A2, N2, C2, c2, r2⟩ := (H2.out.keep0 (dn_gb HG.out _)).cells br rfl k hlt
        have i0 : (0 : Int) ≤ (k : Int) := by omega
        have i2 : (k : Int) < (n : Int) := by omega
        have HQ := Lib.hid fun q : Nat => eq1_any (wr.drewN q) A1 A2 N1 C1 N2 C2 (L.getD k []) (M.getD k []) (r1.keep0 (gb_drewN _ _ _)) (r2.keep0 (gb_drewN _ _ _)) (by rw [← r1.len]; exact hl1 k) (by rw [← r2.len]; exact hl2 k)
        have HX2 := Lib.hid (show ∀ j, j < k + 1 → L.getD k [] = M.getD k [] → L.getD j [] = M.getD j [] from fun j hj he => by
            rcases (show j < k ∨ j = k by omega) with q | rfl
            · exact HN.out j q
            · exact he)
        have HE := Lib.hid (show ¬ L.getD k [] = M.getD k [] → ¬ L = M from fun e q => e (by rw [q]))
        clear r1 r2 hl1 hl2
        generalize L.getD k [] = x at *
        generalize M.getD k [] = y at *
        by_cases he : x = y
        · subst he
          have HA := Lib.hid (show ∀ j, j < k + 1 → L.getD j [] = M.getD j [] from fun j hj => HX2.out j hj rfl)
          have HQ2 := Lib.hid fun q => (show _ = true from decide_eq_true (rfl : x = x)) ▸ HQ.out q
          unfold RetD at HQ2
          clear HX2 HE HQ
          have Q0 := HQ2.out 0
          go_wp2_with fail
          refine Q0.mono ?_
          rintro e w2 ⟨rfl, g2⟩
          have HG2 := Lib.hid (dn_trans HG.out g2)
          clear g2 Q0 c1 c2
          go_wp2
          go_roundw
          case rel => exact ⟨k + 1, by omega, by go_num, HA.out, HG2.out⟩
          case measure => simp [intOf]; omega
        · have HQ2 := Lib.hid fun q => (show _ = false from decide_eq_false he) ▸ HQ.out q
          unfold RetD at HQ2
          have HE2 := Lib.hid (show decide (L = M) = false from decide_eq_false (HE.out he))
          clear HX2 HE HQ he
          have Q0 := HQ2.out 0
          go_wp2_with fail
          refine Q0.mono ?_
          rintro e w2 ⟨rfl, g2⟩
          have HG2 := Lib.hid (dn_trans HG.out g2)
          clear g2 Q0 c1 c2
          go_wp2
          go_ret
          exact ⟨by rw [HE2.out] <;> rfl, HG2.out⟩
      · have hke : k = n := by omega
        subst hke
        have HE := Lib.hid (show decide (L = M) = true from decide_eq_true (by
          apply List.ext_getElem (by rw [HX.out, HY.out])
          intro i h1 h2
          have q := HN.out i (by have := HX.out; omega)
          simpa [h1, h2] using q))
        go_wp2
        go_ret
        exact ⟨by rw [HE.out] <;> rfl, HG.out⟩
  · have HE := Lib.hid (show decide (L = M) = false from decide_eq_false fun e => hl (by rw [e]))
    have hne : ¬ n = m := by omega
    have hne2 : ¬ (n : Int) = (m : Int) := by omega
    clear hx hy hl
    go_enter Try.func34, Try.ntmps34
    go_wp2
    go_ret
    exact ⟨by rw [HE.out] <;> rfl, dn_zero _⟩

theorem gequr_any (w : World) (a b : Option Addr) (n c m d : Nat) (L M : List (List Int)) (h : SR w a n c L) (g : SR w b m d M) (hn : n ≤ 1000000) (hm : m ≤ 1000000) (hl1 : ∀ j, (L.getD j []).length ≤ 1000000) (hl2 : ∀ j, (M.getD j []).length ≤ 1000000) :
    Calls Try.prog 17 #[.slice a n c, .slice b m d] w (RetD (.bool (decide (L = M))) w) := by
  have Q := Lib.hid (sequr_any w a b n c m d L M h g hn hm hl1 hl2)
  clear h g hl1 hl2
  go_enter Try.func17, Try.ntmps17
  go_wp2_with fail
  refine Q.out.mono ?_
  rintro e w2 ⟨rfl, g2⟩
  have G2 := Lib.hid g2
  clear g2
  go_wp2
  go_ret
  exact ⟨rfl, G2.out⟩
end Go.Proofs.Ytjbimeahcldaoaa
