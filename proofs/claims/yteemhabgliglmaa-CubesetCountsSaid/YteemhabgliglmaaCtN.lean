/- Cubeset: the law's low and restricted. -/
import Derived.Test.YteemhabgliglmaaCtM
import Derived.BigQuiet
namespace Go.Proofs.Yteemhabgliglmaa
open Go.RowKit
set_option linter.unusedVariables false
set_option maxRecDepth 100000 in
theorem low_any (w : World) (n k : Nat) (hn : B64 n) (h1 : 1 ≤ k) (h2 : k ≤ 64) : Calls Try.prog 34 #[.int .u64 n, .int .i64 (k : Int)] w (RetS (.int .u64 ((n &&& lowN k : Nat) : Int)) w) := by
  obtain ⟨s, hs⟩ : ∃ s : Nat, s = 64 - k := ⟨_, rfl⟩
  have e0 : (64 : Int) - (k : Int) = (s : Int) := by omega
  have s0 : (0 : Int) ≤ (s : Int) := by omega
  have s1 : ¬ (s : Int) < 0 := by omega
  have s2 : (s : Int) < 64 := by omega
  go_enter Try.func34, Try.ntmps34
  go_wp2
  go_ret
  refine ⟨?_, rfl⟩
  have e : IntKind.u64.wrap ((n : Int) * 2 ^ (64 - k)) / 2 ^ (64 - k) = ((n &&& lowN k : Nat) : Int) := by
    have e1 : (n * 2 ^ (64 - k)) % 18446744073709551616 / 2 ^ (64 - k) = n &&& lowN k := by
      rw [show (18446744073709551616 : Nat) = 2 ^ k * 2 ^ (64 - k) by rw [← Nat.pow_add, show k + (64 - k) = 64 by omega]]
      rw [Nat.mul_mod_mul_right, Nat.mul_div_cancel _ (Nat.two_pow_pos _)]
      unfold lowN
      rw [Nat.and_two_pow_sub_one_eq_mod]
    rw [← e1, IntKind.wrap_u64]
    simp
  rw [← e]
  first | rfl | simp
set_option maxRecDepth 100000 in
set_option maxHeartbeats 4000000 in
theorem restr_any (w : World) (a : Option Addr) (n c k x : Nat) (L : List (Nat × Nat)) (h : SC w a n c L) (hn : n ≤ 100000) (hx : B64 x) (h1 : 1 ≤ k) (h2 : k ≤ 64) : Calls Try.prog 35 #[.slice a n c, .int .u64 x, .int .i64 (k : Int)] w (RetV (.bool (rstN k L x)) w) := by
  have HH := Lib.hid h
  have LW := Lib.hid (fun (w : World) m (hm : B64 m) => low_any w m k hm h1 h2)
  obtain ⟨r, hr⟩ : ∃ r, r = rstN k L x := ⟨_, rfl⟩
  rw [← hr]
  have HR := Lib.hid hr
  have HX := Lib.hid hx
  have K2 := Lib.hid h2
  clear h hr hx h1 h2
  go_enter Try.func35, Try.ntmps35
  go_wp2
  go_loopw [7] (fun i wr => ∃ j : Nat, j ≤ n ∧ i = .int .i64 j ∧ rstN k (L.take j) x = false ∧ w.grownBy wr none) (fun i _ => n - (intOf i).toNat)
  case atStart => exact ⟨0, Nat.zero_le _, rfl, rfl, gb_refl _ _⟩
  case round =>
    obtain ⟨j, hj, rfl, ht, hg⟩ := hrel
    have HT := Lib.hid ht
    have HG := Lib.hid hg
    clear ht hg
    by_cases hlt : j < n
    · obtain ⟨ad, rfl⟩ := HH.out.some (by omega)
      have i1 : (j : Int) < n := by omega
      have i0 : (0 : Int) ≤ (j : Int) := by omega
      have hl : j < L.length := by rw [HH.out.len]; exact hlt
      obtain ⟨c0, c1⟩ := (HH.out.keep0 HG.out).cells ad rfl j hlt
      obtain ⟨b0, b1⟩ := HH.out.wfAt j hlt
      have ST := Lib.hid (show rstN k (L.take (j + 1)) x = (rstN k (L.take j) x || hasN (L.getD j (0, 0)).1 ((L.getD j (0, 0)).2 &&& lowN k) x) by rw [take_one L (0, 0) j hl]; unfold rstN; rw [List.any_append]; simp)
      have YES := Lib.hid (show hasN (L.getD j (0, 0)).1 ((L.getD j (0, 0)).2 &&& lowN k) x = true → rstN k L x = true from fun e => by
        unfold rstN
        rw [List.any_eq_true]
        exact ⟨L.getD j (0, 0), by rw [List.getD_eq_getElem?_getD, List.getElem?_eq_getElem hl]; exact List.getElem_mem _, e⟩)
      obtain ⟨p, hp⟩ : ∃ p, p = L.getD j (0, 0) := ⟨_, rfl⟩
      rw [← hp] at c0 c1 b0 b1 ST YES
      obtain ⟨v, m⟩ := p
      obtain ⟨l, hl2⟩ : ∃ l, l = m &&& lowN k := ⟨_, rfl⟩
      have lb : B64 l := by rw [hl2]; exact Nat.lt_of_le_of_lt Nat.and_le_left b1
      have CO := Lib.hid (fun w => LW.out w m b1)
      rw [← hl2] at CO
      unfold RetS at CO
      obtain ⟨q1, hq1, hql1, eq1⟩ := bX x v HX.out b0
      obtain ⟨q2, hq2, hql2, eq2⟩ := bA q1 l hql1 lb
      have HE : hasN v l x = decide (q2 = 0) := by
        unfold hasN iAgree
        rw [hq2, hq1, Nat.xor_comm v x]
      have ST2 := Lib.hid (show rstN k (L.take (j + 1)) x = (rstN k (L.take j) x || decide (q2 = 0)) by rw [ST.out, ← HE, hl2])
      have YES2 := Lib.hid (show q2 = 0 → rstN k L x = true from fun e => YES.out (by show hasN v (m &&& lowN k) x = true; rw [← hl2, HE]; exact decide_eq_true e))
      clear hp b0 b1 hl hl2 lb hq1 hql1 hq2 hql2 HE ST YES
      by_cases hz : q2 = 0
      · have R2 := Lib.hid (HR.out.trans (YES2.out hz))
        subst hz
        have eq3 : bits .and .u64 (q1 : Int) (l : Int) = 0 := eq2
        clear ST2 YES2 eq2
        go_wp2
        go_quiet ((go_at_call 34; exact Calls.quiet_of_same (CO.out _)))
        go_wp2
        go_ret
        exact ⟨by rw [R2.out] <;> rfl, gb_trans HG.out (gb_drewN _ _ _)⟩
      · have S2 := Lib.hid (show rstN k (L.take (j + 1)) x = false by rw [ST2.out, HT.out, decide_eq_false hz]; rfl)
        have f1 : ((q2 : Int) == 0) = false := by rw [beq_eq_false_iff_ne]; omega
        have f2 : ¬ (q2 : Int) = 0 := by omega
        clear ST2 YES2 hz
        go_wp2
        go_quiet ((go_at_call 34; exact Calls.quiet_of_same (CO.out _)))
        go_wp2
        go_roundw
        case rel => exact ⟨j + 1, by omega, by go_num, S2.out, gb_trans HG.out (gb_drewN _ _ _)⟩
        case measure => simp [intOf]; omega
    · have hje : j = n := by omega
      have R2 := Lib.hid (HR.out.trans (show rstN k L x = false by have := HT.out; rwa [List.take_of_length_le (by rw [HH.out.len]; omega)] at this))
      subst hje
      go_wp2
      go_ret
      exact ⟨by rw [R2.out] <;> rfl, HG.out⟩
end Go.Proofs.Yteemhabgliglmaa
