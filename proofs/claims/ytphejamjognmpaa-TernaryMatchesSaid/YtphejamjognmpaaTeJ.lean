/- Ternary: the walk of the program's Parse. -/
import Derived.Test.YtphejamjognmpaaTeI
namespace Go.Proofs.Ytphejamjognmpaa
open Go.RowKit
set_option linter.unusedVariables false

set_option maxRecDepth 100000 in
set_option maxHeartbeats 1000000 in
theorem parse_any (w : World) (L : List Int) (hL : ∀ x ∈ L, 0 ≤ x ∧ x ≤ 255) (hl : L.length ≤ 1000000) : Calls Try.prog 26 #[.string (strOf L)] w (RetP L w) := by
  have z := strOf_size L
  have HI := Lib.hid (fun i h => strOf_at L hL i h)
  have HE := Lib.hid (show prsE L = if L.length = 0 then 3 else if 64 < L.length then 4 else if L.all okC then 0 else 5 from rfl)
  have HR := Lib.hid (show ∀ e, prsE L = e → (prsV L = if e = 0 then pvF L else 0) ∧ (prsM L = if e = 0 then pmF L else 0) ∧ (prsW L = if e = 0 then L.length else 0) from fun e h => by unfold prsV prsM prsW; rw [h]; exact ⟨rfl, rfl, rfl⟩)
  obtain ⟨r, hr⟩ : ∃ r, r = strOf L := ⟨_, rfl⟩
  have hemp : L.length = 0 → r = ⟨#[]⟩ := fun h => by rw [hr, List.eq_nil_of_length_eq_zero h]; rfl
  have hnemp : L.length ≠ 0 → r.toList.isEmpty = false := fun h => by
    rw [hr, ByteArray.toList_eq, strOf_data]
    cases L with
    | nil => exact absurd rfl h
    | cons a b => rfl
  rw [← hr] at z ⊢
  have HRr := Lib.hid hr
  clear hL hr
  by_cases h0 : L.length = 0
  · have e := HE.out
    rw [if_pos h0] at e
    obtain ⟨e1, e2, e3⟩ := HR.out _ e
    rw [if_neg (by decide)] at e1 e2 e3
    have E0 := Lib.hid e
    have E1 := Lib.hid e1
    have E2 := Lib.hid e2
    have E3 := Lib.hid e3
    have hre := hemp h0
    subst hre
    clear e e1 e2 e3 h0 z hemp hnemp
    go_enter Try.func26, Try.ntmps26
    go_wp2
    (try simp only [Exit.inBlock, Exit.then])
    refine bodyPost_ret (v := .tuple #[.agg #[.int .u64 0, .int .u64 0], .int .i64 0, .int .i64 3]) (by rw [results_c3 rfl]; go_simp) rfl ⟨by rw [E0.out, E1.out, E2.out, E3.out]; rfl, ?_⟩
    exact gb_alloc _ _ _
  · have hne := hnemp h0
    have hle : ¬ L.length = 0 := h0
    clear hemp hnemp
    by_cases h64 : 64 < L.length
    · have e := HE.out
      rw [if_neg h0, if_pos h64] at e
      obtain ⟨e1, e2, e3⟩ := HR.out _ e
      rw [if_neg (by decide)] at e1 e2 e3
      have E0 := Lib.hid e
      have E1 := Lib.hid e1
      have E2 := Lib.hid e2
      have E3 := Lib.hid e3
      have i64 : (64 : Int) < L.length := by omega
      clear e e1 e2 e3 h0
      go_enter Try.func26, Try.ntmps26
      go_wp2
      (try simp only [Exit.inBlock, Exit.then])
      refine bodyPost_ret (v := .tuple #[.agg #[.int .u64 0, .int .u64 0], .int .i64 0, .int .i64 4]) (by rw [results_c3 rfl]; go_simp) rfl ⟨by rw [E0.out, E1.out, E2.out, E3.out]; rfl, ?_⟩
      exact gb_alloc _ _ _
    · have HE2 := Lib.hid HE.out
      rw [if_neg h0, if_neg h64] at HE2
      have i64 : ¬ (64 : Int) < L.length := by omega
      clear h0
      go_enter Try.func26, Try.ntmps26
      have hl64 : L.length ≤ 64 := by omega
      have AS := Lib.hid (show (w.alloc (.cells #[.int .u64 0, .int .u64 0] 24)).heap.size = w.heap.size + 1 by show (w.heap.push _).size = _; simp)
      have B0 := Lib.hid (IsB.new (w.alloc (.cells #[.int .u64 0, .int .u64 0] 24)) 24 #[.int .u64 0, .int .u64 0])
      have G0 := Lib.hid (gb_alloc (w.alloc (.cells #[.int .u64 0, .int .u64 0] 24)) (.cells #[.int .u64 0, .int .u64 0] 24) none)
      have GA := Lib.hid (gb_alloc w (.cells #[.int .u64 0, .int .u64 0] 24) none)
      have BA := Lib.hid (IsB.new w 24 #[.int .u64 0, .int .u64 0])
      rw [AS.out] at B0
      go_wp2
      obtain ⟨wA, hwA⟩ : ∃ wA, wA = w.alloc (.cells #[.int .u64 0, .int .u64 0] 24) := ⟨_, rfl⟩
      rw [← hwA] at AS B0 G0 GA BA ⊢
      obtain ⟨cb, hcb⟩ : ∃ cb, cb = w.heap.size + 1 := ⟨_, rfl⟩
      rw [← hcb] at AS B0 ⊢
      have LC := Lib.hid (show w.heap.size < cb by omega)
      clear hwA hcb
      go_loopw [18] (fun i wr => ∃ j : Nat, j ≤ L.length ∧ i = .int .i64 j ∧ IsB wr cb 24 #[.int .u64 (pvF (L.take j)), .int .u64 (pmF (L.take j))] ∧ (∀ i, i < j → okC (L.getD i 0) = true) ∧ wA.grownBy wr none) (fun i _ => L.length - (intOf i).toNat)
      case atStart => exact ⟨0, Nat.zero_le _, rfl, B0.out, fun i hi => absurd hi (Nat.not_lt_zero _), G0.out⟩
      case round =>
        obtain ⟨j, hj, rfl, q1, q2, q3⟩ := hrel
        have BB := Lib.hid q1
        have OK := Lib.hid q2
        have GG := Lib.hid q3
        clear q1 q2 q3
        by_cases hlt : j < L.length
        · have i1 : (j : Int) < L.length := by omega
          have hat : ∀ (h : j < r.size), (((r[j]'h).toNat : Nat) : Int) = L.getD j 0 := by
            have q := HI.out j
            rw [← HRr.out] at q
            exact q
          have lv := pvF_lt (L.take j)
          have lm := pmF_lt (L.take j)
          rw [List.length_take, Nat.min_eq_left (by omega)] at lv lm
          have pw : 2 * 2 ^ j ≤ 18446744073709551616 := by
            have := p2_64 (j + 1) (by omega)
            rw [Nat.pow_succ] at this
            omega
          have TV := Lib.hid (show pvF (L.take (j + 1)) = 2 * pvF (L.take j) + oneV (L.getD j 0) by rw [take_snoc L j hlt, pvF_snoc])
          have TM := Lib.hid (show pmF (L.take (j + 1)) = 2 * pmF (L.take j) + oneM (L.getD j 0) by rw [take_snoc L j hlt, pmF_snoc])
          have AN := Lib.hid (all_no L j hlt)
          have ON := Lib.hid (fun (h : okC (L.getD j 0) = true) => (show ∀ i, i < j + 1 → okC (L.getD i 0) = true from fun i hi => by
            by_cases e : i = j
            · subst e; exact h
            · exact OK.out i (by omega)))
          obtain ⟨v, hv⟩ : ∃ v, v = pvF (L.take j) := ⟨_, rfl⟩
          obtain ⟨m, hm⟩ : ∃ m, m = pmF (L.take j) := ⟨_, rfl⟩
          rw [← hv] at lv TV BB
          rw [← hm] at lm TM BB
          have hv2 : 2 * v + 1 < 18446744073709551616 := by omega
          have hm2 : 2 * m + 1 < 18446744073709551616 := by omega
          obtain ⟨x, hx⟩ : ∃ x, x = L.getD j 0 := ⟨_, rfl⟩
          have HX := Lib.hid hx.symm
          rw [← hx] at hat TV TM
          have ev : (v : Int) * 2 = 2 * (v : Int) := Int.mul_comm _ _
          have em : (m : Int) * 2 = 2 * (m : Int) := Int.mul_comm _ _
          have ov : bits .or .u64 (2 * (v : Int)) 1 = 2 * (v : Int) + 1 := by
            have q := u64_or_nat (2 * v) 1 (by omega) (by decide)
            rw [or_one] at q
            simpa using q
          have om : bits .or .u64 (2 * (m : Int)) 1 = 2 * (m : Int) + 1 := by
            have q := u64_or_nat (2 * m) 1 (by omega) (by decide)
            rw [or_one] at q
            simpa using q
          have c0 : wr.cell? ⟨cb, 0, none⟩ = some (.int .u64 v) := BB.out.cell 0
          have c1 : wr.cell? ⟨cb, 1, none⟩ = some (.int .u64 m) := BB.out.cell 1
          have f0 := BB.out.free 0
          have f1 := BB.out.free 1
          clear hv hm hx lv lm pw
          by_cases x1 : x = 120
          · subst x1
            have NB := Lib.hid (show IsB ((wr.setCell ⟨cb, 0, none⟩ (.int .u64 (2 * (v : Int)))).setCell ⟨cb, 1, none⟩ (.int .u64 (2 * (m : Int)))) cb 24 #[.int .u64 (pvF (L.take (j + 1))), .int .u64 (pmF (L.take (j + 1)))] by
              have q := (BB.out.set 0 (.int .u64 (2 * (v : Int)))).set 1 (.int .u64 (2 * (m : Int)))
              rw [TV.out, TM.out]
              simpa [oneV, oneM] using q)
            have NG := Lib.hid (gb_put (i := 1) (u := .int .u64 (2 * (m : Int))) (gb_put (i := 0) (u := .int .u64 (2 * (v : Int))) GG.out (Nat.le_of_eq AS.out)) (Nat.le_of_eq AS.out))
            have NO := Lib.hid (ON.out (by rw [HX.out]; decide))
            go_wp2
            go_roundw
            case rel => exact ⟨j + 1, by omega, by go_num, NB.out, NO.out, NG.out⟩
            case measure => (simp [intOf] <;> try omega)
          · by_cases x2 : x = 48
            · subst x2
              have NB := Lib.hid (show IsB (((wr.setCell ⟨cb, 0, none⟩ (.int .u64 (2 * (v : Int)))).setCell ⟨cb, 1, none⟩ (.int .u64 (2 * (m : Int)))).setCell ⟨cb, 1, none⟩ (.int .u64 (2 * (m : Int) + 1))) cb 24 #[.int .u64 (pvF (L.take (j + 1))), .int .u64 (pmF (L.take (j + 1)))] by
                have q := (((BB.out.set 0 (.int .u64 (2 * (v : Int)))).set 1 (.int .u64 (2 * (m : Int)))).set 1 (.int .u64 (2 * (m : Int) + 1)))
                rw [TV.out, TM.out]
                simpa [oneV, oneM] using q)
              have NG := Lib.hid (gb_put (i := 1) (u := .int .u64 (2 * (m : Int) + 1)) (gb_put (i := 1) (u := .int .u64 (2 * (m : Int))) (gb_put (i := 0) (u := .int .u64 (2 * (v : Int))) GG.out (Nat.le_of_eq AS.out)) (Nat.le_of_eq AS.out)) (Nat.le_of_eq AS.out))
              have NO := Lib.hid (ON.out (by rw [HX.out]; decide))
              go_wp2
              go_roundw
              case rel => exact ⟨j + 1, by omega, by go_num, NB.out, NO.out, NG.out⟩
              case measure => (simp [intOf] <;> try omega)
            · by_cases x3 : x = 49
              · subst x3
                have NB := Lib.hid (show IsB ((((wr.setCell ⟨cb, 0, none⟩ (.int .u64 (2 * (v : Int)))).setCell ⟨cb, 1, none⟩ (.int .u64 (2 * (m : Int)))).setCell ⟨cb, 1, none⟩ (.int .u64 (2 * (m : Int) + 1))).setCell ⟨cb, 0, none⟩ (.int .u64 (2 * (v : Int) + 1))) cb 24 #[.int .u64 (pvF (L.take (j + 1))), .int .u64 (pmF (L.take (j + 1)))] by
                  have q := ((((BB.out.set 0 (.int .u64 (2 * (v : Int)))).set 1 (.int .u64 (2 * (m : Int)))).set 1 (.int .u64 (2 * (m : Int) + 1))).set 0 (.int .u64 (2 * (v : Int) + 1)))
                  rw [TV.out, TM.out]
                  simpa [oneV, oneM] using q)
                have NG := Lib.hid (gb_put (i := 0) (u := .int .u64 (2 * (v : Int) + 1)) (gb_put (i := 1) (u := .int .u64 (2 * (m : Int) + 1)) (gb_put (i := 1) (u := .int .u64 (2 * (m : Int))) (gb_put (i := 0) (u := .int .u64 (2 * (v : Int))) GG.out (Nat.le_of_eq AS.out)) (Nat.le_of_eq AS.out)) (Nat.le_of_eq AS.out)) (Nat.le_of_eq AS.out))
                have NO := Lib.hid (ON.out (by rw [HX.out]; decide))
                go_wp2
                go_roundw
                case rel => exact ⟨j + 1, by omega, by go_num, NB.out, NO.out, NG.out⟩
                case measure => (simp [intOf] <;> try omega)
              · have no : okC x = false := by unfold okC; rw [decide_eq_false]; omega
                have e := HE2.out
                rw [AN.out (by rw [HX.out]; exact no), if_neg (by simp)] at e
                obtain ⟨e1, e2, e3⟩ := HR.out _ e
                rw [if_neg (by decide)] at e1 e2 e3
                have E0 := Lib.hid e
                have E1 := Lib.hid e1
                have E2 := Lib.hid e2
                have E3 := Lib.hid e3
                have A1 := Lib.hid (BA.out.keep0 GG.out)
                have a0 : wr.cell? ⟨w.heap.size, 0, none⟩ = some (.int .u64 0) := A1.out.cell 0
                have a1 : wr.cell? ⟨w.heap.size, 1, none⟩ = some (.int .u64 0) := A1.out.cell 1
                have a2 := A1.out.free 0
                have a3 := A1.out.free 1
                have hcw : cb ≠ w.heap.size := by have := LC.out; omega
                have hwc : w.heap.size ≠ cb := fun e => hcw e.symm
                clear e e1 e2 e3 no
                go_wp2
                (try simp only [Exit.inBlock, Exit.then])
                refine bodyPost_ret (v := .tuple #[.agg #[.int .u64 0, .int .u64 0], .int .i64 0, .int .i64 5]) (by rw [results_c3 rfl]; go_simp) rfl ⟨by rw [E0.out, E1.out, E2.out, E3.out]; rfl, ?_⟩
                exact gb_put (gb_put (gb_trans GA.out (gb_put (gb_put GG.out (Nat.le_of_eq AS.out)) (Nat.le_of_eq AS.out))) (Nat.le_refl _)) (Nat.le_refl _)
        · have hje : j = L.length := by omega
          have e := HE2.out
          rw [all_yes L (fun i hi => OK.out i (by omega)), if_pos rfl] at e
          obtain ⟨e1, e2, e3⟩ := HR.out _ e
          rw [if_pos rfl] at e1 e2 e3
          rw [hje, List.take_length] at BB
          have E0 := Lib.hid e
          have E1 := Lib.hid e1
          have E2 := Lib.hid e2
          have E3 := Lib.hid e3
          obtain ⟨v, hv⟩ : ∃ v, v = pvF L := ⟨_, rfl⟩
          obtain ⟨m, hm⟩ : ∃ m, m = pmF L := ⟨_, rfl⟩
          rw [← hv] at BB E1
          rw [← hm] at BB E2
          have c0 : wr.cell? ⟨cb, 0, none⟩ = some (.int .u64 v) := BB.out.cell 0
          have c1 : wr.cell? ⟨cb, 1, none⟩ = some (.int .u64 m) := BB.out.cell 1
          have A1 := Lib.hid (BA.out.keep0 GG.out)
          have a0 : wr.cell? ⟨w.heap.size, 0, none⟩ = some (.int .u64 0) := A1.out.cell 0
          have a1 : wr.cell? ⟨w.heap.size, 1, none⟩ = some (.int .u64 0) := A1.out.cell 1
          have a2 := A1.out.free 0
          have a3 := A1.out.free 1
          have hcw : cb ≠ w.heap.size := by have := LC.out; omega
          have hwc : w.heap.size ≠ cb := fun e => hcw e.symm
          clear e e1 e2 e3 hv hm
          subst hje
          go_wp2
          (try simp only [Exit.inBlock, Exit.then])
          refine bodyPost_ret (v := .tuple #[.agg #[.int .u64 v, .int .u64 m], .int .i64 L.length, .int .i64 0]) (by rw [results_c3 rfl]; go_simp) rfl ⟨by rw [E0.out, E1.out, E2.out, E3.out], ?_⟩
          exact gb_put (gb_put (gb_trans GA.out GG.out) (Nat.le_refl _)) (Nat.le_refl _)
end Go.Proofs.Ytphejamjognmpaa
