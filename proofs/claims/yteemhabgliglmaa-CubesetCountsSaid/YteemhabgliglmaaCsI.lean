/- Cubeset: EqualLists. -/
import Derived.Test.YteemhabgliglmaaTeV
namespace Go.Proofs.Yteemhabgliglmaa
open Go.RowKit
set_option linter.unusedVariables false

set_option maxRecDepth 100000 in
set_option maxHeartbeats 4000000 in
theorem eql_any (w : World) (b1 b2 : Nat) (V1 V2 : Value) (L M : List (Nat × Nat)) (H1 : CLs w b1 V1 L) (H2 : CLs w b2 V2 M) (hl : L.length ≤ 20000) (hm : M.length ≤ 20000) :
    Calls Try.prog 15 #[V1, V2] w (RetV (.bool (decide (L = M))) w) := by
  obtain ⟨a1, c1, rfl⟩ := H1.shape
  obtain ⟨a2, c2, rfl⟩ := H2.shape
  have HL := Lib.hid H1
  have HM := Lib.hid H2
  clear H1 H2
  by_cases hlen : L.length = M.length
  · obtain ⟨n, hn⟩ : ∃ n, n = L.length := ⟨_, rfl⟩
    have HLn := Lib.hid hn.symm
    have HMn := Lib.hid (show M.length = n by omega)
    rw [← hn] at hl
    rw [HLn.out, HMn.out]
    clear hlen hn hm
    obtain ⟨r, hr⟩ : ∃ r, r = decide (L = M) := ⟨_, rfl⟩
    rw [← hr]
    have HR := Lib.hid hr
    clear hr
    go_enter Try.func15, Try.ntmps15
    go_wp2
    go_loopw [5] (fun i wr => ∃ j m : Nat, j ≤ n ∧ i = .int .i64 j ∧ L.take j = M.take j ∧ wr = w.drewN m) (fun i _ => n - (intOf i).toNat)
    case atStart => exact ⟨0, 0, Nat.zero_le _, rfl, rfl, rfl⟩
    case round =>
      obtain ⟨j, m, hj, rfl, ht, rfl⟩ := hrel
      have HT := Lib.hid ht
      clear ht
      by_cases hlt : j < n
      · have i1 : (j : Int) < n := by omega
        have HL2 := HL.out
        obtain ⟨g1, d1, hV1⟩ := HL2.head (by rw [HLn.out]; omega)
        have HM2 := HM.out
        obtain ⟨g2, d2, hV2⟩ := HM2.head (by rw [HMn.out]; omega)
        rw [hV1] at HL2
        rw [hV2] at HM2
        cases hV1
        cases hV2
        obtain ⟨k1, k2⟩ := HL2.at_ j (by rw [HLn.out]; exact hlt)
        obtain ⟨k3, k4⟩ := HM2.at_ j (by rw [HMn.out]; exact hlt)
        have HS := Lib.hid (take_eq_snoc HT.out (by rw [HLn.out]; exact hlt) (by rw [HMn.out]; exact hlt))
        have HN := Lib.hid (show ¬ L.getD j (0, 0) = M.getD j (0, 0) → ¬ L = M from fun h e => h (by rw [e]))
        clear HL2 HM2
        generalize L.getD j (0, 0) = p at *
        generalize M.getD j (0, 0) = q at *
        obtain ⟨a, b⟩ := p
        obtain ⟨c, d⟩ := q
        by_cases ha : a = c
        · subst ha
          by_cases hb : b = d
          · subst hb
            have HS2 := Lib.hid (HS.out rfl)
            clear HS HN
            have e1 : ((a : Int) == a) = true := by rw [beq_iff_eq]
            have e2 : ((b : Int) == b) = true := by rw [beq_iff_eq]
            go_wp2
            go_quiet (fail)
            go_wp2
            go_roundw
            case rel => exact ⟨j + 1, m + nq, by omega, by go_num, HS2.out, by first | rfl | rw [World.drewN_drewN]⟩
            case measure => simp [intOf]; omega
          · have e2 : ((b : Int) == d) = false := by rw [beq_eq_false_iff_ne]; omega
            have e3 : ¬ (b : Int) = d := by omega
            have HN2 := HN.out (by simp [hb])
            have HR2 := Lib.hid (HR.out.trans (decide_eq_false HN2))
            clear HN HS HN2 hb HR
            go_wp2
            go_quiet (fail)
            go_wp2
            go_ret
            exact ⟨by rw [HR2.out] <;> rfl, by first | exact gb_drewN _ _ _ | exact gb_trans (gb_drewN _ _ _) (gb_drewN _ _ _)⟩
        · have e2 : ((a : Int) == c) = false := by rw [beq_eq_false_iff_ne]; omega
          have e3 : ¬ (a : Int) = c := by omega
          have HN2 := HN.out (by simp [ha])
          have HR2 := Lib.hid (HR.out.trans (decide_eq_false HN2))
          clear HN HS HN2 ha HR
          go_wp2
          go_quiet (fail)
          go_wp2
          go_ret
          exact ⟨by rw [HR2.out] <;> rfl, by first | exact gb_drewN _ _ _ | exact gb_trans (gb_drewN _ _ _) (gb_drewN _ _ _)⟩
      · have hje : j = n := by omega
        subst hje
        have e : L = M := by
          have h := HT.out
          rwa [List.take_of_length_le (by rw [HLn.out]; exact Nat.le_refl _), List.take_of_length_le (by rw [HMn.out]; exact Nat.le_refl _)] at h
        have HR2 := Lib.hid (HR.out.trans (decide_eq_true e))
        clear e HT HR
        go_wp2
        go_ret
        exact ⟨by rw [HR2.out] <;> rfl, gb_drewN _ _ _⟩
  · have hne : ¬ L = M := fun e => hlen (by rw [e])
    rw [decide_eq_false hne]
    have e1 : ((L.length : Int) != M.length) = true := by rw [bne_iff_ne]; omega
    have e2 : ¬ (L.length : Int) = M.length := by omega
    clear hne hlen
    go_enter Try.func15, Try.ntmps15
    go_wp2
    go_ret
    exact ⟨rfl, World.grownBy.refl _ _⟩
end Go.Proofs.Yteemhabgliglmaa
