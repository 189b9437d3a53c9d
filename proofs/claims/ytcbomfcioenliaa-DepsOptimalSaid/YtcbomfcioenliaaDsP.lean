/- The law Optimal: the walk; no condition. -/
import Derived.Test.YtcbomfcioenliaaDsN
namespace Go.Proofs.Ytcbomfcioenliaa
open Go.RowKit
set_option linter.unusedVariables false

set_option maxRecDepth 100000 in
set_option maxHeartbeats 1000000 in
theorem optimal_walk (a : Option Addr) (n c : Nat) (g : List (List Int)) (b : Option Addr) (m d : Nat) (s : List Int) (W : World) (h : SlG W a n c g) (hs : SlR W b m d (s.map (Value.int .i64))) (hm0 : m ≤ 9223372036854775807) : Calls Try.prog 5 #[.slice a n c, .slice b m d] W (HoldsT W) := by
  have HH := Lib.hid h
  have HS := Lib.hid hs
  have hl := h.1
  have hl2 := hs.len'
  subst hl hl2
  clear h hs
  go_enter Try.func5, Try.ntmps5
  go_wp2_with fail
  refine (small_any W a g.length c g HH.out).mono ?_
  rintro e w1 ⟨bs, rfl, rfl, hb⟩
  cases bs
  · go_wp2_with fail
    refine (works_any _).mono ?_
    rintro e w2 ⟨rfl, g2⟩
    go_wp2
    go_ret
    exact ⟨rfl, below_of g2⟩
  · have hn : g.length ≤ 14 := hb rfl
    by_cases hm : 20 < s.length
    · have hmi : (20 : Int) < (s.length : Int) := by omega
      clear hb hn
      go_wp2_with fail
      refine (works_any _).mono ?_
      rintro e w2 ⟨rfl, g2⟩
      go_wp2
      go_ret
      exact ⟨rfl, below_of g2⟩
    · have hmi : ¬ (20 : Int) < (s.length : Int) := by omega
      have LL := Lib.hid (show (stL g).length = g.length from stL_len g)
      have LR := Lib.hid (show ∀ j, j < g.length → 0 ≤ (stL g).getD j 0 ∧ (stL g).getD j 0 ≤ 14 from fun j hj => by
        rw [stL_at g j hj]
        have := st_range g j j
        omega)
      have MR := Lib.hid (show ∀ k, k ≤ g.length → -1 ≤ mx (stL g) k ∧ mx (stL g) k ≤ 14 from fun k hk => by
        refine ⟨?_, mx_least _ _ _ (by omega) fun j hj => by rw [stL_at g j (by omega)]; have := (st_range g j j).2; omega⟩
        cases k with
        | zero => exact Int.le_refl _
        | succ k =>
          have := mx_le (stL g) (k + 1) k (by omega)
          rw [stL_at g k (by omega)] at this
          have := (st_range g k k).1
          omega)
      have PM := Lib.hid (pathG_most g)
      have PA := Lib.hid (fun t ht => pathG_at (g := g) (t := t) ht)
      have PU := Lib.hid (fun hs t ht => pathG_up (g := g) (s := s) hs (t := t) ht)
      have LE := Lib.hid (show SatP g s → (∀ i, i < g.length → 0 ≤ s.getD i 0) → ∀ j, j < g.length → (stL g).getD j 0 ≤ s.getD j 0 from fun h h0 j hj => by rw [stL_at g j hj]; exact st_least h h0 j hj)
      have R1 := Lib.hid (fun w k => early_any w a g.length c g k (by omega))
      have R2 := Lib.hid (fun w k => path_any w a g.length c g k (by omega))
      have R3 := Lib.hid (fun w k q => sat_any w a b g.length c s.length d g s k q (by omega) (by omega))
      have R4 := Lib.hid (show ∀ w A C, SlG w a g.length c g → SlR w A (stL g).length C ((stL g).map (Value.int .i64)) → Calls Try.prog 11 #[.slice a g.length c, .slice A (stL g).length C] w (RetD (.bool true) w) from fun w A C k q => by
        have r := sat_any w a A g.length c (stL g).length C g (stL g) k q (by omega) (by rw [stL_len]; omega)
        rwa [decide_eq_true (stL_sat g)] at r)
      have SL := Lib.hid (fun h : SatP g s => h.1)
      obtain ⟨bb, hbb⟩ : ∃ x, x = decide (SatP g s) := ⟨_, rfl⟩
      have BB := Lib.hid (show bb = true → SatP g s from fun e => of_decide_eq_true (by rw [← hbb]; exact e))
      rw [← hbb] at R3
      have HN := Lib.hid hn
      have lb : (stL g).length ≤ 14 := by rw [stL_len]; exact hn
      generalize stL g = L at *
      generalize pathG g = Q at *
      clear hb hn hbb
      go_wp2_with fail
      refine (R1.out _ HH.out).mono ?_
      rintro e w2 ⟨V2, rfl, o2, g2⟩
      obtain ⟨a2, c2, rfl⟩ := o2.shape
      have A2 := Lib.hid (o2.slr rfl)
      have HH1 := Lib.hid (HH.out.keep0 g2)
      have G := Lib.hid g2
      clear o2 g2
      have e1 : ((L.length : Int) != (g.length : Int)) = false := by have := LL.out; simp; omega
      go_wp2_with fail
      refine (R4.out _ _ _ HH1.out A2.out).mono ?_
      rintro e w3 ⟨rfl, q3⟩
      have A2 := Lib.hid (A2.out.keep0 (dn_gb q3 none))
      have HH1 := Lib.hid (HH1.out.keep0 (dn_gb q3 none))
      have G := Lib.hid (gb_trans G.out (dn_gb q3 none))
      clear q3 R4 e1
      go_wp2
      go_loopw [6, 7] (fun p q wr => ∃ k : Nat, k ≤ L.length ∧ p = .int .i64 (mx L k) ∧ q = .int .i64 k ∧ wr = w3) (fun _ q _ => L.length - (intOf q).toNat)
      case atStart => exact ⟨0, Nat.zero_le _, rfl, rfl, rfl⟩
      case round =>
        obtain ⟨k, hk, rfl, rfl, rfl⟩ := hrel
        by_cases hlt : k < L.length
        · have i1 : (k : Int) < L.length := by omega
          cases a2 with
          | none => exact absurd (A2.out.2.1 rfl).1 (by omega)
          | some ad2 =>
            have c1 := A2.out.cellAt k hlt
            obtain ⟨r1, r2⟩ := LR.out k (by have := LL.out; omega)
            obtain ⟨r3, r4⟩ := MR.out k (by have := LL.out; omega)
            have MX := Lib.hid (show mx L (k + 1) = max (mx L k) (L.getD k 0) from rfl)
            generalize L.getD k 0 = z at *
            generalize mx L k = y at *
            have nz : ¬ z < 0 := by omega
            go_wp2
            go_roundw
            case rel => exact ⟨k + 1, by omega, by rw [MX.out, show max y z = if y < z then z else y by split <;> omega], by go_num, trivial⟩
            case measure => simp [intOf]; omega
        · have hke : k = L.length := by omega
          have EM := Lib.hid (show mx L k + 1 = (Q.length : Int) by rw [hke, LL.out]; exact PM.out)
          have QL := Lib.hid (show Q.length ≤ 15 by have := EM.out; have := (MR.out k (by have := LL.out; omega)).2; omega)
          have qb : Q.length ≤ 15 := QL.out
          have mb := MR.out k (by have := LL.out; omega)
          have i1 : ¬ (k : Int) < L.length := by omega
          obtain ⟨mxv, hmx⟩ : ∃ x, x = mx L k := ⟨_, rfl⟩
          rw [← hmx] at EM mb ⊢
          clear hmx
          obtain ⟨mb1, mb2⟩ := mb
          go_wp2_with fail
          refine (R2.out _ HH1.out).mono ?_
          rintro e w4 ⟨V4, rfl, o4, g4⟩
          obtain ⟨a4, c4, rfl⟩ := o4.shape
          have A4 := Lib.hid (o4.slr rfl)
          have A2 := Lib.hid (A2.out.keep0 g4)
          have HH1 := Lib.hid (HH1.out.keep0 g4)
          have G := Lib.hid (gb_trans G.out g4)
          clear o4 g4
          have e2 : ((Q.length : Int) != (mxv + 1)) = false := by have := EM.out; simp; omega
          have HS1 := Lib.hid (HS.out.keep0 G.out)
          go_wp2_with fail
          refine (R3.out _ HH1.out HS1.out).mono ?_
          rintro e w5 ⟨rfl, q5⟩
          have A2 := Lib.hid (A2.out.keep0 (dn_gb q5 none))
          have A4 := Lib.hid (A4.out.keep0 (dn_gb q5 none))
          have HS1 := Lib.hid (HS1.out.keep0 (dn_gb q5 none))
          have G := Lib.hid (gb_trans G.out (dn_gb q5 none))
          clear q5 e2 HH1 R1 R2 R3
          cases bb
          · go_wp2_with fail
            refine (works_any _).mono ?_
            rintro e we ⟨rfl, ge⟩
            have G := Lib.hid (gb_trans G.out ge)
            clear ge
            go_wp2
            go_ret
            exact ⟨rfl, below_of G.out⟩
          · have SP := Lib.hid (BB.out rfl)
            have SN := Lib.hid (SL.out SP.out)
            have PU := Lib.hid (PU.out SP.out)
            have LE := Lib.hid (LE.out SP.out)
            have e3 : ((s.length : Int) != (g.length : Int)) = false := by have := SN.out; simp; omega
            clear mb1 mb2 i1
            go_wp2
            clear e3
            go_loopw [9] (fun q wr => ∃ t : Nat, t ≤ Q.length ∧ q = .int .i64 t ∧ ∃ x, wr = w5.drewN x) (fun q _ => Q.length - (intOf q).toNat)
            case atStart => exact ⟨0, Nat.zero_le _, rfl, dn_zero _⟩
            case round =>
              obtain ⟨t, ht, rfl, q6⟩ := hrel
              have DN := Lib.hid q6
              clear q6
              by_cases htt : t < Q.length
              · have i4 : (t : Int) < Q.length := by omega
                obtain ⟨u, hu, hun⟩ := PA.out t htt
                cases a4 with
                | none => exact absurd (A4.out.2.1 rfl).1 (by omega)
                | some ad4 =>
                  cases b with
                  | none => exact absurd (HS.out.2.1 rfl).1 (by have := SN.out; omega)
                  | some bd =>
                    have c1 := (A4.out.keep0 (dn_gb DN.out none)).cellAt t htt
                    rw [hu] at c1
                    have hd1 : decide ((u : Int) < 0) = false := decide_eq_false (by omega)
                    have hd2 : decide ((g.length : Int) ≤ (u : Int)) = false := decide_eq_false (by omega)
                    have hd2n : decide (g.length ≤ u) = false := decide_eq_false (by omega)
                    by_cases t0 : t = 0
                    · have hd0 : decide ((0 : Int) < (t : Int)) = false := decide_eq_false (by omega)
                      have hdn : decide (0 < t) = false := decide_eq_false (by omega)
                      clear t0
                      go_wp2_with fail
                      go_big_quiet (fail)
                      go_wp2
                      go_roundw
                      case rel => exact ⟨t + 1, by omega, by go_num, dn_more DN.out _⟩
                      case measure => simp [intOf]; omega
                    · obtain ⟨k2, hk2⟩ : ∃ k2, t = k2 + 1 := ⟨t - 1, by omega⟩
                      obtain ⟨v, hv, hvn⟩ := PA.out k2 (by omega)
                      have c2 := (A4.out.keep0 (dn_gb DN.out none)).cellAt k2 (by omega)
                      rw [hv] at c2
                      have up := PU.out k2 (by omega)
                      rw [← hk2, hu, hv] at up
                      simp only [Int.toNat_natCast] at up
                      have c3 := (HS1.out.keep0 (dn_gb DN.out none)).cellAt u (by have := SN.out; omega)
                      have c4 := (HS1.out.keep0 (dn_gb DN.out none)).cellAt v (by have := SN.out; omega)
                      have i5 : (u : Int) < s.length := by have := SN.out; omega
                      have i6 : (v : Int) < s.length := by have := SN.out; omega
                      have hd3 : decide (s.getD u 0 ≤ s.getD v 0) = false := decide_eq_false (by omega)
                      have i7 : (k2 : Int) < Q.length := by omega
                      have hd4 : decide ((0 : Int) < (t : Int)) = true := decide_eq_true (by omega)
                      have hdn : decide (0 < t) = true := decide_eq_true (by omega)
                      have h0t : 0 < t := by omega
                      have e7 : ((t : Int) - 1) = (k2 : Int) := by omega
                      clear up hu hv hk2 t0
                      generalize s.getD u 0 = y at *
                      generalize s.getD v 0 = z at *
                      go_wp2_with fail
                      go_big_quiet (fail)
                      go_wp2
                      go_roundw
                      case rel => exact ⟨t + 1, by omega, by go_num, dn_more DN.out _⟩
                      case measure => simp [intOf]; omega
              · have i4 : ¬ (t : Int) < Q.length := by omega
                go_wp2
                obtain ⟨w6, hw6⟩ : ∃ x, x = wr := ⟨_, rfl⟩
                rw [← hw6] at DN ⊢
                clear hw6
                have A2 := Lib.hid (A2.out.keep0 (dn_gb DN.out none))
                have HS1 := Lib.hid (HS1.out.keep0 (dn_gb DN.out none))
                have G := Lib.hid (gb_trans G.out (dn_gb DN.out none))
                clear DN
                go_loopw [10] (fun q wr => ∃ t : Nat, t ≤ s.length ∧ q = .int .i64 t ∧ (∀ j, j < t → 0 ≤ s.getD j 0) ∧ wr = w6) (fun q _ => s.length - (intOf q).toNat)
                case atStart => exact ⟨0, Nat.zero_le _, rfl, fun j hj => absurd hj (Nat.not_lt_zero _), rfl⟩
                case round =>
                  obtain ⟨t, ht, rfl, q6, rfl⟩ := hrel
                  have POS := Lib.hid q6
                  clear q6
                  by_cases htt : t < s.length
                  · have i5 : (t : Int) < s.length := by omega
                    cases b with
                    | none => exact absurd (HS.out.2.1 rfl).1 (by omega)
                    | some bd =>
                      have c3 := HS1.out.cellAt t htt
                      by_cases hneg : s.getD t 0 < 0
                      · generalize s.getD t 0 = y at *
                        go_wp2_with fail
                        refine (works_any _).mono ?_
                        rintro e we ⟨rfl, ge⟩
                        have G := Lib.hid (gb_trans G.out ge)
                        clear ge
                        go_wp2
                        go_ret
                        exact ⟨rfl, below_of G.out⟩
                      · have PN := Lib.hid (show ∀ j, j < t + 1 → 0 ≤ s.getD j 0 from fun j hj => by
                          rcases (show j < t ∨ j = t by omega) with q | rfl
                          · exact POS.out j q
                          · omega)
                        generalize s.getD t 0 = y at *
                        go_wp2
                        go_roundw
                        case rel => exact ⟨t + 1, by omega, by go_num, PN.out, trivial⟩
                        case measure => simp [intOf]; omega
                  · have i5 : ¬ (t : Int) < s.length := by omega
                    have LE := Lib.hid (LE.out fun i hi => POS.out i (by have := SN.out; omega))
                    go_wp2
                    obtain ⟨w7, hw7⟩ : ∃ x, x = wr := ⟨_, rfl⟩
                    rw [← hw7] at A2 HS1 G ⊢
                    clear hw7
                    go_loopw [11] (fun q wr => ∃ t : Nat, t ≤ s.length ∧ q = .int .i64 t ∧ ∃ x, wr = w7.drewN x) (fun q _ => s.length - (intOf q).toNat)
                    case atStart => exact ⟨0, Nat.zero_le _, rfl, dn_zero _⟩
                    case round =>
                      obtain ⟨t, ht, rfl, q6⟩ := hrel
                      have DN := Lib.hid q6
                      clear q6
                      by_cases htt : t < s.length
                      · have i6 : (t : Int) < s.length := by omega
                        have i7 : (t : Int) < L.length := by have := LL.out; have := SN.out; omega
                        cases b with
                        | none => exact absurd (HS.out.2.1 rfl).1 (by omega)
                        | some bd =>
                          cases a2 with
                          | none => exact absurd (A2.out.2.1 rfl).1 (by omega)
                          | some ad2 =>
                            have c3 := (HS1.out.keep0 (dn_gb DN.out none)).cellAt t htt
                            have c4 := (A2.out.keep0 (dn_gb DN.out none)).cellAt t (by omega)
                            have hd := decide_eq_false (show ¬ s.getD t 0 < L.getD t 0 by have := LE.out t (by have := SN.out; omega); omega)
                            generalize s.getD t 0 = y at *
                            generalize L.getD t 0 = z at *
                            go_wp2_with fail
                            go_quiet (fail)
                            go_wp2
                            go_roundw
                            case rel => exact ⟨t + 1, by omega, by go_num, dn_more DN.out _⟩
                            case measure => simp [intOf]; omega
                      · have i6 : ¬ (t : Int) < s.length := by omega
                        go_wp2_with fail
                        refine (works_any _).mono ?_
                        rintro e we ⟨rfl, ge⟩
                        have G := Lib.hid (gb_trans (gb_trans G.out (dn_gb DN.out none)) ge)
                        clear ge
                        go_wp2
                        go_ret
                        exact ⟨rfl, below_of G.out⟩
end Go.Proofs.Ytcbomfcioenliaa
