/- A node is reachable exactly if a shortest path exists, and exactly if the start is reachable from it in the reversed graph, and reversing twice yields the same edges; for every input, without condition. -/
import Derived.Test.YtaikpjnegopelaaFrame
import Derived.Test.YtaikpjnegopelaaDhM
import Derived.Test.YtaikpjnegopelaaGrO
namespace Go.Proofs.Ytaikpjnegopelaa
open Go.RowKit
set_option linter.unusedVariables false

theorem rch_rev {g : List (List Int)} {u v : Nat} (h : Rch g u v) : Rch (revG g) v u := by
  have hv : v < (revG g).length := by rw [revG_len]; exact h.2.1
  refine rch_ind (fun u => Rch (revG g) v u) (Rch.refl _ v hv) (fun u y hu hy he _ r => ?_) u h
  exact r.trans (Rch.edge (by rw [revG_len]; exact hy) (by rw [revG_len]; exact hu) (by rw [gEdge_rev]; exact he))
theorem rch_rr {g : List (List Int)} {u v : Nat} (h : Rch (revG (revG g)) u v) : Rch g u v := by
  have e : (revG (revG g)).length = g.length := by rw [revG_len, revG_len]
  obtain ⟨h1, h2, h3⟩ := h
  rw [e] at h1 h2 h3
  refine ⟨h1, h2, ?_⟩
  rw [← gD_congr (revG (revG g)) g v e (fun y u => by rw [gEdge_rev, gEdge_rev]) g.length u]
  exact h3
theorem rev_yes (g : List (List Int)) (x y : Nat) (hx : x < g.length) (hy : y < g.length) :
    (reachL g (x : Int)).getD y false = hasP g x y ∧ (reachL (revG g) (y : Int)).getD x false = hasP g x y := by
  have e0 : hasP g x y = decide (0 ≤ (distL g (y : Int)).getD x 0) := by
    unfold hasP
    rw [Int.toNat_natCast, decide_eq_decide]
    exact ⟨fun h => h.2.2, fun h => ⟨by omega, by omega, h⟩⟩
  rw [e0]
  constructor
  · unfold reachL
    rw [tabB_at _ _ _ hy, decide_eq_decide, distL_rch g y x hy hx, distL_rch (revG g) x y (by rw [revG_len]; exact hx) (by rw [revG_len]; exact hy)]
    exact ⟨fun h => rch_rr (rch_rev h), fun h => rch_rev h⟩
  · unfold reachL
    rw [tabB_at _ _ _ (by rw [revG_len]; exact hx), distL_rr]

theorem SlR.bat {w : World} {ad : Addr} {n c : Nat} {L : List Bool} (h : SlR w (some ad) n c (L.map Value.bool)) (j : Nat) (hj : j < L.length) : w.cell? (ad.add j) = some (.bool (L.getD j false)) := h.2.2 ad rfl j _ (by simp [hj])

set_option maxRecDepth 100000 in
set_option maxHeartbeats 4000000 in
theorem reverses_walk (a : Option Addr) (n c : Nat) (g : List (List Int)) (x y : Int) (W : World) (h : SlG W a n c g) (hx : (Lit.int .i64 x).wf = true) (hy : (Lit.int .i64 y).wf = true) : Calls Try.prog 9 #[.slice a n c, .int .i64 x, .int .i64 y] W (HoldsT W) := by
  have HH := Lib.hid h
  have hl := h.1
  subst hl
  clear h
  have LA := Lib.hid (large_any W a g.length c g HH.out)
  cases hbg : big g
  · have BN := big_no hbg
    have hn : g.length ≤ 24 := BN.1
    rw [hbg] at LA
    clear BN hbg
    have wx := i64_bd hx
    have wy := i64_bd hy
    have YES := Lib.hid (rev_yes g)
    obtain ⟨L1, hL1⟩ : ∃ L, L = reachL g x := ⟨_, rfl⟩
    obtain ⟨L2, hL2⟩ : ∃ L, L = reachL (revG g) y := ⟨_, rfl⟩
    obtain ⟨k, hk⟩ : ∃ k, k = hasP g x y := ⟨_, rfl⟩
    have LN1 := Lib.hid (show L1.length = g.length by rw [hL1]; unfold reachL; rw [tabB_len])
    have LN2 := Lib.hid (show L2.length = g.length by rw [hL2]; unfold reachL; rw [tabB_len, revG_len])
    have R1 := Lib.hid (fun w k => reach_any w a c g x k (by omega) wx)
    have R2 := Lib.hid (fun (w : World) (b : Nat) (q : SlG w (some ⟨b, 0, none⟩) g.length g.length (revG g)) => by
      have k := reach_any w (some ⟨b, 0, none⟩) g.length (revG g) y (by rw [revG_len]; exact q) (by rw [revG_len]; omega) wy
      rw [revG_len] at k
      exact k)
    have R3 := Lib.hid (fun w k => short_any w a c g x y k (by omega) wx wy)
    have R4 := Lib.hid (fun (w : World) (b : Nat) (q : SlG w (some ⟨b, 0, none⟩) g.length g.length (revG g)) => rev_any w (some ⟨b, 0, none⟩) g.length g.length (revG g) q (by omega))
    have ED := Lib.hid (fun v u : Nat => show gEdge (revG (revG g)) (v : Int) (u : Int) = gEdge g v u by rw [gEdge_rev, gEdge_rev])
    have KK := Lib.hid (fun (hx0 : 0 ≤ x) (hx1 : x < g.length) (hy0 : 0 ≤ y) (hy1 : y < g.length) => show L1.getD y.toNat false = k ∧ L2.getD x.toNat false = k by
      have q := YES.out x.toNat y.toNat (by omega) (by omega)
      rw [Int.toNat_of_nonneg hx0, Int.toNat_of_nonneg hy0, ← hL1, ← hL2, ← hk] at q
      exact q)
    rw [← hL1] at R1
    rw [← hL2] at R2
    obtain ⟨L3, hL3⟩ : ∃ L, L = pathP g x y := ⟨_, rfl⟩
    rw [← hk, ← hL3] at R3
    obtain ⟨TW, hTW⟩ : ∃ T, T = revG (revG g) := ⟨_, rfl⟩
    rw [← hTW] at R4 ED
    clear hL1 hL2 hk YES hL3 hTW
    go_enter Try.func9, Try.ntmps9
    go_wp2_with fail
    refine LA.out.mono ?_
    rintro e w1 ⟨rfl, q1⟩
    have G := Lib.hid (dn_gb q1 none)
    have HH1 := Lib.hid (HH.out.keep0 G.out)
    clear q1 LA
    go_wp2_with fail
    refine (rev_any w1 a g.length c g HH1.out (by omega)).mono ?_
    rintro e w2 ⟨b2, hb2, rfl, r2, g2⟩
    have S2 := Lib.hid r2
    have HH1 := Lib.hid (HH1.out.keep0 g2)
    have G := Lib.hid (gb_trans G.out g2)
    clear hb2 r2 g2
    go_wp2_with fail
    refine (R1.out _ HH1.out).mono ?_
    rintro e w3 ⟨V3, rfl, o3, g3⟩
    obtain ⟨a3, c3, rfl⟩ : ∃ a3 c3, V3 = .slice a3 g.length c3 := by
      rcases o3.2 with ⟨q, r⟩ | ⟨b, cap, _, q, _⟩
      · exact ⟨none, 0, by rw [q]; have e := LN1.out; rw [show L1.length = 0 from r] at e; rw [← e]⟩
      · exact ⟨_, _, by rw [q, LN1.out]⟩
    have A3 := Lib.hid (o3.slr LN1.out.symm)
    have S2 := Lib.hid (S2.out.keep0 g3)
    have HH1 := Lib.hid (HH1.out.keep0 g3)
    have G := Lib.hid (gb_trans G.out g3)
    clear o3 g3
    go_wp2_with fail
    refine (R2.out _ _ S2.out).mono ?_
    rintro e w4 ⟨V4, rfl, o4, g4⟩
    obtain ⟨a4, c4, rfl⟩ : ∃ a4 c4, V4 = .slice a4 g.length c4 := by
      rcases o4.2 with ⟨q, r⟩ | ⟨b, cap, _, q, _⟩
      · exact ⟨none, 0, by rw [q]; have e := LN2.out; rw [show L2.length = 0 from r] at e; rw [← e]⟩
      · exact ⟨_, _, by rw [q, LN2.out]⟩
    have A4 := Lib.hid (o4.slr LN2.out.symm)
    have A3 := Lib.hid (A3.out.keep0 g4)
    have S2 := Lib.hid (S2.out.keep0 g4)
    have HH1 := Lib.hid (HH1.out.keep0 g4)
    have G := Lib.hid (gb_trans G.out g4)
    clear o4 g4
    go_wp2_with fail
    refine (R3.out _ HH1.out).mono ?_
    rintro e w5 ⟨V5, rfl, o5, g5⟩
    obtain ⟨a5, c5, rfl⟩ := o5.shape
    have A4 := Lib.hid (A4.out.keep0 g5)
    have A3 := Lib.hid (A3.out.keep0 g5)
    have S2 := Lib.hid (S2.out.keep0 g5)
    have HH1 := Lib.hid (HH1.out.keep0 g5)
    have G := Lib.hid (gb_trans G.out g5)
    clear o5 g5
    go_wp2_with fail
    refine (R4.out _ _ S2.out).mono ?_
    rintro e w6 ⟨b6, hb6, rfl, r6, g6⟩
    have S6 := Lib.hid r6
    have A4 := Lib.hid (A4.out.keep0 g6)
    have A3 := Lib.hid (A3.out.keep0 g6)
    have HH1 := Lib.hid (HH1.out.keep0 g6)
    have G := Lib.hid (gb_trans G.out g6)
    clear hb6 r6 g6
    have dk : (k != k) = false := by simp
    have dg : (((g.length : Nat) : Int) != (g.length : Int)) = false := by simp
    have REST : ∀ (Q : Prop), True := fun _ => trivial
    by_cases hin : 0 ≤ x ∧ x < (g.length : Int) ∧ 0 ≤ y ∧ y < (g.length : Int)
    · obtain ⟨hx0, hx1, hy0, hy1⟩ := hin
      have KK2 := KK.out hx0 hx1 hy0 hy1
      obtain ⟨xn, rfl⟩ : ∃ m : Nat, x = (m : Int) := ⟨x.toNat, by omega⟩
      obtain ⟨yn, rfl⟩ : ∃ m : Nat, y = (m : Int) := ⟨y.toNat, by omega⟩
      rw [Int.toNat_natCast, Int.toNat_natCast] at KK2
      cases a3 with
      | none => exact absurd (A3.out.2.1 rfl).1 (by omega)
      | some p3 =>
        cases a4 with
        | none => exact absurd (A4.out.2.1 rfl).1 (by omega)
        | some p4 =>
          have cA := A3.out.bat yn (by rw [LN1.out]; omega)
          have cB := A4.out.bat xn (by rw [LN2.out]; omega)
          rw [KK2.1] at cA
          rw [KK2.2] at cB
          clear KK2 KK REST
          go_wp2
          go_loopw [13] (fun i wr => ∃ v : Nat, v ≤ g.length ∧ i = .int .i64 v ∧ wr = w6) (fun i _ => g.length - (intOf i).toNat)
          case atStart => exact ⟨0, Nat.zero_le _, rfl, rfl⟩
          case round =>
            obtain ⟨v, hv, rfl, rfl⟩ := hrel
            by_cases hvt : v < g.length
            · have i1 : (v : Int) < g.length := by omega
              go_wp2
              go_loopw [14] (fun i wr2 => ∃ u : Nat, u ≤ g.length ∧ i = .int .i64 u ∧ wr2 = wr) (fun i _ => g.length - (intOf i).toNat)
              case atStart => exact ⟨0, Nat.zero_le _, rfl, rfl⟩
              case round =>
                obtain ⟨u, hu, rfl, rfl⟩ := hrel
                by_cases hut : u < g.length
                · have i2 : (u : Int) < g.length := by omega
                  have E2 := Lib.hid (redge_any wr (some ⟨b6, 0, none⟩) g.length g.length TW (v : Int) (u : Int) S6.out (by omega) (by omega))
                  rw [ED.out] at E2
                  have E1 := Lib.hid (redge_any wr a g.length c g (v : Int) (u : Int) HH1.out (by omega) (by omega))
                  obtain ⟨bb, hbb⟩ : ∃ bb, bb = gEdge g (v : Int) (u : Int) := ⟨_, rfl⟩
                  rw [← hbb] at E1 E2
                  have db : (bb != bb) = false := by simp
                  clear hbb
                  go_wp2_with fail
                  refine E1.out.mono ?_
                  rintro e w7 ⟨rfl, rfl⟩
                  go_wp2_with fail
                  refine E2.out.mono ?_
                  rintro e w8 ⟨rfl, rfl⟩
                  go_wp2
                  go_roundw
                  case rel => exact ⟨u + 1, by omega, by go_num, trivial⟩
                  case measure => simp [intOf]; omega
                · have hue : u = g.length := by omega
                  subst hue
                  go_wp2
                  go_roundw
                  case rel => exact ⟨v + 1, by omega, by go_num, trivial⟩
                  case measure => simp [intOf]; omega
            · have hve : v = g.length := by omega
              subst hve
              go_wp2_with fail
              refine (works_any _).mono ?_
              rintro e we ⟨rfl, ge⟩
              go_wp2
              go_ret
              exact ⟨rfl, below_of (gb_trans G.out ge)⟩
    · clear REST KK
      by_cases hx0 : 0 ≤ x
      · by_cases hx1 : x < (g.length : Int)
        · by_cases hy0 : 0 ≤ y
          · have hy1 : ¬ y < (g.length : Int) := fun q => hin ⟨hx0, hx1, hy0, q⟩
            clear hin
            go_wp2
            go_loopw [13] (fun i wr => ∃ v : Nat, v ≤ g.length ∧ i = .int .i64 v ∧ wr = w6) (fun i _ => g.length - (intOf i).toNat)
            case atStart => exact ⟨0, Nat.zero_le _, rfl, rfl⟩
            case round =>
              obtain ⟨v, hv, rfl, rfl⟩ := hrel
              by_cases hvt : v < g.length
              · have i1 : (v : Int) < g.length := by omega
                go_wp2
                go_loopw [14] (fun i wr2 => ∃ u : Nat, u ≤ g.length ∧ i = .int .i64 u ∧ wr2 = wr) (fun i _ => g.length - (intOf i).toNat)
                case atStart => exact ⟨0, Nat.zero_le _, rfl, rfl⟩
                case round =>
                  obtain ⟨u, hu, rfl, rfl⟩ := hrel
                  by_cases hut : u < g.length
                  · have i2 : (u : Int) < g.length := by omega
                    have E2 := Lib.hid (redge_any wr (some ⟨b6, 0, none⟩) g.length g.length TW (v : Int) (u : Int) S6.out (by omega) (by omega))
                    rw [ED.out] at E2
                    have E1 := Lib.hid (redge_any wr a g.length c g (v : Int) (u : Int) HH1.out (by omega) (by omega))
                    obtain ⟨bb, hbb⟩ : ∃ bb, bb = gEdge g (v : Int) (u : Int) := ⟨_, rfl⟩
                    rw [← hbb] at E1 E2
                    have db : (bb != bb) = false := by simp
                    clear hbb
                    go_wp2_with fail
                    refine E1.out.mono ?_
                    rintro e w7 ⟨rfl, rfl⟩
                    go_wp2_with fail
                    refine E2.out.mono ?_
                    rintro e w8 ⟨rfl, rfl⟩
                    go_wp2
                    go_roundw
                    case rel => exact ⟨u + 1, by omega, by go_num, trivial⟩
                    case measure => simp [intOf]; omega
                  · have hue : u = g.length := by omega
                    subst hue
                    go_wp2
                    go_roundw
                    case rel => exact ⟨v + 1, by omega, by go_num, trivial⟩
                    case measure => simp [intOf]; omega
              · have hve : v = g.length := by omega
                subst hve
                go_wp2_with fail
                refine (works_any _).mono ?_
                rintro e we ⟨rfl, ge⟩
                go_wp2
                go_ret
                exact ⟨rfl, below_of (gb_trans G.out ge)⟩
          · clear hin
            go_wp2
            go_loopw [13] (fun i wr => ∃ v : Nat, v ≤ g.length ∧ i = .int .i64 v ∧ wr = w6) (fun i _ => g.length - (intOf i).toNat)
            case atStart => exact ⟨0, Nat.zero_le _, rfl, rfl⟩
            case round =>
              obtain ⟨v, hv, rfl, rfl⟩ := hrel
              by_cases hvt : v < g.length
              · have i1 : (v : Int) < g.length := by omega
                go_wp2
                go_loopw [14] (fun i wr2 => ∃ u : Nat, u ≤ g.length ∧ i = .int .i64 u ∧ wr2 = wr) (fun i _ => g.length - (intOf i).toNat)
                case atStart => exact ⟨0, Nat.zero_le _, rfl, rfl⟩
                case round =>
                  obtain ⟨u, hu, rfl, rfl⟩ := hrel
                  by_cases hut : u < g.length
                  · have i2 : (u : Int) < g.length := by omega
                    have E2 := Lib.hid (redge_any wr (some ⟨b6, 0, none⟩) g.length g.length TW (v : Int) (u : Int) S6.out (by omega) (by omega))
                    rw [ED.out] at E2
                    have E1 := Lib.hid (redge_any wr a g.length c g (v : Int) (u : Int) HH1.out (by omega) (by omega))
                    obtain ⟨bb, hbb⟩ : ∃ bb, bb = gEdge g (v : Int) (u : Int) := ⟨_, rfl⟩
                    rw [← hbb] at E1 E2
                    have db : (bb != bb) = false := by simp
                    clear hbb
                    go_wp2_with fail
                    refine E1.out.mono ?_
                    rintro e w7 ⟨rfl, rfl⟩
                    go_wp2_with fail
                    refine E2.out.mono ?_
                    rintro e w8 ⟨rfl, rfl⟩
                    go_wp2
                    go_roundw
                    case rel => exact ⟨u + 1, by omega, by go_num, trivial⟩
                    case measure => simp [intOf]; omega
                  · have hue : u = g.length := by omega
                    subst hue
                    go_wp2
                    go_roundw
                    case rel => exact ⟨v + 1, by omega, by go_num, trivial⟩
                    case measure => simp [intOf]; omega
              · have hve : v = g.length := by omega
                subst hve
                go_wp2_with fail
                refine (works_any _).mono ?_
                rintro e we ⟨rfl, ge⟩
                go_wp2
                go_ret
                exact ⟨rfl, below_of (gb_trans G.out ge)⟩
        · clear hin
          go_wp2
          go_loopw [13] (fun i wr => ∃ v : Nat, v ≤ g.length ∧ i = .int .i64 v ∧ wr = w6) (fun i _ => g.length - (intOf i).toNat)
          case atStart => exact ⟨0, Nat.zero_le _, rfl, rfl⟩
          case round =>
            obtain ⟨v, hv, rfl, rfl⟩ := hrel
            by_cases hvt : v < g.length
            · have i1 : (v : Int) < g.length := by omega
              go_wp2
              go_loopw [14] (fun i wr2 => ∃ u : Nat, u ≤ g.length ∧ i = .int .i64 u ∧ wr2 = wr) (fun i _ => g.length - (intOf i).toNat)
              case atStart => exact ⟨0, Nat.zero_le _, rfl, rfl⟩
              case round =>
                obtain ⟨u, hu, rfl, rfl⟩ := hrel
                by_cases hut : u < g.length
                · have i2 : (u : Int) < g.length := by omega
                  have E2 := Lib.hid (redge_any wr (some ⟨b6, 0, none⟩) g.length g.length TW (v : Int) (u : Int) S6.out (by omega) (by omega))
                  rw [ED.out] at E2
                  have E1 := Lib.hid (redge_any wr a g.length c g (v : Int) (u : Int) HH1.out (by omega) (by omega))
                  obtain ⟨bb, hbb⟩ : ∃ bb, bb = gEdge g (v : Int) (u : Int) := ⟨_, rfl⟩
                  rw [← hbb] at E1 E2
                  have db : (bb != bb) = false := by simp
                  clear hbb
                  go_wp2_with fail
                  refine E1.out.mono ?_
                  rintro e w7 ⟨rfl, rfl⟩
                  go_wp2_with fail
                  refine E2.out.mono ?_
                  rintro e w8 ⟨rfl, rfl⟩
                  go_wp2
                  go_roundw
                  case rel => exact ⟨u + 1, by omega, by go_num, trivial⟩
                  case measure => simp [intOf]; omega
                · have hue : u = g.length := by omega
                  subst hue
                  go_wp2
                  go_roundw
                  case rel => exact ⟨v + 1, by omega, by go_num, trivial⟩
                  case measure => simp [intOf]; omega
            · have hve : v = g.length := by omega
              subst hve
              go_wp2_with fail
              refine (works_any _).mono ?_
              rintro e we ⟨rfl, ge⟩
              go_wp2
              go_ret
              exact ⟨rfl, below_of (gb_trans G.out ge)⟩
      · clear hin
        go_wp2
        go_loopw [13] (fun i wr => ∃ v : Nat, v ≤ g.length ∧ i = .int .i64 v ∧ wr = w6) (fun i _ => g.length - (intOf i).toNat)
        case atStart => exact ⟨0, Nat.zero_le _, rfl, rfl⟩
        case round =>
          obtain ⟨v, hv, rfl, rfl⟩ := hrel
          by_cases hvt : v < g.length
          · have i1 : (v : Int) < g.length := by omega
            go_wp2
            go_loopw [14] (fun i wr2 => ∃ u : Nat, u ≤ g.length ∧ i = .int .i64 u ∧ wr2 = wr) (fun i _ => g.length - (intOf i).toNat)
            case atStart => exact ⟨0, Nat.zero_le _, rfl, rfl⟩
            case round =>
              obtain ⟨u, hu, rfl, rfl⟩ := hrel
              by_cases hut : u < g.length
              · have i2 : (u : Int) < g.length := by omega
                have E2 := Lib.hid (redge_any wr (some ⟨b6, 0, none⟩) g.length g.length TW (v : Int) (u : Int) S6.out (by omega) (by omega))
                rw [ED.out] at E2
                have E1 := Lib.hid (redge_any wr a g.length c g (v : Int) (u : Int) HH1.out (by omega) (by omega))
                obtain ⟨bb, hbb⟩ : ∃ bb, bb = gEdge g (v : Int) (u : Int) := ⟨_, rfl⟩
                rw [← hbb] at E1 E2
                have db : (bb != bb) = false := by simp
                clear hbb
                go_wp2_with fail
                refine E1.out.mono ?_
                rintro e w7 ⟨rfl, rfl⟩
                go_wp2_with fail
                refine E2.out.mono ?_
                rintro e w8 ⟨rfl, rfl⟩
                go_wp2
                go_roundw
                case rel => exact ⟨u + 1, by omega, by go_num, trivial⟩
                case measure => simp [intOf]; omega
              · have hue : u = g.length := by omega
                subst hue
                go_wp2
                go_roundw
                case rel => exact ⟨v + 1, by omega, by go_num, trivial⟩
                case measure => simp [intOf]; omega
          · have hve : v = g.length := by omega
            subst hve
            go_wp2_with fail
            refine (works_any _).mono ?_
            rintro e we ⟨rfl, ge⟩
            go_wp2
            go_ret
            exact ⟨rfl, below_of (gb_trans G.out ge)⟩
  · rw [hbg] at LA
    clear hbg
    go_enter Try.func9, Try.ntmps9
    go_wp2_with fail
    refine LA.out.mono ?_
    rintro e w1 ⟨rfl, q1⟩
    go_wp2_with fail
    refine (works_any _).mono ?_
    rintro e w2 ⟨rfl, g2⟩
    go_wp2
    go_ret
    exact ⟨rfl, below_of (gb_trans (dn_gb q1 none) g2)⟩
end Go.Proofs.Ytaikpjnegopelaa
namespace Go.Proofs.Ytaikpjnegopelaa.digraphReverses
open Go.ChangeShapes Go.WideShapes Go.ChangeAt Go.RowKit
set_option linter.unusedVariables false

set_option maxRecDepth 100000 in
theorem lifted (os : Os) (started : os.Started) (H : Type) (enc : TypeId × Value → H) :
    ReturnsInHanded {} Try.checked os 9 .any (Rows.digraphReversesSpec.pre6 enc Try.prog Try.f9 Rows.digraphReversesRow.domain false) (Rows.digraphReversesSpec.post enc Try.prog Try.f9 false true false false) := by
  refine returnsInHanded_of_change (C := Try.checked) ownKnobs started (by kernel_rfl) Try.func9
    (ChangeSpec.witness6 (enc := enc) (C := Try.checked) false ⟨#[], #[.slice none 0 0, .int .i64 0, .int .i64 0], []⟩ 8 (by kernel_rfl) (by kernel_rfl) (by kernel_rfl) (by kernel_rfl)) ?_
  intro W base args ds gs before hval0 hW hcnd _
  have hval : ∀ (j : Nat) t v, Try.f9.params[j]? = some t → args[j]? = some v → Value.okWide Try.prog W .any base t v := hval0
  have hW' := hW
  obtain ⟨p, q, hA0, hV, rfl, hfz, hnd⟩ := hW
  have hA : DataW.TrodAll enc Try.prog W 0 (fun _ => true) true Try.f9.params.toList args.toList ds p := hA0
  rw [Try.params9] at hA hval
  obtain ⟨v0, vs0, d0, ds0, p0, q0, hargs, rfl, rfl, h0, r0⟩ := trodAll_cons hA
  obtain ⟨v1, vs1, d1, ds1, p1, q1, rfl, rfl, rfl, h1, r1⟩ := trodAll_cons r0
  obtain ⟨v2, vs2, d2, ds2, p2, q2, rfl, rfl, rfl, h2, r2⟩ := trodAll_cons r1
  obtain ⟨rfl, rfl, rfl⟩ := trodAll_nil r2
  obtain rfl : args = #[v0, v1, v2] := by cases args; simp_all
  obtain ⟨rfl, rfl⟩ := trodVars_none hV
  have k0 := h0
  have lt0 : ∀ x ∈ p0, x.block < W.heap.size := by obtain ⟨m, hm⟩ := k0; exact DataW.trod_lt m _ _ _ hm
  obtain ⟨a0, len0, cap0, g0, rfl, w0⟩ := open_graph Try.underlying22 Try.underlying31 Try.underlying3 (by kernel_rfl) (by kernel_rfl) (hval 0 22 v0 rfl rfl) h0
  obtain ⟨a1, rfl, rfl, rfl, w1⟩ := open_int Try.underlying3 (hval 1 3 v1 rfl rfl) h1
  obtain ⟨a2, rfl, rfl, rfl, w2⟩ := open_int Try.underlying3 (hval 2 3 v2 rfl rfl) h2
  clear hA0 hval0
  refine (reverses_walk a0 len0 cap0 g0 a1 a2 W w0 w1 w2).mono fun e W' ⟨he, bel⟩ => ?_
  subst he
  exact ⟨_, rfl, _, _, _, [], _, [], hW', trodAll_mk1 (shut_bool Try.underlying4 _), (trodAll_cons_mk (Below.trod laidOutAll (by kernel_rfl) (of_decide_eq_true (by kernel_rfl)) k0 bel lt0) (trodAll_cons_mk (shut_int Try.underlying3 w1) (trodAll_cons_mk (shut_int Try.underlying3 w2) trodAll_mk0))), rfl, bel.frame _, fun h => by cases h⟩

theorem over : Rows.digraphReversesRow.holds Try.pinned (OpenSpec.ofChange Rows.digraphReversesSpec) :=
  OpenClaim.holds_of_wide 9 Try.f9 rfl rfl rfl rfl rfl rfl rfl ⟨rfl, rfl, rfl, rfl, rfl⟩ rfl rfl rfl rfl rfl (by kernel_rfl) Try.func9 (by kernel_rfl)
    (of_decide_eq_true (by kernel_rfl)) (by unfold Func.isWrapper; first | (rw [if_pos (by decide +kernel)]; kernel_rfl) | (rw [if_neg (by decide +kernel)]; exact ⟨rfl, rfl⟩))
    (fun os started H enc _ => lifted os started H enc)

/-- The statement. -/
theorem proved : Rows.DigraphReversesSaid := over
#print axioms proved
end Go.Proofs.Ytaikpjnegopelaa.digraphReverses
