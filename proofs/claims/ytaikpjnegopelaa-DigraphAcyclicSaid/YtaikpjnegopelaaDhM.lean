/- The walks of the laws that hold the program to the reference. -/
import Derived.Test.YtaikpjnegopelaaDhL
import Derived.Test.YtaikpjnegopelaaGrP
namespace Go.Proofs.Ytaikpjnegopelaa
open Go.RowKit
set_option linter.unusedVariables false

theorem below_of {W w : World} (g : W.grownBy w none) : Below W.heap.size W w := (Below.refl _ _).grown g (Nat.le_refl _) (by intro k hk; cases hk)
/-- The law holds. -/
def HoldsT (W : World) (e : Ending) (w' : World) : Prop := e = .returned (.bool true) ∧ Below W.heap.size W w'
theorem big_no {g : List (List Int)} (h : big g = false) : g.length ≤ 24 ∧ ∀ v, v < g.length → (g.getD v []).length ≤ 40 := by
  unfold big at h
  rw [Bool.or_eq_false_iff] at h
  refine ⟨by have := of_decide_eq_false h.1; omega, fun v hv => ?_⟩
  have k := h.2
  rw [List.any_eq_false] at k
  have m := k (g.getD v []) (by simp [hv])
  have := of_decide_eq_false (by simpa using m : decide (40 < (g.getD v []).length) = false)
  omega

set_option maxRecDepth 100000 in
set_option maxHeartbeats 2000000 in
theorem checks_walk (a : Option Addr) (n c : Nat) (g : List (List Int)) (W : World) (h : SlG W a n c g) : Calls Try.prog 3 #[.slice a n c] W (HoldsT W) := by
  have HH := Lib.hid h
  clear h
  obtain ⟨z, hz⟩ : ∃ z, z = chk g := ⟨_, rfl⟩
  have C1 := Lib.hid (check_any W a n c g HH.out)
  have C2 := Lib.hid (rchk_any W a n c g HH.out)
  rw [← hz] at C1 C2
  have d1 : (z == z) = true := by rw [beq_iff_eq]
  clear hz
  go_enter Try.func3, Try.ntmps3
  go_wp2_with fail
  refine C1.out.mono ?_
  rintro e w1 ⟨rfl, rfl⟩
  go_wp2_with fail
  refine C2.out.mono ?_
  rintro e w2 ⟨rfl, q2⟩
  go_wp2_with fail
  refine (works_any _).mono ?_
  rintro e w3 ⟨rfl, g3⟩
  go_wp2
  go_ret
  exact ⟨rfl, below_of (gb_trans (dn_gb q2 none) g3)⟩

set_option maxRecDepth 100000 in
set_option maxHeartbeats 2000000 in
theorem reachable_walk (a : Option Addr) (n c : Nat) (g : List (List Int)) (x : Int) (W : World) (h : SlG W a n c g) (hx : (Lit.int .i64 x).wf = true) : Calls Try.prog 4 #[.slice a n c, .int .i64 x] W (HoldsT W) := by
  have HH := Lib.hid h
  have hl := h.1
  subst hl
  clear h
  have LA := Lib.hid (large_any W a g.length c g HH.out)
  cases hbg : big g
  · have BN := big_no hbg
    have HB := Lib.hid (fun v hv => Nat.le_trans (BN.2 v hv) (by decide) : ∀ v, v < g.length → (g.getD v []).length ≤ 1000)
    have hn : g.length ≤ 24 := BN.1
    rw [hbg] at LA
    clear BN hbg
    have wf := i64_bd hx
    obtain ⟨L, hL⟩ : ∃ L, L = reachL g x := ⟨_, rfl⟩
    have LL := Lib.hid (show L.length ≤ 24 by rw [hL]; unfold reachL; rw [tabB_len]; exact hn)
    have R1 := Lib.hid (fun w k => reach_any w a c g x k (by omega) wf)
    have R2 := Lib.hid (fun w k => rreach_any w a g.length c g x k (by omega) wf)
    rw [← hL] at R1 R2
    clear hL
    go_enter Try.func4, Try.ntmps4
    go_wp2_with fail
    refine LA.out.mono ?_
    rintro e w1 ⟨rfl, q1⟩
    have G := Lib.hid (dn_gb q1 none)
    have HH1 := Lib.hid (HH.out.keep0 G.out)
    clear q1 LA
    go_wp2_with fail
    refine (R1.out _ HH1.out).mono ?_
    rintro e w2 ⟨V2, rfl, o2, g2⟩
    obtain ⟨a2, c2, rfl⟩ : ∃ a2 c2, V2 = .slice a2 L.length c2 := by
      rcases o2.2 with ⟨q, r⟩ | ⟨b, cap, _, q, _⟩
      · exact ⟨none, 0, by rw [q, show L.length = 0 from r]⟩
      · exact ⟨_, _, q⟩
    have A2 := Lib.hid (o2.slr rfl)
    have HH1 := Lib.hid (HH1.out.keep0 g2)
    have G := Lib.hid (gb_trans G.out g2)
    clear o2 g2
    go_wp2_with fail
    refine (R2.out _ HH1.out).mono ?_
    rintro e w3 ⟨V3, rfl, o3, g3⟩
    obtain ⟨a3, c3, rfl⟩ : ∃ a3 c3, V3 = .slice a3 L.length c3 := by
      rcases o3.2 with ⟨q, r⟩ | ⟨b, cap, _, q, _⟩
      · exact ⟨none, 0, by rw [q, show L.length = 0 from r]⟩
      · exact ⟨_, _, q⟩
    have A3 := Lib.hid (o3.slr rfl)
    have A2 := Lib.hid (A2.out.keep0 g3)
    have G := Lib.hid (gb_trans G.out g3)
    clear o3 g3
    go_wp2_with fail
    refine (eqB _ _ _ _ _ _ _ _ A2.out A3.out (by have := LL.out; omega) (by have := LL.out; omega)).mono ?_
    rintro e w4 ⟨rfl, q4⟩
    have G := Lib.hid (gb_trans G.out (dn_gb q4 none))
    clear q4
    go_wp2_with fail
    refine (works_any _).mono ?_
    rintro e we ⟨rfl, ge⟩
    have G := Lib.hid (gb_trans G.out ge)
    clear ge
    go_wp2
    go_ret
    exact ⟨rfl, below_of G.out⟩
  · rw [hbg] at LA
    clear hbg
    go_enter Try.func4, Try.ntmps4
    go_wp2_with fail
    refine LA.out.mono ?_
    rintro e w1 ⟨rfl, q1⟩
    go_wp2_with fail
    refine (works_any _).mono ?_
    rintro e w2 ⟨rfl, g2⟩
    go_wp2
    go_ret
    exact ⟨rfl, below_of (gb_trans (dn_gb q1 none) g2)⟩

set_option maxRecDepth 100000 in
set_option maxHeartbeats 2000000 in
theorem paths_walk (a : Option Addr) (n c : Nat) (g : List (List Int)) (x y : Int) (W : World) (h : SlG W a n c g) (hx : (Lit.int .i64 x).wf = true) (hy : (Lit.int .i64 y).wf = true) : Calls Try.prog 5 #[.slice a n c, .int .i64 x, .int .i64 y] W (HoldsT W) := by
  have HH := Lib.hid h
  have hl := h.1
  subst hl
  clear h
  have LA := Lib.hid (large_any W a g.length c g HH.out)
  cases hbg : big g
  · have BN := big_no hbg
    have HB := Lib.hid (fun v hv => Nat.le_trans (BN.2 v hv) (by decide) : ∀ v, v < g.length → (g.getD v []).length ≤ 1000)
    have hn : g.length ≤ 24 := BN.1
    rw [hbg] at LA
    clear BN hbg
    have wx := i64_bd hx
    have wy := i64_bd hy
    obtain ⟨L, hL⟩ : ∃ L, L = pathP g x y := ⟨_, rfl⟩
    obtain ⟨k, hk⟩ : ∃ k, k = hasP g x y := ⟨_, rfl⟩
    have LL := Lib.hid (show L.length ≤ 100 by
      rw [hL]; unfold pathP
      split
      · rw [des_len]
        have := distL_range g y x.toNat
        omega
      · simp)
    have R1 := Lib.hid (fun w k => short_any w a c g x y k (by omega) wx wy)
    have R2 := Lib.hid (fun w k => rshort_any w a g.length c g x y k (by omega) wx wy)
    rw [← hL, ← hk] at R1 R2
    have d1 : (k == k) = true := by rw [beq_iff_eq]
    clear hL hk
    go_enter Try.func5, Try.ntmps5
    go_wp2_with fail
    refine LA.out.mono ?_
    rintro e w1 ⟨rfl, q1⟩
    have G := Lib.hid (dn_gb q1 none)
    have HH1 := Lib.hid (HH.out.keep0 G.out)
    clear q1 LA
    go_wp2_with fail
    refine (R1.out _ HH1.out).mono ?_
    rintro e w2 ⟨V2, rfl, o2, g2⟩
    obtain ⟨a2, c2, rfl⟩ := o2.shape
    have A2 := Lib.hid (o2.slr rfl)
    have HH1 := Lib.hid (HH1.out.keep0 g2)
    have G := Lib.hid (gb_trans G.out g2)
    clear o2 g2
    go_wp2_with fail
    refine (R2.out _ HH1.out).mono ?_
    rintro e w3 ⟨V3, rfl, o3, g3⟩
    obtain ⟨a3, c3, rfl⟩ := o3.shape
    have A3 := Lib.hid (o3.slr rfl)
    have A2 := Lib.hid (A2.out.keep0 g3)
    have HH1 := Lib.hid (HH1.out.keep0 g3)
    have G := Lib.hid (gb_trans G.out g3)
    clear o3 g3
    go_wp2_with fail
    refine (eqI _ _ _ _ _ _ _ _ A2.out A3.out (by have := LL.out; omega) (by have := LL.out; omega)).mono ?_
    rintro e w4 ⟨rfl, q4⟩
    have HH1 := Lib.hid (HH1.out.keep0 (dn_gb q4 none))
    have G := Lib.hid (gb_trans G.out (dn_gb q4 none))
    clear q4
    go_wp2_with fail
    refine (works_any _).mono ?_
    rintro e we ⟨rfl, ge⟩
    have G := Lib.hid (gb_trans G.out ge)
    clear ge
    go_wp2
    go_ret
    exact ⟨rfl, below_of G.out⟩
  · rw [hbg] at LA
    clear hbg
    go_enter Try.func5, Try.ntmps5
    go_wp2_with fail
    refine LA.out.mono ?_
    rintro e w1 ⟨rfl, q1⟩
    go_wp2_with fail
    refine (works_any _).mono ?_
    rintro e w2 ⟨rfl, g2⟩
    go_wp2
    go_ret
    exact ⟨rfl, below_of (gb_trans (dn_gb q1 none) g2)⟩

set_option maxRecDepth 100000 in
set_option maxHeartbeats 2000000 in
theorem orders_walk (a : Option Addr) (n c : Nat) (g : List (List Int)) (W : World) (h : SlG W a n c g) : Calls Try.prog 6 #[.slice a n c] W (HoldsT W) := by
  have HH := Lib.hid h
  have hl := h.1
  subst hl
  clear h
  have LA := Lib.hid (large_any W a g.length c g HH.out)
  cases hbg : big g
  · have BN := big_no hbg
    have HB := Lib.hid (fun v hv => Nat.le_trans (BN.2 v hv) (by decide) : ∀ v, v < g.length → (g.getD v []).length ≤ 1000)
    have hn : g.length ≤ 24 := BN.1
    rw [hbg] at LA
    clear BN hbg
    obtain ⟨L1, hL1⟩ : ∃ L, L = (topG g).getD [] := ⟨_, rfl⟩
    obtain ⟨k1, hk1⟩ : ∃ k, k = (topG g).isSome := ⟨_, rfl⟩
    obtain ⟨L2, hL2⟩ : ∃ L, L = levG g := ⟨_, rfl⟩
    obtain ⟨L3, hL3⟩ : ∃ L, L = longG g := ⟨_, rfl⟩
    obtain ⟨k3, hk3⟩ : ∃ k, k = (topG (revG g)).isSome := ⟨_, rfl⟩
    have LL1 := Lib.hid (show L1.length ≤ 100 by
      rw [hL1]
      cases e : topG g with
      | none => simp
      | some L => have := (topG_mem g L e).1; show L.length ≤ 100; omega)
    have LL2 := Lib.hid (show L2.length ≤ 100 by
      rw [hL2]
      cases e : topG g with
      | none => unfold levG; rw [e]; simp
      | some L => rw [levG_len g (by rw [e]; rfl)]; omega)
    have LL3 := Lib.hid (show L3.length ≤ 100 by
      rw [hL3]
      unfold longG
      split
      · rw [des_len]
        have := (levG_range (revG g) (argF (levG (revG g)) (g.length - 1) 1 0)).2
        rw [revG_len] at this
        omega
      · simp)
    have R1 := Lib.hid (fun w k => topo_any w a c g k (by omega) HB.out)
    have R2 := Lib.hid (fun w k => rtop_any w a g.length c g k (by omega))
    have R3 := Lib.hid (fun w k => levels_any w a c g k (by omega) HB.out)
    have R4 := Lib.hid (fun w k => rlev_any w a g.length c g k (by omega))
    have R5 := Lib.hid (fun w k => long_any w a c g k (by omega))
    have R6 := Lib.hid (fun w k => rlong_any w a g.length c g k (by omega))
    rw [fwG_eq] at R3
    rw [← hL1, ← hk1] at R1 R2
    rw [← hL2, ← hk1] at R3 R4
    rw [← hL3, ← hk3] at R5 R6
    have d1 : (k1 == k1) = true := by rw [beq_iff_eq]
    have d3 : (k3 == k3) = true := by rw [beq_iff_eq]
    clear hL1 hk1 hL2 hL3 hk3
    go_enter Try.func6, Try.ntmps6
    go_wp2_with fail
    refine LA.out.mono ?_
    rintro e w1 ⟨rfl, q1⟩
    have G := Lib.hid (dn_gb q1 none)
    have HH1 := Lib.hid (HH.out.keep0 G.out)
    clear q1 LA
    go_wp2_with fail
    refine (R1.out _ HH1.out).mono ?_
    rintro e w2 ⟨V2, rfl, o2, g2⟩
    obtain ⟨a2, c2, rfl⟩ := o2.shape
    have A2 := Lib.hid (o2.slr rfl)
    have HH1 := Lib.hid (HH1.out.keep0 g2)
    have G := Lib.hid (gb_trans G.out g2)
    clear o2 g2
    go_wp2_with fail
    refine (R2.out _ HH1.out).mono ?_
    rintro e w3 ⟨V3, rfl, o3, g3⟩
    obtain ⟨a3, c3, rfl⟩ := o3.shape
    have A3 := Lib.hid (o3.slr rfl)
    have A2 := Lib.hid (A2.out.keep0 g3)
    have HH1 := Lib.hid (HH1.out.keep0 g3)
    have G := Lib.hid (gb_trans G.out g3)
    clear o3 g3
    go_wp2_with fail
    refine (R3.out _ HH1.out).mono ?_
    rintro e w4 ⟨V4, rfl, o4, g4⟩
    obtain ⟨a4, c4, rfl⟩ := o4.shape
    have A4 := Lib.hid (o4.slr rfl)
    have A2 := Lib.hid (A2.out.keep0 g4)
    have A3 := Lib.hid (A3.out.keep0 g4)
    have HH1 := Lib.hid (HH1.out.keep0 g4)
    have G := Lib.hid (gb_trans G.out g4)
    clear o4 g4
    go_wp2_with fail
    refine (R4.out _ HH1.out).mono ?_
    rintro e w5 ⟨V5, rfl, o5, g5⟩
    obtain ⟨a5, c5, rfl⟩ := o5.shape
    have A5 := Lib.hid (o5.slr rfl)
    have A2 := Lib.hid (A2.out.keep0 g5)
    have A3 := Lib.hid (A3.out.keep0 g5)
    have A4 := Lib.hid (A4.out.keep0 g5)
    have HH1 := Lib.hid (HH1.out.keep0 g5)
    have G := Lib.hid (gb_trans G.out g5)
    clear o5 g5
    go_wp2_with fail
    refine (R5.out _ HH1.out).mono ?_
    rintro e w6 ⟨V6, rfl, o6, g6⟩
    obtain ⟨a6, c6, rfl⟩ := o6.shape
    have A6 := Lib.hid (o6.slr rfl)
    have A2 := Lib.hid (A2.out.keep0 g6)
    have A3 := Lib.hid (A3.out.keep0 g6)
    have A4 := Lib.hid (A4.out.keep0 g6)
    have A5 := Lib.hid (A5.out.keep0 g6)
    have HH1 := Lib.hid (HH1.out.keep0 g6)
    have G := Lib.hid (gb_trans G.out g6)
    clear o6 g6
    go_wp2_with fail
    refine (R6.out _ HH1.out).mono ?_
    rintro e w7 ⟨V7, rfl, o7, g7⟩
    obtain ⟨a7, c7, rfl⟩ := o7.shape
    have A7 := Lib.hid (o7.slr rfl)
    have A2 := Lib.hid (A2.out.keep0 g7)
    have A3 := Lib.hid (A3.out.keep0 g7)
    have A4 := Lib.hid (A4.out.keep0 g7)
    have A5 := Lib.hid (A5.out.keep0 g7)
    have A6 := Lib.hid (A6.out.keep0 g7)
    have HH1 := Lib.hid (HH1.out.keep0 g7)
    have G := Lib.hid (gb_trans G.out g7)
    clear o7 g7
    go_wp2_with fail
    refine (eqI _ _ _ _ _ _ _ _ A2.out A3.out (by have := LL1.out; omega) (by have := LL1.out; omega)).mono ?_
    rintro e w8 ⟨rfl, q8⟩
    have A4 := Lib.hid (A4.out.keep0 (dn_gb q8 none))
    have A5 := Lib.hid (A5.out.keep0 (dn_gb q8 none))
    have A6 := Lib.hid (A6.out.keep0 (dn_gb q8 none))
    have A7 := Lib.hid (A7.out.keep0 (dn_gb q8 none))
    have HH1 := Lib.hid (HH1.out.keep0 (dn_gb q8 none))
    have G := Lib.hid (gb_trans G.out (dn_gb q8 none))
    clear q8
    go_wp2_with fail
    refine (eqI _ _ _ _ _ _ _ _ A4.out A5.out (by have := LL2.out; omega) (by have := LL2.out; omega)).mono ?_
    rintro e w9 ⟨rfl, q9⟩
    have A6 := Lib.hid (A6.out.keep0 (dn_gb q9 none))
    have A7 := Lib.hid (A7.out.keep0 (dn_gb q9 none))
    have HH1 := Lib.hid (HH1.out.keep0 (dn_gb q9 none))
    have G := Lib.hid (gb_trans G.out (dn_gb q9 none))
    clear q9
    go_wp2_with fail
    refine (eqI _ _ _ _ _ _ _ _ A6.out A7.out (by have := LL3.out; omega) (by have := LL3.out; omega)).mono ?_
    rintro e w10 ⟨rfl, q10⟩
    have HH1 := Lib.hid (HH1.out.keep0 (dn_gb q10 none))
    have G := Lib.hid (gb_trans G.out (dn_gb q10 none))
    clear q10
    go_wp2_with fail
    refine (works_any _).mono ?_
    rintro e we ⟨rfl, ge⟩
    have G := Lib.hid (gb_trans G.out ge)
    clear ge
    go_wp2
    go_ret
    exact ⟨rfl, below_of G.out⟩
  · rw [hbg] at LA
    clear hbg
    go_enter Try.func6, Try.ntmps6
    go_wp2_with fail
    refine LA.out.mono ?_
    rintro e w1 ⟨rfl, q1⟩
    go_wp2_with fail
    refine (works_any _).mono ?_
    rintro e w2 ⟨rfl, g2⟩
    go_wp2
    go_ret
    exact ⟨rfl, below_of (gb_trans (dn_gb q1 none) g2)⟩
theorem cycG_len (g : List (List Int)) (hn : g.length ≤ 24) : (cycG g).length ≤ 100 := by
  by_cases h : ∃ v, v < g.length ∧ OnC g v
  · obtain ⟨v, hv, hc, hm⟩ : ∃ v, v < g.length ∧ OnC g v ∧ ∀ u, u < v → ¬ OnC g u := by
      obtain ⟨v, hv, hc⟩ := h
      induction v using Nat.strongRecOn with
      | ind v ih =>
        by_cases q : ∃ u, u < v ∧ OnC g u
        · obtain ⟨u, hu, hcu⟩ := q
          exact ih u hu (by omega) hcu
        · exact ⟨v, hv, hc, fun u hu k => q ⟨u, hu, k⟩⟩
    obtain ⟨m, B, e⟩ := cyc_some g v hv hc hm
    rw [e, List.length_dropLast, List.length_cons, des_len]
    have := (distL_range g (v : Int) m).2
    omega
  · rw [cyc_none g (fun v hv k => h ⟨v, hv, k⟩)]; simp

set_option maxRecDepth 100000 in
set_option maxHeartbeats 2000000 in
theorem cycles_walk (a : Option Addr) (n c : Nat) (g : List (List Int)) (W : World) (h : SlG W a n c g) : Calls Try.prog 7 #[.slice a n c] W (HoldsT W) := by
  have HH := Lib.hid h
  have hl := h.1
  subst hl
  clear h
  have LA := Lib.hid (large_any W a g.length c g HH.out)
  cases hbg : big g
  · have BN := big_no hbg
    have HB := Lib.hid (fun v hv => Nat.le_trans (BN.2 v hv) (by decide) : ∀ v, v < g.length → (g.getD v []).length ≤ 1000)
    have hn : g.length ≤ 24 := BN.1
    rw [hbg] at LA
    clear BN hbg
    obtain ⟨L1, hL1⟩ : ∃ L, L = cycG g := ⟨_, rfl⟩
    have LL1 := Lib.hid (show L1.length ≤ 100 by
      rw [hL1]; exact cycG_len g hn)
    have R1 := Lib.hid (fun w k => cyc_any w a c g k (by omega) HB.out)
    have R2 := Lib.hid (fun w k => rcyc_any w a g.length c g k (by omega))
    have R3 := Lib.hid (fun w k => rev_any w a g.length c g k (by omega))
    have R4 := Lib.hid (fun w k => rrev_any w a g.length c g k (by omega))
    rw [← hL1] at R1 R2
    clear hL1
    go_enter Try.func7, Try.ntmps7
    go_wp2_with fail
    refine LA.out.mono ?_
    rintro e w1 ⟨rfl, q1⟩
    have G := Lib.hid (dn_gb q1 none)
    have HH1 := Lib.hid (HH.out.keep0 G.out)
    clear q1 LA
    go_wp2_with fail
    refine (R1.out _ HH1.out).mono ?_
    rintro e w2 ⟨V2, rfl, o2, g2⟩
    obtain ⟨a2, c2, rfl⟩ := o2.shape
    have A2 := Lib.hid (o2.slr rfl)
    have HH1 := Lib.hid (HH1.out.keep0 g2)
    have G := Lib.hid (gb_trans G.out g2)
    clear o2 g2
    go_wp2_with fail
    refine (R2.out _ HH1.out).mono ?_
    rintro e w3 ⟨V3, rfl, o3, g3⟩
    obtain ⟨a3, c3, rfl⟩ := o3.shape
    have A3 := Lib.hid (o3.slr rfl)
    have A2 := Lib.hid (A2.out.keep0 g3)
    have HH1 := Lib.hid (HH1.out.keep0 g3)
    have G := Lib.hid (gb_trans G.out g3)
    clear o3 g3
    go_wp2_with fail
    refine (eqI _ _ _ _ _ _ _ _ A2.out A3.out (by have := LL1.out; omega) (by have := LL1.out; omega)).mono ?_
    rintro e w4 ⟨rfl, q4⟩
    have HH1 := Lib.hid (HH1.out.keep0 (dn_gb q4 none))
    have G := Lib.hid (gb_trans G.out (dn_gb q4 none))
    clear q4
    go_wp2_with fail
    refine (R3.out _ HH1.out).mono ?_
    rintro e w5 ⟨b5, hb5, rfl, r5, g5⟩
    have S5 := Lib.hid r5
    have HH1 := Lib.hid (HH1.out.keep0 g5)
    have G := Lib.hid (gb_trans G.out g5)
    clear hb5 r5 g5
    go_wp2_with fail
    refine (R4.out _ HH1.out).mono ?_
    rintro e w6 ⟨b6, hb6, rfl, r6, g6⟩
    have S6 := Lib.hid r6
    have S5 := Lib.hid (S5.out.keep0 g6)
    have G := Lib.hid (gb_trans G.out g6)
    clear hb6 r6 g6
    go_wp2_with fail
    refine (eqG _ _ _ _ _ _ _ _ S5.out S6.out).mono ?_
    rintro e w7 ⟨rfl, q7⟩
    have G := Lib.hid (gb_trans G.out (dn_gb q7 none))
    clear q7
    go_wp2_with fail
    refine (works_any _).mono ?_
    rintro e we ⟨rfl, ge⟩
    have G := Lib.hid (gb_trans G.out ge)
    clear ge
    go_wp2
    go_ret
    exact ⟨rfl, below_of G.out⟩
  · rw [hbg] at LA
    clear hbg
    go_enter Try.func7, Try.ntmps7
    go_wp2_with fail
    refine LA.out.mono ?_
    rintro e w1 ⟨rfl, q1⟩
    go_wp2_with fail
    refine (works_any _).mono ?_
    rintro e w2 ⟨rfl, g2⟩
    go_wp2
    go_ret
    exact ⟨rfl, below_of (gb_trans (dn_gb q1 none) g2)⟩
end Go.Proofs.Ytaikpjnegopelaa
