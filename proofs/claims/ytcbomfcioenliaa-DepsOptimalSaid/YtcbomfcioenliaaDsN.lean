/- The laws Stages and CriticalPath: the walks; no condition. -/
import Derived.Test.YtcbomfcioenliaaDsM
namespace Go.Proofs.Ytcbomfcioenliaa
open Go.RowKit
set_option linter.unusedVariables false

theorem row_max {k : IntKind} {w : World} {a : Option Addr} {len cap : Nat} {zs : List Int} (h : IsRow k w a len cap zs) : len ≤ 9223372036854775807 := by
  have hm : maxLen = 9223372036854775807 := rfl
  rcases h with ⟨rfl, rfl, rfl, rfl⟩ | ⟨x, rfl, hl, hc, _⟩
  · omega
  · omega
theorem RetD.gb {v : Value} {w w' : World} {e : Ending} (h : RetD v w e w') : e = .returned v ∧ w.grownBy w' none := by
  obtain ⟨h1, m, rfl⟩ := h
  exact ⟨h1, gb_drewN _ _ _⟩

set_option maxRecDepth 100000 in
set_option maxHeartbeats 2000000 in
theorem path_walk (a : Option Addr) (n c : Nat) (g : List (List Int)) (W : World) (h : SlG W a n c g) : Calls Try.prog 4 #[.slice a n c] W (HoldsT W) := by
  have HH := Lib.hid h
  have hl := h.1
  subst hl
  clear h
  go_enter Try.func4, Try.ntmps4
  go_wp2_with fail
  refine (small_any W a g.length c g HH.out).mono ?_
  rintro e w1 ⟨b, rfl, rfl, hb⟩
  cases b
  · go_wp2_with fail
    refine (works_any _).mono ?_
    rintro e w2 ⟨rfl, g2⟩
    go_wp2
    go_ret
    exact ⟨rfl, below_of g2⟩
  · have hn : g.length ≤ 14 := hb rfl
    have LL := Lib.hid (show (pathG g).length ≤ 1000 by
      have := pathG_most g
      have := mx_least (stL g) g.length g.length (by omega) (fun j hj => by rw [stL_at g j hj]; have := (st_range g j j).2; omega)
      omega)
    have R1 := Lib.hid (fun w k => path_any w a g.length c g k (by omega))
    have R2 := Lib.hid (fun w k => rpath_any w a g.length c g k (by omega))
    generalize pathG g = L at *
    clear hb hn
    go_wp2_with fail
    refine (R1.out _ HH.out).mono ?_
    rintro e w2 ⟨V2, rfl, o2, g2⟩
    obtain ⟨a2, c2, rfl⟩ := o2.shape
    have A2 := Lib.hid (o2.slr rfl)
    have HH1 := Lib.hid (HH.out.keep0 g2)
    have G := Lib.hid g2
    clear o2 g2
    go_wp2_with fail
    refine (R2.out _ HH1.out).mono ?_
    rintro e w3 ⟨a3, c3, rfl, r3, g3⟩
    have A3 := Lib.hid r3
    have A2 := Lib.hid (A2.out.keep0 g3)
    have G := Lib.hid (gb_trans G.out g3)
    clear r3 g3
    go_wp2_with fail
    refine (eqI _ _ _ _ _ _ _ L A2.out A3.out (by have := LL.out; omega) (by have := LL.out; omega)).mono ?_
    rintro e w4 ⟨rfl, q4⟩
    have G := Lib.hid (gb_trans G.out (dn_gb q4 none))
    clear q4
    go_wp2_with fail
    refine (works_any _).mono ?_
    rintro e we ⟨rfl, ge⟩
    have G := Lib.hid (gb_trans G.out ge)
    clear ge
    go_wp2
    go_ret
    exact ⟨rfl, below_of G.out⟩

set_option maxRecDepth 100000 in
set_option maxHeartbeats 2000000 in
theorem stages_walk (a : Option Addr) (n c : Nat) (g : List (List Int)) (b : Option Addr) (m d : Nat) (s : List Int) (W : World) (h : SlG W a n c g) (hs : SlR W b m d (s.map (Value.int .i64))) (hm0 : m ≤ 9223372036854775807) : Calls Try.prog 3 #[.slice a n c, .slice b m d] W (HoldsT W) := by
  have HH := Lib.hid h
  have HS := Lib.hid hs
  have hl := h.1
  subst hl
  clear h hs
  go_enter Try.func3, Try.ntmps3
  go_wp2_with fail
  refine (small_any W a g.length c g HH.out).mono ?_
  rintro e w1 ⟨bs, rfl, rfl, hb⟩
  have fin : ∀ w w2 : World, True := fun _ _ => trivial
  cases bs
  · go_wp2_with fail
    refine (works_any _).mono ?_
    rintro e w2 ⟨rfl, g2⟩
    go_wp2
    go_ret
    exact ⟨rfl, below_of g2⟩
  · have hn : g.length ≤ 14 := hb rfl
    by_cases hm : 20 < m
    · have hmi : (20 : Int) < (m : Int) := by omega
      clear hb hn
      go_wp2_with fail
      refine (works_any _).mono ?_
      rintro e w2 ⟨rfl, g2⟩
      go_wp2
      go_ret
      exact ⟨rfl, below_of g2⟩
    · have hmi : ¬ (20 : Int) < (m : Int) := by omega
      have LL := Lib.hid (show (stL g).length ≤ 1000 by rw [stL_len]; omega)
      have R1 := Lib.hid (fun w k => early_any w a g.length c g k (by omega))
      have R2 := Lib.hid (fun w k => rearly_any w a g.length c g k (by omega))
      have R3 := Lib.hid (fun w k q => sat_any w a b g.length c m d g s k q (by omega) (by omega))
      have R4 := Lib.hid (fun w k q => rsat_any w a b g.length c m d g s k q (by omega) (by omega))
      obtain ⟨bb, hbb⟩ : ∃ x, x = decide (SatP g s) := ⟨_, rfl⟩
      rw [← hbb] at R3 R4
      generalize stL g = L at *
      have d1 : (bb == bb) = true := by rw [beq_iff_eq]
      clear hb hn hbb
      go_wp2_with fail
      refine (R1.out _ HH.out).mono ?_
      rintro e w2 ⟨V2, rfl, o2, g2⟩
      obtain ⟨a2, c2, rfl⟩ := o2.shape
      have A2 := Lib.hid (o2.slr rfl)
      have HH1 := Lib.hid (HH.out.keep0 g2)
      have HS1 := Lib.hid (HS.out.keep0 g2)
      have G := Lib.hid g2
      clear o2 g2
      go_wp2_with fail
      refine (R2.out _ HH1.out).mono ?_
      rintro e w3 ⟨V3, rfl, o3, g3⟩
      obtain ⟨a3, c3, rfl⟩ := o3.shape
      have A3 := Lib.hid (o3.slr rfl)
      have A2 := Lib.hid (A2.out.keep0 g3)
      have HH1 := Lib.hid (HH1.out.keep0 g3)
      have HS1 := Lib.hid (HS1.out.keep0 g3)
      have G := Lib.hid (gb_trans G.out g3)
      clear o3 g3
      go_wp2_with fail
      refine (eqI _ _ _ _ _ _ _ L A2.out A3.out (by have := LL.out; omega) (by have := LL.out; omega)).mono ?_
      rintro e w4 ⟨rfl, q4⟩
      have HH1 := Lib.hid (HH1.out.keep0 (dn_gb q4 none))
      have HS1 := Lib.hid (HS1.out.keep0 (dn_gb q4 none))
      have G := Lib.hid (gb_trans G.out (dn_gb q4 none))
      clear q4
      go_wp2_with fail
      refine (R3.out _ HH1.out HS1.out).mono ?_
      rintro e w5 ⟨rfl, q5⟩
      have HH1 := Lib.hid (HH1.out.keep0 (dn_gb q5 none))
      have HS1 := Lib.hid (HS1.out.keep0 (dn_gb q5 none))
      have G := Lib.hid (gb_trans G.out (dn_gb q5 none))
      clear q5
      go_wp2_with fail
      refine (R4.out _ HH1.out HS1.out).mono ?_
      rintro e w6 ⟨rfl, q6⟩
      have G := Lib.hid (gb_trans G.out (dn_gb q6 none))
      clear q6
      go_wp2_with fail
      refine (works_any _).mono ?_
      rintro e we ⟨rfl, ge⟩
      have G := Lib.hid (gb_trans G.out ge)
      clear ge
      go_wp2
      go_ret
      exact ⟨rfl, below_of G.out⟩
end Go.Proofs.Ytcbomfcioenliaa
