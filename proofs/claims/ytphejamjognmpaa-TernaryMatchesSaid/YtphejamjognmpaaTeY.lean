/- Ternary: the walks of the laws on texts. -/
import Derived.Test.YtphejamjognmpaaTeX
import Derived.Test.YtphejamjognmpaaTeU
namespace Go.Proofs.Ytphejamjognmpaa
open Go.RowKit
set_option linter.unusedVariables false

theorem below_of {W w : World} (g : W.grownBy w none) : Below W.heap.size W w := (Below.refl _ _).grown g (Nat.le_refl _) (by intro k hk; cases hk)
/-- The law holds. -/
def HoldsT (W : World) (e : Ending) (w' : World) : Prop := e = .returned (.bool true) ∧ Below W.heap.size W w'
theorem prs_b64 (L : List Int) : B64 (prsV L) ∧ B64 (prsM L) := by
  unfold prsV prsM
  by_cases h : prsE L = 0
  · obtain ⟨h1, h2, h3⟩ := prs_ok h
    rw [if_pos h, if_pos h]
    have := p2_64 L.length h2
    exact ⟨Nat.lt_of_lt_of_le (pvF_lt L) this, Nat.lt_of_lt_of_le (pmF_lt L) this⟩
  · rw [if_neg h, if_neg h]
    exact ⟨b64 (by decide), b64 (by decide)⟩
set_option maxRecDepth 100000 in
set_option maxHeartbeats 4000000 in
theorem parses_walk (s : ByteArray) (W : World) : Calls Try.prog 4 #[.string s] W (HoldsT W) := by
  have es := bytesI_str s
  have hr := bytesI_range s
  have hl := bytesI_len s
  generalize bytesI s = L at *
  by_cases hc : s.size ≤ 200
  · have P1 := Lib.hid (fun w => parse_any w L hr (by omega))
    have P2 := Lib.hid (fun w => rparse_any w L hr (by omega))
    rw [es] at P1 P2
    unfold RetP at P1 P2
    have i0 : ¬ (200 : Int) < s.size := by omega
    have q1 : (s.toList == s.toList) = true := by rw [beq_iff_eq]
    obtain ⟨bv, bm⟩ := prs_b64 L
    by_cases he : prsE L = 0
    · have F := Lib.hid (fun w => fmt_any w (prsV L) (prsM L) (prsW L : Nat) bv bm)
      have C := Lib.hid (fun w => chk_any w (prsV L) (prsM L) (prsW L : Nat) bv bm)
      unfold RetF at F
      unfold RetV at C
      rw [fmt_text he, es, chk_text he] at F
      rw [chk_text he] at C
      rw [he] at P1 P2
      generalize prsV L = v at *
      generalize prsM L = m at *
      generalize prsW L = k at *
      have e1 : ((v : Int) == v) = true := by rw [beq_iff_eq]
      have e2 : ((m : Int) == m) = true := by rw [beq_iff_eq]
      clear es hr hl bv bm he
      go_enter Try.func4, Try.ntmps4
      go_wp2_with fail
      refine (P1.out _).mono ?_
      rintro e w1 ⟨rfl, g1⟩
      have B1 := IsB.new w1 24 #[.int .u64 v, .int .u64 m]
      have g2 := gb_alloc w1 (.cells #[.int .u64 v, .int .u64 m] 24) none
      go_wp2_with fail
      generalize w1.alloc (.cells #[.int .u64 v, .int .u64 m] 24) = w2 at *
      refine (P2.out _).mono ?_
      rintro e w3 ⟨rfl, g3⟩
      have G := Lib.hid (gb_trans g1 (gb_trans g2 g3))
      have B1 := B1.keep0 g3
      have B2 := IsB.new w3 24 #[.int .u64 v, .int .u64 m]
      have g4 := gb_alloc w3 (.cells #[.int .u64 v, .int .u64 m] 24) none
      obtain ⟨c1, c2⟩ := cube_cells (B1.keep0 g4)
      obtain ⟨c3, c4⟩ := cube_cells B2
      have HB1 := Lib.hid (B1.keep0 g4)
      have G := Lib.hid (gb_trans G.out g4)
      clear g1 g2 g3 g4 B1 B2
      go_wp2_with fail
      refine (F.out _).mono ?_
      rintro e w5 ⟨rfl, g5⟩
      have G := Lib.hid (gb_trans G.out g5)
      have HB1 := Lib.hid (HB1.out.keep0 g5)
      clear c1 c2 c3 c4 g5
      obtain ⟨c1, c2⟩ := cube_cells HB1.out
      go_wp2_with fail
      refine (C.out _).mono ?_
      rintro e w6 ⟨rfl, g6⟩
      have G := Lib.hid (gb_trans G.out g6)
      clear c1 c2 g6 HB1
      go_wp2_with fail
      refine (awake_any _).mono ?_
      rintro e w7 ⟨rfl, g7⟩
      have G := Lib.hid (gb_trans G.out g7)
      clear g7
      go_wp2
      go_ret
      exact ⟨rfl, below_of G.out⟩
    · have d1 : (prsE L == 0) = false := by rw [beq_eq_false_iff_ne]; exact he
      have d2 : (prsE L != 0) = true := by rw [bne_iff_ne]; exact he
      have d3 : (prsE L == prsE L) = true := by rw [beq_iff_eq]
      generalize prsE L = er at *
      generalize prsV L = v at *
      generalize prsM L = m at *
      generalize prsW L = k at *
      have e1 : ((v : Int) == v) = true := by rw [beq_iff_eq]
      have e2 : ((m : Int) == m) = true := by rw [beq_iff_eq]
      clear es hr hl bv bm
      go_enter Try.func4, Try.ntmps4
      go_wp2_with fail
      refine (P1.out _).mono ?_
      rintro e w1 ⟨rfl, g1⟩
      have B1 := IsB.new w1 24 #[.int .u64 v, .int .u64 m]
      have g2 := gb_alloc w1 (.cells #[.int .u64 v, .int .u64 m] 24) none
      go_wp2_with fail
      generalize w1.alloc (.cells #[.int .u64 v, .int .u64 m] 24) = w2 at *
      refine (P2.out _).mono ?_
      rintro e w3 ⟨rfl, g3⟩
      have G := Lib.hid (gb_trans g1 (gb_trans g2 g3))
      have B1 := B1.keep0 g3
      have B2 := IsB.new w3 24 #[.int .u64 v, .int .u64 m]
      have g4 := gb_alloc w3 (.cells #[.int .u64 v, .int .u64 m] 24) none
      obtain ⟨c1, c2⟩ := cube_cells (B1.keep0 g4)
      obtain ⟨c3, c4⟩ := cube_cells B2
      have G := Lib.hid (gb_trans G.out g4)
      clear g1 g2 g3 g4 B1 B2
      go_wp2_with fail
      refine (awake_any _).mono ?_
      rintro e w7 ⟨rfl, g7⟩
      have G := Lib.hid (gb_trans G.out g7)
      clear g7
      go_wp2
      go_ret
      exact ⟨rfl, below_of G.out⟩
  · have i0 : (200 : Int) < s.size := by omega
    clear es hr hl
    go_enter Try.func4, Try.ntmps4
    go_wp2_with fail
    refine (awake_any _).mono ?_
    rintro e w7 ⟨rfl, g7⟩
    go_wp2
    go_ret
    exact ⟨rfl, below_of g7⟩
theorem str_empty : (⟨#[]⟩ : ByteArray) = strOf [] := by decide
set_option maxRecDepth 100000 in
set_option maxHeartbeats 4000000 in
theorem formats_walk (v m : Nat) (x : Int) (W : World) (hv : B64 v) (hm : B64 m) : Calls Try.prog 5 #[.agg #[.int .u64 v, .int .u64 m], .int .i64 x] W (HoldsT W) := by
  have F := Lib.hid (fun w => fmt_any w v m x hv hm)
  unfold RetF at F
  have A1 := IsB.new W 24 #[.int .u64 v, .int .u64 m]
  have a1 := gb_alloc W (.cells #[.int .u64 v, .int .u64 m] 24) none
  by_cases he : chkN v m x = 0
  · obtain ⟨t1, t2, t3, t4, t5⟩ := text_of_cube hv hm he
    have hL : ∀ c ∈ fmtS v m x, 0 ≤ c ∧ c ≤ 255 := by
      unfold fmtS
      rw [if_pos he]
      intro c hc
      unfold fmtL at hc
      obtain ⟨i, _, rfl⟩ := List.mem_map.mp hc
      exact chr_range _ _ _
    have hlen : (fmtS v m x).length ≤ 64 := (prs_ok t1).2.1
    have P := Lib.hid (fun w => parse_any w (fmtS v m x) hL (by omega))
    unfold RetP at P
    rw [t1, t2, t3, t4] at P
    have hz : ((strOf (fmtS v m x)).size : Int) = x := by rw [strOf_size]; exact t5
    rw [he] at F
    generalize strOf (fmtS v m x) = s at *
    have e1 : ((v : Int) == v) = true := by rw [beq_iff_eq]
    have e2 : ((m : Int) == m) = true := by rw [beq_iff_eq]
    have e3 : (x == x) = true := by rw [beq_iff_eq]
    have HA := Lib.hid A1
    have Ha := Lib.hid a1
    clear t1 t2 t3 t4 t5 hL hlen he A1 a1
    go_enter Try.func5, Try.ntmps5
    go_wp2_with fail
    generalize W.alloc (.cells #[.int .u64 v, .int .u64 m] 24) = w0 at *
    refine (F.out _).mono ?_
    rintro e w1 ⟨rfl, g1⟩
    have HA := Lib.hid (HA.out.keep0 g1)
    have G := Lib.hid (gb_trans Ha.out g1)
    go_wp2_with fail
    refine (P.out _).mono ?_
    rintro e w2 ⟨rfl, g2⟩
    have B2 := IsB.new w2 24 #[.int .u64 v, .int .u64 m]
    have g3 := gb_alloc w2 (.cells #[.int .u64 v, .int .u64 m] 24) none
    have HA := Lib.hid ((HA.out.keep0 g2).keep0 g3)
    have G := Lib.hid (gb_trans G.out (gb_trans g2 g3))
    obtain ⟨c1, c2⟩ := cube_cells HA.out
    clear g1 g2 g3 B2
    go_wp2_with fail
    refine (awake_any _).mono ?_
    rintro e w7 ⟨rfl, g7⟩
    have G := Lib.hid (gb_trans G.out g7)
    clear g7
    go_wp2
    go_ret
    exact ⟨rfl, below_of G.out⟩
  · have es : fmtS v m x = [] := by unfold fmtS; rw [if_neg he]
    rw [es, ← str_empty] at F
    have d1 : (chkN v m x == 0) = false := by rw [beq_eq_false_iff_ne]; exact he
    have d2 : (chkN v m x != 0) = true := by rw [bne_iff_ne]; exact he
    generalize chkN v m x = er at *
    have Ha := Lib.hid a1
    clear es A1 a1
    go_enter Try.func5, Try.ntmps5
    go_wp2_with fail
    generalize W.alloc (.cells #[.int .u64 v, .int .u64 m] 24) = w0 at *
    refine (F.out _).mono ?_
    rintro e w1 ⟨rfl, g1⟩
    have G := Lib.hid (gb_trans Ha.out g1)
    clear g1
    go_wp2_with fail
    refine (awake_any _).mono ?_
    rintro e w7 ⟨rfl, g7⟩
    have G := Lib.hid (gb_trans G.out g7)
    clear g7
    go_wp2
    go_ret
    exact ⟨rfl, below_of G.out⟩
end Go.Proofs.Ytphejamjognmpaa
