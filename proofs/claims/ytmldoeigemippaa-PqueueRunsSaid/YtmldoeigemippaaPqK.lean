/- The reference's queue: first, New, Push, Peek; the law's equal. -/
import Derived.Test.YtmldoeigemippaaPqJ
import Derived.Laws.ResultCell
namespace Go.Proofs.Ytmldoeigemippaa
open Go.RowKit
set_option linter.unusedVariables false

/-- The value of a queue of the reference. -/
def rQ (cap : Int) (V : Value) : Value := .agg #[.int .i64 cap, V]
set_option maxRecDepth 100000 in
set_option maxHeartbeats 4000000 in
theorem first_any (w : World) (base : Nat) (a : Option Addr) (n c : Nat) (cap : Int) (E : Int → Int) (T : List Int) (h : RL w base (.slice a n c) E T) (hl : n = T.length) (hn : n ≤ 100000) : Calls Try.prog 22 #[.agg #[.int .i64 cap, .slice a n c]] w (RetV (.int .i64 (fsK T n)) w) := by
  have HR := Lib.hid h
  have HL := Lib.hid hl
  have G1 := Lib.hid (gb_alloc w (.cells #[.int .i64 cap, .slice a n c] 30) none)
  have B1 := Lib.hid (IsB.new w 30 #[.int .i64 cap, .slice a n c])
  clear h hl
  go_enter Try.func22, Try.ntmps22
  go_wp2
  generalize w.alloc (.cells #[.int .i64 cap, .slice a n c] 30) = w1 at *
  obtain ⟨z, hz⟩ : ∃ z, z = w.heap.size := ⟨_, rfl⟩
  rw [← hz] at B1 ⊢
  clear hz
  go_loopw [3, 4] (fun k i wr => ∃ j : Nat, j ≤ n ∧ i = .int .i64 j ∧ k = .int .i64 (fsK T j) ∧ w1.grownBy wr none) (fun _ i _ => n - (intOf i).toNat)
  case atStart => exact ⟨0, Nat.zero_le _, rfl, rfl, gb_refl _ _⟩
  case round =>
    obtain ⟨j, hj, rfl, rfl, hg⟩ := hrel
    have HG := Lib.hid hg
    have b1 : wr.cell? ⟨z, 1, none⟩ = some (.slice a n c) := (B1.out.keep0 hg).cell 1
    clear hg
    by_cases hlt : j < n
    · have i1 : (j : Int) < n := by omega
      have i0 : (0 : Int) ≤ (j : Int) := by omega
      obtain ⟨g, d, e⟩ := HR.out.headn (n := n) HL.out (by omega)
      injection e with e1 _ e3
      subst e1 e3
      have hk : fsK T j < n := by have := fsK_lt T (by have := HL.out; omega) j (by have := HL.out; omega); have := HL.out; omega
      obtain ⟨k, hkk⟩ : ∃ k, k = fsK T j := ⟨_, rfl⟩
      have ST := Lib.hid (show fsK T (j + 1) = if kC (T.getD j 0) < kC (T.getD k 0) then j else k by rw [hkk]; rfl)
      rw [← hkk] at hk ⊢
      have k1 : (k : Int) < n := by omega
      have k0 : (0 : Int) ≤ (k : Int) := by omega
      have c1 := ((HR.out.keep0 (gb_trans G1.out HG.out)).at_ HL.out j hlt).1
      have c2 := ((HR.out.keep0 (gb_trans G1.out HG.out)).at_ HL.out k hk).1
      have hw : IntKind.i64.wrap ((j : Int) + 1) = ((j + 1 : Nat) : Int) := by rw [IntKind.wrap_i64]; omega
      clear hkk
      generalize T.getD j 0 = x at *
      generalize T.getD k 0 = y at *
      by_cases hxy : kC x < kC y
      · have ST2 := Lib.hid (show fsK T (j + 1) = j by rw [ST.out, if_pos hxy])
        go_upto_region 5 with fail
        go_quiet (fail)
        go_wp2
        go_roundw
        case rel => exact ⟨j + 1, by omega, by first | rfl | (congr 1), by rw [ST2.out], gb_trans HG.out (by first | exact gb_drewN _ _ _ | exact gb_refl _ _)⟩
        case measure => simp [intOf]; omega
      · have ST2 := Lib.hid (show fsK T (j + 1) = k by rw [ST.out, if_neg hxy])
        go_upto_region 5 with fail
        go_quiet (fail)
        go_wp2
        go_roundw
        case rel => exact ⟨j + 1, by omega, by first | rfl | (congr 1), by rw [ST2.out], gb_trans HG.out (by first | exact gb_drewN _ _ _ | exact gb_refl _ _)⟩
        case measure => simp [intOf]; omega
    · have i1 : ¬ (j : Int) < n := by omega
      have e : j = n := by omega
      subst e
      go_wp2
      go_ret
      exact ⟨rfl, gb_trans G1.out HG.out⟩
set_option maxRecDepth 100000 in
theorem rnew_bad (w : World) (n : Int) (h : n < 0 ∨ 4096 < n) : Calls Try.prog 9 #[.int .i64 n] w (RetV (.tuple #[rQ 0 (.slice none 0 0), .int .i64 9]) w) := by
  have B := Lib.hid (IsB.new w 30 #[.int .i64 0, .slice none 0 0])
  by_cases h1 : n < 0
  · go_enter Try.func9, Try.ntmps9
    go_wp2
    refine bodyPost_ret (v := .tuple #[rQ 0 (.slice none 0 0), .int .i64 9]) (by rw [results_cell_tmp rfl]; go_simp; try rfl) rfl ⟨rfl, ?_⟩
    first
      | exact gb_alloc _ _ none
      | exact gb_trans (gb_alloc _ _ none) (gb_drewN _ _ _)
      | exact gb_new (gb_trans (gb_trans (gb_alloc _ _ _) (gb_set _ _ _ _)) (gb_set _ _ _ _)) (Nat.le_refl _)
  · have h2 : 4096 < n := by omega
    clear h
    go_enter Try.func9, Try.ntmps9
    go_wp2
    refine bodyPost_ret (v := .tuple #[rQ 0 (.slice none 0 0), .int .i64 9]) (by rw [results_cell_tmp rfl]; go_simp; try rfl) rfl ⟨rfl, ?_⟩
    first
      | exact gb_alloc _ _ none
      | exact gb_trans (gb_alloc _ _ none) (gb_drewN _ _ _)
      | exact gb_new (gb_trans (gb_trans (gb_alloc _ _ _) (gb_set _ _ _ _)) (gb_set _ _ _ _)) (Nat.le_refl _)
set_option maxRecDepth 100000 in
theorem rnew_good (w : World) (n : Int) (h0 : 0 ≤ n) (h4 : n ≤ 4096) : Calls Try.prog 9 #[.int .i64 n] w (RetV (.tuple #[rQ n (.slice none 0 0), .int .i64 0]) w) := by
  have h1 : ¬ n < 0 := by omega
  have h2 : ¬ 4096 < n := by omega
  go_enter Try.func9, Try.ntmps9
  go_wp2
  refine bodyPost_ret (v := .tuple #[rQ n (.slice none 0 0), .int .i64 0]) (by rw [results_cell_tmp rfl]; go_simp; try rfl) rfl ⟨rfl, ?_⟩
  first
    | exact gb_alloc _ _ none
    | exact gb_trans (gb_alloc _ _ none) (gb_drewN _ _ _)
    | exact gb_new (gb_trans (gb_trans (gb_alloc _ _ _) (gb_set _ _ _ _)) (gb_set _ _ _ _)) (Nat.le_refl _)
set_option maxRecDepth 100000 in
theorem rpeek_none (w : World) (cap : Int) (a : Option Addr) (c : Nat) : Calls Try.prog 14 #[.agg #[.int .i64 cap, .slice a 0 c]] w (RetV (.tuple #[.int .i64 0, .int .i64 0, .bool false]) w) := by
  go_enter Try.func14, Try.ntmps14
  go_wp2
  (try simp only [Exit.inBlock, Exit.then])
  refine bodyPost_ret (v := .tuple #[.int .i64 0, .int .i64 0, .bool false]) (by rw [results3 rfl]; rfl) rfl ⟨rfl, gb_alloc _ _ none⟩
end Go.Proofs.Ytmldoeigemippaa
