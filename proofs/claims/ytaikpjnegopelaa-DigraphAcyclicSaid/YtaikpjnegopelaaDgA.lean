/- The program's isNode, filled and Check: the walks. -/
import Derived.Test.YtaikpjnegopelaaGrM
import Derived.Test.YtaikpjnegopelaaGrD
namespace Go.Proofs.Ytaikpjnegopelaa
open Go.RowKit
set_option linter.unusedVariables false

/-- The call returns v and leaves the world as it is. -/
def RetS (v : Value) (w : World) (e : Ending) (w' : World) : Prop := e = .returned v ∧ w' = w
theorem isNode_any (w : World) (a : Option Addr) (n c : Nat) (v : Int) : Calls Try.prog 33 #[.slice a n c, .int .i64 v] w (RetS (.bool (decide (0 ≤ v ∧ v < n))) w) := by
  by_cases h0 : 0 ≤ v
  · by_cases h1 : v < n
    · rw [show decide (0 ≤ v ∧ v < (n : Int)) = true from decide_eq_true ⟨h0, h1⟩]
      go_enter Try.func33, Try.ntmps33
      go_wp2
      go_ret
      exact ⟨rfl, rfl⟩
    · rw [show decide (0 ≤ v ∧ v < (n : Int)) = false from decide_eq_false (fun h => h1 h.2)]
      go_enter Try.func33, Try.ntmps33
      go_wp2
      go_ret
      exact ⟨rfl, rfl⟩
  · rw [show decide (0 ≤ v ∧ v < (n : Int)) = false from decide_eq_false (fun h => h0 h.1)]
    go_enter Try.func33, Try.ntmps33
    go_wp2
    go_ret
    exact ⟨rfl, rfl⟩

set_option maxRecDepth 100000 in
set_option maxHeartbeats 1000000 in
theorem filled_any (w : World) (n : Nat) (v : Int) (hn : n ≤ 100000) :
    Calls Try.prog 42 #[.int .i64 n, .int .i64 v] w (RetN w.heap.size (tab n fun _ => v) w) := by
  obtain ⟨i0, hi, hz0, hz1, hz2⟩ := info_parts infoI64
  have HI := Lib.hid hi
  clear hi
  go_enter Try.func42, Try.ntmps42
  go_wp2_with (at_make; refine wpList_make_full _ rfl _ _ 31 rfl w.heap.size 3 i0 (.int .i64 0) 1 Try.underlying31 HI.out hz0 hz1 .i64 .i64 _ _ n rfl rfl ?c1 ?c2 ?c3 ?c4 ?c5 ?_)
  case c1 => first | rfl | omega
  case c2 => first | rfl | omega
  case c3 => rw [hz2]; omega
  case c4 => unfold maxLen; omega
  case c5 => simp
  intro w2 hown hg
  have N1 := Lib.hid (show NW w w.heap.size w.heap.size n (tab n fun u => if u < 0 then v else 0) w2 by
    refine ⟨?_, tab_len _ _, hg⟩
    unfold NL
    rw [tab_len, show (tab n fun u => if u < 0 then v else 0) = tab n (fun _ => 0) from tab_congr fun j _ => by rw [if_neg (Nat.not_lt_zero _)], tab_const, List.map_replicate, ← made_zero]
    first | exact hown | simpa using hown)
  clear hown hg
  go_wp2_with fail
  go_loopw [11] (fun i wr => ∃ k : Nat, k ≤ n ∧ i = .int .i64 k ∧ NW w w.heap.size w.heap.size n (tab n fun u => if u < k then v else 0) wr) (fun i _ => n - (intOf i).toNat)
  case atStart => exact ⟨0, Nat.zero_le _, rfl, N1.out⟩
  case round =>
    obtain ⟨k, hk, rfl, q1⟩ := hrel
    clear N1
    have N1 := Lib.hid q1
    clear q1
    by_cases hlt : k < n
    · have f1 := N1.out.free k
      have N2 := Lib.hid (show NW w w.heap.size w.heap.size n (tab n fun u => if u < k + 1 then v else 0) (wr.setCell ⟨w.heap.size, k, none⟩ (.int .i64 v)) by
        have q := N1.out.put (Nat.le_refl _) k v
        rw [tab_set] at q
        have e : (tab n fun u => if u = k then v else if u < k then v else 0) = tab n fun u => if u < k + 1 then v else 0 := tab_congr fun j _ => by
          by_cases e1 : j = k
          · rw [if_pos e1, if_pos (by omega)]
          · by_cases e2 : j < k
            · rw [if_neg e1, if_pos e2, if_pos (by omega)]
            · rw [if_neg e1, if_neg e2, if_neg (by omega)]
        rw [e] at q
        exact q)
      have c1 := N1.out.at_ k hlt
      have i1 : (k : Int) < n := by omega
      go_wp2
      go_roundw
      case rel => exact ⟨k + 1, by omega, by go_num, N2.out⟩
      case measure => simp [intOf]; omega
    · have hke : k = n := by omega
      subst hke
      have N2 := Lib.hid (show NW w w.heap.size w.heap.size k (tab k fun _ => v) wr by
        have q := N1.out
        rw [show (tab k fun u => if u < k then v else 0) = tab k fun _ => v from tab_congr fun j hj => by rw [if_pos hj]] at q
        exact q)
      clear N1 hlt
      have i1 : ¬ (k : Int) < k := by omega
      go_wp2
      go_ret
      exact N2.out.ret rfl

set_option maxRecDepth 100000 in
set_option maxHeartbeats 1000000 in
theorem check_any (w : World) (a : Option Addr) (n c : Nat) (g : List (List Int)) (h : SlG w a n c g) :
    Calls Try.prog 10 #[.slice a n c] w (RetS (.int .i64 (chk g)) w) := by
  have HH := Lib.hid h
  have hl := h.1
  have hm := h.2.2.1
  subst hl
  clear h
  by_cases hb : 4096 < g.length
  · have HE := Lib.hid (show chk g = 12 from if_pos hb)
    have i1 : (4096 : Int) < g.length := by omega
    go_enter Try.func10, Try.ntmps10
    go_wp2
    go_ret
    exact ⟨ret_i HE.out.symm, rfl⟩
  · have HE := Lib.hid (show chk g = if gOk g then 0 else 9 from if_neg hb)
    have i1 : ¬ (4096 : Int) < g.length := by omega
    go_enter Try.func10, Try.ntmps10
    go_wp2
    go_loopw [12] (fun i wr => ∃ k : Nat, k ≤ g.length ∧ i = .int .i64 k ∧ (∀ i, i < k → ∀ j, j < (g.getD i []).length → 0 ≤ (g.getD i []).getD j 0 ∧ (g.getD i []).getD j 0 < (g.length : Int)) ∧ wr = w) (fun i _ => g.length - (intOf i).toNat)
    case atStart => exact ⟨0, Nat.zero_le _, rfl, fun i h => absurd h (Nat.not_lt_zero _), rfl⟩
    case round =>
      obtain ⟨k, hk, rfl, hok, rfl⟩ := hrel
      have OK := Lib.hid hok
      clear hok
      by_cases hlt : k < g.length
      · have i2 : (k : Int) < g.length := by omega
        cases a with
        | none => exact absurd (HH.out.2.1 rfl).1 (by omega)
        | some ad =>
          obtain ⟨A, C, c1, r1, l1⟩ := HH.out.row k hlt
          have R1 := Lib.hid r1
          have NO := Lib.hid (fun j hj h => gOk_no (g := g) (i := k) (j := j) hlt hj h)
          obtain ⟨zs, hz⟩ : ∃ zs, zs = g.getD k [] := ⟨_, rfl⟩
          rw [← hz] at R1 c1 l1 NO
          have HZ := Lib.hid hz
          clear r1 hz
          go_wp2
          go_loopw [18] (fun i wr2 => ∃ j : Nat, j ≤ zs.length ∧ i = .int .i64 j ∧ (∀ q, q < j → 0 ≤ zs.getD q 0 ∧ zs.getD q 0 < (g.length : Int)) ∧ wr2 = wr) (fun i _ => zs.length - (intOf i).toNat)
          case atStart => exact ⟨0, Nat.zero_le _, rfl, fun i h => absurd h (Nat.not_lt_zero _), rfl⟩
          case round =>
            obtain ⟨j, hj, rfl, hok2, rfl⟩ := hrel
            have OK2 := Lib.hid hok2
            clear hok2
            by_cases hjt : j < zs.length
            · have i3 : (j : Int) < zs.length := by omega
              cases A with
              | none => exact absurd (R1.out.2.1 rfl).1 (by omega)
              | some ar =>
                have c2 := R1.out.cellAt j hjt
                have NJ := Lib.hid (NO.out j hjt)
                obtain ⟨x, hx⟩ : ∃ x, x = zs.getD j 0 := ⟨_, rfl⟩
                rw [← hx] at c2 NJ
                have HX := Lib.hid hx
                clear hx
                have HI := Lib.hid (fun w => isNode_any w (some ad) g.length c x)
                by_cases hin : 0 ≤ x ∧ x < (g.length : Int)
                · simp only [decide_eq_true hin] at HI
                  have OK3 := Lib.hid (show ∀ q, q < j + 1 → 0 ≤ zs.getD q 0 ∧ zs.getD q 0 < (g.length : Int) from fun q hq => by
                    rcases (show q < j ∨ q = j by omega) with e | rfl
                    · exact OK2.out q e
                    · rw [← HX.out]; exact hin)
                  clear hin
                  go_wp2_with fail
                  refine (HI.out _).mono ?_
                  rintro e w3 ⟨rfl, rfl⟩
                  go_wp2
                  go_roundw
                  case rel => exact ⟨j + 1, by omega, by go_num, OK3.out, trivial⟩
                  case measure => simp [intOf]; omega
                · simp only [decide_eq_false hin] at HI
                  have HF := Lib.hid (show chk g = 9 by rw [HE.out, NJ.out hin]; rfl)
                  clear hin
                  go_wp2_with fail
                  refine (HI.out _).mono ?_
                  rintro e w3 ⟨rfl, rfl⟩
                  go_wp2
                  go_ret
                  exact ⟨ret_i HF.out.symm, rfl⟩
            · have hje : j = zs.length := by omega
              have OK3 := Lib.hid (show ∀ i, i < k + 1 → ∀ j, j < (g.getD i []).length → 0 ≤ (g.getD i []).getD j 0 ∧ (g.getD i []).getD j 0 < (g.length : Int) from fun i hi q hq => by
                rcases (show i < k ∨ i = k by omega) with e | rfl
                · exact OK.out i e q hq
                · rw [← HZ.out] at hq ⊢; exact OK2.out q (by omega))
              subst hje
              go_wp2
              go_roundw
              case rel => exact ⟨k + 1, by omega, by go_num, OK3.out, trivial⟩
              case measure => simp [intOf]; omega
      · have hke : k = g.length := by omega
        have HF := Lib.hid (show chk g = 0 by rw [HE.out, gOk_yes (fun i hi j hj => OK.out i (by omega) j hj)]; rfl)
        subst hke
        go_wp2
        go_ret
        exact ⟨ret_i HF.out.symm, rfl⟩
end Go.Proofs.Ytaikpjnegopelaa
