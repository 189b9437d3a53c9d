/- The program's Reachable: the walk. -/
import Derived.Test.YtaikpjnegopelaaDgU
import Derived.Test.YtaikpjnegopelaaGrH
namespace Go.Proofs.Ytaikpjnegopelaa
open Go.RowKit
set_option linter.unusedVariables false

theorem OW.keep0 {W w w2 : World} {base b n : Nat} {L : List Bool} (h : OW W base b n L w) (k : w.grownBy w2 none) : OW W base b n L w2 := ⟨OB.keep0 h.1 k, h.2.1, gb_trans h.2.2 k⟩
theorem pdist_len (g : List (List Int)) (s goal : Int) : (pdist g s goal).length = g.length := by
  unfold pdist
  split
  · rw [outerB_len]; simp [tab_len]
  · exact tab_len _ _
set_option maxRecDepth 100000 in
set_option maxHeartbeats 2000000 in
theorem reach_any (w : World) (a : Option Addr) (c : Nat) (g : List (List Int)) (s : Int) (h : SlG w a g.length c g) (hn : g.length ≤ 100000) (hs : -9223372036854775808 ≤ s ∧ s ≤ 9223372036854775807) :
    Calls Try.prog 15 #[.slice a g.length c, .int .i64 s] w (RetO w.heap.size (reachL g s) w) := by
  obtain ⟨i0, hi, hz0, hz1, hz2⟩ := info_parts infoBool
  have HI := Lib.hid hi
  have HH := Lib.hid h
  have HT := Lib.hid hs
  have RL := Lib.hid (show reachL g s = tabB g.length fun u => decide (0 ≤ (pdist g s (-1)).getD u 0) by rw [pdist_full]; rfl)
  have RG := Lib.hid (show ∀ u, -1 ≤ (pdist g s (-1)).getD u 0 from fun u => by rw [pdist_full]; exact (distL_range _ _ _).1)
  have hpl := pdist_len g s (-1)
  clear h hi hs
  go_enter Try.func15, Try.ntmps15
  go_wp2_with (at_make; refine wpList_make_full _ rfl _ _ 28 rfl w.heap.size 4 i0 (.bool false) 1 Try.underlying28 HI.out hz0 hz1 .i64 .i64 _ _ g.length rfl rfl ?c1 ?c2 ?c3 ?c4 ?c5 ?_)
  case c1 => first | rfl | omega
  case c2 => first | rfl | omega
  case c3 => rw [hz2]; omega
  case c4 => unfold maxLen; omega
  case c5 => simp
  intro w2 hown hg
  have N1 := Lib.hid (show OW w w.heap.size w.heap.size g.length (tabB g.length fun u => if u < 0 then decide (0 ≤ (pdist g s (-1)).getD u 0) else false) w2 by
    refine ⟨?_, tabB_len _ _, hg⟩
    unfold OB
    rw [tabB_len, show (tabB g.length fun u => if u < 0 then decide (0 ≤ (pdist g s (-1)).getD u 0) else false) = tabB g.length (fun _ => false) from tabB_congr fun j _ => by rw [if_neg (Nat.not_lt_zero _)], tabB_const, List.map_replicate, ← made_zero]
    first | exact hown | simpa using hown)
  have HD := Lib.hid (distances_any w2 a c g (HH.out.keep0 hg) hn s (-1) HT.out)
  clear hown hg
  obtain ⟨D, hD⟩ : ∃ D, D = pdist g s (-1) := ⟨_, rfl⟩
  rw [← hD] at HD N1 RL RG hpl
  clear hD
  go_wp2_with fail
  refine HD.out.mono ?_
  rintro e w3 ⟨V, rfl, o3, g3⟩
  obtain ⟨da, dc, hV⟩ := o3.shape
  rw [hpl] at hV
  subst hV
  have hb2 : w.heap.size < w2.heap.size := by
    exact (World.ownsRow.lt N1.out.1 w.heap.size rfl).2
  have N3 := Lib.hid (N1.out.keep0 g3)
  have O3 := Lib.hid o3
  clear o3 g3 N1 HD
  go_wp2
  go_loopw [15] (fun i wr => ∃ k : Nat, k ≤ g.length ∧ i = .int .i64 k ∧ OW w w.heap.size w.heap.size g.length (tabB g.length fun u => if u < k then decide (0 ≤ D.getD u 0) else false) wr ∧ NL wr w2.heap.size (.slice da g.length dc) D) (fun i _ => g.length - (intOf i).toNat)
  case atStart => exact ⟨0, Nat.zero_le _, rfl, N3.out, O3.out⟩
  case round =>
    obtain ⟨k, hk, rfl, q1, q2⟩ := hrel
    clear N3 O3
    have N3 := Lib.hid q1
    have O3 := Lib.hid q2
    clear q1 q2
    by_cases hlt : k < g.length
    · have i1 : (k : Int) < g.length := by omega
      obtain ⟨dg, dd, hh⟩ := O3.out.headn hpl.symm (by omega)
      cases hh
      have cd := O3.out.at_ hpl.symm k (by omega)
      have f1 := N3.out.free k
      have c1 := N3.out.at_ k hlt
      have rg := RG.out k
      have PUT := Lib.hid (show ∀ b : Bool, b = decide (0 ≤ D.getD k 0) → OW w w.heap.size w.heap.size g.length (tabB g.length fun u => if u < k + 1 then decide (0 ≤ D.getD u 0) else false) (wr.setCell ⟨w.heap.size, k, none⟩ (.bool b)) from fun b hb => by
        have q := N3.out.put (Nat.le_refl _) k b
        rw [tabB_set] at q
        have e : (tabB g.length fun u => if u = k then b else if u < k then decide (0 ≤ D.getD u 0) else false) = tabB g.length fun u => if u < k + 1 then decide (0 ≤ D.getD u 0) else false := tabB_congr fun j _ => by
          by_cases e1 : j = k
          · rw [if_pos e1, if_pos (by omega), hb, e1]
          · by_cases e2 : j < k
            · rw [if_neg e1, if_pos e2, if_pos (by omega)]
            · rw [if_neg e1, if_neg e2, if_neg (by omega)]
        rw [e] at q
        exact q)
      have O4 := Lib.hid (show ∀ u, NL (wr.setCell ⟨w.heap.size, k, none⟩ u) w2.heap.size (.slice (some ⟨dg, 0, none⟩) g.length dc) D from fun u => World.ownsRow.kept O3.out (gb_set _ _ _ _) (Or.inr (own_far O3.out hb2)))
      obtain ⟨y, hy⟩ : ∃ y, y = D.getD k 0 := ⟨_, rfl⟩
      rw [← hy] at cd rg PUT
      clear hy
      by_cases hm : y = -1
      · have d1 : (y != -1) = false := by simp [bne, hm]
        have P2 := Lib.hid (PUT.out false (decide_eq_false (by omega)).symm)
        subst hm
        go_wp2
        go_roundw
        case rel => exact ⟨k + 1, by omega, by go_num, P2.out, O4.out _⟩
        case measure => simp [intOf]; omega
      · have d0 : (y == -1) = false := by rw [beq_eq_false_iff_ne]; exact hm
        have d1 : (y != -1) = true := by simp [bne, d0]
        have P2 := Lib.hid (PUT.out true (decide_eq_true (by omega)).symm)
        clear hm
        go_wp2
        go_roundw
        case rel => exact ⟨k + 1, by omega, by go_num, P2.out, O4.out _⟩
        case measure => simp [intOf]; omega
    · have hke : k = g.length := by omega
      have FIN := Lib.hid (show OW w w.heap.size w.heap.size g.length (reachL g s) wr by
        have q := N3.out
        rw [show (tabB g.length fun u => if u < k then decide (0 ≤ D.getD u 0) else false) = tabB g.length fun u => decide (0 ≤ D.getD u 0) from tabB_congr fun j hj => by rw [if_pos (by omega)], ← RL.out] at q
        exact q)
      have i1 : ¬ (k : Int) < g.length := by omega
      subst hke
      go_wp2
      go_ret
      exact FIN.out.ret rfl
end Go.Proofs.Ytaikpjnegopelaa
