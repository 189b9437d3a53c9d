/- Symbols as tokens, and the first token of a text: the walks of symbolExtent, symbolToken and firstToken; no condition but sizes and the bytes' range. -/
import Derived.Test.YtmbdpiffdiiggaaLxD
namespace Go.Proofs.Ytmbdpiffdiiggaa
open Go.RowKit
set_option linter.unusedVariables false

def twoS : List (List Int) := [[60, 61], [60, 60], [62, 62], [61, 61], [38, 38], [124, 124], [43, 43], [45, 62], [58, 61]]
def oneS : List Int := [40, 41, 91, 93, 123, 125, 44, 59, 58, 46, 60, 62, 43, 45, 38, 124, 94, 126, 33, 42, 47, 61, 63, 64, 37]
def symK (L : List Int) : Nat := if 1 < L.length ∧ L.take 2 ∈ twoS then 2 else if L.getD 0 0 ∈ oneS then 1 else 0
theorem pair_b (M : List Int) (hM : ∀ x ∈ M, 0 ≤ x ∧ x ≤ 255) (N : List Int) (hN : ∀ x ∈ N, 0 ≤ x ∧ x ≤ 255) (c : List UInt8) (hc : (strOf N).toList = c) : ((strOf M).toList == c) = decide (M = N) := by
  rw [← hc]
  by_cases h : M = N
  · rw [strOf_eq h, decide_eq_true h]
  · rw [strOf_ne hM hN h, decide_eq_false h]
theorem strOf_list (N : List Int) : (strOf N).toList = N.map fun n => UInt8.ofNat n.toNat := by rw [ByteArray.toList_eq, strOf_data]

set_option maxRecDepth 100000 in
set_option maxHeartbeats 4000000 in
theorem symExt_two (w : World) (L : List Int) (hL : ∀ x ∈ L, 0 ≤ x ∧ x ≤ 255) (hl : L.length ≤ 1000000) (h1 : 1 < L.length) (hm : L.take 2 ∈ twoS) :
    Calls Try.prog 69 #[.string (strOf L)] w (RetS (.int .i64 (symK L)) w) := by
  have z := strOf_size L
  have HR := Lib.hid (show symK L = 2 from if_pos ⟨h1, hm⟩)
  have x1 := strOf_cut L 0 2
  rw [List.drop_zero, Nat.sub_zero] at x1
  have e0 : ((strOf (L.take 2)).toList == [60, 61]) = decide (L.take 2 = [60, 61]) := pair_b _ (fun x hx => hL x (List.mem_of_mem_take hx)) [60, 61] (by decide) _ (strOf_list _)
  have e1 : ((strOf (L.take 2)).toList == [60, 60]) = decide (L.take 2 = [60, 60]) := pair_b _ (fun x hx => hL x (List.mem_of_mem_take hx)) [60, 60] (by decide) _ (strOf_list _)
  have e2 : ((strOf (L.take 2)).toList == [62, 62]) = decide (L.take 2 = [62, 62]) := pair_b _ (fun x hx => hL x (List.mem_of_mem_take hx)) [62, 62] (by decide) _ (strOf_list _)
  have e3 : ((strOf (L.take 2)).toList == [61, 61]) = decide (L.take 2 = [61, 61]) := pair_b _ (fun x hx => hL x (List.mem_of_mem_take hx)) [61, 61] (by decide) _ (strOf_list _)
  have e4 : ((strOf (L.take 2)).toList == [38, 38]) = decide (L.take 2 = [38, 38]) := pair_b _ (fun x hx => hL x (List.mem_of_mem_take hx)) [38, 38] (by decide) _ (strOf_list _)
  have e5 : ((strOf (L.take 2)).toList == [124, 124]) = decide (L.take 2 = [124, 124]) := pair_b _ (fun x hx => hL x (List.mem_of_mem_take hx)) [124, 124] (by decide) _ (strOf_list _)
  have e6 : ((strOf (L.take 2)).toList == [43, 43]) = decide (L.take 2 = [43, 43]) := pair_b _ (fun x hx => hL x (List.mem_of_mem_take hx)) [43, 43] (by decide) _ (strOf_list _)
  have e7 : ((strOf (L.take 2)).toList == [45, 62]) = decide (L.take 2 = [45, 62]) := pair_b _ (fun x hx => hL x (List.mem_of_mem_take hx)) [45, 62] (by decide) _ (strOf_list _)
  have e8 : ((strOf (L.take 2)).toList == [58, 61]) = decide (L.take 2 = [58, 61]) := pair_b _ (fun x hx => hL x (List.mem_of_mem_take hx)) [58, 61] (by decide) _ (strOf_list _)
  obtain ⟨r, hr⟩ : ∃ r, r = strOf L := ⟨_, rfl⟩
  rw [← hr] at z x1 ⊢
  obtain ⟨p, hp⟩ : ∃ p, p = strOf (L.take 2) := ⟨_, rfl⟩
  rw [← hp] at x1 e0 e1 e2 e3 e4 e5 e6 e7 e8
  have i1 : (1 : Int) < L.length := by omega
  have i2 : (2 : Int) ≤ L.length := by omega
  have hm2 : L.take 2 = [60, 61] ∨ L.take 2 = [60, 60] ∨ L.take 2 = [62, 62] ∨ L.take 2 = [61, 61] ∨ L.take 2 = [38, 38] ∨ L.take 2 = [124, 124] ∨ L.take 2 = [43, 43] ∨ L.take 2 = [45, 62] ∨ L.take 2 = [58, 61] := by simpa [twoS] using hm
  clear hL hr hp hm
  rcases hm2 with hm | hm | hm | hm | hm | hm | hm | hm | hm
  · rw [hm] at e0 e1 e2 e3 e4 e5 e6 e7 e8
    have d0 : (p.toList == [60, 61]) = true := by rw [e0]; decide
    have d1 : (p.toList == [60, 60]) = false := by rw [e1]; decide
    have d2 : (p.toList == [62, 62]) = false := by rw [e2]; decide
    have d3 : (p.toList == [61, 61]) = false := by rw [e3]; decide
    have d4 : (p.toList == [38, 38]) = false := by rw [e4]; decide
    have d5 : (p.toList == [124, 124]) = false := by rw [e5]; decide
    have d6 : (p.toList == [43, 43]) = false := by rw [e6]; decide
    have d7 : (p.toList == [45, 62]) = false := by rw [e7]; decide
    have d8 : (p.toList == [58, 61]) = false := by rw [e8]; decide
    clear e0 e1 e2 e3 e4 e5 e6 e7 e8
    go_enter Try.func69, Try.ntmps69
    go_wp2
    go_ret
    exact ⟨ret_i (by rw [HR.out]; rfl), rfl⟩
  · rw [hm] at e0 e1 e2 e3 e4 e5 e6 e7 e8
    have d0 : (p.toList == [60, 61]) = false := by rw [e0]; decide
    have d1 : (p.toList == [60, 60]) = true := by rw [e1]; decide
    have d2 : (p.toList == [62, 62]) = false := by rw [e2]; decide
    have d3 : (p.toList == [61, 61]) = false := by rw [e3]; decide
    have d4 : (p.toList == [38, 38]) = false := by rw [e4]; decide
    have d5 : (p.toList == [124, 124]) = false := by rw [e5]; decide
    have d6 : (p.toList == [43, 43]) = false := by rw [e6]; decide
    have d7 : (p.toList == [45, 62]) = false := by rw [e7]; decide
    have d8 : (p.toList == [58, 61]) = false := by rw [e8]; decide
    clear e0 e1 e2 e3 e4 e5 e6 e7 e8
    go_enter Try.func69, Try.ntmps69
    go_wp2
    go_ret
    exact ⟨ret_i (by rw [HR.out]; rfl), rfl⟩
  · rw [hm] at e0 e1 e2 e3 e4 e5 e6 e7 e8
    have d0 : (p.toList == [60, 61]) = false := by rw [e0]; decide
    have d1 : (p.toList == [60, 60]) = false := by rw [e1]; decide
    have d2 : (p.toList == [62, 62]) = true := by rw [e2]; decide
    have d3 : (p.toList == [61, 61]) = false := by rw [e3]; decide
    have d4 : (p.toList == [38, 38]) = false := by rw [e4]; decide
    have d5 : (p.toList == [124, 124]) = false := by rw [e5]; decide
    have d6 : (p.toList == [43, 43]) = false := by rw [e6]; decide
    have d7 : (p.toList == [45, 62]) = false := by rw [e7]; decide
    have d8 : (p.toList == [58, 61]) = false := by rw [e8]; decide
    clear e0 e1 e2 e3 e4 e5 e6 e7 e8
    go_enter Try.func69, Try.ntmps69
    go_wp2
    go_ret
    exact ⟨ret_i (by rw [HR.out]; rfl), rfl⟩
  · rw [hm] at e0 e1 e2 e3 e4 e5 e6 e7 e8
    have d0 : (p.toList == [60, 61]) = false := by rw [e0]; decide
    have d1 : (p.toList == [60, 60]) = false := by rw [e1]; decide
    have d2 : (p.toList == [62, 62]) = false := by rw [e2]; decide
    have d3 : (p.toList == [61, 61]) = true := by rw [e3]; decide
    have d4 : (p.toList == [38, 38]) = false := by rw [e4]; decide
    have d5 : (p.toList == [124, 124]) = false := by rw [e5]; decide
    have d6 : (p.toList == [43, 43]) = false := by rw [e6]; decide
    have d7 : (p.toList == [45, 62]) = false := by rw [e7]; decide
    have d8 : (p.toList == [58, 61]) = false := by rw [e8]; decide
    clear e0 e1 e2 e3 e4 e5 e6 e7 e8
    go_enter Try.func69, Try.ntmps69
    go_wp2
    go_ret
    exact ⟨ret_i (by rw [HR.out]; rfl), rfl⟩
  · rw [hm] at e0 e1 e2 e3 e4 e5 e6 e7 e8
    have d0 : (p.toList == [60, 61]) = false := by rw [e0]; decide
    have d1 : (p.toList == [60, 60]) = false := by rw [e1]; decide
    have d2 : (p.toList == [62, 62]) = false := by rw [e2]; decide
    have d3 : (p.toList == [61, 61]) = false := by rw [e3]; decide
    have d4 : (p.toList == [38, 38]) = true := by rw [e4]; decide
    have d5 : (p.toList == [124, 124]) = false := by rw [e5]; decide
    have d6 : (p.toList == [43, 43]) = false := by rw [e6]; decide
    have d7 : (p.toList == [45, 62]) = false := by rw [e7]; decide
    have d8 : (p.toList == [58, 61]) = false := by rw [e8]; decide
    clear e0 e1 e2 e3 e4 e5 e6 e7 e8
    go_enter Try.func69, Try.ntmps69
    go_wp2
    go_ret
    exact ⟨ret_i (by rw [HR.out]; rfl), rfl⟩
  · rw [hm] at e0 e1 e2 e3 e4 e5 e6 e7 e8
    have d0 : (p.toList == [60, 61]) = false := by rw [e0]; decide
    have d1 : (p.toList == [60, 60]) = false := by rw [e1]; decide
    have d2 : (p.toList == [62, 62]) = false := by rw [e2]; decide
    have d3 : (p.toList == [61, 61]) = false := by rw [e3]; decide
    have d4 : (p.toList == [38, 38]) = false := by rw [e4]; decide
    have d5 : (p.toList == [124, 124]) = true := by rw [e5]; decide
    have d6 : (p.toList == [43, 43]) = false := by rw [e6]; decide
    have d7 : (p.toList == [45, 62]) = false := by rw [e7]; decide
    have d8 : (p.toList == [58, 61]) = false := by rw [e8]; decide
    clear e0 e1 e2 e3 e4 e5 e6 e7 e8
    go_enter Try.func69, Try.ntmps69
    go_wp2
    go_ret
    exact ⟨ret_i (by rw [HR.out]; rfl), rfl⟩
  · rw [hm] at e0 e1 e2 e3 e4 e5 e6 e7 e8
    have d0 : (p.toList == [60, 61]) = false := by rw [e0]; decide
    have d1 : (p.toList == [60, 60]) = false := by rw [e1]; decide
    have d2 : (p.toList == [62, 62]) = false := by rw [e2]; decide
    have d3 : (p.toList == [61, 61]) = false := by rw [e3]; decide
    have d4 : (p.toList == [38, 38]) = false := by rw [e4]; decide
    have d5 : (p.toList == [124, 124]) = false := by rw [e5]; decide
    have d6 : (p.toList == [43, 43]) = true := by rw [e6]; decide
    have d7 : (p.toList == [45, 62]) = false := by rw [e7]; decide
    have d8 : (p.toList == [58, 61]) = false := by rw [e8]; decide
    clear e0 e1 e2 e3 e4 e5 e6 e7 e8
    go_enter Try.func69, Try.ntmps69
    go_wp2
    go_ret
    exact ⟨ret_i (by rw [HR.out]; rfl), rfl⟩
  · rw [hm] at e0 e1 e2 e3 e4 e5 e6 e7 e8
    have d0 : (p.toList == [60, 61]) = false := by rw [e0]; decide
    have d1 : (p.toList == [60, 60]) = false := by rw [e1]; decide
    have d2 : (p.toList == [62, 62]) = false := by rw [e2]; decide
    have d3 : (p.toList == [61, 61]) = false := by rw [e3]; decide
    have d4 : (p.toList == [38, 38]) = false := by rw [e4]; decide
    have d5 : (p.toList == [124, 124]) = false := by rw [e5]; decide
    have d6 : (p.toList == [43, 43]) = false := by rw [e6]; decide
    have d7 : (p.toList == [45, 62]) = true := by rw [e7]; decide
    have d8 : (p.toList == [58, 61]) = false := by rw [e8]; decide
    clear e0 e1 e2 e3 e4 e5 e6 e7 e8
    go_enter Try.func69, Try.ntmps69
    go_wp2
    go_ret
    exact ⟨ret_i (by rw [HR.out]; rfl), rfl⟩
  · rw [hm] at e0 e1 e2 e3 e4 e5 e6 e7 e8
    have d0 : (p.toList == [60, 61]) = false := by rw [e0]; decide
    have d1 : (p.toList == [60, 60]) = false := by rw [e1]; decide
    have d2 : (p.toList == [62, 62]) = false := by rw [e2]; decide
    have d3 : (p.toList == [61, 61]) = false := by rw [e3]; decide
    have d4 : (p.toList == [38, 38]) = false := by rw [e4]; decide
    have d5 : (p.toList == [124, 124]) = false := by rw [e5]; decide
    have d6 : (p.toList == [43, 43]) = false := by rw [e6]; decide
    have d7 : (p.toList == [45, 62]) = false := by rw [e7]; decide
    have d8 : (p.toList == [58, 61]) = true := by rw [e8]; decide
    clear e0 e1 e2 e3 e4 e5 e6 e7 e8
    go_enter Try.func69, Try.ntmps69
    go_wp2
    go_ret
    exact ⟨ret_i (by rw [HR.out]; rfl), rfl⟩

set_option maxRecDepth 100000 in
set_option maxHeartbeats 4000000 in
theorem symExt_short (w : World) (L : List Int) (hL : ∀ x ∈ L, 0 ≤ x ∧ x ≤ 255) (hl : L.length ≤ 1000000) (h0 : L.length = 1) :
    Calls Try.prog 69 #[.string (strOf L)] w (RetS (.int .i64 (symK L)) w) := by
  have z := strOf_size L
  have HR := Lib.hid (show symK L = if L.getD 0 0 ∈ oneS then 1 else 0 from if_neg (fun h => by omega))
  have HI := strOf_at L hL 0
  have i1 : ¬ (1 : Int) < L.length := by omega
  obtain ⟨r, hr⟩ : ∃ r, r = strOf L := ⟨_, rfl⟩
  rw [← hr] at z HI ⊢
  obtain ⟨x, hx⟩ : ∃ x, x = L.getD 0 0 := ⟨_, rfl⟩
  rw [← hx] at HI HR
  clear hL hr hx
  by_cases hin : x ∈ oneS
  · have h2 : x = 40 ∨ x = 41 ∨ x = 91 ∨ x = 93 ∨ x = 123 ∨ x = 125 ∨ x = 44 ∨ x = 59 ∨ x = 58 ∨ x = 46 ∨ x = 60 ∨ x = 62 ∨ x = 43 ∨ x = 45 ∨ x = 38 ∨ x = 124 ∨ x = 94 ∨ x = 126 ∨ x = 33 ∨ x = 42 ∨ x = 47 ∨ x = 61 ∨ x = 63 ∨ x = 64 ∨ x = 37 := by simpa [oneS] using hin
    have HR2 := Lib.hid (show symK L = 1 by rw [HR.out, if_pos hin])
    clear hin HR
    rcases h2 with rfl | rfl | rfl | rfl | rfl | rfl | rfl | rfl | rfl | rfl | rfl | rfl | rfl | rfl | rfl | rfl | rfl | rfl | rfl | rfl | rfl | rfl | rfl | rfl | rfl
    all_goals
      go_enter Try.func69, Try.ntmps69
      go_wp2
      go_ret
      exact ⟨ret_i (by rw [HR2.out]; rfl), rfl⟩
  · have HR2 := Lib.hid (show symK L = 0 by rw [HR.out, if_neg hin])
    simp only [oneS, List.mem_cons, List.not_mem_nil, not_or, or_false] at hin
    obtain ⟨n0, n1, n2, n3, n4, n5, n6, n7, n8, n9, n10, n11, n12, n13, n14, n15, n16, n17, n18, n19, n20, n21, n22, n23, n24⟩ := hin
    clear HR
    go_enter Try.func69, Try.ntmps69
    go_wp2
    go_ret
    exact ⟨ret_i (by rw [HR2.out]; rfl), rfl⟩

set_option maxRecDepth 100000 in
set_option maxHeartbeats 4000000 in
theorem symExt_one (w : World) (L : List Int) (hL : ∀ x ∈ L, 0 ≤ x ∧ x ≤ 255) (hl : L.length ≤ 1000000) (h0 : 1 < L.length) (hm : ¬ L.take 2 ∈ twoS) :
    Calls Try.prog 69 #[.string (strOf L)] w (RetS (.int .i64 (symK L)) w) := by
  have z := strOf_size L
  have HR := Lib.hid (show symK L = if L.getD 0 0 ∈ oneS then 1 else 0 from if_neg (fun h => hm h.2))
  have HI := strOf_at L hL 0
  have i1 : (1 : Int) < L.length := by omega
  have i2 : (2 : Int) ≤ L.length := by omega
  have x1 := strOf_cut L 0 2
  rw [List.drop_zero, Nat.sub_zero] at x1
  have e0 : ((strOf (L.take 2)).toList == [60, 61]) = decide (L.take 2 = [60, 61]) := pair_b _ (fun x hx => hL x (List.mem_of_mem_take hx)) [60, 61] (by decide) _ (strOf_list _)
  have e1 : ((strOf (L.take 2)).toList == [60, 60]) = decide (L.take 2 = [60, 60]) := pair_b _ (fun x hx => hL x (List.mem_of_mem_take hx)) [60, 60] (by decide) _ (strOf_list _)
  have e2 : ((strOf (L.take 2)).toList == [62, 62]) = decide (L.take 2 = [62, 62]) := pair_b _ (fun x hx => hL x (List.mem_of_mem_take hx)) [62, 62] (by decide) _ (strOf_list _)
  have e3 : ((strOf (L.take 2)).toList == [61, 61]) = decide (L.take 2 = [61, 61]) := pair_b _ (fun x hx => hL x (List.mem_of_mem_take hx)) [61, 61] (by decide) _ (strOf_list _)
  have e4 : ((strOf (L.take 2)).toList == [38, 38]) = decide (L.take 2 = [38, 38]) := pair_b _ (fun x hx => hL x (List.mem_of_mem_take hx)) [38, 38] (by decide) _ (strOf_list _)
  have e5 : ((strOf (L.take 2)).toList == [124, 124]) = decide (L.take 2 = [124, 124]) := pair_b _ (fun x hx => hL x (List.mem_of_mem_take hx)) [124, 124] (by decide) _ (strOf_list _)
  have e6 : ((strOf (L.take 2)).toList == [43, 43]) = decide (L.take 2 = [43, 43]) := pair_b _ (fun x hx => hL x (List.mem_of_mem_take hx)) [43, 43] (by decide) _ (strOf_list _)
  have e7 : ((strOf (L.take 2)).toList == [45, 62]) = decide (L.take 2 = [45, 62]) := pair_b _ (fun x hx => hL x (List.mem_of_mem_take hx)) [45, 62] (by decide) _ (strOf_list _)
  have e8 : ((strOf (L.take 2)).toList == [58, 61]) = decide (L.take 2 = [58, 61]) := pair_b _ (fun x hx => hL x (List.mem_of_mem_take hx)) [58, 61] (by decide) _ (strOf_list _)
  rw [decide_eq_false (fun h => hm (by rw [h]; decide))] at e0
  rw [decide_eq_false (fun h => hm (by rw [h]; decide))] at e1
  rw [decide_eq_false (fun h => hm (by rw [h]; decide))] at e2
  rw [decide_eq_false (fun h => hm (by rw [h]; decide))] at e3
  rw [decide_eq_false (fun h => hm (by rw [h]; decide))] at e4
  rw [decide_eq_false (fun h => hm (by rw [h]; decide))] at e5
  rw [decide_eq_false (fun h => hm (by rw [h]; decide))] at e6
  rw [decide_eq_false (fun h => hm (by rw [h]; decide))] at e7
  rw [decide_eq_false (fun h => hm (by rw [h]; decide))] at e8
  obtain ⟨r, hr⟩ : ∃ r, r = strOf L := ⟨_, rfl⟩
  rw [← hr] at z HI x1 ⊢
  obtain ⟨p, hp⟩ : ∃ p, p = strOf (L.take 2) := ⟨_, rfl⟩
  rw [← hp] at x1 e0 e1 e2 e3 e4 e5 e6 e7 e8
  clear hp hm
  obtain ⟨x, hx⟩ : ∃ x, x = L.getD 0 0 := ⟨_, rfl⟩
  rw [← hx] at HI HR
  clear hL hr hx
  by_cases hin : x ∈ oneS
  · have h2 : x = 40 ∨ x = 41 ∨ x = 91 ∨ x = 93 ∨ x = 123 ∨ x = 125 ∨ x = 44 ∨ x = 59 ∨ x = 58 ∨ x = 46 ∨ x = 60 ∨ x = 62 ∨ x = 43 ∨ x = 45 ∨ x = 38 ∨ x = 124 ∨ x = 94 ∨ x = 126 ∨ x = 33 ∨ x = 42 ∨ x = 47 ∨ x = 61 ∨ x = 63 ∨ x = 64 ∨ x = 37 := by simpa [oneS] using hin
    have HR2 := Lib.hid (show symK L = 1 by rw [HR.out, if_pos hin])
    clear hin HR
    rcases h2 with rfl | rfl | rfl | rfl | rfl | rfl | rfl | rfl | rfl | rfl | rfl | rfl | rfl | rfl | rfl | rfl | rfl | rfl | rfl | rfl | rfl | rfl | rfl | rfl | rfl
    all_goals
      go_enter Try.func69, Try.ntmps69
      go_wp2
      go_ret
      exact ⟨ret_i (by rw [HR2.out]; rfl), rfl⟩
  · have HR2 := Lib.hid (show symK L = 0 by rw [HR.out, if_neg hin])
    simp only [oneS, List.mem_cons, List.not_mem_nil, not_or, or_false] at hin
    obtain ⟨n0, n1, n2, n3, n4, n5, n6, n7, n8, n9, n10, n11, n12, n13, n14, n15, n16, n17, n18, n19, n20, n21, n22, n23, n24⟩ := hin
    clear HR
    go_enter Try.func69, Try.ntmps69
    go_wp2
    go_ret
    exact ⟨ret_i (by rw [HR2.out]; rfl), rfl⟩

theorem symExt_any (w : World) (L : List Int) (hL : ∀ x ∈ L, 0 ≤ x ∧ x ≤ 255) (hl : L.length ≤ 1000000) (h1 : 1 ≤ L.length) :
    Calls Try.prog 69 #[.string (strOf L)] w (RetS (.int .i64 (symK L)) w) := by
  by_cases h : 1 < L.length
  · by_cases hm : L.take 2 ∈ twoS
    · exact symExt_two w L hL hl h hm
    · exact symExt_one w L hL hl h hm
  · exact symExt_short w L hL hl (by omega)
end Go.Proofs.Ytmbdpiffdiiggaa
