/- Expr: Headers: the library sorts and compacts; no condition but that the nodes are few. -/
import Derived.Test.YtdbjeihbfooipaaSqD
import Derived.Test.YtdbjeihbfooipaaSqB
import Derived.Test.YtdbjeihbfooipaaSqL
import Derived.Shelf.Sort.Plain
import Derived.Shelf.Slices.CompactI
import Derived.Shelf.Slices.In.SortNone
namespace Go.Proofs.Ytdbjeihbfooipaa
open Go.RowKit
set_option linter.unusedVariables false
theorem putRow_id {α : Type} [Inhabited α] (enc : α → Value) (w : World) (b o : Nat) (d : Array α) : Go.Sort.putRow enc w b o d = Go.Sort.putRow id w b o (d.map enc) := by
  unfold Go.Sort.putRow
  congr 1
  funext c
  unfold Go.Sort.putCells
  apply Array.ext (by simp)
  intro k h1 h2
  simp only [Array.getElem_mapIdx, Array.size_map]
  by_cases hk : o ≤ k ∧ k < o + d.size
  · rw [if_pos hk, if_pos hk]
    have h : k - o < d.size := by omega
    simp [h]
  · rw [if_neg hk, if_neg hk]
/-- A row is cut. -/
theorem own_cut {w : World} {base : Nat} {e : TypeId} {k n m g cap : Nat} {xs : List Value} (h : w.ownsRow base e k (.slice (some ⟨g, 0, none⟩) n cap) n xs) (hm : m ≤ n) : w.ownsRow base e k (.slice (some ⟨g, 0, none⟩) m cap) m (xs.take (m * k)) := by
  rcases h.2 with ⟨h', _⟩ | ⟨g', cap', cur, h', hb, hg, h1, h2, h3, h4⟩
  · cases h'
  · injection h' with e1 _ e3
    injection e1 with e1
    injection e1 with e1
    subst e1 e3
    have q : m * k ≤ n * k := Nat.mul_le_mul_right k hm
    refine ⟨by rw [List.length_take, h.1]; omega, .inr ⟨g, cap, cur, rfl, hb, hg, by omega, h2, h3, ?_⟩⟩
    rw [← h4, List.take_take]
    congr 1
    omega
theorem comp_squ {α : Type} [Inhabited α] [DecidableEq α] (L : List α) (n : Nat) (hn : n ≤ L.length) : Go.Lib.compactUpTo L.toArray n = squP default L n := by
  induction n with
  | zero => rfl
  | succ n ih =>
    rw [Go.Lib.compactUpTo_succ, ih (by omega), show squP default L (n + 1) = squP default L n ++ (if n = 0 then [L.getD n default] else if L.getD n default = L.getD (n - 1) default then [] else [L.getD n default]) from rfl]
    have e : ∀ j, j < L.length → L.toArray[j]! = L.getD j default := fun j hj => by simp [hj]
    congr 1
    by_cases h0 : n = 0
    · subst h0
      rw [Go.Lib.keeps_lt_one _ 0 (by omega), if_pos rfl, if_pos rfl, e 0 (by omega)]
    · rw [if_neg h0]
      by_cases h1 : L.getD n default = L.getD (n - 1) default
      · rw [if_pos h1, Go.Lib.keeps_neg (by omega) (by rw [e n (by omega), e (n - 1) (by omega)]; exact h1)]; rfl
      · rw [if_neg h1, Go.Lib.keeps_pos (by rw [e n (by omega), e (n - 1) (by omega)]; exact h1), if_pos rfl, e n (by omega)]
theorem comp_le {α : Type} [Inhabited α] [DecidableEq α] (L : List α) : (Go.Lib.compact L).length ≤ L.length := by
  show (Go.Lib.compactUpTo L.toArray L.length).length ≤ _
  rw [comp_squ L _ (Nat.le_refl _)]
  exact squP_len _ _ _
/-- The numbers, sorted and compacted, are those that the reference adds up. -/
theorem sort_comp (M : List Int) : Go.Lib.compact (M.mergeSort fun x y => decide (x ≤ y)) = allA (fun a b : Int => a < b) M := by
  have hp := List.mergeSort_perm M (fun x y : Int => decide (x ≤ y))
  have hs := List.pairwise_mergeSort (le := fun x y : Int => decide (x ≤ y)) (fun a b c h1 h2 => by simp at *; omega) (fun a b => by simp; omega) M
  show Go.Lib.compactUpTo _ _ = _
  rw [comp_squ _ _ (Nat.le_refl _)]
  refine squ_all toI default M _ (fun x => hp.mem_iff) (fun i j hij hj => ?_)
  have q := List.pairwise_iff_getElem.1 hs i j (by omega) hj hij
  rw [List.getD_eq_getElem?_getD, List.getD_eq_getElem?_getD, List.getElem?_eq_getElem hj, List.getElem?_eq_getElem (show i < _ by omega)]
  simp at q ⊢
  omega
theorem holds_own {w : World} {base g cap : Nat} {M : List Int} (h : NL w base (.slice (some ⟨g, 0, none⟩) M.length cap) M) : Go.Sort.Holds (Value.int .i64) w g 0 M.toArray := by
  intro j hj
  have hj : j < M.length := by simpa using hj
  rw [Nat.zero_add]
  refine ⟨?_, NL.free h rfl j⟩
  rw [NL.at_ h rfl j hj]
  simp [hj]
theorem vH_yes (N : List Nd) (x : Nd) (h : x.1 = 4) : vH (N ++ [x]) = vH N ++ [x.2.1] := by unfold vH; rw [List.filterMap_append]; simp [h]
theorem vH_no (N : List Nd) (x : Nd) (h : ¬ x.1 = 4) : vH (N ++ [x]) = vH N := by unfold vH; rw [List.filterMap_append]; simp [h]
set_option maxRecDepth 100000 in
set_option maxHeartbeats 8000000 in
theorem ksort_any (w : World) (base : Nat) (b : Option Addr) (m d : Nat) (M : List Int) (hm : M.length = m) (ho : NL w base (.slice b m d) M) (h1 : m ≤ 1000) :
    Calls Try.prog 64 #[.slice b m d] w fun e w' => e = .returned (.tuple #[]) ∧ NL w' base (.slice b m d) (M.mergeSort fun x y => decide (x ≤ y)) ∧ w.grownBy w' (Value.slice b m d).ownBlock := by
  subst hm
  by_cases h0 : M.length = 0
  · have e : M = [] := List.length_eq_zero_iff.1 h0
    subst e
    refine (Any.slices_Sort_int_none sortI b d w).mono ?_
    rintro e w' ⟨rfl, rfl⟩
    refine ⟨rfl, by rw [List.mergeSort_nil]; exact ho, ?_⟩
    cases (Value.slice b 0 d).ownBlock <;> exact gb_refl _ _
  · obtain ⟨g, c, hv⟩ := ho.headn rfl (by omega)
    injection hv with hv _ hc
    subst hv hc
    have lt := (World.ownsRow.lt ho g rfl).2
    refine (Any.slices_Sort_int sortI g 0 d M w (holds_own ho) lt (by omega)).mono ?_
    rintro e w' ⟨rfl, n, os, rfl⟩
    rw [putRow_id]
    obtain ⟨o, k⟩ := sort_own ho ((M.mergeSort fun x y => decide (x ≤ y)).toArray.map (Value.int .i64)) (by simp) n os
    refine ⟨rfl, ?_, k⟩
    unfold NL
    rw [List.length_mergeSort]
    simpa using o
set_option maxRecDepth 100000 in
set_option maxHeartbeats 8000000 in
theorem kcomp_any (w : World) (base : Nat) (b : Option Addr) (m d : Nat) (M : List Int) (hm : M.length = m) (ho : NL w base (.slice b m d) M) (h1 : m ≤ 1000) :
    Calls Try.prog 65 #[.slice b m d] w fun e w' => e = .returned (.slice b (Go.Lib.compact M).length d) ∧ NL w' base (.slice b (Go.Lib.compact M).length d) (Go.Lib.compact M) ∧ w.grownBy w' (Value.slice b m d).ownBlock := by
  subst hm
  by_cases h0 : M.length = 0
  · have e : M = [] := List.length_eq_zero_iff.1 h0
    subst e
    refine (Any.slices_Compact_int_empty compI b d w).mono ?_
    rintro e w' ⟨rfl, rfl⟩
    refine ⟨rfl, ho, ?_⟩
    cases (Value.slice b 0 d).ownBlock <;> exact gb_refl _ _
  · obtain ⟨g, c, hv⟩ := ho.headn rfl (by omega)
    injection hv with hv _ hc
    subst hv hc
    have le := comp_le M
    refine (Any.slices_Compact_int compI g 0 d M w (holds_own ho) (by omega) (own_cap ho)).mono ?_
    rintro e w' ⟨rfl, q, rfl⟩
    rw [putRow_id, ← Go.Sort.grow_empty (Go.Sort.putRow id _ _ _ _)]
    obtain ⟨o, k⟩ := sort_own ho ((Go.Lib.compact M ++ List.replicate (M.length - (Go.Lib.compact M).length) 0).toArray.map (Value.int .i64)) (by simp; omega) q #[]
    refine ⟨rfl, ?_, k⟩
    have z := own_cut o le
    unfold NL
    have e : (List.take ((Go.Lib.compact M).length * 1) ((Go.Lib.compact M ++ List.replicate (M.length - (Go.Lib.compact M).length) 0).toArray.map (Value.int .i64)).toList) = (Go.Lib.compact M).map (Value.int .i64) := by
      rw [Array.toList_map, List.map_append, Nat.mul_one, List.take_left' (by simp)]
    rw [e] at z
    exact z
set_option maxRecDepth 100000 in
set_option maxHeartbeats 8000000 in
theorem kheaders_any (w : World) (a : Option Addr) (n c : Nat) (N : List Nd) (hN : SN w a n c N) (hn : n ≤ 500) :
    Calls Try.prog 17 #[.slice a n c] w (RetNX (aHs N) w) := by
  have HN := Lib.hid hN
  have LN := Lib.hid hN.len
  have ncap := hN.cap
  obtain ⟨R, hR⟩ : ∃ R, R = aHs N := ⟨_, rfl⟩
  have HR := Lib.hid (show R = Go.Lib.compact ((vH N).mergeSort fun x y => decide (x ≤ y)) by rw [hR, sort_comp]; rfl)
  rw [← hR]
  clear hN hR
  go_enter Try.func17, Try.ntmps17
  go_wp2
  go_loopw [3, 5, 8] (fun s3 s5 s8 wr => ∃ (i m : Nat) (b : Option Addr) (d : Nat), i ≤ n ∧ s8 = .int .i64 i ∧ s3 = .slice b m d ∧ (vH (N.take i)).length = m ∧ NL wr w.heap.size (.slice b m d) (vH (N.take i)) ∧ w.grownBy wr none) (fun _ _ s8 _ => n - (intOf s8).toNat)
  case atStart => exact ⟨0, 0, none, 0, Nat.zero_le _, rfl, rfl, rfl, NL.nil _ _, gb_refl _ _⟩
  case round =>
    obtain ⟨i, m, b, d, hi, rfl, rfl, hm, ho, hg⟩ := hrel
    have OM := Lib.hid hm
    have O := Lib.hid ho
    have G := Lib.hid hg
    have ML := Lib.hid (show m ≤ 500 by rw [← hm]; have := vH_len (N.take i); rw [List.length_take] at this; omega)
    clear hm ho hg
    by_cases hlt : i < n
    · have i1 : (i : Int) < n := by omega
      have i0 : (0 : Int) ≤ (i : Int) := by omega
      have hw : IntKind.i64.wrap ((i : Int) + 1) = ((i + 1 : Nat) : Int) := by rw [IntKind.wrap_i64]; omega
      obtain ⟨ad, rfl⟩ := HN.out.some (by omega)
      obtain ⟨n0, n1, n2⟩ := (HN.out.keep0 G.out).cells ad rfl i hlt
      have TK := Lib.hid (take_nd N i (by rw [LN.out]; exact hlt))
      generalize N.getD i nz = x at *
      obtain ⟨op, nn, wd⟩ := x
      dsimp only at n0 n1 n2
      go_upto_region 5 with fail
      have B := Lib.hid (IsB.new wr 61 #[.int .i64 op, .int .i64 nn, .int .i64 wd])
      have g := gb_alloc wr (.cells #[.int .i64 op, .int .i64 nn, .int .i64 wd] 61) none
      replace O := Lib.hid (O.out.keep0 g)
      replace G := Lib.hid (gb_trans G.out g)
      clear g n0 n1 n2
      generalize wr.alloc (.cells #[.int .i64 op, .int .i64 nn, .int .i64 wd] 61) = w2 at *
      generalize wr.heap.size = b2 at *
      have x0 := B.out.cell 0
      have x1 := B.out.cell 1
      dsimp at x0 x1
      by_cases h4 : op = 4
      · subst h4
        have EQ := Lib.hid (show vH (N.take (i + 1)) = vH (N.take i) ++ [nn] by rw [TK.out]; exact vH_yes _ (4, nn, wd) rfl)
        have SO := Lib.hid (slr_one w2 .i64 nn 3 _ rfl)
        have GA := Lib.hid (gb_alloc w2 (.cells #[.int .i64 nn] 3) none)
        go_wp2_with (at_builtin; refine npush_any rfl _ _ rfl w.heap.size (.slice b m d) (vH (N.take i)) rfl (O.out.keep0 GA.out) _ _ _ [nn] rfl SO.out (by have := OM.out; have := ML.out; simp; omega) (Nat.le_trans G.out.size GA.out.size) ?_; intro V8 w8 o8 g8; have O8 := Lib.hid (show NL w8 w.heap.size V8 (vH (N.take (i + 1))) by rw [EQ.out]; exact o8); have G8 := Lib.hid (gb_own (gb_trans G.out GA.out) (O.out.keep0 GA.out) (Nat.le_refl _) g8); clear o8 g8)
        obtain ⟨a8, c8, h8⟩ := O8.out.shape
        rw [show (vH (N.take (i + 1))).length = m + 1 by rw [EQ.out]; simp [OM.out]] at h8
        subst h8
        go_roundw
        case rel => exact ⟨i + 1, m + 1, a8, c8, by omega, by go_num, rfl, by rw [EQ.out]; simp [OM.out], O8.out, G8.out⟩
        case measure => simp [intOf]; omega
      · have q0 : (op == 4) = false := by rw [beq_eq_false_iff_ne]; exact h4
        have EQ := Lib.hid (show vH (N.take (i + 1)) = vH (N.take i) by rw [TK.out]; exact vH_no _ (op, nn, wd) h4)
        go_wp2
        go_roundw
        case rel => exact ⟨i + 1, m, b, d, by omega, by go_num, rfl, by rw [EQ.out, OM.out], by rw [EQ.out]; exact O.out, G.out⟩
        case measure => simp [intOf]; omega
    · have i1 : ¬ (i : Int) < n := by omega
      have TN := Lib.hid (show N.take i = N from List.take_of_length_le (by rw [LN.out]; omega))
      rw [TN.out] at O OM
      have KS := Lib.hid (ksort_any wr w.heap.size b m d (vH N) OM.out O.out (by have := ML.out; omega))
      go_upto_region 9 with (go_at_call 64; refine KS.out.mono ?_; rintro e5 w5 ⟨rfl, o5, g5⟩; have O5 := Lib.hid o5; have G5 := Lib.hid (gb_own G.out O.out (Nat.le_refl _) g5); clear o5 g5)
      have KC := Lib.hid (kcomp_any w5 w.heap.size b m d _ (by rw [List.length_mergeSort]; exact OM.out) O5.out (by have := ML.out; omega))
      rw [← HR.out] at KC
      go_wp2_with (go_at_call 65; refine KC.out.mono ?_; rintro e6 w6 ⟨rfl, o6, g6⟩; have O6 := Lib.hid o6; have G6 := Lib.hid (gb_own G5.out O5.out (Nat.le_refl _) g6); clear o6 g6)
      go_ret
      exact ⟨b, d, rfl, O6.out, G6.out⟩
end Go.Proofs.Ytdbjeihbfooipaa
