/- Cubeset: the law Limit. -/
import Derived.Test.YteemhabgliglmaaCtD
namespace Go.Proofs.Yteemhabgliglmaa
open Go.RowKit
set_option linter.unusedVariables false
/-- append of one cube, and where the new row lies. -/
theorem pushCubeAt {w : World} {ops : Array Oper} {rest : List Oper} {o : Oper} {a : Act} {Q : Exit → Act → World → Prop} (hgd : o.guard = none) (s x : Operand)
    (ho : o.op = .call { callee := .builtin .append, args := #[s, x], argTypes := #[22, 22] }) (base : Nat) (V : Value) (M : List (Nat × Nat)) (hs : a.eval s = V) (hown : CLs w base V M)
    (ad : Addr) (c : Nat) (T : Nat × Nat) (hx : a.eval x = .slice (some ad) 1 c) (hT : ∀ j u, (cubeC T)[j]? = some u → w.cell? (ad.add j) = some u) (hlen : M.length ≤ 1000000) (hbase : base ≤ w.heap.size)
    (h : ∀ V' w', CLs w' base V' (M ++ [T]) → w.grownBy w' V.ownBlock → (V'.ownBlock = V.ownBlock ∨ V'.ownBlock = some w.heap.size) → wpList Try.prog ops Q rest (a.put o.dst V') w') : wpList Try.prog ops Q (o :: rest) a w := by
  obtain ⟨i0, hi, hz0, hz1, hz2⟩ := info_parts infoCube
  refine wpList_append_own_at w hgd s x 22 ho base 49 i0 _ 2 16 Try.underlying22 hi hz0 hz1 hz2 rfl (by decide) V M.length (M.flatMap cubeC) hs hown ad 1 c (cubeC T) hx rfl hT (cubeC_one T) (by unfold maxLen; omega) (by omega) hbase ?_
  intro V' w' h1 h2 h3 h4
  refine h V' w' ?_ h2 h4
  unfold CLs
  rw [List.flatMap_append, List.length_append]
  simpa using h1
/-- Single numbers from s on, at the places of a list. -/
def sgl (s : Nat) (E : List Nat) : List (Nat × Nat) := E.map fun i => (s + i, 18446744073709551615)
def evs (j : Nat) : List Nat := (List.range j).filter fun i => i % 2 == 0
def ods (j : Nat) : List Nat := (List.range j).filter fun i => !(i % 2 == 0)
theorem evs_succ (j : Nat) : evs (j + 1) = evs j ++ (if j % 2 = 0 then [j] else []) := by
  unfold evs
  rw [List.range_succ, List.filter_append, List.filter_cons, List.filter_nil]
  by_cases h : j % 2 = 0 <;> simp [h]
theorem ods_succ (j : Nat) : ods (j + 1) = ods j ++ (if j % 2 = 0 then [] else [j]) := by
  unfold ods
  rw [List.range_succ, List.filter_append, List.filter_cons, List.filter_nil]
  by_cases h : j % 2 = 0 <;> simp [h]
theorem eo_len (j : Nat) : (evs j ++ ods j).length = j := by
  induction j with
  | zero => rfl
  | succ j ih =>
    rw [evs_succ, ods_succ]
    simp only [List.length_append] at ih ⊢
    by_cases h : j % 2 = 0
    · rw [if_pos h, if_pos h]; simp; omega
    · rw [if_neg h, if_neg h]; simp; omega
theorem eo_nodup (j : Nat) : (evs j ++ ods j).Nodup := by
  have h1 : (evs j).Nodup := List.Pairwise.filter _ List.nodup_range
  have h2 : (ods j).Nodup := List.Pairwise.filter _ List.nodup_range
  refine List.nodup_append.2 ⟨h1, h2, fun a ha b hb e => ?_⟩
  subst e
  have k1 := (List.mem_filter.1 ha).2
  have k2 := (List.mem_filter.1 hb).2
  rw [k1] at k2
  cases k2
theorem sub_full (a b : Nat) (ha : B64 a) (hb : B64 b) (h : subP (a, 18446744073709551615) (b, 18446744073709551615) = true) : a = b := by
  have hm : B64 (18446744073709551615 : Nat) := by unfold B64; decide
  have h' := ((sub_bits (a, 18446744073709551615) (b, 18446744073709551615) hm hm).1 h).2
  apply Nat.eq_of_testBit_eq
  intro i
  by_cases hi : i < 64
  · exact h' i (by show (18446744073709551615 : Nat).testBit i = true; rw [tb_max]; exact decide_eq_true hi)
  · rw [tb_big a i ha (by omega), tb_big b i hb (by omega)]
theorem sgl_at (s : Nat) (E : List Nat) (i : Nat) (hi : i < E.length) : (sgl s E).getD i (0, 0) = (s + E.getD i 0, 18446744073709551615) := by
  unfold sgl
  rw [List.getD_eq_getElem?_getD, List.getElem?_map, List.getElem?_eq_getElem hi, List.getD_eq_getElem?_getD, List.getElem?_eq_getElem hi]
  rfl
theorem sgl_simp (s : Nat) (E : List Nat) (hn : E.Nodup) (hb : ∀ i ∈ E, B64 (s + i)) : (simpL (sgl s E)).length = E.length := by
  have hl : (sgl s E).length = E.length := by unfold sgl; rw [List.length_map]
  have hr : ∀ i, i < (sgl s E).length → redN (sgl s E) i = false := by
    intro i hi
    cases h : redN (sgl s E) i with
    | false => rfl
    | true =>
      unfold redN redT at h
      rw [List.any_eq_true] at h
      obtain ⟨k, hk, h⟩ := h
      have hk := List.mem_range.1 hk
      unfold redAt at h
      simp only [Bool.and_eq_true, decide_eq_true_eq] at h
      rw [sgl_at s E i (by omega), sgl_at s E k (by omega)] at h
      have gi : E.getD i 0 = E[i]'(by omega) := by rw [List.getD_eq_getElem?_getD, List.getElem?_eq_getElem (by omega)]; rfl
      have gk : E.getD k 0 = E[k]'(by omega) := by rw [List.getD_eq_getElem?_getD, List.getElem?_eq_getElem (by omega)]; rfl
      have e := sub_full _ _ (hb _ (by rw [gi]; exact List.getElem_mem _)) (hb _ (by rw [gk]; exact List.getElem_mem _)) h.2.1
      have e2 : E[i]'(by omega) = E[k]'(by omega) := by rw [← gi, ← gk]; omega
      have hp := List.pairwise_iff_getElem.1 hn
      rcases Nat.lt_trichotomy i k with q | q | q
      · exact absurd e2 (hp i k (by omega) (by omega) q)
      · exact absurd q.symm h.1
      · exact absurd e2.symm (hp k i (by omega) (by omega) q)
  unfold simpL keptT
  rw [List.length_map, List.filter_eq_self.2 (fun i hi => by rw [hr i (List.mem_range.1 hi)]; rfl), List.length_range, hl]
set_option maxRecDepth 100000 in
set_option maxHeartbeats 8000000 in
theorem limit_walk (w : World) (n s : Nat) (hn : n ≤ 255) (hs : s < 4294967296) : Calls Try.prog 10 #[.int .u8 n, .int .u32 s] w (RetV (.bool true) w) := by
  have WK := Lib.hid (fun w => works_any w)
  unfold RetV at WK
  obtain ⟨t, ht⟩ : ∃ t : Nat, t = n % 16 := ⟨_, rfl⟩
  have et : ((n : Int).tmod 16) = (t : Int) := by rw [Int.tmod_eq_emod_of_nonneg (by omega)]; omega
  have ht16 : t < 16 := by omega
  obtain ⟨N, hN⟩ : ∃ N, N = 1016 + t := ⟨_, rfl⟩
  have eN : (1016 : Int) + (t : Int) = (N : Int) := by omega
  go_enter Try.func10, Try.ntmps10
  have hN2 : N < 1032 := by omega
  go_wp2
  rw [show (1016 + (n : Int) % 16) = (N : Int) by omega]
  clear et eN ht ht16 hN
  go_loopw [6, 7, 8] (fun s6 s7 s8 wr => ∃ j : Nat, j ≤ N ∧ s8 = .int .i64 j ∧ CLs wr w.heap.size s6 (sgl s (evs j)) ∧ CLs wr w.heap.size s7 (sgl s (ods j)) ∧ (∀ q, s6.ownBlock = some q → s7.ownBlock ≠ some q) ∧ w.grownBy wr none) (fun _ _ s8 _ => N - (intOf s8).toNat)
  case atStart => exact ⟨0, Nat.zero_le _, rfl, CLs.nil _ _, CLs.nil _ _, (fun q e => by cases e), gb_refl _ _⟩
  case round =>
    obtain ⟨j, hj, rfl, ha, hb, hd, hg⟩ := hrel
    obtain ⟨aa, ac, hA⟩ := ha.shape
    obtain ⟨ba, bc, hB⟩ := hb.shape
    subst hA
    subst hB
    have EL := Lib.hid (eo_len j)
    have le1 : (sgl s (evs j)).length + (sgl s (ods j)).length = j := by
      have := eo_len j
      unfold sgl
      rw [List.length_map, List.length_map]
      rwa [List.length_append] at this
    have HA := Lib.hid ha
    have HB := Lib.hid hb
    have HD := Lib.hid hd
    have HG := Lib.hid hg
    have LE := Lib.hid le1
    clear ha hb hd hg
    by_cases hlt : j < N
    · have i1 : (j : Int) < N := by omega
      have i0 : (0 : Int) ≤ (j : Int) := by omega
      have ew : IntKind.u64.wrap ((s : Int) + (j : Int)) = ((s + j : Nat) : Int) := by rw [IntKind.wrap_u64]; omega
      have es := evs_succ j
      have os := ods_succ j
      have la : (sgl s (evs j)).length ≤ 1000000 := by omega
      have lb : (sgl s (ods j)).length ≤ 1000000 := by omega
      generalize hva : (sgl s (evs j)).length = na at *
      generalize hvb : (sgl s (ods j)).length = nb at *
      have HVA := Lib.hid hva
      have HVB := Lib.hid hvb
      clear hva hvb le1
      obtain ⟨x, hx⟩ : ∃ x, x = s + j := ⟨_, rfl⟩
      rw [← hx] at ew
      have HX := Lib.hid hx
      clear hx
      have GA := Lib.hid (gb_trans (gb_alloc wr (.cells #[.int .u64 (x : Int), .int .u64 18446744073709551615] 49) none) (gb_alloc _ (.cells #[.int .u64 (x : Int), .int .u64 18446744073709551615] 49) none))
      have HGA := Lib.hid (gb_trans HG.out GA.out)
      have HA2 := Lib.hid (HA.out.keep0 GA.out)
      have HB2 := Lib.hid (HB.out.keep0 GA.out)
      have T2 := Lib.hid (two_cell ((wr.alloc (.cells #[.int .u64 (x : Int), .int .u64 18446744073709551615] 49)).alloc (.cells #[.int .u64 (x : Int), .int .u64 18446744073709551615] 49)) 49 (wr.heap.size + 1) (x, 18446744073709551615) _ (isb_two _ _ _ _) rfl)
      by_cases hev : j % 2 = 0
      · rw [if_pos hev] at es os
        have e2 : (j : Int) % 2 = 0 := by omega
        have ES := Lib.hid (show sgl s (evs (j + 1)) = sgl s (evs j) ++ [(x, 18446744073709551615)] by rw [es]; unfold sgl; rw [List.map_append, HX.out]; rfl)
        have OS := Lib.hid (show sgl s (ods (j + 1)) = sgl s (ods j) by rw [os, List.append_nil])
        clear es os hev
        go_wp2_with (at_builtin; refine pushCubeAt rfl _ _ rfl w.heap.size _ (sgl s (evs j)) rfl HA2.out _ _ (x, 18446744073709551615) rfl T2.out (by rw [HVA.out]; exact la) HGA.out.size ?_)
        intro V9 w9 o9 g9 at9
        have O9 := Lib.hid (show CLs w9 w.heap.size V9 (sgl s (evs (j + 1))) by rw [ES.out]; exact o9)
        have B9 := Lib.hid (show CLs w9 w.heap.size (.slice ba nb bc) (sgl s (ods (j + 1))) by
          rw [OS.out]
          refine World.ownsRow.kept HB2.out g9 ?_
          cases hq : (Value.slice ba nb bc).ownBlock with
          | none => exact .inl rfl
          | some q => exact .inr (fun e => HD.out q e.symm hq))
        have D9 := Lib.hid (show ∀ q, V9.ownBlock = some q → (Value.slice ba nb bc).ownBlock ≠ some q from fun q e1 e2 => by
          rcases at9 with h | h
          · exact HD.out q (by rw [← h]; exact e1) e2
          · rw [h] at e1
            have := (World.ownsRow.lt HB.out q e2).2
            have l2 := GA.out.size
            injection e1 with e1
            omega)
        have G9 := Lib.hid (gb_own HGA.out HA2.out (Nat.le_refl _) g9)
        clear o9 g9 at9
        go_wp2
        go_roundw
        case rel => exact ⟨j + 1, by omega, by go_num, O9.out, B9.out, D9.out, G9.out⟩
        case measure => simp [intOf]; omega
      · rw [if_neg hev] at es os
        have e2 : ¬ (j : Int) % 2 = 0 := by omega
        have e3 : (j : Int) % 2 = 1 := by omega
        have ES := Lib.hid (show sgl s (evs (j + 1)) = sgl s (evs j) by rw [es, List.append_nil])
        have OS := Lib.hid (show sgl s (ods (j + 1)) = sgl s (ods j) ++ [(x, 18446744073709551615)] by rw [os]; unfold sgl; rw [List.map_append, HX.out]; rfl)
        clear es os hev
        go_wp2_with (at_builtin; refine pushCubeAt rfl _ _ rfl w.heap.size _ (sgl s (ods j)) rfl HB2.out _ _ (x, 18446744073709551615) rfl T2.out (by rw [HVB.out]; exact lb) HGA.out.size ?_)
        intro V9 w9 o9 g9 at9
        have O9 := Lib.hid (show CLs w9 w.heap.size V9 (sgl s (ods (j + 1))) by rw [OS.out]; exact o9)
        have B9 := Lib.hid (show CLs w9 w.heap.size (.slice aa na ac) (sgl s (evs (j + 1))) by
          rw [ES.out]
          refine World.ownsRow.kept HA2.out g9 ?_
          cases hq : (Value.slice aa na ac).ownBlock with
          | none => exact .inl rfl
          | some q => exact .inr (fun e => HD.out q hq e.symm))
        have D9 := Lib.hid (show ∀ q, (Value.slice aa na ac).ownBlock = some q → V9.ownBlock ≠ some q from fun q e1 e2 => by
          rcases at9 with h | h
          · exact HD.out q e1 (by rw [← h]; exact e2)
          · rw [h] at e2
            have := (World.ownsRow.lt HA.out q e1).2
            have l2 := GA.out.size
            injection e2 with e2
            omega)
        have G9 := Lib.hid (gb_own HGA.out HB2.out (Nat.le_refl _) g9)
        clear o9 g9 at9
        go_wp2
        go_roundw
        case rel => exact ⟨j + 1, by omega, by go_num, B9.out, O9.out, D9.out, G9.out⟩
        case measure => simp [intOf]; omega
    · have hje : j = N := by omega
      subst hje
      have AP : sgl s (evs j) ++ sgl s (ods j) = sgl s (evs j ++ ods j) := by unfold sgl; rw [List.map_append]
      have BD : ∀ i ∈ evs j ++ ods j, B64 (s + i) := by
        intro i hi
        have : i < j := by
          rcases List.mem_append.1 hi with q | q
          · exact List.mem_range.1 (List.mem_filter.1 q).1
          · exact List.mem_range.1 (List.mem_filter.1 q).1
        unfold B64; omega
      have SL := sgl_simp s (evs j ++ ods j) (eo_nodup j) BD
      rw [eo_len] at SL
      have WF1 : ∀ E : List Nat, (∀ i ∈ E, B64 (s + i)) → ∀ p ∈ sgl s E, B64 p.1 ∧ B64 p.2 := by
        intro E hE p hp
        obtain ⟨i, hi, rfl⟩ := List.mem_map.1 hp
        exact ⟨hE i hi, by show (18446744073709551615 : Nat) < 18446744073709551616; decide⟩
      have SA := sc_own HA.out (WF1 _ (fun i hi => BD i (List.mem_append.2 (.inl hi))))
      have SB := sc_own HB.out (WF1 _ (fun i hi => BD i (List.mem_append.2 (.inr hi))))
      have UN := union_any wr aa ba _ ac _ bc (sgl s (evs j)) (sgl s (ods j)) SA SB (by omega) (by omega)
      rw [AP] at UN
      have lel := LE.out
      clear SA SB HA HB AP BD WF1 LE HD EL le1
      generalize (sgl s (evs j)).length = na at *
      generalize (sgl s (ods j)).length = nb at *
      generalize evs j ++ ods j = E at *
      unfold RetCE stepL stepE at UN
      by_cases hbig : 1024 < j
      · have hb2 : (1024 : Int) < (j : Int) := by omega
        rw [if_pos (by rw [SL]; exact hbig), if_pos (by rw [SL]; exact hbig)] at UN
        clear SL
        go_wp2_with fail
        refine UN.mono ?_
        rintro e w2 ⟨V2, rfl, o2, g2⟩
        obtain ⟨ra, rc, hV⟩ := o2.shape
        have hV : V2 = .slice ra 0 rc := hV
        subst hV
        have G2 := Lib.hid (gb_trans HG.out g2)
        clear o2 g2 UN
        go_wp2_with fail
        refine (WK.out _).mono ?_
        rintro e w3 ⟨rfl, g3⟩
        have G3 := Lib.hid (gb_trans G2.out g3)
        clear g3
        go_wp2
        go_ret
        exact ⟨rfl, G3.out⟩
      · have hb2 : ¬ (1024 : Int) < (j : Int) := by omega
        rw [if_neg (by rw [SL]; exact hbig), if_neg (by rw [SL]; exact hbig)] at UN
        go_wp2_with fail
        refine UN.mono ?_
        rintro e w2 ⟨V2, rfl, o2, g2⟩
        obtain ⟨ra, rc, hV⟩ := o2.shape
        rw [SL] at hV
        subst hV
        have G2 := Lib.hid (gb_trans HG.out g2)
        clear o2 g2 UN SL hbig
        go_wp2_with fail
        refine (WK.out _).mono ?_
        rintro e w3 ⟨rfl, g3⟩
        have G3 := Lib.hid (gb_trans G2.out g3)
        clear g3
        go_wp2
        go_ret
        exact ⟨rfl, G3.out⟩
theorem limit_law (a0 a1 : Int) (W : World) (w0 : (Lit.int .u8 a0).wf = true) (w1 : (Lit.int .u32 a1).wf = true) : Calls Try.prog 10 #[.int .u8 a0, .int .u32 a1] W (fun e w' => e = .returned (.bool true) ∧ Below W.heap.size W w') := by
  have h0 := u8_bd w0
  have h1 := u32_bd w1
  obtain ⟨n, rfl⟩ : ∃ n : Nat, a0 = (n : Int) := ⟨a0.toNat, by omega⟩
  obtain ⟨s, rfl⟩ : ∃ s : Nat, a1 = (s : Int) := ⟨a1.toNat, by omega⟩
  refine (limit_walk W n s (by omega) (by omega)).mono ?_
  rintro e w' ⟨rfl, g⟩
  exact ⟨rfl, (gr_gb g).below⟩
end Go.Proofs.Yteemhabgliglmaa
