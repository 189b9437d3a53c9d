/- The law LexerIdentifies: its theory and its walk; no condition. -/
import Derived.Test.YtmbdpiffdiiggaaLxJ
namespace Go.Proofs.Ytmbdpiffdiiggaa
open Go.RowKit
set_option linter.unusedVariables false

theorem tokF_step (f : Nat) (line : Int) (acc : List Tok) (L : List Int) : tokF (f + 1) line acc L =
    if L.drop (skipK false L) = [] then (acc, 0, 0)
    else if acc.length = 4096 then ([], line + nl (L.take (skipK false L)), 12)
    else if (firstT (L.drop (skipK false L))).err ≠ 0 then ([], line + nl (L.take (skipK false L)), (firstT (L.drop (skipK false L))).err)
    else tokF f (line + nl (L.take (skipK false L))) (acc ++ [⟨(firstT (L.drop (skipK false L))).kind, (firstT (L.drop (skipK false L))).text, (firstT (L.drop (skipK false L))).val, line + nl (L.take (skipK false L))⟩])
      ((L.drop (skipK false L)).drop (firstT (L.drop (skipK false L))).text.length) := rfl
theorem tokF_pre (f : Nat) : ∀ (line : Int) (acc : List Tok) (L : List Int), L.length < f → (tokF f line acc L).2.2 = 0 → ∃ t, (tokF f line acc L).1 = acc ++ t := by
  induction f with
  | zero => intro line acc L h; omega
  | succ f ih =>
    intro line acc L hf he
    rw [tokF_step] at he ⊢
    by_cases c1 : L.drop (skipK false L) = []
    · rw [if_pos c1]; exact ⟨[], by simp⟩
    · rw [if_neg c1] at he ⊢
      by_cases c2 : acc.length = 4096
      · rw [if_pos c2] at he; exact absurd he (by simp)
      · rw [if_neg c2] at he ⊢
        by_cases c3 : (firstT (L.drop (skipK false L))).err = 0
        · rw [if_neg (by simpa using c3)] at he ⊢
          have p := first_ok _ c1 c3
          have q := List.length_pos_iff.2 c1
          simp only [List.length_drop] at q
          obtain ⟨t, ht⟩ := ih _ _ _ (by simp only [List.length_drop]; omega) he
          exact ⟨_, ht.trans (List.append_assoc _ _ _)⟩
        · rw [if_pos (by simpa using c3)] at he
          exact absurd he c3
theorem isL_ans (x : Int) (h : isL x = true) : ans false x = false := by
  unfold isL at h
  have h := of_decide_eq_true h
  unfold ans cst
  rw [if_neg (by omega), if_neg (by omega)]
  simp
  omega
theorem tok_single (L : List Int) (h : isId L = true) : tokR L = ([⟨1, L, 0, 1⟩], 0, 0) := by
  obtain ⟨h0, h16, hl, hs⟩ := of_decide_eq_true h
  cases L with
  | nil => exact absurd rfl h0
  | cons x T =>
    have hx : isL x = true := by simpa using hl
    have k0 : skipK false (x :: T) = 0 := by show (if _ then _ else _) = _; rw [if_neg (by rw [isL_ans x hx]; simp)]
    have hF : firstT (x :: T) = ⟨1, x :: T, 0, 0⟩ := by
      unfold firstT
      rw [if_pos hl, hs, List.take_length]
      exact if_pos h16
    unfold tokR
    rw [if_neg (by omega), tokF_step, k0, List.drop_zero, List.take_zero, if_neg (by simp), if_neg (by simp), hF, if_neg (by simp)]
    have e : (x :: T).length = T.length + 1 := rfl
    rw [List.drop_length, e, tokF_step]
    simp [skipK, nl]
theorem tok_one (L : List Int) (hL : ∀ x ∈ L, 0 ≤ x ∧ x ≤ 255) (hl : L.length ≤ 16384) (t : Tok) (he : (tokR L).2.2 = 0) (h : (tokR L).1 = [t]) : (∀ x ∈ t.text, 0 ≤ x ∧ x ≤ 255) ∧ (t.kind = 1 → t.text = L → isId L = true) := by
  unfold tokR at he h
  rw [if_neg (by omega), tokF_step] at he h
  by_cases c1 : L.drop (skipK false L) = []
  · rw [if_pos c1] at h; exact absurd h (by simp)
  · rw [if_neg c1, if_neg (by simp)] at he h
    by_cases c3 : (firstT (L.drop (skipK false L))).err = 0
    · rw [if_neg (by simpa using c3)] at he h
      have p := first_ok _ c1 c3
      have q := List.length_pos_iff.2 c1
      simp only [List.length_drop] at q
      obtain ⟨s, hs⟩ := tokF_pre _ _ _ _ (by simp only [List.length_drop]; omega) he
      rw [hs] at h
      simp only [List.nil_append, List.singleton_append, List.cons.injEq] at h
      obtain ⟨rfl, _⟩ := h
      refine ⟨fun x hx => hL x ?_, ?_⟩
      · simp only at hx
        rw [p.2] at hx
        exact List.mem_of_mem_drop (List.mem_of_mem_take hx)
      · simp only
        intro hk ht
        have hlen := congrArg List.length p.2
        rw [ht] at hlen
        simp only [List.length_take, List.length_drop] at hlen
        have k0 : skipK false L = 0 := by
          rcases Nat.eq_zero_or_pos (skipK false L) with e | e
          · exact e
          · have : 0 < L.length := by
              have := p.1; rw [ht] at this; omega
            omega
        rw [k0, List.drop_zero] at hk ht c1 c3
        unfold firstT at hk ht c3
        by_cases d1 : isL (L.getD 0 0) = true
        · rw [if_pos d1] at hk ht c3
          unfold nameT at hk ht c3
          by_cases d2 : (L.take (spanK isW L)).length ≤ 16
          · rw [if_pos d2] at ht
            simp only at ht
            have e1 := congrArg List.length ht
            simp only [List.length_take] at e1
            have e2 := spanK_le isW L
            rw [ht] at d2
            exact decide_eq_true ⟨c1, d2, d1, by omega⟩
          · rw [if_neg d2] at hk; exact absurd hk (by decide)
        · rw [if_neg d1] at hk
          by_cases d2 : isD (L.getD 0 0) = true
          · rw [if_pos d2] at hk
            unfold numT at hk
            split at hk <;> exact absurd hk (by simp [noTk])
          · rw [if_neg d2] at hk
            unfold symT at hk
            split at hk <;> exact absurd hk (by simp [noTk])
    · rw [if_pos (by simpa using c3)] at he
      exact absurd he c3

set_option maxRecDepth 100000 in
set_option maxHeartbeats 1000000 in
theorem identifies_walk (s : ByteArray) (W : World) : Calls Try.prog 4 #[.string s] W (HoldsT W) := by
  have es := bytesI_str s
  have hr := bytesI_range s
  have hl := bytesI_len s
  generalize bytesI s = L at *
  by_cases hc : s.size ≤ 300
  · have H1 := Lib.hid (fun w => isIdent_any w L hr (by omega))
    have H2 := Lib.hid (fun w => tokenize_any w L hr (by omega))
    have H3 := Lib.hid (fun w => risIdent_any w L hr (by omega))
    rw [es] at H1 H2 H3
    have q1 : (s.toList == s.toList) = true := by rw [beq_iff_eq]
    have i0 : ¬ (300 : Int) < s.size := by omega
    cases hb : isId L
    · have HO := Lib.hid (tok_one L hr (by omega))
      have HB := Lib.hid hb
      rw [hb] at H1 H3
      clear hb
      obtain ⟨M, ln, er, hm⟩ : ∃ M ln er, tokR L = (M, ln, er) := ⟨_, _, _, rfl⟩
      rw [hm] at H2 HO
      clear hm
      by_cases he : er = 0
      · subst he
        by_cases h1 : M.length = 1
        · obtain ⟨t, rfl⟩ : ∃ t, M = [t] := by
            match M, h1 with
            | [t], _ => exact ⟨t, rfl⟩
          obtain ⟨tr, tn⟩ := HO.out t rfl rfl
          obtain ⟨kd, tx, v, tl⟩ := t
          simp only at tr tn
          have HN := Lib.hid tn
          have HR := Lib.hid tr
          clear tr tn HO h1
          by_cases hk : kd = 1
          · have hx : ((strOf tx).toList == s.toList) = false := by
              rw [← es]
              exact strOf_ne HR.out hr (fun e => by have := HN.out hk e; rw [HB.out] at this; cases this)
            subst hk
            clear hr es
            obtain ⟨u, hu⟩ : ∃ u, u = strOf tx := ⟨_, rfl⟩
            rw [← hu] at hx
            go_enter Try.func4, Try.ntmps4
            go_wp2_with fail
            refine (H1.out _).mono ?_
            rintro e w1 ⟨rfl, rfl⟩
            go_wp2_with fail
            refine (H2.out _).mono ?_
            rintro e w2 ⟨V, rfl, o2, g2⟩
            obtain ⟨g, c, rfl⟩ := o2.head (by simp)
            obtain ⟨a0, a1, a2, a3⟩ := o2.cells 0 (by simp)
            simp only [List.getD_cons_zero, Nat.mul_zero, Nat.zero_add, List.length_cons, List.length_nil] at a0 a1 a2 a3 ⊢
            rw [← hu] at a1
            clear hu
            clear o2
            go_wp2_with fail
            refine (H3.out _).mono ?_
            rintro e w3 ⟨rfl, rfl⟩
            go_wp2_with fail
            refine (works_any _).mono ?_
            rintro e w6 ⟨rfl, g6, _⟩
            have G6 := Lib.hid (gb_trans g2 g6)
            clear g6
            go_wp2
            go_ret
            exact ⟨rfl, gb_below0 G6.out⟩
          · have hk2 : (kd == 1) = false := by rw [beq_eq_false_iff_ne]; exact hk
            clear hr es
            obtain ⟨u, hu⟩ : ∃ u, u = strOf tx := ⟨_, rfl⟩
            go_enter Try.func4, Try.ntmps4
            go_wp2_with fail
            refine (H1.out _).mono ?_
            rintro e w1 ⟨rfl, rfl⟩
            go_wp2_with fail
            refine (H2.out _).mono ?_
            rintro e w2 ⟨V, rfl, o2, g2⟩
            obtain ⟨g, c, rfl⟩ := o2.head (by simp)
            obtain ⟨a0, a1, a2, a3⟩ := o2.cells 0 (by simp)
            simp only [List.getD_cons_zero, Nat.mul_zero, Nat.zero_add, List.length_cons, List.length_nil] at a0 a1 a2 a3 ⊢
            rw [← hu] at a1
            clear hu
            clear o2
            go_wp2_with fail
            refine (H3.out _).mono ?_
            rintro e w3 ⟨rfl, rfl⟩
            go_wp2_with fail
            refine (works_any _).mono ?_
            rintro e w6 ⟨rfl, g6, _⟩
            have G6 := Lib.hid (gb_trans g2 g6)
            clear g6
            go_wp2
            go_ret
            exact ⟨rfl, gb_below0 G6.out⟩
        · have i1 : ((M.length : Int) == 1) = false := by rw [beq_eq_false_iff_ne]; omega
          clear HO hr es
          go_enter Try.func4, Try.ntmps4
          go_wp2_with fail
          refine (H1.out _).mono ?_
          rintro e w1 ⟨rfl, rfl⟩
          go_wp2_with fail
          refine (H2.out _).mono ?_
          rintro e w2 ⟨V, rfl, o2, g2⟩
          obtain ⟨a, c, rfl⟩ := o2.shape
          clear o2
          go_wp2_with fail
          refine (H3.out _).mono ?_
          rintro e w3 ⟨rfl, rfl⟩
          go_wp2_with fail
          refine (works_any _).mono ?_
          rintro e w6 ⟨rfl, g6, _⟩
          have G6 := Lib.hid (gb_trans g2 g6)
          clear g6
          go_wp2
          go_ret
          exact ⟨rfl, gb_below0 G6.out⟩
      · have i1 : (er == 0) = false := by rw [beq_eq_false_iff_ne]; exact he
        clear HO hr es
        go_enter Try.func4, Try.ntmps4
        go_wp2_with fail
        refine (H1.out _).mono ?_
        rintro e w1 ⟨rfl, rfl⟩
        go_wp2_with fail
        refine (H2.out _).mono ?_
        rintro e w2 ⟨V, rfl, o2, g2⟩
        obtain ⟨a, c, rfl⟩ := o2.shape
        clear o2
        go_wp2_with fail
        refine (H3.out _).mono ?_
        rintro e w3 ⟨rfl, rfl⟩
        go_wp2_with fail
        refine (works_any _).mono ?_
        rintro e w6 ⟨rfl, g6, _⟩
        have G6 := Lib.hid (gb_trans g2 g6)
        clear g6
        go_wp2
        go_ret
        exact ⟨rfl, gb_below0 G6.out⟩
    · have HT := tok_single L hb
      rw [HT] at H2
      rw [hb] at H1 H3
      clear hb HT hr
      go_enter Try.func4, Try.ntmps4
      go_wp2_with fail
      refine (H1.out _).mono ?_
      rintro e w1 ⟨rfl, rfl⟩
      go_wp2_with fail
      refine (H2.out _).mono ?_
      rintro e w2 ⟨V, rfl, o2, g2⟩
      obtain ⟨g, c, rfl⟩ := o2.head (by simp)
      obtain ⟨a0, a1, a2, a3⟩ := o2.cells 0 (by simp)
      simp only [List.getD_cons_zero, Nat.mul_zero, Nat.zero_add, List.length_cons, List.length_nil] at a0 a1 a2 a3 ⊢
      rw [es] at a1
      clear o2
      go_wp2_with fail
      refine (H3.out _).mono ?_
      rintro e w3 ⟨rfl, rfl⟩
      go_wp2_with fail
      refine (works_any _).mono ?_
      rintro e w6 ⟨rfl, g6, _⟩
      have G6 := Lib.hid (gb_trans g2 g6)
      clear g6
      go_wp2
      go_ret
      exact ⟨rfl, gb_below0 G6.out⟩
  · have i0 : (300 : Int) < s.size := by omega
    go_enter Try.func4, Try.ntmps4
    go_wp2_with fail
    refine (works_any _).mono ?_
    rintro e w6 ⟨rfl, g6, _⟩
    have G6 := Lib.hid g6
    clear g6
    go_wp2
    go_ret
    exact ⟨rfl, gb_below0 G6.out⟩
end Go.Proofs.Ytmbdpiffdiiggaa
