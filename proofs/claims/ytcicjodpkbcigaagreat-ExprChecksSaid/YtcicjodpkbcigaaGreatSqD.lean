/- Expr: the reference's Headers and End; no condition but that lists are short. -/
import Derived.Test.YtcicjodpkbcigaaGreatSqC
namespace Go.Proofs.YtcicjodpkbcigaaGreat
open Go.RowKit
set_option linter.unusedVariables false
/-- The headers that are asked for. -/
def vH (N : List Nd) : List Int := N.filterMap (fun x => if x.1 = 4 then some x.2.1 else none)
def lI (a b : Int) : Prop := a < b
theorem addA_len {α : Type} [DecidableEq α] (lt : α → α → Prop) [DecidableRel lt] (x : α) (l : List α) : (addA lt x l).length ≤ l.length + 1 := by
  induction l with
  | nil => simp [addA]
  | cons a l ih =>
    unfold addA
    split
    · simp; omega
    · split <;> simp
theorem allA_len {α : Type} [DecidableEq α] (lt : α → α → Prop) [DecidableRel lt] (M : List α) : (allA lt M).length ≤ M.length := by
  suffices h : ∀ (R : List α), (M.foldl (fun l x => addA lt x l) R).length ≤ R.length + M.length by have := h []; simpa [allA] using this
  induction M with
  | nil => intro R; simp
  | cons y M ih => intro R; rw [List.foldl_cons]; have h1 := ih (addA lt y R); have h2 := addA_len lt y R; simp; omega
theorem take_nd (N : List Nd) (i : Nat) (h : i < N.length) : N.take (i + 1) = N.take i ++ [N.getD i nz] := by
  rw [List.take_add_one, List.getD_eq_getElem?_getD, List.getElem?_eq_getElem h]; rfl
theorem vH_len (N : List Nd) : (vH N).length ≤ N.length := List.length_filterMap_le _ _
def aHs (N : List Nd) : List Int := allA (fun a b : Int => a < b) (vH N)
theorem aHs_len (N : List Nd) : (aHs N).length ≤ N.length := Nat.le_trans (allA_len _ _) (vH_len N)
theorem aHs_yes (N : List Nd) (x : Nd) (h : x.1 = 4) : aHs (N ++ [x]) = aI x.2.1 (aHs N) := by
  unfold aHs vH
  rw [List.filterMap_append]
  simp only [List.filterMap_cons, List.filterMap_nil, h, if_true]
  exact allA_snoc _ _ _
theorem aHs_no (N : List Nd) (x : Nd) (h : ¬ x.1 = 4) : aHs (N ++ [x]) = aHs N := by
  unfold aHs vH
  rw [List.filterMap_append]
  simp only [List.filterMap_cons, List.filterMap_nil, h, if_false, List.append_nil]
set_option maxRecDepth 100000 in
set_option maxHeartbeats 8000000 in
theorem rheaders_any (w : World) (a : Option Addr) (n c : Nat) (N : List Nd) (hN : SN w a n c N) (hn : n ≤ 500) :
    Calls Tryz.prog 16 #[.slice a n c] w (RetNX (aHs N) w) := by
  have HN := Lib.hid hN
  have LN := Lib.hid hN.len
  have ncap := hN.cap
  clear hN
  go_enter Tryz.func16, Tryz.ntmps16
  go_wp2
  go_loopw [3, 4] (fun s3 s4 wr => ∃ (i m : Nat) (b : Option Addr) (d : Nat), i ≤ n ∧ s4 = .int .i64 i ∧ s3 = .slice b m d ∧ (aHs (N.take i)).length = m ∧ NL wr w.heap.size (.slice b m d) (aHs (N.take i)) ∧ w.grownBy wr none) (fun _ s4 _ => n - (intOf s4).toNat)
  case atStart => exact ⟨0, 0, none, 0, Nat.zero_le _, rfl, rfl, rfl, NL.nil _ _, gb_refl _ _⟩
  case round =>
    obtain ⟨i, m, b, d, hi, rfl, rfl, hm, ho, hg⟩ := hrel
    have OM := Lib.hid hm
    have O := Lib.hid ho
    have G := Lib.hid hg
    clear hm ho hg
    by_cases hlt : i < n
    · have i1 : (i : Int) < n := by omega
      have i0 : (0 : Int) ≤ (i : Int) := by omega
      have hw : IntKind.i64.wrap ((i : Int) + 1) = ((i + 1 : Nat) : Int) := by rw [IntKind.wrap_i64]; omega
      obtain ⟨ad, rfl⟩ := HN.out.some (by omega)
      obtain ⟨n0, n1, n2⟩ := (HN.out.keep0 G.out).cells ad rfl i hlt
      have TK := Lib.hid (take_nd N i (by rw [LN.out]; exact hlt))
      have ML := Lib.hid (show m ≤ 500 by rw [← OM.out]; have := aHs_len (N.take i); rw [List.length_take] at this; omega)
      generalize N.getD i nz = x at *
      obtain ⟨op, nn, wd⟩ := x
      dsimp only at n0 n1 n2
      by_cases h4 : op = 4
      · subst h4
        have EQ := Lib.hid (show aHs (N.take (i + 1)) = aI nn (aHs (N.take i)) by rw [TK.out]; exact aHs_yes _ (4, nn, wd) rfl)
        have AI := Lib.hid (raddint_any wr b m d (aHs (N.take i)) (O.out.slr (by rw [OM.out])) (by have := ML.out; omega) nn)
        unfold RetNX at AI
        go_wp2_with (go_at_call 32; refine AI.out.mono ?_; rintro e w5 ⟨a5, c5, rfl, o5, g5⟩; have O5 := Lib.hid o5; have G5 := Lib.hid g5; clear o5 g5)
        obtain ⟨m5, hm5⟩ : ∃ m5, m5 = (aI nn (aHs (N.take i))).length := ⟨_, rfl⟩
        rw [← hm5] at O5 ⊢
        go_roundw
        case rel => exact ⟨i + 1, m5, a5, c5, by omega, by go_num, rfl, by rw [EQ.out, hm5], by rw [EQ.out]; exact own_low O5.out G.out.size, gb_trans G.out G5.out⟩
        case measure => simp [intOf]; omega
      · have q0 : (op == 4) = false := by rw [beq_eq_false_iff_ne]; exact h4
        have EQ := Lib.hid (show aHs (N.take (i + 1)) = aHs (N.take i) by rw [TK.out]; exact aHs_no _ (op, nn, wd) h4)
        go_wp2
        go_roundw
        case rel => exact ⟨i + 1, m, b, d, by omega, by go_num, rfl, by rw [EQ.out, OM.out], by rw [EQ.out]; exact O.out, G.out⟩
        case measure => simp [intOf]; omega
    · have i1 : ¬ (i : Int) < n := by omega
      have TN := Lib.hid (show N.take i = N from List.take_of_length_le (by rw [LN.out]; omega))
      go_wp2
      go_ret
      exact ⟨b, d, by rw [← TN.out, OM.out] <;> rfl, by rw [← OM.out, TN.out] at O; exact O.out, G.out⟩
set_option maxRecDepth 100000 in
set_option maxHeartbeats 8000000 in
theorem rend_any (w : World) (a : Option Addr) (n c : Nat) (N : List Nd) (hN : SN w a n c N) (hn : n ≤ 500) (i : Int) :
    Calls Tryz.prog 10 #[.slice a n c, .int .i64 i] w (RetV (.int .i64 (endT N i)) w) := by
  have HN := Lib.hid hN
  have LN := Lib.hid hN.len
  have ncap := hN.cap
  have HD := Lib.hid (show endT N i = if isX i n = true then scanT (N.drop i.toNat) 1 i else -1 by unfold endT; rw [LN.out])
  obtain ⟨R, hR⟩ : ∃ R, R = endT N i := ⟨_, rfl⟩
  rw [← hR] at HD ⊢
  clear hN hR
  go_enter Tryz.func10, Tryz.ntmps10
  by_cases h0 : i < 0
  · have HS := Lib.hid (show R = -1 by rw [HD.out, if_neg (by rw [isX_iff]; omega)])
    go_wp2
    go_ret
    exact ⟨by rw [HS.out] <;> rfl, gb_refl _ _⟩
  by_cases h1 : (n : Int) ≤ i
  · have HS := Lib.hid (show R = -1 by rw [HD.out, if_neg (by rw [isX_iff]; omega)])
    go_wp2
    go_ret
    exact ⟨by rw [HS.out] <;> rfl, gb_refl _ _⟩
  obtain ⟨j, rfl⟩ : ∃ j : Nat, i = (j : Int) := ⟨i.toNat, by omega⟩
  have HS := Lib.hid (show R = scanT (N.drop j) 1 (j : Int) by rw [HD.out, if_pos (by rw [isX_iff]; omega)]; rfl)
  obtain ⟨ad, rfl⟩ := HN.out.some (by omega)
  clear HD
  go_wp2
  go_loopw [5, 6, 7] (fun s5 s6 s7 wr => ∃ (t : Nat) (m : Int), t ≤ n ∧ s6 = .int .i64 t ∧ s5 = .int .i64 m ∧ 1 ≤ m ∧ m ≤ 2 * (t : Int) + 1 ∧ R = scanT (N.drop t) m (t : Int) ∧ w.grownBy wr none) (fun _ s6 _ _ => n - (intOf s6).toNat)
  case atStart => exact ⟨j, 1, by omega, rfl, rfl, Int.le_refl _, by omega, HS.out, gb_refl _ _⟩
  case round =>
    obtain ⟨t, m, ht, rfl, rfl, hm1, hm2, hr, hg⟩ := hrel
    have RR := Lib.hid hr
    have G := Lib.hid hg
    clear hr hg HS
    by_cases hlt : t < n
    · have i1 : (t : Int) < n := by omega
      have i0 : (0 : Int) ≤ (t : Int) := by omega
      have hw : IntKind.i64.wrap ((t : Int) + 1) = ((t + 1 : Nat) : Int) := by rw [IntKind.wrap_i64]; omega
      obtain ⟨n0, n1, n2⟩ := (HN.out.keep0 G.out).cells ad rfl t hlt
      have DR := Lib.hid (drop_cons (N := N) (k := t) (by rw [LN.out]; exact hlt))
      generalize N.getD t nz = x at *
      obtain ⟨op, nn, wd⟩ := x
      dsimp only at n0 n1 n2
      rw [DR.out] at RR
      have SC := Lib.hid (scan_cons (op, nn, wd) (N.drop (t + 1)) m (t : Int))
      have AR := Lib.hid (fun w => rarity_any w op)
      unfold RetS at AR
      cases hb : arB op with
      | false =>
        have e1 : arI op = -1 := by unfold arI; rw [hb]; rfl
        have RN := Lib.hid (show R = -1 by rw [RR.out, SC.out]; show (if arB op = true then _ else _) = _; rw [hb]; rfl)
        rw [e1] at AR
        clear e1 hb SC RR
        go_wp2_with (go_at_call 24; refine (AR.out _).mono ?_; rintro e w5 ⟨rfl, hz⟩; obtain rfl := hz.symm; clear hz)
        go_ret
        exact ⟨by rw [RN.out] <;> rfl, G.out⟩
      | true =>
        have e1 : arI op = ((arN op : Nat) : Int) := by unfold arI; rw [hb]; rfl
        have CN : arN op ≤ 3 := by unfold arN; split <;> (try split) <;> (try split) <;> (try split) <;> decide
        have RN := Lib.hid (show R = if m + ((arN op : Nat) : Int) - 1 = 0 then (t : Int) + 1 else scanT (N.drop (t + 1)) (m + ((arN op : Nat) : Int) - 1) ((t : Int) + 1) by rw [RR.out, SC.out]; show (if arB op = true then _ else _) = _; rw [if_pos hb])
        rw [e1] at AR
        clear e1 hb SC RR
        generalize arN op = k at *
        have k0 : (0 : Int) ≤ (k : Int) := by omega
        have k1 : ¬ (k : Int) < 0 := by omega
        have hk : IntKind.i64.wrap ((k : Int) - 1) = (k : Int) - 1 := by rw [IntKind.wrap_i64]; omega
        have hm : IntKind.i64.wrap (m + ((k : Int) - 1)) = m + (k : Int) - 1 := by rw [IntKind.wrap_i64]; omega
        by_cases hz : m + (k : Int) - 1 = 0
        · have RN2 := Lib.hid (show R = ((t + 1 : Nat) : Int) by rw [RN.out, if_pos hz]; omega)
          clear RN
          rw [hz] at hm
          go_wp2_with (go_at_call 24; refine (AR.out _).mono ?_; rintro e w5 ⟨rfl, hz⟩; obtain rfl := hz.symm; clear hz)
          go_ret
          exact ⟨by rw [RN2.out] <;> rfl, G.out⟩
        · have RN2 := Lib.hid (show R = scanT (N.drop (t + 1)) (m + (k : Int) - 1) ((t + 1 : Nat) : Int) by rw [RN.out, if_neg hz]; rfl)
          clear RN
          obtain ⟨m9, hm9⟩ : ∃ m9, m9 = m + (k : Int) - 1 := ⟨_, rfl⟩
          rw [← hm9] at hm hz RN2
          have z0 : (m9 == 0) = false := by rw [beq_eq_false_iff_ne]; exact hz
          have z1 := Lib.hid (show 1 ≤ m9 ∧ m9 ≤ 2 * ((t + 1 : Nat) : Int) + 1 by omega)
          clear hm9
          go_wp2_with (go_at_call 24; refine (AR.out _).mono ?_; rintro e w5 ⟨rfl, hz⟩; obtain rfl := hz.symm; clear hz)
          go_roundw
          case rel => exact ⟨t + 1, m9, by omega, by go_num, rfl, z1.out.1, z1.out.2, RN2.out, G.out⟩
          case measure => simp [intOf]; omega
    · have i1 : ¬ (t : Int) < n := by omega
      have RN := Lib.hid (show R = -1 by rw [RR.out, List.drop_of_length_le (by rw [LN.out]; omega)]; rfl)
      go_wp2
      go_ret
      exact ⟨by rw [RN.out] <;> rfl, G.out⟩
end Go.Proofs.YtcicjodpkbcigaaGreat
