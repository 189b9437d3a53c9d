/- The reference's first token of a text at a symbol: theory and walks; no condition but sizes and the bytes' range. -/
import Derived.Test.YtmbdpiffdiiggaaLxP
namespace Go.Proofs.Ytmbdpiffdiiggaa
open Go.RowKit
set_option linter.unusedVariables false

def symL : List (List Int) := twoS ++ oneS.map fun c => [c]
def symHit (L : List Int) (j : Nat) : Prop := (symL.getD j []).length ≤ L.length ∧ L.take (symL.getD j []).length = symL.getD j []
theorem symL_two : ∀ j, j < 9 → (symL.getD j []) ∈ twoS ∧ (symL.getD j []).length = 2 := by decide
theorem symL_one : ∀ j, j < 34 → 9 ≤ j → (symL.getD j []).length = 1 ∧ (symL.getD j []).getD 0 0 ∈ oneS := by decide
theorem symL_len : ∀ j, j < 34 → 1 ≤ (symL.getD j []).length ∧ (symL.getD j []).length ≤ 2 := by decide
theorem symL_range : ∀ j, j < 34 → ∀ x ∈ symL.getD j [], 0 ≤ x ∧ x ≤ 255 := by decide
theorem two_in : ∀ p ∈ twoS, ∃ j, j < 9 ∧ symL.getD j [] = p := by decide
theorem one_in : ∀ c ∈ oneS, ∃ j, j < 34 ∧ symL.getD j [] = [c] := by decide
theorem two_len : ∀ p ∈ twoS, p.length = 2 := by decide
theorem sym_hit (L : List Int) (k : Nat) (hk : k < 34) (h : symHit L k) (hno : ∀ j, j < k → ¬ symHit L j) : symK L = (symL.getD k []).length ∧ L.take (symK L) = symL.getD k [] := by
  have e : symK L = (symL.getD k []).length := by
    by_cases h9 : k < 9
    · have t := symL_two k h9
      have q := h
      unfold symHit at q
      rw [t.2] at q ⊢
      unfold symK
      rw [if_pos ⟨by omega, by rw [q.2]; exact t.1⟩]
    · have t := symL_one k hk (by omega)
      have q := h
      unfold symHit at q
      rw [t.1] at q ⊢
      unfold symK
      rw [if_neg, if_pos]
      · have e2 : L.getD 0 0 = (symL.getD k []).getD 0 0 := by
          rw [← q.2]
          cases L with
          | nil => simp at q
          | cons x t => simp
        rw [e2]; exact t.2
      · intro hh
        obtain ⟨j, hj, e3⟩ := two_in _ hh.2
        refine hno j (by omega) ?_
        unfold symHit
        rw [e3, List.length_take]
        have e4 : min 2 L.length = 2 := by omega
        rw [e4]
        exact ⟨by omega, rfl⟩
  exact ⟨e, by rw [e]; exact h.2⟩
theorem sym_none (L : List Int) (h1 : 1 ≤ L.length) (hno : ∀ j, j < 34 → ¬ symHit L j) : symK L = 0 := by
  unfold symK
  rw [if_neg, if_neg]
  · intro hh
    obtain ⟨j, hj, e3⟩ := one_in _ hh
    refine hno j hj ?_
    unfold symHit
    rw [e3]
    cases L with
    | nil => simp at h1
    | cons x t => exact ⟨by simp, by simp⟩
  · intro hh
    obtain ⟨j, hj, e3⟩ := two_in _ hh.2
    refine hno j (by omega) ?_
    unfold symHit
    rw [e3, List.length_take]
    have e4 : min 2 L.length = 2 := by omega
    rw [e4]
    exact ⟨by omega, rfl⟩

/-- The strings of the symbols, in memory. -/
def SymB (w : World) (g : Nat) : Prop := ∀ i, i < 34 → w.cell? ⟨g, i, none⟩ = some (.string (strOf (symL.getD i [])))
theorem SymB.keep0 {w w2 : World} {g : Nat} (h : SymB w g) (k : w.grownBy w2 none) : SymB w2 g := fun i hi => k.cell (h i hi) (by simp)
theorem symB_of {w : World} {g : Nat} {t : TypeId} {cs : Array Value} (h : IsB w g t cs) (hc : cs.toList = symL.map fun p => Value.string (strOf p)) : SymB w g := by
  intro i hi
  rw [h.cell i]
  have e : cs[i]? = cs.toList[i]? := by simp
  have hl : symL.length = 34 := rfl
  rw [e, hc, List.getElem?_map]
  simp [hl, hi]
set_option maxRecDepth 100000 in
theorem symbols_any (w : World) : Calls Try.prog 71 #[] w fun e w' => ∃ g, e = .returned (.slice (some ⟨g, 0, none⟩) 34 34) ∧ w.grownBy w' none ∧ SymB w' g := by
  go_enter Try.func71, Try.ntmps71
  go_wp2
  go_ret
  exact ⟨_, rfl, gb_alloc _ _ _, symB_of (IsB.new _ _ _) rfl⟩

set_option maxRecDepth 100000 in
set_option maxHeartbeats 1000000 in
theorem rfirst_sym (w : World) (L : List Int) (hL : ∀ x ∈ L, 0 ≤ x ∧ x ≤ 255) (hl : L.length ≤ 1000000) (h1 : 1 ≤ L.length) (hb : isL (L.getD 0 0) = false) (hd : isD (L.getD 0 0) = false) :
    Calls Try.prog 47 #[.string (strOf L)] w (RetQ (tokV (rfT L).kind (rfT L).text (rfT L).val) w none fun _ => True) := by
  have z := strOf_size L
  have HI0 := strOf_at L hL 0
  have hx := getD_byte hL 0
  have HL := Lib.hid (fun w => rletter_any w (L.getD 0 0) hx.1 hx.2)
  have HD := Lib.hid (fun w => rdigit5_any w (L.getD 0 0) hx.1 hx.2)
  have HF := Lib.hid (show rfT L = if symK L = 0 then ⟨0, [], 0, 0⟩ else ⟨3, L.take (symK L), 0, 0⟩ by unfold rfT; rw [hb, hd]; rfl)
  rw [hb] at HL
  rw [hd] at HD
  have HR := Lib.hid hL
  obtain ⟨r, hr⟩ : ∃ r, r = strOf L := ⟨_, rfl⟩
  rw [← hr] at z HI0 ⊢
  have HRr := Lib.hid hr
  obtain ⟨x, hxx⟩ : ∃ x, x = L.getD 0 0 := ⟨_, rfl⟩
  rw [← hxx] at HI0 HL HD hx
  have B1 := Lib.hid (IsB.new w 60 #[.int .i64 0, .string { data := #[] }, .int .u32 0, .int .i64 0])
  have G1 := Lib.hid (gb_alloc w (.cells #[.int .i64 0, .string { data := #[] }, .int .u32 0, .int .i64 0] 60) none)
  clear hL hr hxx hb hd
  go_enter Try.func47, Try.ntmps47
  go_wp2_with fail
  refine (HL.out _).mono ?_
  rintro e w2 ⟨rfl, rfl⟩
  go_wp2_with fail
  refine (HD.out _).mono ?_
  rintro e w2 ⟨rfl, rfl⟩
  generalize w.alloc (.cells #[.int .i64 0, .string { data := #[] }, .int .u32 0, .int .i64 0] 60) = w2 at *
  go_wp2_with fail
  refine (symbols_any w2).mono ?_
  rintro e w3 ⟨g, rfl, g3, sb⟩
  have B3 := Lib.hid (B1.out.keep0 g3)
  have G3 := Lib.hid (gb_trans G1.out g3)
  have SB := Lib.hid sb
  clear g3 sb B1 G1
  go_wp2
  go_loopw [7] (fun i wr => ∃ k : Nat, k ≤ 34 ∧ i = .int .i64 k ∧ (∀ j, j < k → ¬ symHit L j) ∧ w3.grownBy wr none) (fun i _ => 34 - (intOf i).toNat)
  case atStart => exact ⟨0, Nat.zero_le _, rfl, fun j h => absurd h (Nat.not_lt_zero _), gb_refl _ _⟩
  case round =>
    obtain ⟨k, hk, rfl, hno, gw⟩ := hrel
    have HNO := Lib.hid hno
    have GW := Lib.hid gw
    clear hno gw
    by_cases hlt : k < 34
    · have hi : (k : Int) < 34 := by omega
      have cc := (SB.out.keep0 GW.out) k hlt
      have pl := symL_len k hlt
      have pr := Lib.hid (symL_range k hlt)
      have HIT := Lib.hid (sym_hit L k hlt)
      have HSH := Lib.hid (show symHit L k ↔ ((symL.getD k []).length ≤ L.length ∧ L.take (symL.getD k []).length = symL.getD k []) from Iff.rfl)
      obtain ⟨P, hP⟩ : ∃ P, P = symL.getD k [] := ⟨_, rfl⟩
      rw [← hP] at cc pl pr HIT HSH
      have zp := strOf_size P
      have HE := Lib.hid (fun (h : ¬ L.take P.length = P) => strOf_ne (take_range HR.out P.length) pr.out h)
      have HE1 := Lib.hid (fun (h : L.take P.length = P) => strOf_eq h)
      have x1 := strOf_cut L 0 P.length
      rw [List.drop_zero, Nat.sub_zero, ← HRr.out] at x1
      obtain ⟨u, hu⟩ : ∃ u, u = strOf (L.take P.length) := ⟨_, rfl⟩
      rw [← hu] at x1 HE HE1
      obtain ⟨v, hv⟩ : ∃ v, v = strOf P := ⟨_, rfl⟩
      rw [← hv] at cc zp HE HE1
      have HV := Lib.hid hv
      have HPk := Lib.hid hP
      have B9 := B3.out.keep0 GW.out
      obtain ⟨c0, c1, c2, c3, f0, f1, f2, f3⟩ := tok_cells B9
      clear hP hu hv B9
      by_cases hfit : P.length ≤ L.length
      · have i2 : (P.length : Int) ≤ L.length := by omega
        by_cases he : L.take P.length = P
        · have d1 : (u.toList == v.toList) = true := HE1.out he
          have HX := Lib.hid (HIT.out (HSH.out.2 ⟨hfit, he⟩) HNO.out)
          clear he
          go_wp2
          go_quiet (fail)
          go_wp2
          (try simp only [Exit.inBlock, Exit.then])
          refine bodyPost_ret (v := .agg #[.int .i64 3, .string v, .int .u32 0, .int .i64 0]) (by rw [results_cell1 rfl]; go_simp) rfl ⟨?_, ?_, trivial⟩
          · rw [HF.out, if_neg (by rw [HX.out.1]; omega), HX.out.2, HV.out]; rfl
          · repeat refine gb_put ?_ (Nat.le_refl _)
            exact gb_trans G3.out (gb_trans GW.out (gb_drewN _ _ _))
        · have d1 : (u.toList == v.toList) = false := HE.out he
          have HX := Lib.hid (show ¬ symHit L k from fun h => he (HSH.out.1 h).2)
          have HX2 := Lib.hid (show ∀ j, j < k + 1 → ¬ symHit L j from fun j hj => by
            rcases (show j < k ∨ j = k by omega) with q | rfl
            · exact HNO.out j q
            · exact HX.out)
          clear he
          go_wp2
          go_quiet (fail)
          go_wp2
          go_roundw
          case rel => exact ⟨k + 1, by omega, by go_num, HX2.out, gb_trans GW.out (gb_drewN _ _ _)⟩
          case measure => simp [intOf]; omega
      · have i2 : ¬ (P.length : Int) ≤ L.length := by omega
        have HX := Lib.hid (show ¬ symHit L k from fun h => hfit (HSH.out.1 h).1)
        have HX2 := Lib.hid (show ∀ j, j < k + 1 → ¬ symHit L j from fun j hj => by
          rcases (show j < k ∨ j = k by omega) with q | rfl
          · exact HNO.out j q
          · exact HX.out)
        go_wp2
        go_quiet (fail)
        go_wp2
        go_roundw
        case rel => exact ⟨k + 1, by omega, by go_num, HX2.out, gb_trans GW.out (gb_drewN _ _ _)⟩
        case measure => simp [intOf]; omega
    · have hke : k = 34 := by omega
      subst hke
      have HN := Lib.hid (sym_none L h1 HNO.out)
      have B9 := B3.out.keep0 GW.out
      obtain ⟨c0, c1, c2, c3, f0, f1, f2, f3⟩ := tok_cells B9
      clear B9
      go_wp2
      (try simp only [Exit.inBlock, Exit.then])
      refine bodyPost_ret (v := .agg #[.int .i64 0, .string { data := #[] }, .int .u32 0, .int .i64 0]) (by rw [results_cell1 rfl]; go_simp) rfl ⟨?_, ?_, trivial⟩
      · rw [HF.out, if_pos HN.out]; rfl
      · repeat refine gb_put ?_ (Nat.le_refl _)
        exact gb_trans G3.out GW.out
theorem rfirst_any (w : World) (L : List Int) (hL : ∀ x ∈ L, 0 ≤ x ∧ x ≤ 255) (hl : L.length ≤ 1000000) (h1 : 1 ≤ L.length) :
    Calls Try.prog 47 #[.string (strOf L)] w (RetQ (tokV (rfT L).kind (rfT L).text (rfT L).val) w none fun _ => True) := by
  cases hb : isL (L.getD 0 0)
  · cases hd : isD (L.getD 0 0)
    · exact rfirst_sym w L hL hl h1 hb hd
    · exact rfirst_num w L hL hl h1 hb hd
  · exact rfirst_name w L hL hl h1 hb
end Go.Proofs.Ytmbdpiffdiiggaa
