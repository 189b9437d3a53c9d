/- The reference's Tokenize: theory and walk; no condition but sizes and the bytes' range. -/
import Derived.Test.YtmbdpiffdiiggaaLxS
namespace Go.Proofs.Ytmbdpiffdiiggaa
open Go.RowKit
set_option linter.unusedVariables false

/-- What the reference answers from a place on, in a comment or not. -/
def tokB (f : Nat) (b : Bool) (line : Int) (acc : List Tok) (L : List Int) : List Tok × Int × Int :=
  if L.drop (skipK b L) = [] then (acc, 0, 0)
  else if acc.length = 4096 then ([], line + nl (L.take (skipK b L)), 12)
  else if (firstT (L.drop (skipK b L))).err ≠ 0 then ([], line + nl (L.take (skipK b L)), (firstT (L.drop (skipK b L))).err)
  else tokF f (line + nl (L.take (skipK b L))) (acc ++ [⟨(firstT (L.drop (skipK b L))).kind, (firstT (L.drop (skipK b L))).text, (firstT (L.drop (skipK b L))).val, line + nl (L.take (skipK b L))⟩])
    ((L.drop (skipK b L)).drop (firstT (L.drop (skipK b L))).text.length)
theorem tokB_tokF (f : Nat) (line : Int) (acc : List Tok) (L : List Int) : tokF (f + 1) line acc L = tokB f false line acc L := rfl
theorem tokB_skip (f : Nat) (b : Bool) (line : Int) (acc : List Tok) (x : Int) (t : List Int) (h : ans b x = true) :
    tokB f b line acc (x :: t) = tokB f (cst b x) (line + if x = 10 then 1 else 0) acc t := by
  have e : skipK b (x :: t) = skipK (cst b x) t + 1 := by show (if _ then _ else _) = _; rw [if_pos h]
  have e2 : line + (nl ((x :: t).take (skipK (cst b x) t + 1)) : Int) = line + (if x = 10 then 1 else 0) + nl (t.take (skipK (cst b x) t)) := by
    rw [List.take_succ_cons]
    unfold nl
    by_cases hx : x = 10
    · subst hx; rw [List.count_cons_self, if_pos rfl]; omega
    · rw [List.count_cons_of_ne hx, if_neg hx]; omega
  unfold tokB
  rw [e, e2, List.drop_succ_cons]
theorem tokB_nil (f : Nat) (b : Bool) (line : Int) (acc : List Tok) : tokB f b line acc [] = (acc, 0, 0) := if_pos rfl
theorem tokB_word (f : Nat) (line : Int) (acc : List Tok) (x : Int) (t : List Int) (h : ans false x = false) :
    tokB f false line acc (x :: t) = if acc.length = 4096 then ([], line, 12) else if (firstT (x :: t)).err ≠ 0 then ([], line, (firstT (x :: t)).err)
      else tokF f line (acc ++ [⟨(firstT (x :: t)).kind, (firstT (x :: t)).text, (firstT (x :: t)).val, line⟩]) ((x :: t).drop (firstT (x :: t)).text.length) := by
  have e : skipK false (x :: t) = 0 := by show (if _ then _ else _) = _; rw [if_neg (by rw [h]; simp)]
  unfold tokB
  rw [e, List.drop_zero, List.take_zero, if_neg (by simp)]
  simp [nl]
theorem drop_cons (L : List Int) (k : Nat) (h : k < L.length) : L.drop k = L.getD k 0 :: L.drop (k + 1) := by
  rw [List.drop_eq_getElem_cons h]; simp [h]

theorem isb_set (w : World) (a : Addr) (v : Value) (t : TypeId) (cs : Array Value) : IsB ((w.setCell a v).alloc (.cells cs t)) w.heap.size t cs := by
  have k := IsB.new (w.setCell a v) t cs
  have e : (w.setCell a v).heap.size = w.heap.size := by simp [World.setCell]
  rw [e] at k
  exact k
set_option maxRecDepth 100000 in
set_option maxHeartbeats 4000000 in
theorem rtokenize_any (w : World) (L : List Int) (hL : ∀ x ∈ L, 0 ≤ x ∧ x ≤ 255) (hl : L.length ≤ 16384) :
    Calls Try.prog 17 #[.string (strOf L)] w (RetL 60 (tokR L) w) := by
  have HR := Lib.hid hL
  have z := strOf_size L
  have HI := Lib.hid (fun i h => strOf_at L hL i h)
  have HE := Lib.hid (show tokR L = tokB L.length false 1 [] L from if_neg (by omega))
  have HX := Lib.hid (fun k => strOf_from L k)
  have i1 : ¬ (16384 : Int) < L.length := by omega
  obtain ⟨r, hr⟩ : ∃ r, r = strOf L := ⟨_, rfl⟩
  rw [← hr] at z HX ⊢
  have HRr := Lib.hid hr
  clear hL hr
  go_enter Try.func17, Try.ntmps17
  go_wp2
  go_loopw [5, 6, 7, 8] (fun out ln cm i wr => ∃ (k f line : Nat) (b : Bool) (acc : List Tok), k ≤ L.length ∧ L.length - k ≤ f ∧ tokB f b line acc (L.drop k) = tokR L ∧ TL wr w.heap.size 60 out acc ∧ ln = .int .i64 line ∧ cm = .bool b ∧ i = .int .i64 k ∧ w.grownBy wr none ∧ acc.length ≤ 4096 ∧ line ≤ k + 1) (fun _ _ _ i _ => L.length - (intOf i).toNat)
  case atStart => exact ⟨0, L.length, 1, false, [], Nat.zero_le _, by omega, by rw [List.drop_zero]; exact HE.out.symm, TL.nil _ _ _, rfl, rfl, rfl, gb_refl _ _, by simp, by omega⟩
  case round =>
    obtain ⟨k, f, line, b, acc, hk, hf, htok, hown, rfl, rfl, rfl, hg, hacc, hline⟩ := hrel
    have HO := Lib.hid hown
    have HG := Lib.hid hg
    have HT := Lib.hid htok
    clear hown hg htok
    by_cases hlt : k < L.length
    · have hi : (k : Int) < L.length := by omega
      have hat : ∀ (h : k < r.size), (((r[k]'h).toNat : Nat) : Int) = L.getD k 0 := by
        have q := HI.out k
        rw [← HRr.out] at q
        exact q
      have HDC := Lib.hid (drop_cons L k hlt)
      obtain ⟨x, hx⟩ : ∃ x, x = L.getD k 0 := ⟨_, rfl⟩
      rw [← hx] at hat HDC
      clear hx
      rw [HDC.out] at HT
      by_cases ha : ans b x = true
      · rw [tokB_skip f b line acc x _ ha] at HT
        by_cases e1 : x = 10
        · subst e1
          have HT2 := Lib.hid (show tokB f false ((line + 1 : Nat) : Int) acc (L.drop (k + 1)) = tokR L by
            have h := HT.out
            rw [if_pos rfl, show cst b 10 = false by simp [cst]] at h
            exact h)
          go_wp2
          go_roundw
          case rel => exact ⟨k + 1, f, line + 1, false, acc, by omega, by omega, HT2.out, HO.out, by go_num, rfl, by go_num, HG.out, hacc, by omega⟩
          case measure => simp [intOf]; omega
        · rw [if_neg e1] at HT
          have d1 : (x == 10) = false := by rw [beq_eq_false_iff_ne]; exact e1
          by_cases e2 : x = 35
          · subst e2
            have HT2 := Lib.hid (show tokB f true (line : Int) acc (L.drop (k + 1)) = tokR L by
              have h := HT.out
              rw [show cst b 35 = true by simp [cst], Int.add_zero] at h
              exact h)
            cases b
            all_goals
              go_wp2
              go_roundw
              case rel => exact ⟨k + 1, f, line, true, acc, by omega, by omega, HT2.out, HO.out, rfl, rfl, by go_num, HG.out, hacc, by omega⟩
              case measure => simp [intOf]; omega
          · have d2 : (x == 35) = false := by rw [beq_eq_false_iff_ne]; exact e2
            have HT2 := Lib.hid (show tokB f b (line : Int) acc (L.drop (k + 1)) = tokR L by
              have h := HT.out
              rw [show cst b x = b by unfold cst; rw [if_neg e2, if_neg e1], Int.add_zero] at h
              exact h)
            cases b
            · have h9 : x = 32 ∨ x = 9 := by
                unfold ans cst at ha
                rw [if_neg e2, if_neg e1] at ha
                simpa [e1] using ha
              rcases h9 with rfl | rfl
              all_goals
                clear d1 d2 e1 e2
                go_wp2
                go_roundw
                case rel => exact ⟨k + 1, f, line, false, acc, by omega, by omega, HT2.out, HO.out, rfl, rfl, by go_num, HG.out, hacc, by omega⟩
                case measure => simp [intOf]; omega
            · go_wp2
              go_roundw
              case rel => exact ⟨k + 1, f, line, true, acc, by omega, by omega, HT2.out, HO.out, rfl, rfl, by go_num, HG.out, hacc, by omega⟩
              case measure => simp [intOf]; omega
      · have ha2 : ans b x = false := by simpa using ha
        obtain ⟨rfl, hc0, ha3⟩ := ans_no ha2
        rw [tokB_word f line acc x _ ha3] at HT
        have hn : ¬ x = 10 ∧ ¬ x = 35 ∧ ¬ x = 32 ∧ ¬ x = 9 := by
          refine ⟨?_, ?_, ?_, ?_⟩ <;> (intro e; rw [e] at ha3; simp [ans, cst] at ha3)
        have d1 : (x == 10) = false := by rw [beq_eq_false_iff_ne]; exact hn.1
        have d2 : (x == 35) = false := by rw [beq_eq_false_iff_ne]; exact hn.2.1
        have d3 : (x == 32) = false := by rw [beq_eq_false_iff_ne]; exact hn.2.2.1
        have d4 : (x == 9) = false := by rw [beq_eq_false_iff_ne]; exact hn.2.2.2
        clear ha ha2 hc0 ha3 hn
        obtain ⟨la, lc, rfl⟩ := HO.out.shape
        by_cases h4 : acc.length = 4096
        · rw [if_pos h4] at HT
          have i4 : (4096 : Int) ≤ acc.length := by omega
          go_wp2
          go_ret3
          rw [← HT.out]
          exact ⟨_, rfl, TL.nil _ _ _, HG.out⟩
        · rw [if_neg h4] at HT
          have i4 : ¬ (4096 : Int) ≤ acc.length := by omega
          obtain ⟨R, hR⟩ : ∃ R, R = x :: L.drop (k + 1) := ⟨_, rfl⟩
          rw [← hR] at HT HDC
          have hRl : R.length = L.length - k := by rw [← HDC.out]; simp
          have hRr : ∀ y ∈ R, 0 ≤ y ∧ y ≤ 255 := by rw [← HDC.out]; exact fun y h => HR.out y (List.mem_of_mem_drop h)
          have x1 := HX.out k
          rw [HDC.out] at x1
          have HF := Lib.hid (fun w => rfirst_any w R hRr (by omega) (by omega))
          have HC := Lib.hid (fun w => rcheck_any w R hRr (by omega) (by omega))
          have FO := Lib.hid (first_ok R (by intro h; rw [h] at hRl; simp at hRl; omega))
          have FE := Lib.hid (rfT_eq R)
          have hki : (k : Int) ≤ L.length := by omega
          obtain ⟨⟨tk, tt, tv, te0⟩, hff⟩ : ∃ f, f = rfT R := ⟨_, rfl⟩
          rw [← hff] at HF HC FE
          obtain ⟨⟨fk, ft, fv, fe⟩, hgg⟩ : ∃ f, f = firstT R := ⟨_, rfl⟩
          rw [← hgg] at HT HC FO FE
          simp only at HT HC FO FE HF
          simp only [tokV] at HC HF
          obtain ⟨rr, hrr⟩ : ∃ s, s = strOf R := ⟨_, rfl⟩
          rw [← hrr] at HF x1
          clear hff hgg hrr hR
          by_cases he : fe = 0
          · rw [if_neg (by simp [he])] at HT
            obtain ⟨ek, et, ev⟩ := FE.out he
            have fo := FO.out he
            have fo1 : 1 ≤ ft.length := fo.1
            have fo2 : ft.length ≤ L.length - k := by
              have h := congrArg List.length fo.2
              simp only [List.length_take] at h
              omega
            subst ek et ev
            have zt := strOf_size tt
            have HTE := Lib.hid he
            have d5 : (fe == 0) = true := by rw [beq_iff_eq]; exact he
            have d6 : (fe != 0) = false := by simp [bne, d5]
            have HT2 := Lib.hid (show tokB (f - 1) false (line : Int) (acc ++ [⟨tk, tt, tv, line⟩]) (L.drop (k + tt.length)) = tokR L by
              have h := HT.out
              obtain ⟨f', rfl⟩ : ∃ f', f = f' + 1 := ⟨f - 1, by omega⟩
              rw [tokB_tokF, ← HDC.out, List.drop_drop] at h
              simpa using h)
            obtain ⟨u, hu⟩ : ∃ u, u = strOf tt := ⟨_, rfl⟩
            rw [← hu] at HF HC zt
            have HU := Lib.hid hu
            clear hu fo he
            go_wp2_with fail
            refine (HF.out _).mono ?_
            rintro e w3 ⟨rfl, g3, _⟩
            have G3 := Lib.hid (gb_trans HG.out g3)
            have O3 := Lib.hid (HO.out.keep0 g3)
            clear g3
            go_wp2_with fail
            have B4 := IsB.new w3 60 #[.int .i64 tk, .string u, .int .u32 tv, .int .i64 0]
            have E4 := gb_alloc w3 (.cells #[.int .i64 tk, .string u, .int .u32 tv, .int .i64 0] 60) none
            generalize w3.alloc (.cells #[.int .i64 tk, .string u, .int .u32 tv, .int .i64 0] 60) = w4 at *
            refine (HC.out _).mono ?_
            rintro e w5 ⟨rfl, g5, _⟩
            have B5 := B4.keep0 g5
            obtain ⟨c0, c1, c2, c3, f0, f1, f2, f3⟩ := tok_cells B5
            have hne : some w3.heap.size ≠ Value.ownBlock (.slice la acc.length lc) := by
              intro e
              have := (World.ownsRow.lt O3.out w3.heap.size e.symm).2
              omega
            have ET := Lib.hid (show ∀ v o, w3.grownBy ((w5.setCell ⟨w3.heap.size, 3, none⟩ v).alloc o) none from fun v o => gb_trans (gb_put (gb_trans E4 g5) (Nat.le_refl _)) (gb_alloc _ _ _))
            have HB5 := Lib.hid B5
            have HNE := Lib.hid hne
            clear B4 E4 g5 B5 hne
            go_wp2_with (at_builtin; refine pushTok Try.underlying27 infoTok5 rfl _ _ rfl w.heap.size _ acc rfl (O3.out.keep0 (ET.out _ _)) _ _ ⟨tk, tt, tv, line⟩ rfl (four_cell _ _ _ _ _ (isb_set _ _ _ _ _) (by simp only [tokC]; rw [← HU.out])) (by omega) (gb_trans G3.out (ET.out _ _)).size ?_)
            intro V9 w9 o9 g9
            have G9 := Lib.hid (gb_own (gb_trans G3.out (ET.out _ _)) (O3.out.keep0 (ET.out _ _)) (Nat.le_refl _) g9)
            have O9 := Lib.hid o9
            have B9 : IsB w9 w3.heap.size 60 #[.int .i64 tk, .string u, .int .u32 tv, .int .i64 line] := ((HB5.out.set 3 (.int .i64 line)).alloc _).keep g9 HNE.out
            have c9 : w9.cell? ⟨w3.heap.size, 1, none⟩ = some (.string u) := B9.cell 1
            clear o9 g9 B9 c0 c1 c2 c3 f0 f1 f2 f3
            go_wp2
            go_roundw
            case rel => exact ⟨k + tt.length, f - 1, line, false, acc ++ [⟨tk, tt, tv, line⟩], by omega, by omega, HT2.out, O9.out, rfl, rfl, by go_num, G9.out, by simp; omega, by omega⟩
            case measure => simp [intOf]; omega
          · rw [if_pos he] at HT
            have d5 : (fe == 0) = false := by rw [beq_eq_false_iff_ne]; exact he
            have d6 : (fe != 0) = true := by simp [bne, d5]
            obtain ⟨u, hu⟩ : ∃ u, u = strOf tt := ⟨_, rfl⟩
            rw [← hu] at HF HC
            clear hu
            go_wp2_with fail
            refine (HF.out _).mono ?_
            rintro e w3 ⟨rfl, g3, _⟩
            have G3 := Lib.hid (gb_trans HG.out g3)
            clear g3
            go_wp2_with fail
            have B4 := IsB.new w3 60 #[.int .i64 tk, .string u, .int .u32 tv, .int .i64 0]
            have E4 := gb_alloc w3 (.cells #[.int .i64 tk, .string u, .int .u32 tv, .int .i64 0] 60) none
            generalize w3.alloc (.cells #[.int .i64 tk, .string u, .int .u32 tv, .int .i64 0] 60) = w4 at *
            refine (HC.out _).mono ?_
            rintro e w5 ⟨rfl, g5, _⟩
            have B5 := B4.keep0 g5
            obtain ⟨c0, c1, c2, c3, f0, f1, f2, f3⟩ := tok_cells B5
            have G5 := Lib.hid (gb_trans G3.out (gb_trans E4 g5))
            clear B4 E4 g5 B5
            go_wp2_with fail
            refine (HC.out _).mono ?_
            rintro e w6 ⟨rfl, g6, _⟩
            have G6 := Lib.hid (gb_trans G5.out g6)
            clear g6
            go_wp2
            go_ret3
            rw [← HT.out]
            exact ⟨_, rfl, TL.nil _ _ _, G6.out⟩
    · have hke : k = L.length := by omega
      subst hke
      have HT2 := Lib.hid (show tokR L = (acc, 0, 0) by
        have h := HT.out
        rw [List.drop_length, tokB_nil] at h
        exact h.symm)
      have hi : ¬ (L.length : Int) < L.length := by omega
      go_wp2
      go_ret3
      rw [HT2.out]
      exact ⟨_, rfl, HO.out, HG.out⟩
end Go.Proofs.Ytmbdpiffdiiggaa
