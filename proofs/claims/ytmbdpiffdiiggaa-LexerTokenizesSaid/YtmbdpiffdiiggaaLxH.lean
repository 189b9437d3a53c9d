/- Tokenize: the walk; no condition but sizes and the bytes' range. -/
import Derived.Test.YtmbdpiffdiiggaaLxG
import Derived.WalkMore
namespace Go.Proofs.Ytmbdpiffdiiggaa
open Go.RowKit
set_option linter.unusedVariables false

set_option maxRecDepth 100000 in
set_option maxHeartbeats 2000000 in
theorem tokenize_any (w : World) (L : List Int) (hL : ∀ x ∈ L, 0 ≤ x ∧ x ≤ 255) (hl : L.length ≤ 1000000) :
    Calls Try.prog 16 #[.string (strOf L)] w (RetL 34 (tokR L) w) := by
  have HL := Lib.hid hL
  have z := strOf_size L
  clear hL
  by_cases hbig : 16384 < L.length
  · have HE := Lib.hid (show tokR L = ([], 0, 4) from if_pos hbig)
    have i1 : (16384 : Int) < L.length := by omega
    go_enter Try.func16, Try.ntmps16
    go_wp2
    go_step3
    go_wp2
    rw [Exit.noGoto_ret]
    go_ret3
    rw [HE.out]
    exact ⟨_, rfl, TL.nil _ _ _, gb_refl _ _⟩
  · have HE := Lib.hid (show tokR L = tokF (L.length + 1) 1 [] L from if_neg hbig)
    have i1 : ¬ (16384 : Int) < L.length := by omega
    obtain ⟨r0, hr⟩ : ∃ r, r = strOf L := ⟨_, rfl⟩
    rw [← hr] at z ⊢
    have HRr := Lib.hid hr
    clear hr
    go_enter Try.func16, Try.ntmps16
    go_wp2
    go_step3
    go_wp2
    go_step3
    go_wp2
    go_loopw [0, 2, 3] (fun s l ln wr => ∃ (f : Nat) (line : Nat) (acc : List Tok) (M : List Int), M.length < f ∧ tokF f line acc M = tokR L ∧ s = .string (strOf M) ∧ ln = .int .i64 line ∧ TL wr w.heap.size 34 l acc ∧ w.grownBy wr none ∧ (∀ x ∈ M, 0 ≤ x ∧ x ≤ 255) ∧ acc.length ≤ 4096 ∧ M.length + line ≤ 20000) (fun s _ _ _ => strLen s)
    case atStart => exact ⟨_, 1, [], L, Nat.lt_succ_self _, HE.out.symm, by rw [HRr.out], rfl, TL.nil _ _ _, gb_refl _ _, HL.out, by simp, by omega⟩
    case round =>
      obtain ⟨f, line, acc, M, hf, htok, rfl, rfl, hown, hg, hM, hacc, hsz⟩ := hrel
      have HM := Lib.hid hM
      have HO := Lib.hid hown
      have HG := Lib.hid hg
      have HT := Lib.hid htok
      have HS := Lib.hid (separators_any wr M hM (by omega))
      have hk := skipK_le M false
      have hn := nl_le (M.take (skipK false M))
      rw [List.length_take, Nat.min_eq_left hk] at hn
      have x1 := strOf_from M (skipK false M)
      have z1 := strOf_size M
      obtain ⟨k, hkk⟩ : ∃ k, k = skipK false M := ⟨_, rfl⟩
      rw [← hkk] at HS hk hn x1
      obtain ⟨n, hnn⟩ : ∃ n, n = nl (M.take k) := ⟨_, rfl⟩
      rw [← hnn] at HS hn
      obtain ⟨R, hR⟩ : ∃ R, R = M.drop k := ⟨_, rfl⟩
      rw [← hR] at x1
      have hRl : R.length = M.length - k := by rw [hR]; simp
      have hRr : ∀ x ∈ R, 0 ≤ x ∧ x ≤ 255 := by rw [hR]; exact fun x h => hM x (List.mem_of_mem_drop h)
      have HTF := Lib.hid (show tokF f line acc M = if R = [] then (acc, 0, 0) else if acc.length = 4096 then ([], (line : Int) + n, 12) else if (firstT R).err ≠ 0 then ([], (line : Int) + n, (firstT R).err) else tokF (f - 1) ((line : Int) + n) (acc ++ [⟨(firstT R).kind, (firstT R).text, (firstT R).val, (line : Int) + n⟩]) (R.drop (firstT R).text.length) by
        obtain ⟨f', rfl⟩ : ∃ f', f = f' + 1 := ⟨f - 1, by omega⟩
        rw [hR, hnn, hkk]; rfl)
      rw [HT.out] at HTF
      have hki : (k : Int) ≤ M.length := by omega
      obtain ⟨s, hs⟩ : ∃ s, s = strOf M := ⟨_, rfl⟩
      rw [← hs] at HS x1 z1 ⊢
      have HSs := Lib.hid hs
      clear hM hown hg htok hs hkk hnn
      have HRd := Lib.hid hR
      clear hR
      cases R with
      | nil =>
        rw [show strOf [] = ⟨#[]⟩ from rfl] at x1
        have q1 := empty_list
        go_wp2_with fail
        refine HS.out.mono ?_
        rintro e w2 ⟨rfl, g2, _⟩
        have G2 := Lib.hid (gb_trans HG.out g2)
        have O2 := Lib.hid (HO.out.keep0 g2)
        clear g2
        go_wp2
        rw [Exit.noGoto_ret]
        go_ret3
        rw [HTF.out]
        exact ⟨_, rfl, O2.out, G2.out⟩
      | cons x R =>
        have n1 := strOf_full x R
        have HF := Lib.hid (fun w => firstToken_any w (x :: R) hRr (by omega) (by simp))
        have FO := Lib.hid (first_ok (x :: R) (by simp))
        have HNE : ¬ (x :: R = []) := by simp
        rw [if_neg HNE] at HTF
        have z2 := strOf_size (x :: R)
        have xc := fun j => strOf_from (x :: R) j
        obtain ⟨⟨tk, tt, tv, te⟩, hff⟩ : ∃ f, f = firstT (x :: R) := ⟨_, rfl⟩
        rw [← hff] at HF HTF FO
        obtain ⟨N, hN⟩ : ∃ N, N = x :: R := ⟨_, rfl⟩
        rw [← hN] at n1 HF FO HTF z2 xc HRd hRl hRr x1
        obtain ⟨r, hr⟩ : ∃ r, r = strOf N := ⟨_, rfl⟩
        rw [← hr] at n1 HF z2 x1 xc
        have n2 : (r.toList == ([] : List UInt8)) = false := by rw [beq_eq_false_iff_ne]; exact n1
        have n3 : r.toList.isEmpty = false := by rw [List.isEmpty_eq_false_iff]; exact n1
        have HRR := Lib.hid hRr
        have HRe := Lib.hid hr
        clear hff hN hr hRr HNE
        obtain ⟨la, lc, rfl⟩ := HO.out.shape
        by_cases h4 : acc.length = 4096
        · rw [if_pos h4] at HTF
          have i4 : ((acc.length : Int) == 4096) = true := by rw [beq_iff_eq]; omega
          go_wp2_with fail
          refine HS.out.mono ?_
          rintro e w2 ⟨rfl, g2, _⟩
          have G2 := Lib.hid (gb_trans HG.out g2)
          clear g2
          go_wp2
          rw [Exit.noGoto_ret]
          go_ret3
          rw [HTF.out]
          exact ⟨_, rfl, TL.nil _ _ _, G2.out⟩
        · rw [if_neg h4] at HTF
          have i4 : ((acc.length : Int) == 4096) = false := by rw [beq_eq_false_iff_ne]; omega
          by_cases he : te = 0
          · have HTE := Lib.hid he
            rw [if_neg (by simp [he])] at HTF
            have i5 : (te == 0) = true := by rw [beq_iff_eq]; exact he
            have fo := FO.out he
            have fo1 : 1 ≤ tt.length := fo.1
            have fo2 : tt.length ≤ N.length := by
              have h := congrArg List.length fo.2
              simp only [List.length_take] at h
              omega
            have xt := xc tt.length
            have zt := strOf_size tt
            clear fo xc he
            go_wp2_with fail
            refine HS.out.mono ?_
            rintro e w2 ⟨rfl, g2, _⟩
            have G2 := Lib.hid (gb_trans HG.out g2)
            have O2 := Lib.hid (HO.out.keep0 g2)
            clear g2
            go_wp2_with fail
            refine (HF.out _).mono ?_
            rintro e w3 ⟨rfl, g3, _⟩
            have G3 := Lib.hid (gb_trans G2.out g3)
            have O3 := Lib.hid (O2.out.keep0 g3)
            clear g3
            simp only [Tk.v, tokE]
            go_wp2_with (at_builtin; refine pushTok Try.underlying23 infoTok rfl _ _ rfl w.heap.size _ acc rfl (O3.out.keep0 (gb_trans (gb_alloc _ _ _) (gb_alloc _ _ _))) _ _ ⟨tk, tt, tv, (line : Int) + n⟩ rfl (four_cell _ _ _ _ _ (isb_two _ _ _ _ _) rfl) (by omega) (by have := G3.out.size; simp; omega) ?_)
            intro V4 w4 o4 g4
            have G4 := Lib.hid (gb_own (gb_trans G3.out (gb_trans (gb_alloc _ _ _) (gb_alloc _ _ _))) (O3.out.keep0 (gb_trans (gb_alloc _ _ _) (gb_alloc _ _ _))) (Nat.le_refl _) g4)
            have O4 := Lib.hid o4
            have xt2 : r.extract tt.length (M.length - k) = strOf (N.drop tt.length) := by rw [← hRl]; exact xt
            clear o4 g4
            go_wp2
            go_roundw
            case rel => exact ⟨f - 1, line + n, acc ++ [⟨tk, tt, tv, (line : Int) + n⟩], N.drop tt.length, by simp; omega, by rw [HTF.out]; simp, by rw [xt2], by go_num, O4.out, G4.out, fun x h => HRR.out x (List.mem_of_mem_drop h), by simp; omega, by simp; omega⟩
            case measure => simp only [strLen, xt2, strOf_size, List.length_drop]; omega
          · rw [if_pos he] at HTF
            have i5 : (te == 0) = false := by rw [beq_eq_false_iff_ne]; exact he
            go_wp2_with fail
            refine HS.out.mono ?_
            rintro e w2 ⟨rfl, g2, _⟩
            have G2 := Lib.hid (gb_trans HG.out g2)
            clear g2
            go_wp2_with fail
            refine (HF.out _).mono ?_
            rintro e w3 ⟨rfl, g3, _⟩
            have G3 := Lib.hid (gb_trans G2.out g3)
            clear g3
            simp only [Tk.v, tokE]
            go_wp2
            rw [Exit.noGoto_ret]
            go_ret3
            rw [HTF.out]
            exact ⟨_, rfl, TL.nil _ _ _, gb_trans G3.out (gb_alloc _ _ _)⟩
end Go.Proofs.Ytmbdpiffdiiggaa
