/- The law LexerCovers: its walk; no condition. -/
import Derived.Test.YtmbdpiffdiiggaaLxT
namespace Go.Proofs.Ytmbdpiffdiiggaa
open Go.RowKit
set_option linter.unusedVariables false

set_option maxRecDepth 100000 in
theorem tokenize_long (w : World) (L : List Int) (hbig : 16384 < L.length) : Calls Try.prog 16 #[.string (strOf L)] w (RetL 34 ([], 0, 4) w) := by
  have z := strOf_size L
  have i1 : (16384 : Int) < L.length := by omega
  go_enter Try.func16, Try.ntmps16
  go_wp2
  go_step3
  go_wp2
  rw [Exit.noGoto_ret]
  go_ret3
  exact ⟨_, rfl, TL.nil _ _ _, gb_refl _ _⟩
theorem tokenize_all (w : World) (L : List Int) (hL : ∀ x ∈ L, 0 ≤ x ∧ x ≤ 255) : Calls Try.prog 16 #[.string (strOf L)] w (RetL 34 (tokR L) w) := by
  by_cases h : 16384 < L.length
  · have e : tokR L = ([], 0, 4) := if_pos h
    rw [e]
    exact tokenize_long w L h
  · exact tokenize_any w L hL (by omega)

theorem okLines_len (M : List Tok) : ∀ p, okLines p M → M.length ≤ (texts M).length := by
  induction M with
  | nil => intro p _; exact Nat.zero_le _
  | cons t s ih =>
    intro p h
    have q := ih _ h.2.2
    have e : texts (t :: s) = t.text ++ texts s := rfl
    have r := List.length_pos_iff.2 h.2.1
    rw [e, List.length_append, List.length_cons]
    omega
theorem TL.cellsR {w : World} {base : Nat} {e : TypeId} {g n c : Nat} {M : List Tok} (h : TL w base e (.slice (some ⟨g, 0, none⟩) n c) M) (i : Nat) (hi : i < M.length) :
    w.cell? ⟨g, i * 4, none⟩ = some (.int .i64 (M.getD i noTok).kind) ∧ w.cell? ⟨g, i * 4 + 1, none⟩ = some (.string (strOf (M.getD i noTok).text)) ∧
    w.cell? ⟨g, i * 4 + 2, none⟩ = some (.int .u32 (M.getD i noTok).val) ∧ w.cell? ⟨g, i * 4 + 3, none⟩ = some (.int .i64 (M.getD i noTok).line) := by
  have k := TL.cells h i hi
  rw [Nat.mul_comm 4 i] at k
  exact k
set_option maxRecDepth 100000 in
set_option maxHeartbeats 2000000 in
theorem covers_walk (s : ByteArray) (W : World) : Calls Try.prog 5 #[.string s] W (HoldsT W) := by
  have es := bytesI_str s
  have hr := bytesI_range s
  have hl := bytesI_len s
  generalize bytesI s = L at *
  have H2 := Lib.hid (fun w => tokenize_all w L hr)
  rw [es] at H2
  by_cases hc : s.size ≤ 600
  · have i0 : ¬ (600 : Int) < s.size := by omega
    by_cases he : (tokR L).2.2 = 0
    · have hcov := tokR_covers L (by omega) he
      obtain ⟨M, ln, er, hm⟩ : ∃ M ln er, tokR L = (M, ln, er) := ⟨_, _, _, rfl⟩
      rw [hm] at H2 hcov he
      obtain rfl : er = 0 := he
      have HC := Lib.hid hcov
      have HLN := Lib.hid (lineAt_le M hcov.1)
      have hM : (texts M).length ≤ 600 := by
        have := kept_len L false
        have e : texts M = kept false L := hcov.2.1
        rw [e]; omega
      have hMl := okLines_len M 1 hcov.1
      have HTL := Lib.hid (fun k => texts_le M k)
      have HES := Lib.hid es
      have HR := Lib.hid hr
      clear hcov hm es hr
      go_enter Try.func5, Try.ntmps5
      go_wp2_with fail
      refine (H2.out _).mono ?_
      rintro e w2 ⟨V, rfl, o2, g2⟩
      obtain ⟨a, c, rfl⟩ := o2.shape
      have O2 := Lib.hid o2
      have G2 := Lib.hid g2
      clear o2 g2
      go_wp2
      go_loopw [6, 7, 8] (fun all ln i wr => ∃ k : Nat, k ≤ M.length ∧ all = .string (strOf (texts (M.take k))) ∧ ln = .int .i64 (lineAt M k) ∧ i = .int .i64 k ∧ wr = w2) (fun _ _ i _ => M.length - (intOf i).toNat)
      case atStart => exact ⟨0, Nat.zero_le _, rfl, rfl, rfl, rfl⟩
      case round =>
        obtain ⟨k, hk, rfl, rfl, rfl, rfl⟩ := hrel
        by_cases hlt : k < M.length
        · have hi : (k : Int) < M.length := by omega
          obtain ⟨g, c2, hh⟩ := TL.head O2.out (by omega)
          injection hh with ha hc2
          subst ha
          obtain ⟨a0, a1, a2, a3⟩ := TL.cellsR O2.out k hlt
          have q := HLN.out k hlt
          have z1 := strOf_size (texts (M.take k))
          have z2 := strOf_size (M.getD k noTok).text
          have hs := HTL.out (k + 1)
          rw [texts_step M k hlt, List.length_append] at hs
          have HS := Lib.hid (texts_step M k hlt)
          have HA := Lib.hid (strOf_app (texts (M.take k)) (M.getD k noTok).text)
          have HLA := Lib.hid (show lineAt M (k + 1) = (M.getD k noTok).line from rfl)
          obtain ⟨⟨tk, tt, tv, tl⟩, ht⟩ : ∃ t, t = M.getD k noTok := ⟨_, rfl⟩
          rw [← ht] at a0 a1 a2 a3 q z2 HS HA HLA hs
          simp only at a0 a1 a2 a3 q z2 HS HA HLA hs
          obtain ⟨x, X, rfl⟩ : ∃ x X, tt = x :: X := by
            cases tt with
            | nil => exact absurd rfl q.2
            | cons x X => exact ⟨x, X, rfl⟩
          have n1 := strOf_full x X
          obtain ⟨u, hu⟩ : ∃ u, u = strOf (x :: X) := ⟨_, rfl⟩
          rw [← hu] at n1 a1 z2 HA
          obtain ⟨v, hv⟩ : ∃ v, v = strOf (texts (M.take k)) := ⟨_, rfl⟩
          rw [← hv] at z1 HA ⊢
          have n2 : (u.toList == ([] : List UInt8)) = false := by rw [beq_eq_false_iff_ne]; exact n1
          have n3 : u.toList.isEmpty = false := by rw [List.isEmpty_eq_false_iff]; exact n1
          obtain ⟨p, hp⟩ : ∃ p, p = lineAt M k := ⟨_, rfl⟩
          rw [← hp] at q ⊢
          have q1 : ¬ tl < p := by omega
          have i5 : v.size + u.size ≤ 9223372036854775807 := by rw [z1, z2]; omega
          clear ht hu hv hp q
          go_wp2
          go_roundw
          case rel => exact ⟨k + 1, by omega, by rw [HS.out, ← HA.out], by rw [HLA.out], by go_num, trivial⟩
          case measure => simp [intOf]; omega
        · have hke : k = M.length := by omega
          subst hke
          have HALL := Lib.hid (show texts (M.take M.length) = kept false L by rw [List.take_length]; exact HC.out.2.1)
          have hi : ¬ (M.length : Int) < M.length := by omega
          have HI := Lib.hid (fun i h => strOf_at L HR.out i h)
          rw [HES.out] at HI
          obtain ⟨vv, hvv⟩ : ∃ v, v = strOf (texts (M.take M.length)) := ⟨_, rfl⟩
          rw [← hvv]
          have HVV := Lib.hid hvv
          clear hvv
          rw [← hl] at i0
          go_wp2
          go_loopw [9, 10, 11] (fun b cm i wr2 => ∃ j : Nat, j ≤ L.length ∧ BL wr2 W.heap.size b (kept false (L.take j)) ∧ cm = .bool (sepC false (L.take j)) ∧ i = .int .i64 j ∧ W.grownBy wr2 none) (fun _ _ i _ => L.length - (intOf i).toNat)
          case atStart => exact ⟨0, Nat.zero_le _, BL.nil _ _, rfl, rfl, G2.out⟩
          case round =>
            obtain ⟨j, hj, hbl, rfl, rfl, hgw⟩ := hrel
            have BV := Lib.hid hbl
            have GW := Lib.hid hgw
            clear hbl hgw
            by_cases hlt : j < L.length
            · have hi2 : (j : Int) < s.size := by omega
              have hat : ∀ (h : j < s.size), (((s[j]'h).toNat : Nat) : Int) = L.getD j 0 := HI.out j
              have hx := getD_byte HR.out j
              have HC1 := Lib.hid (sepC_step L false j hlt)
              have HK1 := Lib.hid (kept_step L false j hlt)
              have hkl := kept_len (L.take j) false
              rw [List.length_take] at hkl
              obtain ⟨x, hxx⟩ : ∃ x, x = L.getD j 0 := ⟨_, rfl⟩
              rw [← hxx] at hat hx HC1 HK1
              obtain ⟨cb, hcb⟩ : ∃ cb, cb = sepC false (L.take j) := ⟨_, rfl⟩
              rw [← hcb] at HC1 HK1 ⊢
              clear hxx hcb
              by_cases e1 : x = 35
              · subst e1
                have HK2 := Lib.hid (show kept false (L.take (j + 1)) = kept false (L.take j) by rw [HK1.out]; simp [ans, cst])
                have HC2 := Lib.hid (show sepC false (L.take (j + 1)) = true by rw [HC1.out]; rfl)
                cases cb
                all_goals
                  go_wp2
                  go_roundw
                  case rel => exact ⟨j + 1, by omega, by rw [HK2.out]; exact BV.out, by rw [HC2.out], by go_num, GW.out⟩
                  case measure => simp [intOf]; omega
              · by_cases e2 : x = 10
                · subst e2
                  have HK2 := Lib.hid (show kept false (L.take (j + 1)) = kept false (L.take j) by rw [HK1.out]; simp [ans, cst])
                  have HC2 := Lib.hid (show sepC false (L.take (j + 1)) = false by rw [HC1.out]; rfl)
                  cases cb
                  all_goals
                    go_wp2
                    go_roundw
                    case rel => exact ⟨j + 1, by omega, by rw [HK2.out]; exact BV.out, by rw [HC2.out], by go_num, GW.out⟩
                    case measure => simp [intOf]; omega
                · have HC2 := Lib.hid (show sepC false (L.take (j + 1)) = cb by rw [HC1.out]; unfold cst; rw [if_neg e1, if_neg e2])
                  have d1 : (x == 35) = false := by rw [beq_eq_false_iff_ne]; exact e1
                  have d2 : (x == 10) = false := by rw [beq_eq_false_iff_ne]; exact e2
                  cases cb
                  · by_cases e3 : x = 32
                    · subst e3
                      have HK2 := Lib.hid (show kept false (L.take (j + 1)) = kept false (L.take j) by rw [HK1.out]; simp [ans, cst])
                      go_wp2
                      go_roundw
                      case rel => exact ⟨j + 1, by omega, by rw [HK2.out]; exact BV.out, by rw [HC2.out], by go_num, GW.out⟩
                      case measure => simp [intOf]; omega
                    · by_cases e4 : x = 9
                      · subst e4
                        have HK2 := Lib.hid (show kept false (L.take (j + 1)) = kept false (L.take j) by rw [HK1.out]; simp [ans, cst])
                        go_wp2
                        go_roundw
                        case rel => exact ⟨j + 1, by omega, by rw [HK2.out]; exact BV.out, by rw [HC2.out], by go_num, GW.out⟩
                        case measure => simp [intOf]; omega
                      · have HK2 := Lib.hid (show kept false (L.take (j + 1)) = kept false (L.take j) ++ [x] by rw [HK1.out]; simp [ans, cst, e1, e2, e3, e4])
                        have d3 : (x == 32) = false := by rw [beq_eq_false_iff_ne]; exact e3
                        have d4 : (x == 9) = false := by rw [beq_eq_false_iff_ne]; exact e4
                        have n2 : (x != 10) = true := by simp [bne, d2]
                        have n3 : (x != 32) = true := by simp [bne, d3]
                        have n4 : (x != 9) = true := by simp [bne, d4]
                        go_wp2_with (at_builtin; refine push_any rfl _ _ rfl W.heap.size _ _ rfl (BV.out.keep0 (gb_alloc _ _ _)) _ _ _ [_] rfl (slr_one _ _ _ _ _ rfl) (by rw [List.length_singleton]; omega) (by have := GW.out.size; simp; omega) ?_)
                        intro V4 w4 o4 g4 _
                        have G4 := Lib.hid (gb_own (gb_trans GW.out (gb_alloc _ _ _)) (BV.out.keep0 (gb_alloc _ _ _)) (Nat.le_refl _) g4)
                        have O4 := Lib.hid o4
                        clear o4 g4
                        go_wp2
                        go_roundw
                        case rel => exact ⟨j + 1, by omega, by rw [HK2.out]; exact O4.out, by rw [HC2.out], by go_num, G4.out⟩
                        case measure => simp [intOf]; omega
                  · have HK2 := Lib.hid (show kept false (L.take (j + 1)) = kept false (L.take j) by rw [HK1.out, if_pos (by unfold ans cst; rw [if_neg e1, if_neg e2]; rfl), List.append_nil])
                    go_wp2
                    go_roundw
                    case rel => exact ⟨j + 1, by omega, by rw [HK2.out]; exact BV.out, by rw [HC2.out], by go_num, GW.out⟩
                    case measure => simp [intOf]; omega
            · have hje : j = L.length := by omega
              subst hje
              have hi2 : ¬ (L.length : Int) < s.size := by omega
              rw [List.take_length] at BV
              have z5 := strOf_size (kept false L)
              obtain ⟨ab, cb, rfl⟩ := BV.out.shape
              have hcs := conv_str _ ab _ cb _ BV.out.slr
              have HVE := Lib.hid (show vv = strOf (kept false L) by rw [HVV.out, HALL.out])
              obtain ⟨uu, huu⟩ : ∃ u, u = strOf (kept false L) := ⟨_, rfl⟩
              rw [← huu] at hcs HVE z5
              obtain rfl : vv = uu := HVE.out
              have q1 : (vv.toList == vv.toList) = true := by rw [beq_iff_eq]
              clear huu
              go_wp2_with fail
              refine (works_any _).mono ?_
              rintro e w6 ⟨rfl, g6, _⟩
              have G6 := Lib.hid (gb_trans GW.out g6)
              clear g6
              go_wp2
              go_ret
              exact ⟨rfl, gb_below0 G6.out⟩
    · have HN : ((tokR L).2.2 == 0) = false := by rw [beq_eq_false_iff_ne]; exact he
      obtain ⟨M, ln, er, hm⟩ : ∃ M ln er, tokR L = (M, ln, er) := ⟨_, _, _, rfl⟩
      rw [hm] at H2 HN
      have HN2 : (er == 0) = false := HN
      have HN3 : (er != 0) = true := by simp [bne, HN2]
      clear hm hr es HN he
      go_enter Try.func5, Try.ntmps5
      go_wp2_with fail
      refine (H2.out _).mono ?_
      rintro e w2 ⟨V, rfl, o2, g2⟩
      have G2 := Lib.hid g2
      clear o2 g2
      go_wp2_with fail
      refine (works_any _).mono ?_
      rintro e w6 ⟨rfl, g6, _⟩
      have G6 := Lib.hid (gb_trans G2.out g6)
      clear g6
      go_wp2
      go_ret
      exact ⟨rfl, gb_below0 G6.out⟩
  · have i0 : (600 : Int) < s.size := by omega
    go_enter Try.func5, Try.ntmps5
    go_wp2_with fail
    refine (H2.out _).mono ?_
    rintro e w2 ⟨V, rfl, o2, g2⟩
    have G2 := Lib.hid g2
    clear o2 g2
    go_wp2_with fail
    refine (works_any _).mono ?_
    rintro e w6 ⟨rfl, g6, _⟩
    have G6 := Lib.hid (gb_trans G2.out g6)
    clear g6
    go_wp2
    go_ret
    exact ⟨rfl, gb_below0 G6.out⟩
end Go.Proofs.Ytmbdpiffdiiggaa
