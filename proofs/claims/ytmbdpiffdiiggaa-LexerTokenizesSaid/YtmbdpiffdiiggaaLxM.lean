/- The law LexerLines: its walk; no condition. -/
import Derived.Test.YtmbdpiffdiiggaaLxU
namespace Go.Proofs.Ytmbdpiffdiiggaa
open Go.RowKit
set_option linter.unusedVariables false

theorem tks_bound2 (f : Nat) : ∀ (line : Int) (L : List Int), 0 ≤ line → L.length < f → 0 ≤ (tks f line L).2.1 ∧ (tks f line L).2.1 ≤ line + L.length := by
  induction f with
  | zero => intro line L _ h; omega
  | succ f ih =>
    intro line L h0 hf
    rw [tks_step]
    by_cases c1 : L.drop (skipK false L) = []
    · rw [if_pos c1]; simp only; omega
    · rw [if_neg c1]
      have n1 := nl_le (L.take (skipK false L))
      simp only [List.length_take] at n1
      have q2 := List.length_pos_iff.2 c1
      simp only [List.length_drop] at q2
      by_cases c3 : (firstT (L.drop (skipK false L))).err = 0
      · rw [if_neg (by simpa using c3), glue_err]
        have p := first_ok _ c1 c3
        have q := rest_lt c1 p.1
        have r := ih (line + nl (L.take (skipK false L))) ((L.drop (skipK false L)).drop (firstT (L.drop (skipK false L))).text.length) (by omega) (by omega)
        simp only [List.length_drop] at q r ⊢
        omega
      · rw [if_pos (by simpa using c3)]; simp only; omega
/-- What is known of the answers for the two texts and for both. -/
structure LinesOk (A : List Int) (r1 r2 r3 : List Tok × Int × Int) : Prop where
  bad1 : r1.2.2 ≠ 0 → r3 = r1 ∧ r1.1 = []
  bad2 : r1.2.2 = 0 → r2.2.2 ≠ 0 → r3 = ([], r2.2.1 + (nl A + 1), r2.2.2)
  good : r1.2.2 = 0 → r2.2.2 = 0 → r3 = (r1.1 ++ r2.1.map (lineOn (nl A + 1)), r2.2.1, 0)
  low : 0 ≤ r2.2.1 ∧ r2.2.1 ≤ 1000
  lines : ∀ t ∈ r2.1, 1 ≤ t.line ∧ t.line ≤ 1000
  len1 : r1.1.length ≤ 1000
  len2 : r2.1.length ≤ 1000
theorem tks_len (f : Nat) : ∀ (line : Int) (L : List Int), L.length < f → (tks f line L).1.length ≤ L.length := by
  induction f with
  | zero => intro line L h; omega
  | succ f ih =>
    intro line L hf
    rw [tks_step]
    by_cases c1 : L.drop (skipK false L) = []
    · rw [if_pos c1]; simp
    · rw [if_neg c1]
      by_cases c3 : (firstT (L.drop (skipK false L))).err = 0
      · rw [if_neg (by simpa using c3)]
        have p := first_ok _ c1 c3
        have q := rest_lt c1 p.1
        have r := ih (line + nl (L.take (skipK false L))) ((L.drop (skipK false L)).drop (firstT (L.drop (skipK false L))).text.length) (by omega)
        unfold glue
        split
        · rw [List.length_append, List.length_singleton]; omega
        · omega
      · rw [if_pos (by simpa using c3)]; simp
theorem lines_ok (a b : List Int) (ha : a.length ≤ 600) (hb : b.length ≤ 600) : LinesOk a (tokR a) (tokR b) (tokR (a ++ [10] ++ b)) := by
  have k := tokR_lines a b ha hb
  have e1 := tokR_tks a (by omega)
  have e2 := tokR_tks b (by omega)
  refine ⟨fun h => ?_, fun h1 h2 => ?_, fun h1 h2 => ?_, ?_, ?_, ?_, ?_⟩
  · rw [k, if_pos h]
    refine ⟨rfl, ?_⟩
    rw [e1] at h ⊢
    exact tks_err _ _ _ h
  · rw [k, if_neg (by simpa using h1)]
    have h3 : (tokR b).1 = [] := by rw [e2] at h2 ⊢; exact tks_err _ _ _ h2
    unfold glue shift
    rw [h3, if_neg (by simpa using h2), if_neg (by simpa using h2)]
    simp
  · rw [k, if_neg (by simpa using h1)]
    unfold glue shift
    rw [if_pos (by simpa using h2), if_pos (by simpa using h2), h2]
  · rw [e2]
    have := tks_bound2 (b.length + 1) 1 b (by decide) (Nat.lt_succ_self _)
    omega
  · rw [e2]
    intro t ht
    have := tks_bound (b.length + 1) 1 b (Nat.lt_succ_self _) t ht
    omega
  · rw [e1]; have := tks_len (a.length + 1) 1 a (Nat.lt_succ_self _); omega
  · rw [e2]; have := tks_len (b.length + 1) 1 b (Nat.lt_succ_self _); omega

set_option maxRecDepth 100000 in
set_option maxHeartbeats 4000000 in
theorem lines_walk (s t : ByteArray) (W : World) : Calls Try.prog 6 #[.string s, .string t] W (HoldsT W) := by
  have ea := bytesI_str s
  have ra := bytesI_range s
  have la := bytesI_len s
  generalize bytesI s = A at *
  have eb := bytesI_str t
  have rb := bytesI_range t
  have lb := bytesI_len t
  generalize bytesI t = B at *
  by_cases hs : s.size ≤ 600
  · have i0 : ¬ (600 : Int) < s.size := by omega
    by_cases ht : t.size ≤ 600
    · have i1 : ¬ (600 : Int) < t.size := by omega
      have H1 := Lib.hid (fun w => tokenize_all w A ra)
      have H2 := Lib.hid (fun w => tokenize_all w B rb)
      have H3 := Lib.hid (fun w => tokenize_all w (A ++ [10] ++ B) (by
        intro x hx
        rcases List.mem_append.1 hx with h | h
        · rcases List.mem_append.1 h with h | h
          · exact ra x h
          · simp at h; omega
        · exact rb x h))
      have hcat : strOf (A ++ [10] ++ B) = (s ++ ⟨#[10]⟩) ++ t := by rw [← strOf_app, ← strOf_app, ea, eb]; rfl
      rw [hcat] at H3
      rw [ea] at H1
      rw [eb] at H2
      have HK := Lib.hid (lines_ok A B (by omega) (by omega))
      have HI := Lib.hid (fun i h => strOf_at A ra i h)
      rw [ea] at HI
      obtain ⟨M1, l1, e1, hm1⟩ : ∃ M ln er, tokR A = (M, ln, er) := ⟨_, _, _, rfl⟩
      obtain ⟨M2, l2, e2, hm2⟩ : ∃ M ln er, tokR B = (M, ln, er) := ⟨_, _, _, rfl⟩
      obtain ⟨M3, l3, e3, hm3⟩ : ∃ M ln er, tokR (A ++ [10] ++ B) = (M, ln, er) := ⟨_, _, _, rfl⟩
      rw [hm1] at H1 HK
      rw [hm2] at H2 HK
      rw [hm3] at H3 HK
      have j1 : s.size + (⟨#[10]⟩ : ByteArray).size ≤ 9223372036854775807 := by rw [show (⟨#[10]⟩ : ByteArray).size = 1 from rfl]; omega
      have j2 : (s ++ ⟨#[10]⟩ : ByteArray).size + t.size ≤ 9223372036854775807 := by rw [ByteArray.size_append, show (⟨#[10]⟩ : ByteArray).size = 1 from rfl]; omega
      clear hm1 hm2 hm3 ra rb ea eb hcat
      go_enter Try.func6, Try.ntmps6
      go_wp2_with fail
      refine (H1.out _).mono ?_
      rintro e w1 ⟨V1, rfl, o1, g1⟩
      obtain ⟨a1, c1, rfl⟩ := o1.shape
      have O1 := Lib.hid o1
      have G1 := Lib.hid g1
      clear o1 g1
      go_wp2_with fail
      refine (H2.out _).mono ?_
      rintro e w2 ⟨V2, rfl, o2, g2⟩
      obtain ⟨a2, c2, rfl⟩ := o2.shape
      have O2 := Lib.hid (show TL w2 W.heap.size _ _ _ from own_low o2 G1.out.size)
      replace O1 := Lib.hid (O1.out.keep0 g2)
      have G2 := Lib.hid (gb_trans G1.out g2)
      clear o2 g2 G1
      go_wp2_with fail
      refine (H3.out _).mono ?_
      rintro e w3 ⟨V3, rfl, o3, g3⟩
      obtain ⟨a3, c3, rfl⟩ := o3.shape
      have O3 := Lib.hid (show TL w3 W.heap.size _ _ _ from own_low o3 G2.out.size)
      replace O1 := Lib.hid (O1.out.keep0 g3)
      replace O2 := Lib.hid (O2.out.keep0 g3)
      have G3 := Lib.hid (gb_trans G2.out g3)
      clear o3 g3 G2 H1 H2 H3 j1 j2
      go_wp2
      go_loopw [14, 15] (fun ln i wr => ∃ k : Nat, k ≤ A.length ∧ ln = .int .i64 ((nl (A.take k) + 1 : Nat) : Int) ∧ i = .int .i64 k ∧ wr = w3) (fun _ i _ => A.length - (intOf i).toNat)
      case atStart => exact ⟨0, Nat.zero_le _, rfl, rfl, rfl⟩
      case round =>
        obtain ⟨k, hk, rfl, rfl, rfl⟩ := hrel
        by_cases hlt : k < A.length
        · have hi : (k : Int) < s.size := by omega
          have hat : ∀ (h : k < s.size), (((s[k]'h).toNat : Nat) : Int) = A.getD k 0 := HI.out k
          have HN := Lib.hid (nl_step A k hlt)
          have hnl := nl_le (A.take k)
          rw [List.length_take] at hnl
          obtain ⟨x, hx⟩ : ∃ x, x = A.getD k 0 := ⟨_, rfl⟩
          rw [← hx] at hat HN
          obtain ⟨n, hn⟩ : ∃ n, n = nl (A.take k) := ⟨_, rfl⟩
          rw [← hn] at HN hnl ⊢
          clear hx hn
          by_cases h10 : x = 10
          · subst h10
            have HN2 := Lib.hid (show nl (A.take (k + 1)) = n + 1 by rw [HN.out, if_pos rfl])
            go_wp2
            go_roundw
            case rel => exact ⟨k + 1, by omega, by rw [HN2.out]; go_num, by go_num, trivial⟩
            case measure => simp [intOf]; omega
          · have HN2 := Lib.hid (show nl (A.take (k + 1)) = n by rw [HN.out, if_neg h10]; rfl)
            have d1 : (x == 10) = false := by rw [beq_eq_false_iff_ne]; exact h10
            go_wp2
            go_roundw
            case rel => exact ⟨k + 1, by omega, by rw [HN2.out], by go_num, trivial⟩
            case measure => simp [intOf]; omega
        · have hke : k = A.length := by omega
          subst hke
          rw [List.take_length]
          have hi : ¬ (A.length : Int) < s.size := by omega
          have hnA := nl_le A
          obtain ⟨n, hn⟩ : ∃ n, n = nl A := ⟨_, rfl⟩
          rw [← hn] at hnA ⊢
          have hlow := HK.out.low
          have hlen1 := HK.out.len1
          have hlen2 := HK.out.len2
          simp only at hlow hlen1 hlen2
          by_cases he1 : e1 = 0
          · subst he1
            by_cases he2 : e2 = 0
            · subst he2
              have hg := HK.out.good rfl rfl
              simp only [Prod.mk.injEq] at hg
              obtain ⟨rfl, rfl, rfl⟩ := hg
              have hlines := HK.out.lines
              simp only at hlines
              rw [← hn] at O3 ⊢
              have HLI := Lib.hid hlines
              clear hn hlines HK
              obtain ⟨N3, hN3⟩ : ∃ N, N = M1 ++ M2.map (lineOn ((n : Int) + 1)) := ⟨_, rfl⟩
              rw [← hN3] at O3 ⊢
              have HN3 := Lib.hid hN3
              have HL3 := Lib.hid (show N3.length = M1.length + M2.length by rw [hN3]; simp)
              have hl3b : N3.length ≤ 2000 := by have := HL3.out; omega
              have hsum : ((N3.length : Int) == (M1.length : Int) + M2.length) = true := by rw [beq_iff_eq]; have := HL3.out; omega
              have hsum2 : ((N3.length : Int) != (M1.length : Int) + M2.length) = false := by simp [bne, hsum]
              clear hN3
              go_wp2
              go_loopw [16] (fun i wr2 => ∃ k : Nat, k ≤ N3.length ∧ i = .int .i64 k ∧ W.grownBy wr2 none ∧ TL wr2 W.heap.size 34 (.slice a1 M1.length c1) M1 ∧ TL wr2 W.heap.size 34 (.slice a2 M2.length c2) M2 ∧ TL wr2 W.heap.size 34 (.slice a3 N3.length c3) N3) (fun i _ => N3.length - (intOf i).toNat)
              case atStart => exact ⟨0, Nat.zero_le _, rfl, G3.out, O1.out, O2.out, O3.out⟩
              case round =>
                obtain ⟨k, hk2, rfl, gw, p1, p2, p3⟩ := hrel
                have P1 := Lib.hid p1
                have P2 := Lib.hid p2
                have P3 := Lib.hid p3
                have GW := Lib.hid gw
                clear p1 p2 p3 gw O1 O2 O3 G3
                by_cases hlt : k < N3.length
                · have hi3 : (k : Int) < N3.length := by omega
                  obtain ⟨g3, b3, hh⟩ := TL.head P3.out (by omega)
                  cases hh
                  have q3 := TL.cellsR P3.out k (by omega)
                  by_cases hk1 : k < M1.length
                  · have hi1 : (k : Int) < M1.length := by omega
                    have eN : N3.getD k noTok = M1.getD k noTok := by rw [HN3.out]; simp [List.getD_eq_getElem?_getD, List.getElem?_append_left hk1]
                    rw [eN] at q3
                    obtain ⟨g1, b1, hh1⟩ := TL.head P1.out (by omega)
                    cases hh1
                    have q1 := TL.cellsR P1.out k hk1
                    obtain ⟨⟨tk, tt, tv, tl⟩, hT⟩ : ∃ t, t = M1.getD k noTok := ⟨_, rfl⟩
                    rw [← hT] at q1 q3
                    simp only at q1 q3
                    obtain ⟨u, hu⟩ : ∃ u, u = strOf tt := ⟨_, rfl⟩
                    rw [← hu] at q1 q3
                    clear hu hT eN
                    obtain ⟨y0, y1, y2, y3⟩ := q3
                    go_wp2
                    have B9 := IsB.new wr 34 #[.int .i64 tk, .string u, .int .u32 tv, .int .i64 tl]
                    have E9 := gb_alloc wr (.cells #[.int .i64 tk, .string u, .int .u32 tv, .int .i64 tl] 34) none
                    generalize wr.alloc (.cells #[.int .i64 tk, .string u, .int .u32 tv, .int .i64 tl] 34) = w9 at *
                    have z0 := E9.cell q1.1 (by simp)
                    have z1 := E9.cell q1.2.1 (by simp)
                    have z2 := E9.cell q1.2.2.1 (by simp)
                    have z3 := E9.cell q1.2.2.2 (by simp)
                    obtain ⟨v0, v1, v2, v3, _, _, _, _⟩ := tok_cells B9
                    have GX := Lib.hid (gb_trans GW.out E9)
                    have X1 := Lib.hid (P1.out.keep0 E9)
                    have X2 := Lib.hid (P2.out.keep0 E9)
                    have X3 := Lib.hid (P3.out.keep0 E9)
                    have qu : (u.toList == u.toList) = true := by rw [beq_iff_eq]
                    clear y0 y1 y2 y3 q1 B9 E9 GW P1 P2 P3
                    go_quiet (fail)
                    go_wp2
                    go_roundw
                    case rel => exact ⟨k + 1, by omega, by go_num, gb_trans GX.out (gb_drewN _ _ _), X1.out.keep0 (gb_drewN _ _ _), X2.out.keep0 (gb_drewN _ _ _), X3.out.keep0 (gb_drewN _ _ _)⟩
                    case measure => simp [intOf]; omega
                  · have hi1 : ¬ (k : Int) < M1.length := by omega
                    obtain ⟨j, hjk⟩ : ∃ j, k = M1.length + j := ⟨k - M1.length, by omega⟩
                    have hj : j < M2.length := by have := HL3.out; omega
                    have eN : N3.getD k noTok = lineOn ((n : Int) + 1) (M2.getD j noTok) := by
                      rw [HN3.out, hjk]
                      simp [List.getD_eq_getElem?_getD, hj]
                    have hsub : (k : Int) - (M1.length : Int) = (j : Int) := by omega
                    have HJK := Lib.hid hjk
                    clear hjk
                    rw [eN] at q3
                    obtain ⟨g2, b2, hh2⟩ := TL.head P2.out (by omega)
                    cases hh2
                    have q2 := TL.cellsR P2.out j hj
                    have hb := HLI.out (M2.getD j noTok) (by simp [hj])
                    obtain ⟨⟨tk, tt, tv, tl⟩, hT⟩ : ∃ t, t = M2.getD j noTok := ⟨_, rfl⟩
                    rw [← hT] at q2 q3 hb
                    simp only [lineOn] at q2 q3 hb
                    obtain ⟨u, hu⟩ : ∃ u, u = strOf tt := ⟨_, rfl⟩
                    rw [← hu] at q2 q3
                    clear hu hT eN
                    obtain ⟨y0, y1, y2, y3⟩ := q3
                    have hlt2 := (World.ownsRow.lt P2.out g2 rfl).2
                    have hne : ¬ g2 = wr.heap.size := by omega
                    have hne2 : ¬ wr.heap.size = g2 := by omega
                    go_wp2
                    have B9 := IsB.new wr 34 #[.int .i64 tk, .string u, .int .u32 tv, .int .i64 (tl + ((n : Int) + 1))]
                    have E9 := gb_alloc wr (.cells #[.int .i64 tk, .string u, .int .u32 tv, .int .i64 (tl + ((n : Int) + 1))] 34) none
                    generalize wr.alloc (.cells #[.int .i64 tk, .string u, .int .u32 tv, .int .i64 (tl + ((n : Int) + 1))] 34) = w9 at *
                    have z0 := E9.cell q2.1 (by simp)
                    have z1 := E9.cell q2.2.1 (by simp)
                    have z2 := E9.cell q2.2.2.1 (by simp)
                    have z3 := E9.cell q2.2.2.2 (by simp)
                    obtain ⟨v0, v1, v2, v3, f0, f1, f2, f3⟩ := tok_cells B9
                    have GX := Lib.hid (gb_trans GW.out E9)
                    have X1 := Lib.hid (P1.out.keep0 E9)
                    have X2 := Lib.hid (P2.out.keep0 E9)
                    have X3 := Lib.hid (P3.out.keep0 E9)
                    have qu : (u.toList == u.toList) = true := by rw [beq_iff_eq]
                    have EX := Lib.hid E9
                    clear y0 y1 y2 y3 q2 E9 X1 X2 X3 GX
                    go_quiet (fail)
                    go_wp2
                    go_quiet (fail)
                    go_wp2
                    have ET : ∀ n1 n2, wr.grownBy (((w9.drewN n1).setCell ⟨wr.heap.size, 3, none⟩ (.int .i64 tl)).drewN n2) none := fun n1 n2 => gb_trans (gb_put (gb_trans EX.out (gb_drewN _ _ _)) (Nat.le_refl _)) (gb_drewN _ _ _)
                    go_roundw
                    case rel => exact ⟨k + 1, by omega, by go_num, gb_trans GW.out (ET _ _), P1.out.keep0 (ET _ _), P2.out.keep0 (ET _ _), P3.out.keep0 (ET _ _)⟩
                    case measure => simp [intOf]; omega
                · have hke : k = N3.length := by omega
                  subst hke
                  clear P1 P2 P3
                  go_wp2_with fail
                  refine (works_any _).mono ?_
                  rintro e w6 ⟨rfl, g6, _⟩
                  have G6 := Lib.hid (gb_trans GW.out g6)
                  clear g6
                  go_wp2
                  go_ret
                  exact ⟨rfl, gb_below0 G6.out⟩
            · have hg := HK.out.bad2 rfl he2
              simp only [Prod.mk.injEq] at hg
              obtain ⟨rfl, rfl, rfl⟩ := hg
              rw [← hn]
              have hn2 : (e3 == 0) = false := by rw [beq_eq_false_iff_ne]; exact he2
              have hn3 : (e3 != 0) = true := by simp [bne, hn2]
              have hq : (l2 + ((n : Int) + 1) == l2 + ((n + 1 : Nat) : Int)) = true := by rw [beq_iff_eq]; omega
              clear hn HK O1 O2 O3
              go_wp2_with fail
              refine (works_any _).mono ?_
              rintro e w6 ⟨rfl, g6, _⟩
              have G6 := Lib.hid (gb_trans G3.out g6)
              clear g6
              go_wp2
              go_ret
              exact ⟨rfl, gb_below0 G6.out⟩
          · obtain ⟨hg, hg2⟩ := HK.out.bad1 he1
            simp only [Prod.mk.injEq] at hg hg2
            obtain ⟨rfl, rfl, rfl⟩ := hg
            subst hg2
            have hn2 : (e3 == 0) = false := by rw [beq_eq_false_iff_ne]; exact he1
            have hn3 : (e3 != 0) = true := by simp [bne, hn2]
            clear hn HK O1 O2 O3
            go_wp2_with fail
            refine (works_any _).mono ?_
            rintro e w6 ⟨rfl, g6, _⟩
            have G6 := Lib.hid (gb_trans G3.out g6)
            clear g6
            go_wp2
            go_ret
            exact ⟨rfl, gb_below0 G6.out⟩
    · have i1 : (600 : Int) < t.size := by omega
      go_enter Try.func6, Try.ntmps6
      go_wp2_with fail
      refine (works_any _).mono ?_
      rintro e w6 ⟨rfl, g6, _⟩
      have G6 := Lib.hid g6
      clear g6
      go_wp2
      go_ret
      exact ⟨rfl, gb_below0 G6.out⟩
  · have i0 : (600 : Int) < s.size := by omega
    go_enter Try.func6, Try.ntmps6
    go_wp2_with fail
    refine (works_any _).mono ?_
    rintro e w6 ⟨rfl, g6, _⟩
    have G6 := Lib.hid g6
    clear g6
    go_wp2
    go_ret
    exact ⟨rfl, gb_below0 G6.out⟩
end Go.Proofs.Ytmbdpiffdiiggaa
