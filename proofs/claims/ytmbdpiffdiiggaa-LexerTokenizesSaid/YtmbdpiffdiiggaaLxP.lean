/- The reference's first token at a number: the walk; no condition but sizes and the bytes' range. -/
import Derived.Test.YtmbdpiffdiiggaaLxO
namespace Go.Proofs.Ytmbdpiffdiiggaa
open Go.RowKit
set_option linter.unusedVariables false

set_option maxRecDepth 100000 in
set_option maxHeartbeats 1000000 in
theorem rfirst_num (w : World) (L : List Int) (hL : ∀ x ∈ L, 0 ≤ x ∧ x ≤ 255) (hl : L.length ≤ 1000000) (h1 : 1 ≤ L.length) (hb : isL (L.getD 0 0) = false) (hd : isD (L.getD 0 0) = true) :
    Calls Try.prog 47 #[.string (strOf L)] w (RetQ (tokV (rfT L).kind (rfT L).text (rfT L).val) w none fun _ => True) := by
  have z := strOf_size L
  have HI0 := strOf_at L hL 0
  have HI := Lib.hid (fun i h => strOf_at L hL i h)
  have hx := getD_byte hL 0
  have HB2 := Lib.hid (getD_byte hL)
  have HL := Lib.hid (fun w => rletter_any w (L.getD 0 0) hx.1 hx.2)
  have HD := Lib.hid (fun w => rdigit5_any w (L.getD 0 0) hx.1 hx.2)
  have KY := Lib.hid (spanK_yes isA L)
  have KN := Lib.hid (spanK_no isA L)
  have hk := spanK_le isA L
  have hk1 := spanK_pos (p := isA) h1 (by unfold isA; rw [hd]; simp)
  have x1 := strOf_cut L 0 (spanK isA L)
  rw [List.drop_zero, Nat.sub_zero] at x1
  have HF := Lib.hid (show rfT L = ⟨2, L.take (spanK isA L), (prU (L.take (spanK isA L))).1, 0⟩ by unfold rfT; rw [hb, hd]; rfl)
  have HP := Lib.hid (fun w => rparseU_any w (L.take (spanK isA L)) (by simp; omega) (take_range hL _))
  rw [hb] at HL
  rw [hd] at HD
  obtain ⟨r, hr⟩ : ∃ r, r = strOf L := ⟨_, rfl⟩
  rw [← hr] at z HI0 x1 ⊢
  have HRr := Lib.hid hr
  obtain ⟨x, hxx⟩ : ∃ x, x = L.getD 0 0 := ⟨_, rfl⟩
  rw [← hxx] at HI0 HL HD hx
  obtain ⟨K0, hkk⟩ : ∃ k, k = spanK isA L := ⟨_, rfl⟩
  rw [← hkk] at KY KN hk hk1 x1 HF HP
  obtain ⟨p, hp⟩ : ∃ p, p = strOf (L.take K0) := ⟨_, rfl⟩
  rw [← hp] at x1 HP
  have HPP := Lib.hid hp
  obtain ⟨v, ok, hvo⟩ : ∃ v ok, prU (L.take K0) = (v, ok) := ⟨_, _, rfl⟩
  rw [hvo] at HP HF
  have hki : (K0 : Int) ≤ L.length := by omega
  clear hL hr hxx hkk hp hb hd hvo
  have B1 := Lib.hid (IsB.new w 60 #[.int .i64 0, .string { data := #[] }, .int .u32 0, .int .i64 0])
  have G1 := Lib.hid (gb_alloc w (.cells #[.int .i64 0, .string { data := #[] }, .int .u32 0, .int .i64 0] 60) none)
  go_enter Try.func47, Try.ntmps47
  go_wp2_with fail
  refine (HL.out _).mono ?_
  rintro e w2 ⟨rfl, rfl⟩
  go_wp2_with fail
  refine (HD.out _).mono ?_
  rintro e w2 ⟨rfl, rfl⟩
  generalize w.alloc (.cells #[.int .i64 0, .string { data := #[] }, .int .u32 0, .int .i64 0] 60) = w2 at *
  go_wp2
  go_loopw [3] (fun i wr => ∃ k : Nat, 1 ≤ k ∧ k ≤ K0 ∧ i = .int .i64 k ∧ wr = w2) (fun i _ => L.length - (intOf i).toNat)
  case atStart => exact ⟨1, Nat.le_refl _, hk1, rfl, rfl⟩
  case round =>
    obtain ⟨k, hk2, hk3, rfl, rfl⟩ := hrel
    by_cases hlt : k < L.length
    · have hi : (k : Int) < L.length := by omega
      have hat : ∀ (h : k < r.size), (((r[k]'h).toNat : Nat) : Int) = L.getD k 0 := by
        have q := HI.out k
        rw [← HRr.out] at q
        exact q
      have hy := HB2.out k
      have HY := Lib.hid (show k < K0 → isA (L.getD k 0) = true from fun h => KY.out k h)
      have HN := Lib.hid (show isA (L.getD k 0) = true → k < K0 from fun h => by
        rcases Nat.lt_or_ge k K0 with q | q
        · exact q
        · have e : k = K0 := by omega
          have e2 := KN.out (by omega)
          rw [← e, h] at e2
          cases e2)
      obtain ⟨y, hyy⟩ : ∃ y, y = L.getD k 0 := ⟨_, rfl⟩
      rw [← hyy] at hat hy HY HN
      clear hyy
      have HLy := Lib.hid (fun w => rletter_any w y hy.1 hy.2)
      have HDy := Lib.hid (fun w => rdigit5_any w y hy.1 hy.2)
      rw [isA_of] at HY HN
      cases c1 : isL y
      · rw [c1] at HLy HY HN
        clear c1
        cases c2 : isD y
        · rw [c2] at HDy HY HN
          clear c2
          have hnk : k = K0 := by
            rcases Nat.lt_or_ge k K0 with q | q
            · have := HY.out q; simp at this
            · omega
          clear HY HN hk3
          subst hnk
          go_wp2_with fail
          refine (HLy.out _).mono ?_
          rintro e w3 ⟨rfl, rfl⟩
          go_wp2_with fail
          refine (HDy.out _).mono ?_
          rintro e w3 ⟨rfl, rfl⟩
          go_wp2_with fail
          refine (HP.out _).mono ?_
          rintro e w5 ⟨rfl, g5, _⟩
          have B5 := B1.out.keep0 g5
          have G5 := Lib.hid (gb_trans G1.out g5)
          obtain ⟨c0, c1, c2, c3, f0, f1, f2, f3⟩ := tok_cells B5
          clear g5 B5
          go_wp2
          (try simp only [Exit.inBlock, Exit.then])
          refine bodyPost_ret (v := .agg #[.int .i64 2, .string p, .int .u32 v, .int .i64 0]) (by rw [results_cell1 rfl]; go_simp) rfl ⟨?_, ?_, trivial⟩
          · rw [HF.out, HPP.out]; rfl
          · repeat refine gb_put ?_ (Nat.le_refl _)
            exact G5.out
        · rw [c2] at HDy HY HN
          clear c2
          have HX := HN.out (by simp)
          clear HY HN
          go_wp2_with fail
          refine (HLy.out _).mono ?_
          rintro e w3 ⟨rfl, rfl⟩
          go_wp2_with fail
          refine (HDy.out _).mono ?_
          rintro e w3 ⟨rfl, rfl⟩
          go_wp2
          go_roundw
          case rel => exact ⟨k + 1, by omega, by omega, by go_num, trivial⟩
          case measure => simp [intOf]; omega
      · rw [c1] at HLy HY HN
        clear c1
        have HX := HN.out (by simp)
        clear HY HN
        go_wp2_with fail
        refine (HLy.out _).mono ?_
        rintro e w3 ⟨rfl, rfl⟩
        go_wp2
        go_roundw
        case rel => exact ⟨k + 1, by omega, by omega, by go_num, trivial⟩
        case measure => simp [intOf]; omega
    · have hke : k = K0 := by omega
      have hi : ¬ (k : Int) < L.length := by omega
      have hlen : L.length = k := by omega
      clear hk3
      subst hke
      go_wp2_with fail
      refine (HP.out _).mono ?_
      rintro e w5 ⟨rfl, g5, _⟩
      have B5 := B1.out.keep0 g5
      have G5 := Lib.hid (gb_trans G1.out g5)
      obtain ⟨c0, c1, c2, c3, f0, f1, f2, f3⟩ := tok_cells B5
      clear g5 B5
      go_wp2
      (try simp only [Exit.inBlock, Exit.then])
      refine bodyPost_ret (v := .agg #[.int .i64 2, .string p, .int .u32 v, .int .i64 0]) (by rw [results_cell1 rfl]; go_simp) rfl ⟨?_, ?_, trivial⟩
      · rw [HF.out, HPP.out]; rfl
      · repeat refine gb_put ?_ (Nat.le_refl _)
        exact G5.out
end Go.Proofs.Ytmbdpiffdiiggaa
