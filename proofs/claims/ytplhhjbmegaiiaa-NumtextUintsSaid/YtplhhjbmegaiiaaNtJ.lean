/- Laws on text: the walk of NumtextUints; no condition. -/
import Derived.Test.YtplhhjbmegaiiaaNtI
namespace Go.Proofs.Ytplhhjbmegaiiaa
open Go.RowKit
set_option linter.unusedVariables false

theorem ox_str (L : List Int) : (⟨#[48, 120]⟩ : ByteArray) ++ strOf L = strOf ([48, 120] ++ L) := by
  have e : (⟨#[48, 120]⟩ : ByteArray) = strOf [48, 120] := rfl
  rw [e, strOf_app]
theorem ox0_str (L : List Int) : (⟨#[48, 120, 48]⟩ : ByteArray) ++ strOf L = strOf ([48, 120] ++ 48 :: L) := by
  have e : (⟨#[48, 120, 48]⟩ : ByteArray) = strOf [48, 120, 48] := rfl
  rw [e, strOf_app]
  rfl
theorem ox_range {L : List Int} (h : ∀ x ∈ L, 0 ≤ x ∧ x ≤ 255) : ∀ x ∈ [48, 120] ++ L, 0 ≤ x ∧ x ≤ 255 := app_range (by decide) h
def one4 (v : Int) : List Int := [1, v / 65536 % 256, v / 256 % 256, v % 256]
theorem one4_range (v : Int) : ∀ x ∈ one4 v, 0 ≤ x ∧ x ≤ 255 := by
  intro x hx
  simp [one4] at hx
  omega
theorem prU_hexOf {v : Int} {T : List Int} (h : HexOf v T) (h0 : 0 ≤ v) (h1 : v < 4294967296) : prU ([48, 120] ++ T) = (v, true) := by
  rw [prU_hex, hexOf_toE h]
  simp only
  rw [show v % 4294967296 = v by omega]
theorem prU_long (v : Int) : (prU ([48, 120] ++ 48 :: encL (one4 v))).2 = false := by
  rw [prU_hex]
  unfold toE
  rw [if_neg (by simp [encL_len, one4])]

set_option maxRecDepth 100000 in
set_option maxHeartbeats 2000000 in
theorem uints_walk (v : Int) (W : World) (hv : (Lit.int .u32 v).wf = true) : Calls Try.prog 6 #[.int .u32 v] W (HoldsT W) := by
  have hv := u32_bd hv
  have H1 := Lib.hid (fun w => fmtU_any w v hv.1 hv.2)
  have H2 := Lib.hid (fun w => parseU_any w (dec v) (by have := dec_len v; omega) (dec_range v hv.1))
  rw [prU_dec v hv.1 hv.2] at H2
  generalize strOf (dec v) = S at *
  have H3 := Lib.hid (fun w a c (q : SlR w a 4 c ((be4 v).map (Value.int .u8))) => encode_any w a 4 c (be4 v) q (be4_range v) (by simp [be4]))
  have HX := Lib.hid (hexOf_enc v hv.1 hv.2)
  have er := encL_range (be4 v) (be4_range v)
  obtain ⟨T0, hT0⟩ : ∃ T0, T0 = encL (be4 v) := ⟨_, rfl⟩
  rw [← hT0] at H3 HX er
  have HP := Lib.hid (fun w (T : List Int) (h : HexOf v T) (q : ∀ x ∈ T, 0 ≤ x ∧ x ≤ 255) => parseU_any w ([48, 120] ++ T) (by have := h.2.1; simp; omega) (ox_range q))
  have H6 := Lib.hid (fun w a c (q : SlR w a 4 c ((one4 v).map (Value.int .u8))) => encode_any w a 4 c (one4 v) q (one4_range v) (by simp [one4]))
  have H7 := Lib.hid (fun w => parseU_any w ([48, 120] ++ 48 :: encL (one4 v)) (by simp [encL_len, one4]) (ox_range (by
    intro x hx
    rcases List.mem_cons.1 hx with h | h
    · omega
    · exact encL_range _ (one4_range v) x h)))
  rw [prU_long v] at H7
  have e7 := ox0_str (encL (one4 v))
  have z7 := strOf_size (encL (one4 v))
  rw [show (encL (one4 v)).length = 8 by simp [encL_len, one4]] at z7
  generalize (prU ([48, 120] ++ 48 :: encL (one4 v))).1 = y7 at *
  generalize strOf ([48, 120] ++ 48 :: encL (one4 v)) = S7 at *
  generalize strOf (encL (one4 v)) = S6 at *
  have i7 : (⟨#[48, 120, 48]⟩ : ByteArray).size + S6.size ≤ 9223372036854775807 := by rw [z7, show (⟨#[48, 120, 48]⟩ : ByteArray).size = 3 from rfl]; decide
  clear hT0
  have e16 : v / 16777216 % 256 = v / 16777216 := by omega
  go_enter Try.func6, Try.ntmps6
  go_wp2_with fail
  refine (H1.out W).mono ?_
  rintro e w1 ⟨rfl, g1, _⟩
  have G1 := Lib.hid g1
  clear g1
  go_wp2_with fail
  refine (H2.out w1).mono ?_
  rintro e w2 ⟨rfl, g2, _⟩
  have G2 := Lib.hid (gb_trans G1.out g2)
  clear g2 G1
  have SL := Lib.hid (show SlR (w2.alloc (.cells #[.int .u8 (v / 16777216), .int .u8 (v / 65536 % 256), .int .u8 (v / 256 % 256), .int .u8 (v % 256)] 5)) (some ⟨w2.heap.size, 0, none⟩) 4 4 ((be4 v).map (Value.int .u8)) by
    have k := slr_new w2 .u8 (be4 v) 5
    simpa [be4, e16] using k)
  go_wp2_with fail
  refine (H3.out _ _ _ SL.out).mono ?_
  rintro e w3 ⟨rfl, g3, _⟩
  have G3 := Lib.hid (gb_trans G2.out (gb_trans (gb_alloc w2 _ none) g3))
  have H4 := Lib.hid (HP.out w3 T0 HX.out er)
  rw [prU_hexOf HX.out hv.1 hv.2] at H4
  have e4 := ox_str T0
  have z4 := strOf_size T0
  have hl0 := HX.out.2.1
  obtain ⟨A, hA⟩ : ∃ A, A = strOf T0 := ⟨_, rfl⟩
  rw [← hA] at e4 z4 ⊢
  have HA := Lib.hid hA
  obtain ⟨A2, hA2⟩ : ∃ A2, A2 = strOf ([48, 120] ++ T0) := ⟨_, rfl⟩
  rw [← hA2] at e4 H4
  have i4 : (⟨#[48, 120]⟩ : ByteArray).size + A.size ≤ 9223372036854775807 := by rw [z4, show (⟨#[48, 120]⟩ : ByteArray).size = 2 from rfl]; omega
  clear g3 SL G2 H1 H2 H3 hA hA2
  go_wp2_with fail
  refine H4.out.mono ?_
  rintro e w4 ⟨rfl, g4, _⟩
  have G4 := Lib.hid (gb_trans G3.out g4)
  clear g4 H4 G3 e4 i4
  go_wp2
  go_loopw [5] (fun x wr => ∃ T : List Int, x = .string (strOf T) ∧ HexOf v T ∧ (∀ y ∈ T, 0 ≤ y ∧ y ≤ 255) ∧ W.grownBy wr none) (fun x _ => match x with | .string s => s.size | _ => 0)
  case atStart => exact ⟨T0, by rw [HA.out], HX.out, er, G4.out⟩
  case round =>
    obtain ⟨T, rfl, hx, hr, hg⟩ := hrel
    have HT := Lib.hid hx
    have HRg := Lib.hid hr
    have HG := Lib.hid hg
    have h1 := hx.1
    have h8 := hx.2.1
    clear hx hr hg G4 z4 HX
    have z := strOf_size T
    by_cases hl : 1 < T.length
    · obtain ⟨t, U, hTU⟩ : ∃ t U, T = t :: U := by
        cases T with
        | nil => simp at hl
        | cons t U => exact ⟨t, U, rfl⟩
      have hi : ∀ (h : 0 < (strOf T).size), ((((strOf T)[0]'h).toNat : Nat) : Int) = t := fun h => by
        have k := strOf_at T HRg.out 0 h
        rw [k, hTU]; rfl
      by_cases h48 : t = 48
      · have HU := Lib.hid (show HexOf v U by
          have k := HT.out
          rw [hTU, h48] at k
          exact hexOf_trim k (by rw [hTU] at hl; simp at hl; omega))
        have hcut := strOf_from T 1
        have ed : T.drop 1 = U := by rw [hTU]; rfl
        rw [ed] at hcut
        have HRU := Lib.hid (show ∀ y ∈ U, 0 ≤ y ∧ y ≤ 255 from fun y hy => HRg.out y (by rw [hTU]; simp [hy]))
        have HLU := Lib.hid (show U.length + 1 = T.length by rw [hTU]; simp)
        subst h48
        obtain ⟨B, hB⟩ : ∃ B, B = strOf T := ⟨_, rfl⟩
        rw [← hB] at hcut z hi ⊢
        have il : (1 : Int) < T.length := by omega
        have il2 : (1 : Int) ≤ T.length := by omega
        clear hTU ed hB
        go_wp2
        go_roundw
        case rel => exact ⟨U, rfl, HU.out, HRU.out, HG.out⟩
        case measure =>
          simp only
          rw [strOf_size, z]
          have := HLU.out
          omega
      · have h48' : (t == 48) = false := by rw [beq_eq_false_iff_ne]; exact h48
        clear hTU
        have il : (1 : Int) < T.length := by omega
        have H4 := Lib.hid (fun w => HP.out w T HT.out HRg.out)
        rw [prU_hexOf HT.out hv.1 hv.2] at H4
        have e4 := ox_str T
        obtain ⟨B, hB⟩ : ∃ B, B = strOf T := ⟨_, rfl⟩
        rw [← hB] at z e4 hi ⊢
        generalize strOf ([48, 120] ++ T) = B2 at *
        have i4 : (⟨#[48, 120]⟩ : ByteArray).size + B.size ≤ 9223372036854775807 := by rw [z, show (⟨#[48, 120]⟩ : ByteArray).size = 2 from rfl]; omega
        clear hB
        go_wp2_with fail
        refine (H4.out wr).mono ?_
        rintro e w5 ⟨rfl, g5, _⟩
        have G5 := Lib.hid (gb_trans HG.out g5)
        have SL := Lib.hid (show SlR (w5.alloc (.cells #[.int .u8 1, .int .u8 (v / 65536 % 256), .int .u8 (v / 256 % 256), .int .u8 (v % 256)] 5)) (some ⟨w5.heap.size, 0, none⟩) 4 4 ((one4 v).map (Value.int .u8)) by
          have k := slr_new w5 .u8 (one4 v) 5
          simpa [one4] using k)
        clear g5 HG H4
        go_wp2_with fail
        refine (H6.out _ _ _ SL.out).mono ?_
        rintro e w6 ⟨rfl, g6, _⟩
        have G6 := Lib.hid (gb_trans G5.out (gb_trans (gb_alloc w5 _ none) g6))
        clear g6 SL G5
        go_wp2_with fail
        refine (H7.out _).mono ?_
        rintro e w7 ⟨rfl, g7, _⟩
        have G7 := Lib.hid (gb_trans G6.out g7)
        clear g7 G6
        go_wp2_with fail
        refine (works_any _).mono ?_
        rintro e w8 ⟨rfl, g8, _⟩
        have G8 := Lib.hid (gb_trans G7.out g8)
        clear g8 G7
        go_wp2
        go_ret
        exact ⟨rfl, gb_below0 G8.out⟩
    · have il : ¬ (1 : Int) < T.length := by omega
      have H4 := Lib.hid (fun w => HP.out w T HT.out HRg.out)
      rw [prU_hexOf HT.out hv.1 hv.2] at H4
      have e4 := ox_str T
      obtain ⟨B, hB⟩ : ∃ B, B = strOf T := ⟨_, rfl⟩
      rw [← hB] at z e4 ⊢
      generalize strOf ([48, 120] ++ T) = B2 at *
      have i4 : (⟨#[48, 120]⟩ : ByteArray).size + B.size ≤ 9223372036854775807 := by rw [z, show (⟨#[48, 120]⟩ : ByteArray).size = 2 from rfl]; omega
      clear hB
      go_wp2_with fail
      refine (H4.out wr).mono ?_
      rintro e w5 ⟨rfl, g5, _⟩
      have G5 := Lib.hid (gb_trans HG.out g5)
      have SL := Lib.hid (show SlR (w5.alloc (.cells #[.int .u8 1, .int .u8 (v / 65536 % 256), .int .u8 (v / 256 % 256), .int .u8 (v % 256)] 5)) (some ⟨w5.heap.size, 0, none⟩) 4 4 ((one4 v).map (Value.int .u8)) by
        have k := slr_new w5 .u8 (one4 v) 5
        simpa [one4] using k)
      clear g5 HG H4
      go_wp2_with fail
      refine (H6.out _ _ _ SL.out).mono ?_
      rintro e w6 ⟨rfl, g6, _⟩
      have G6 := Lib.hid (gb_trans G5.out (gb_trans (gb_alloc w5 _ none) g6))
      clear g6 SL G5
      go_wp2_with fail
      refine (H7.out _).mono ?_
      rintro e w7 ⟨rfl, g7, _⟩
      have G7 := Lib.hid (gb_trans G6.out g7)
      clear g7 G6
      go_wp2_with fail
      refine (works_any _).mono ?_
      rintro e w8 ⟨rfl, g8, _⟩
      have G8 := Lib.hid (gb_trans G7.out g8)
      clear g8 G7
      go_wp2
      go_ret
      exact ⟨rfl, gb_below0 G8.out⟩
end Go.Proofs.Ytplhhjbmegaiiaa
