/- The reference's parsing: the walks of ParseInt, ParseUint32; no condition but sizes and the bytes' range. -/
import Derived.Test.YtmbdpiffdiiggaaNtK
namespace Go.Proofs.Ytmbdpiffdiiggaa
open Go.RowKit
set_option linter.unusedVariables false

theorem valF_mono (T : List Int) (v : Int) (h0 : 0 ≤ v) : 0 ≤ valF 16 v T := by
  induction T generalizing v with
  | nil => exact h0
  | cons x t ih =>
    have := dv_range x
    exact ih (v * 16 + dv x) (by omega)
theorem valF_p16 (T : List Int) (hok : okD 16 T = true) : 0 ≤ valF 16 0 T ∧ valF 16 0 T < p16 T.length := by
  have k := valF_grow 16 (Or.inr rfl) T 0 1 (Int.le_refl _) (by decide) hok
  omega
theorem p16_small (n : Nat) (h : n ≤ 7) : p16 n ≤ 268435456 := by
  rcases (show n = 0 ∨ n = 1 ∨ n = 2 ∨ n = 3 ∨ n = 4 ∨ n = 5 ∨ n = 6 ∨ n = 7 by omega) with rfl | rfl | rfl | rfl | rfl | rfl | rfl | rfl <;> decide
set_option maxRecDepth 100000 in
set_option maxHeartbeats 2000000 in
theorem rparseU_hex (w : World) (L : List Int) (hl : L.length ≤ 1000000) (hL : ∀ x ∈ L, 0 ≤ x ∧ x ≤ 255) (hx : 2 ≤ L.length ∧ L.take 2 = [48, 120]) :
    Calls Try.prog 70 #[.string (strOf L)] w (RetQ (.tuple #[.int .u32 (prU L).1, .bool (prU L).2]) w none fun _ => True) := by
  have HL := Lib.hid hL
  have HR := Lib.hid (show prU L = ((toE 16 8 (L.drop 2)).1 % 4294967296, (toE 16 8 (L.drop 2)).2) by unfold prU; rw [if_pos hx])
  have z := strOf_size L
  have x1 := strOf_cut L 0 2
  rw [List.drop_zero, Nat.sub_zero, hx.2, show strOf [48, 120] = ⟨#[48, 120]⟩ from rfl] at x1
  have HI := Lib.hid (fun i h => strOf_at L hL i h)
  have h2 := hx.1
  have HT := Lib.hid (show (L.drop 2).length + 2 = L.length by simp; omega)
  have HTG := Lib.hid (show ∀ k, (L.drop 2).getD k 0 = L.getD (k + 2) 0 by intro k; simp [List.getD_eq_getElem?_getD, List.getElem?_drop, Nat.add_comm])
  obtain ⟨T, hTT⟩ : ∃ T, T = L.drop 2 := ⟨_, rfl⟩
  rw [← hTT] at HR HT HTG
  obtain ⟨r, hr⟩ : ∃ r, r = strOf L := ⟨_, rfl⟩
  rw [← hr] at z x1 ⊢
  have HRr := Lib.hid hr
  clear hL hr hx hTT
  have q1 : ((ByteArray.mk #[48, 120]).toList == (ByteArray.mk #[48, 120]).toList) = true := by rw [beq_iff_eq]
  have i2 : (2 : Int) ≤ L.length := by omega
  by_cases h3 : L.length < 3
  · have HE := Lib.hid (show toE 16 8 T = (0, false) by unfold toE; rw [if_neg (by have := HT.out; omega)])
    have i3 : (L.length : Int) < 3 := by omega
    go_enter Try.func70, Try.ntmps70
    go_wp2
    go_ret2
    refine ⟨?_, gb_refl _ _, trivial⟩
    rw [HR.out, HE.out]
    rfl
  · by_cases h10 : 10 < L.length
    · have HE := Lib.hid (show toE 16 8 T = (0, false) by unfold toE; rw [if_neg (by have := HT.out; omega)])
      have i3 : ¬ (L.length : Int) < 3 := by omega
      have i4 : (10 : Int) < L.length := by omega
      go_enter Try.func70, Try.ntmps70
      go_wp2
      go_ret2
      refine ⟨?_, gb_refl _ _, trivial⟩
      rw [HR.out, HE.out]
      rfl
    · have i3 : ¬ (L.length : Int) < 3 := by omega
      have i4 : ¬ (10 : Int) < L.length := by omega
      have d3 : decide (L.length < 3) = false := decide_eq_false h3
      have d4 : decide (10 < L.length) = false := decide_eq_false h10
      have d2 : decide (2 ≤ L.length) = true := decide_eq_true h2
      go_enter Try.func70, Try.ntmps70
      go_wp2
      go_loopw [4, 5] (fun v i wr => ∃ k : Nat, k ≤ T.length ∧ v = .int .u32 (valF 16 0 (T.take k)) ∧ i = .int .i64 ((k + 2 : Nat) : Int) ∧ okD 16 (T.take k) = true ∧ w = wr) (fun _ i _ => L.length - (intOf i).toNat)
      case atStart => exact ⟨0, Nat.zero_le _, rfl, rfl, rfl, rfl⟩
      case round =>
        obtain ⟨k, hk, rfl, rfl, hok, rfl⟩ := hrel
        have hTl := HT.out
        have hv := valF_p16 (T.take k) hok
        have hvl := valF_range 16 (Or.inr rfl) (T.take k) (by simp; omega) hok
        have HOK := Lib.hid hok
        clear hok
        by_cases hlt : k < T.length
        · have hv7 := p16_small (T.take k).length (by simp; omega)
          have hv' : valF 16 0 (T.take k) < 268435456 := by omega
          have hv0 := hv.1
          have hi : ((k + 2 : Nat) : Int) < L.length := by omega
          have hat : ∀ (h : k + 2 < r.size), (((r[k + 2]'h).toNat : Nat) : Int) = L.getD (k + 2) 0 := by
            have q := HI.out (k + 2)
            rw [← HRr.out] at q
            exact q
          have hxr := getD_byte HL.out (k + 2)
          have HS := Lib.hid (take_snoc T k hlt)
          have TL := HTG.out k
          have HG := Lib.hid (rdg_any w (L.getD (k + 2) 0) hxr.1 hxr.2)
          by_cases hd : dv (L.getD (k + 2) 0) < 16
          · have HE1 := Lib.hid (show valF 16 0 (T.take (k + 1)) = 16 * valF 16 0 (T.take k) + dv (L.getD (k + 2) 0) by rw [HS.out, valF_snoc, TL]; omega)
            have HE2 := Lib.hid (show okD 16 (T.take (k + 1)) = true by rw [HS.out]; unfold okD at *; rw [List.all_append, HOK.out, TL]; simpa using hd)
            have er : rdg (L.getD (k + 2) 0) = dv (L.getD (k + 2) 0) := by unfold rdg; rw [if_pos hd]
            have hdr := dv_range (L.getD (k + 2) 0)
            rw [er] at HG
            obtain ⟨d, hdd⟩ : ∃ d, d = dv (L.getD (k + 2) 0) := ⟨_, rfl⟩
            rw [← hdd] at hd HE1 HG hdr
            obtain ⟨x, hxx⟩ : ∃ x, x = L.getD (k + 2) 0 := ⟨_, rfl⟩
            rw [← hxx] at hxr hat HG
            obtain ⟨v, hvv⟩ : ∃ v, v = valF 16 0 (T.take k) := ⟨_, rfl⟩
            rw [← hvv] at hv' hv0 HE1 ⊢
            obtain ⟨j, hj⟩ : ∃ j, j = k + 2 := ⟨_, rfl⟩
            have HJ := Lib.hid hj
            rw [← hj] at hi hat ⊢
            clear hdd hxx hvv HS TL hvl hv hv7 er hj hk
            go_wp2_with fail
            refine HG.out.mono ?_
            rintro e w' ⟨rfl, rfl⟩
            go_wp2_with fail
            refine HG.out.mono ?_
            rintro e w' ⟨rfl, rfl⟩
            go_wp2
            go_roundw
            case rel => exact ⟨k + 1, by omega, by rw [HE1.out], by have := HJ.out; subst this; go_num, HE2.out, by first | rfl | trivial⟩
            case measure => simp [intOf]; omega
          · have HE := Lib.hid (show toE 16 8 T = (0, false) by
              unfold toE
              rw [if_neg]
              intro hh
              have k2 := okD_at hh.2.2 k hlt
              rw [TL] at k2
              exact hd k2)
            have er : rdg (L.getD (k + 2) 0) = -1 := by unfold rdg; rw [if_neg hd]
            rw [er] at HG
            obtain ⟨x, hxx⟩ : ∃ x, x = L.getD (k + 2) 0 := ⟨_, rfl⟩
            rw [← hxx] at hxr hat HG
            obtain ⟨j, hj⟩ : ∃ j, j = k + 2 := ⟨_, rfl⟩
            rw [← hj] at hi hat ⊢
            clear hxx HS TL hvl hv hv7 er hj hd
            go_wp2_with fail
            refine HG.out.mono ?_
            rintro e w' ⟨rfl, rfl⟩
            go_wp2
            go_ret2
            refine ⟨?_, gb_refl _ _, trivial⟩
            rw [HR.out, HE.out]
            rfl
        · have hke : k = T.length := by omega
          have HE := Lib.hid (show toE 16 8 T = (valF 16 0 (T.take k), true) by
            have k2 := HOK.out
            rw [hke, List.take_length] at *
            unfold toE
            rw [if_pos ⟨by omega, by omega, k2⟩])
          have hi : ¬ ((k + 2 : Nat) : Int) < L.length := by omega
          have hb : valF 16 0 (T.take k) < 4294967296 := by
            have e8 := hv.2
            have : p16 (T.take k).length ≤ 4294967296 := by
              have h8 : (T.take k).length ≤ 8 := by simp; omega
              rcases (show (T.take k).length ≤ 7 ∨ (T.take k).length = 8 by omega) with h | h
              · have := p16_small _ h; omega
              · rw [h]; decide
            omega
          have hb0 := hv.1
          obtain ⟨v, hvv⟩ : ∃ v, v = valF 16 0 (T.take k) := ⟨_, rfl⟩
          rw [← hvv] at HE hb hb0 ⊢
          obtain ⟨j, hj⟩ : ∃ j, j = k + 2 := ⟨_, rfl⟩
          rw [← hj] at hi ⊢
          clear hvv HOK hvl hv hj
          go_wp2
          go_ret2
          refine ⟨?_, gb_refl _ _, trivial⟩
          rw [HR.out, HE.out]
          show _ = Ending.returned (.tuple #[.int .u32 (v % 4294967296), .bool true])
          rw [show v % 4294967296 = v by omega]
          rfl
end Go.Proofs.Ytmbdpiffdiiggaa
