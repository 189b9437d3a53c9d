/- Header: the walks of Check and Bits, and of their references; no condition but sizes. -/
import Derived.Test.YtgknooblnpmloaaHdD
namespace Go.Proofs.Ytgknooblnpmloaa
open Go.RowKit
set_option linter.unusedVariables false

theorem val_i64 {k : IntKind} {a b : Int} (h : a = b) : Value.int k a = .int k b := by rw [h]
set_option maxRecDepth 100000 in
set_option maxHeartbeats 4000000 in
theorem check_any (w : World) (hs : ByteArray) (a : Option Addr) (n c : Nat) (L : List Fld) (h : SF w a n c L) (hn : n ≤ 1000) (hz : ∀ p ∈ L, p.1.size ≤ 1000000) (hz0 : hs.size ≤ 1000000) :
    Calls Try.prog 12 #[.agg #[.string hs, .slice a n c]] w (RetG (.int .i64 (chkH hs L)) w) := by
  have HE := Lib.hid (show chkH hs L = if isI hs = false then 6 else if L.length = 0 then 8 else if 12 < L.length then 12 else if errs L L.length = 0 then (if isum (wsL L) % 8 = 0 then 0 else 10) else errs L L.length from rfl)
  have hl := h.len
  rw [hl] at HE
  have HL := Lib.hid hl
  have HH := Lib.hid h
  have HZ := Lib.hid hz
  obtain ⟨r, hr⟩ : ∃ r, r = chkH hs L := ⟨_, rfl⟩
  rw [← hr] at HE ⊢
  have HI := Lib.hid (fun w => isI_any w hs hz0)
  have B0 := Lib.hid (fun (w' : World) (g : (w.alloc (.cells #[.string hs, .slice a n c] 24)).grownBy w' none) => (IsB.new w 24 #[.string hs, .slice a n c]).keep0 g)
  have A0 := Lib.hid (gb_alloc w (.cells #[.string hs, .slice a n c] 24) none)
  clear hl h hr hz hz0
  cases hv : isI hs
  · have HX := Lib.hid (show r = 6 by have := HE.out; rw [if_pos hv] at this; exact this)
    rw [hv] at HI
    clear hv HE
    go_enter Try.func12, Try.ntmps12
    go_wp2_with fail
    refine (HI.out _).mono ?_
    rintro e w2 ⟨rfl, g2⟩
    have G2 := Lib.hid (gb_trans A0.out g2)
    clear g2
    go_wp2
    go_ret
    exact ⟨by rw [HX.out] <;> rfl, G2.out⟩
  · rw [hv] at HI
    rw [if_neg (by rw [hv]; decide)] at HE
    clear hv
    go_enter Try.func12, Try.ntmps12
    go_wp2_with fail
    refine (HI.out _).mono ?_
    rintro e w2 ⟨rfl, g2⟩
    have b1 := (B0.out w2 g2).cell 1
    have b0 := (B0.out w2 g2).cell 0
    simp at b0 b1
    have G2 := Lib.hid g2
    clear g2
    by_cases h0 : n = 0
    · have HX := Lib.hid (show r = 8 by have := HE.out; rw [if_pos h0] at this; exact this)
      have i1 : ((n : Int) == 0) = true := by simp [h0]
      clear HE
      go_wp2
      go_ret
      exact ⟨by rw [HX.out] <;> rfl, gb_trans A0.out G2.out⟩
    · have i1 : ((n : Int) == 0) = false := by simp [h0]
      by_cases h12 : 12 < n
      · have HX := Lib.hid (show r = 12 by have := HE.out; rw [if_neg h0, if_pos h12] at this; exact this)
        have i2 : (12 : Int) < n := by omega
        clear HE
        go_wp2
        go_ret
        exact ⟨by rw [HX.out] <;> rfl, gb_trans A0.out G2.out⟩
      · have HX := Lib.hid (show r = if errs L n = 0 then (if isum (wsL L) % 8 = 0 then 0 else 10) else errs L n by have := HE.out; rw [if_neg h0, if_neg h12] at this; exact this)
        have i2 : ¬ (12 : Int) < n := by omega
        clear HE h0 h12
        go_wp2
        go_loopw [23] (fun i wr => ∃ j : Nat, j ≤ n ∧ i = .int .i64 j ∧ errs L j = 0 ∧ (w.alloc (.cells #[.string hs, .slice a n c] 24)).grownBy wr none) (fun i _ => n - (intOf i).toNat)
        case atStart => exact ⟨0, Nat.zero_le _, rfl, rfl, G2.out⟩
        case round =>
          obtain ⟨j, hj, rfl, ht, hg⟩ := hrel
          clear G2 b0 b1 i1 i2 w2
          have HT := Lib.hid ht
          have G2 := Lib.hid hg
          have b1 := (B0.out wr hg).cell 1
          have b0 := (B0.out wr hg).cell 0
          simp at b0 b1
          clear ht hg
          by_cases hlt : j < n
          · have HC := Lib.hid (chkF_any wr hs a n c L j (HH.out.keep0 (gb_trans A0.out G2.out)) hn hlt HZ.out)
            have N1 := Lib.hid (errs_next L j HT.out)
            have N2 := Lib.hid (errs_first L j n hlt HT.out)
            obtain ⟨q, hq⟩ : ∃ q, q = chkF L j := ⟨_, rfl⟩
            rw [← hq] at HC N1 N2
            have i1 : (j : Int) < n := by omega
            have i0 : (0 : Int) ≤ (j : Int) := by omega
            clear hq
            by_cases q0 : q = 0
            · subst q0
              have N3 := Lib.hid (N1.out rfl)
              clear N1 N2
              go_wp2_with fail
              refine HC.out.mono ?_
              rintro e w3 ⟨rfl, g3⟩
              have G3 := Lib.hid (gb_trans G2.out g3)
              clear g3 b0 b1
              go_wp2
              go_roundw
              case rel => exact ⟨j + 1, by omega, by go_num, N3.out, G3.out⟩
              case measure => simp [intOf]; omega
            · have d1 : (q == 0) = false := by simp [q0]
              have d2 : (q != 0) = true := by simp [q0]
              have N3 := Lib.hid (show r = q by have := HX.out; rw [N2.out q0, if_neg q0] at this; exact this)
              clear N1 N2 q0
              go_wp2_with fail
              refine HC.out.mono ?_
              rintro e w3 ⟨rfl, g3⟩
              have G3 := Lib.hid (gb_trans G2.out g3)
              clear g3 b0 b1
              go_wp2
              go_ret
              exact ⟨by rw [N3.out] <;> rfl, gb_trans A0.out G3.out⟩
          · have hje : j = n := by omega
            have HQ := Lib.hid (show r = if isum (wsL L) % 8 = 0 then 0 else 10 by have := HX.out; rw [← hje, if_pos HT.out] at this; exact this)
            have hgl := good_errs L (by rw [HL.out, ← hje]; exact HT.out)
            have HGL := Lib.hid hgl
            obtain ⟨_, s0, s1⟩ := isum_good _ hgl
            rw [wsL_len, HL.out] at s1
            have HW := Lib.hid (fun w' g => widths_any w' hs a n c L (HH.out.keep0 (gb_trans A0.out (gb_trans G2.out g))) hn)
            have HW0 := Lib.hid (HW.out wr (gb_refl _ _))
            have hwl : (wsL L).length = n := by rw [wsL_len, HL.out]
            have HWL := Lib.hid hwl
            obtain ⟨l, hll⟩ : ∃ l, l = wsL L := ⟨_, rfl⟩
            rw [← hll] at s0 s1 HQ HGL HW0 HWL
            clear hgl hll HX HW hwl
            subst hje
            go_wp2_with fail
            refine HW0.out.mono ?_
            rintro e w3 ⟨V, rfl, o3, g3⟩
            obtain ⟨a3, c3, rfl⟩ := o3.shape
            have G3 := Lib.hid (gb_trans G2.out g3)
            have HS := Lib.hid (sum_any w3 a3 _ c3 l (o3.slr rfl) (by rw [HWL.out]; omega) HGL.out)
            clear o3 g3 b0 b1 HW0
            obtain ⟨s, hss⟩ : ∃ s, s = isum l := ⟨_, rfl⟩
            rw [← hss] at s0 s1 HQ HS
            clear hss
            have ht8 : s.tmod 8 = s % 8 := Int.tmod_eq_emod_of_nonneg s0
            go_wp2_with fail
            refine HS.out.mono ?_
            rintro e w4 ⟨rfl, g4⟩
            have G4 := Lib.hid (gb_trans G3.out g4)
            clear g4
            by_cases h8 : s % 8 = 0
            · have R := Lib.hid (HQ.out.trans (if_pos h8))
              have d1 : (s % 8 == 0) = true := by simp [h8]
              have d2 : (s % 8 != 0) = false := by simp [h8]
              clear h8
              go_wp2
              go_ret
              exact ⟨by rw [R.out] <;> rfl, gb_trans A0.out G4.out⟩
            · have R := Lib.hid (HQ.out.trans (if_neg h8))
              have d1 : (s % 8 == 0) = false := by simp [h8]
              have d2 : (s % 8 != 0) = true := by simp [h8]
              clear h8
              go_wp2
              go_ret
              exact ⟨by rw [R.out] <;> rfl, gb_trans A0.out G4.out⟩
end Go.Proofs.Ytgknooblnpmloaa
