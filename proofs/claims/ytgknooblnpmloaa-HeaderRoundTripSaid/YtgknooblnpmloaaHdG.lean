/- Header: the walks of the reference's Check, of both Bits and of Small; no condition but sizes. -/
import Derived.Test.YtgknooblnpmloaaHdE
namespace Go.Proofs.Ytgknooblnpmloaa
open Go.RowKit
set_option linter.unusedVariables false

theorem fld_c {w0 w2 : World} {t : TypeId} {x y : Value} (h : (w0.alloc (.cells #[x, y] t)).grownBy w2 none) : w2.cell? ⟨w0.heap.size, 0, none⟩ = some x ∧ w2.cell? ⟨w0.heap.size, 1, none⟩ = some y := by
  have b := (IsB.new w0 t #[x, y]).keep0 h
  exact ⟨b.cell 0, b.cell 1⟩
set_option maxRecDepth 100000 in
set_option maxHeartbeats 8000000 in
theorem rcheck_any (w : World) (hs : ByteArray) (a : Option Addr) (n c : Nat) (L : List Fld) (h : SF w a n c L) (hn : n ≤ 1000) (hz : ∀ p ∈ L, p.1.size ≤ 1000000) (hz0 : hs.size ≤ 1000000) :
    Calls Try.prog 13 #[.agg #[.string hs, .slice a n c]] w (RetG (.int .i64 (chkH hs L)) w) := by
  have HE := Lib.hid (show chkH hs L = if isI hs = false then 6 else if L.length = 0 then 8 else if 12 < L.length then 12 else if errs L L.length = 0 then (if isum (wsL L) % 8 = 0 then 0 else 10) else errs L L.length from rfl)
  have hl := h.len
  rw [hl] at HE
  have HL := Lib.hid hl
  have HH := Lib.hid h
  have HZ := Lib.hid hz
  obtain ⟨r, hr⟩ : ∃ r, r = chkH hs L := ⟨_, rfl⟩
  rw [← hr] at HE ⊢
  have HI := Lib.hid (fun w => risI_any w hs hz0)
  have B0 := Lib.hid (fun (w' : World) (g : (w.alloc (.cells #[.string hs, .slice a n c] 24)).grownBy w' none) => (IsB.new w 24 #[.string hs, .slice a n c]).keep0 g)
  have A0 := Lib.hid (gb_alloc w (.cells #[.string hs, .slice a n c] 24) none)
  clear hl h hr hz hz0
  cases hv : isI hs
  · have HX := Lib.hid (show r = 6 by have := HE.out; rw [if_pos hv] at this; exact this)
    rw [hv] at HI
    clear hv HE
    go_enter Try.func13, Try.ntmps13
    go_wp2_with fail
    refine (HI.out _).mono ?_
    rintro e w2 ⟨rfl, g2⟩
    have G2 := Lib.hid (gb_trans A0.out g2)
    clear g2
    go_wp2
    go_ret
    exact ⟨by rw [HX.out] <;> rfl, G2.out⟩
  · rw [hv] at HI
    rw [if_neg (by rw [hv]; decide)] at HE
    clear hv
    go_enter Try.func13, Try.ntmps13
    go_wp2_with fail
    refine (HI.out _).mono ?_
    rintro e w2 ⟨rfl, g2⟩
    have b1 := (B0.out w2 g2).cell 1
    have b0 := (B0.out w2 g2).cell 0
    simp at b0 b1
    have G2 := Lib.hid g2
    clear g2
    by_cases h0 : n = 0
    · have HX := Lib.hid (show r = 8 by have := HE.out; rw [if_pos h0] at this; exact this)
      have i1 : ((n : Int) == 0) = true := by simp [h0]
      clear HE
      go_wp2
      go_ret
      exact ⟨by rw [HX.out] <;> rfl, gb_trans A0.out G2.out⟩
    · have i1 : ((n : Int) == 0) = false := by simp [h0]
      by_cases h12 : 12 < n
      · have HX := Lib.hid (show r = 12 by have := HE.out; rw [if_neg h0, if_pos h12] at this; exact this)
        have i2 : (12 : Int) < n := by omega
        clear HE
        go_wp2
        go_ret
        exact ⟨by rw [HX.out] <;> rfl, gb_trans A0.out G2.out⟩
      · have HX := Lib.hid (show r = if errs L n = 0 then (if isum (wsL L) % 8 = 0 then 0 else 10) else errs L n by have := HE.out; rw [if_neg h0, if_neg h12] at this; exact this)
        have i2 : ¬ (12 : Int) < n := by omega
        clear HE h0 h12
        go_wp2
        go_loopw [4, 3] (fun i s wr => ∃ j : Nat, j ≤ n ∧ i = .int .i64 j ∧ errs L j = 0 ∧ s = .int .i64 (isum ((wsL L).take j)) ∧ (0 ≤ isum ((wsL L).take j) ∧ isum ((wsL L).take j) ≤ 32 * j) ∧ (w.alloc (.cells #[.string hs, .slice a n c] 24)).grownBy wr none) (fun i _ _ => n - (intOf i).toNat)
        case atStart => exact ⟨0, Nat.zero_le _, rfl, rfl, rfl, by simp [isum], G2.out⟩
        case round =>
          obtain ⟨j, hj, rfl, ht, rfl, hsum, hg⟩ := hrel
          clear G2 b0 b1 i1 i2 w2
          have HT := Lib.hid ht
          have G2 := Lib.hid hg
          have b1 := (B0.out wr hg).cell 1
          have b0 := (B0.out wr hg).cell 0
          simp at b0 b1
          clear ht hg
          by_cases hlt : j < n
          · obtain ⟨ad, rfl⟩ := sf_some HH.out (by omega)
            have hjl : j < L.length := by rw [HL.out]; exact hlt
            obtain ⟨c0, c1⟩ := (HH.out.keep0 (gb_trans A0.out G2.out)).cells ad rfl j hlt
            have N1 := Lib.hid (errs_next L j HT.out)
            have N2 := Lib.hid (errs_first L j n hlt HT.out)
            have CE := Lib.hid (show chkF L j = if isI (L.getD j fz).1 = false then 6 else if ¬ (1 ≤ (L.getD j fz).2 ∧ (L.getD j fz).2 ≤ 32) then 10 else if hasNm (L.take j) (L.getD j fz).1 = true then 7 else 0 from rfl)
            have FD := Lib.hid (find_dup L j hjl)
            have ST := Lib.hid (isum_step (wsL L) j (by rw [wsL_len]; exact hjl))
            rw [wsL_get L j hjl] at ST
            have hzi := HZ.out (L.getD j fz) (by simp [hjl])
            obtain ⟨q, hq⟩ : ∃ q, q = chkF L j := ⟨_, rfl⟩
            rw [← hq] at CE N1 N2
            obtain ⟨p, hp⟩ : ∃ p, p = L.getD j fz := ⟨_, rfl⟩
            rw [← hp] at c0 c1 CE hzi FD ST
            obtain ⟨v, m⟩ := p
            have FR := Lib.hid (fun (w' : World) (g : wr.grownBy w' none) => rfind_any w' hs (some ad) n c L v (HH.out.keep0 (gb_trans A0.out (gb_trans G2.out g))) (by omega))
            have FR0 := Lib.hid (FR.out (wr.alloc (.cells #[.string v, .int .i64 m] 70)) (gb_alloc _ _ _))
            have HV := Lib.hid (fun w => risI_any w v hzi)
            obtain ⟨f, hf⟩ : ∃ f, f = fIdx L v := ⟨_, rfl⟩
            obtain ⟨fb, hfb⟩ : ∃ f, f = hasNm L v := ⟨_, rfl⟩
            rw [← hf, ← hfb] at FR0
            have FD2 := Lib.hid (show (hasNm (L.take j) v = true ↔ f < j) by rw [hf]; exact FD.out)
            obtain ⟨s, hss⟩ : ∃ s, s = isum ((wsL L).take j) := ⟨_, rfl⟩
            rw [← hss] at ST hsum ⊢
            have hsum1 : 0 ≤ s := hsum.1
            have hsum2 : s ≤ 32000 := by have := hsum.2; omega
            have i1 : (j : Int) < n := by omega
            have i0 : (0 : Int) ≤ (j : Int) := by omega
            have b2 := (gb_alloc wr (.cells #[.string v, .int .i64 m] 70) none).cell b0 (by simp)
            have b3 := (gb_alloc wr (.cells #[.string v, .int .i64 m] 70) none).cell b1 (by simp)
            have CE2 := Lib.hid (show q = if isI v = false then 6 else if ¬ (1 ≤ m ∧ m ≤ 32) then 10 else if hasNm (L.take j) v = true then 7 else 0 from CE.out)
            clear hp hq hf hfb hss FD FR CE hjl hzi
            have ST2 := Lib.hid (show isum ((wsL L).take (j + 1)) = s + m from ST.out)
            clear ST
            go_wp2_with fail
            refine FR0.out.mono ?_
            rintro e w3 ⟨rfl, g3⟩
            obtain ⟨d0, d1⟩ := fld_c g3
            have G3 := Lib.hid g3
            clear g3 FR0 b0 b1 c0 c1
            cases hv : isI v
            · have Q := Lib.hid (show q = 6 by have := CE2.out; rw [if_pos hv] at this; exact this)
              have R := Lib.hid (show r = 6 by have := HX.out; rw [N2.out (by rw [Q.out]; decide), if_neg (by rw [Q.out]; decide), Q.out] at this; exact this)
              rw [hv] at HV
              clear hv
              go_wp2_with fail
              refine (HV.out _).mono ?_
              rintro e w4 ⟨rfl, g4⟩
              have G4 := Lib.hid (gb_trans (gb_trans G2.out (gb_trans (gb_alloc _ _ _) G3.out)) g4)
              clear g4 b2 b3 d0 d1
              go_wp2
              go_ret
              exact ⟨by rw [R.out] <;> rfl, gb_trans A0.out G4.out⟩
            · rw [if_neg (by rw [hv]; decide)] at CE2
              rw [hv] at HV
              clear hv
              by_cases hm : 1 ≤ m ∧ m ≤ 32
              · rw [if_neg (by omega)] at CE2
                obtain ⟨m1, m2⟩ := hm
                by_cases hfj : f < j
                · have Q := Lib.hid (show q = 7 by have := CE2.out; rw [if_pos (FD2.out.2 hfj)] at this; exact this)
                  have R := Lib.hid (show r = 7 by have := HX.out; rw [N2.out (by rw [Q.out]; decide), if_neg (by rw [Q.out]; decide), Q.out] at this; exact this)
                  have i3 : (f : Int) < j := by omega
                  go_wp2_with fail
                  refine (HV.out _).mono ?_
                  rintro e w4 ⟨rfl, g4⟩
                  obtain ⟨d2, d3⟩ := fld_c (gb_trans G3.out g4)
                  have G4 := Lib.hid (gb_trans (gb_trans G2.out (gb_trans (gb_alloc _ _ _) G3.out)) g4)
                  clear g4 b2 b3 d0 d1
                  go_wp2
                  go_ret
                  exact ⟨by rw [R.out] <;> rfl, gb_trans A0.out G4.out⟩
                · have Q := Lib.hid (show q = 0 by have := CE2.out; rw [if_neg (fun k => hfj (FD2.out.1 k))] at this; exact this)
                  have R := Lib.hid (N1.out Q.out)
                  have i3 : ¬ (f : Int) < j := by omega
                  have i4 : 0 ≤ s + m := by omega
                  have i5 : s + m ≤ 33000 := by omega
                  have i6 : s + m ≤ 32 * (j + 1 : Nat) := by have := hsum.2; omega
                  have I6 := Lib.hid i6
                  clear i6 hsum
                  go_wp2_with fail
                  refine (HV.out _).mono ?_
                  rintro e w4 ⟨rfl, g4⟩
                  obtain ⟨d2, d3⟩ := fld_c (gb_trans G3.out g4)
                  have G4 := Lib.hid (gb_trans (gb_trans G2.out (gb_trans (gb_alloc _ _ _) G3.out)) g4)
                  clear g4 b2 b3 d0 d1
                  go_wp2
                  go_roundw
                  case rel => exact ⟨j + 1, by omega, by go_num, R.out, by rw [ST2.out], by rw [ST2.out]; exact ⟨i4, I6.out⟩, G4.out⟩
                  case measure => simp [intOf]; omega
              · have Q := Lib.hid (show q = 10 by have := CE2.out; rw [if_pos hm] at this; exact this)
                have R := Lib.hid (show r = 10 by have := HX.out; rw [N2.out (by rw [Q.out]; decide), if_neg (by rw [Q.out]; decide), Q.out] at this; exact this)
                rcases (show m < 1 ∨ (1 ≤ m ∧ 32 < m) by omega) with k | ⟨k1, k2⟩
                all_goals
                  clear hm
                  go_wp2_with fail
                  refine (HV.out _).mono ?_
                  rintro e w4 ⟨rfl, g4⟩
                  obtain ⟨d2, d3⟩ := fld_c (gb_trans G3.out g4)
                  have G4 := Lib.hid (gb_trans (gb_trans G2.out (gb_trans (gb_alloc _ _ _) G3.out)) g4)
                  clear g4 b2 b3 d0 d1
                  go_wp2
                  go_ret
                  exact ⟨by rw [R.out] <;> rfl, gb_trans A0.out G4.out⟩
          · have hje : j = n := by omega
            have HQ := Lib.hid (show r = if isum ((wsL L).take j) % 8 = 0 then 0 else 10 by
              have := HX.out
              rw [← hje, if_pos HT.out] at this
              rw [List.take_of_length_le (by rw [wsL_len, HL.out]; omega)]; exact this)
            obtain ⟨s, hss⟩ : ∃ s, s = isum ((wsL L).take j) := ⟨_, rfl⟩
            rw [← hss] at HQ hsum ⊢
            have ht8 : s.tmod 8 = s % 8 := Int.tmod_eq_emod_of_nonneg hsum.1
            clear HX hss hsum
            subst hje
            by_cases h8 : s % 8 = 0
            · have R := Lib.hid (HQ.out.trans (if_pos h8))
              have d1 : (s % 8 == 0) = true := by simp [h8]
              have d2 : (s % 8 != 0) = false := by simp [h8]
              clear h8
              go_wp2
              go_ret
              exact ⟨by rw [R.out] <;> rfl, gb_trans A0.out G2.out⟩
            · have R := Lib.hid (HQ.out.trans (if_neg h8))
              have d1 : (s % 8 == 0) = false := by simp [h8]
              have d2 : (s % 8 != 0) = true := by simp [h8]
              clear h8
              go_wp2
              go_ret
              exact ⟨by rw [R.out] <;> rfl, gb_trans A0.out G2.out⟩
end Go.Proofs.Ytgknooblnpmloaa
