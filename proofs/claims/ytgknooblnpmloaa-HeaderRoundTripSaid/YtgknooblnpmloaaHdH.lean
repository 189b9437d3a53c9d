/- Header: the walks of both Bits and of Small; no condition but sizes. -/
import Derived.Test.YtgknooblnpmloaaHdG
namespace Go.Proofs.Ytgknooblnpmloaa
open Go.RowKit
set_option linter.unusedVariables false

/-- A header whose name and names are short enough to be asked. -/
structure HdOk (w : World) (hs : ByteArray) (a : Option Addr) (n c : Nat) (L : List Fld) : Prop where
  sf : SF w a n c L
  few : n ≤ 1000
  nm : ∀ p ∈ L, p.1.size ≤ 1000000
  hn : hs.size ≤ 1000000
theorem HdOk.keep0 {w w2 : World} {hs : ByteArray} {a : Option Addr} {n c : Nat} {L : List Fld} (h : HdOk w hs a n c L) (k : w.grownBy w2 none) : HdOk w2 hs a n c L := ⟨h.sf.keep0 k, h.few, h.nm, h.hn⟩
theorem bits_ok {hs : ByteArray} {L : List Fld} (h : chkH hs L = 0) : bitsH hs L = isum (wsL L) ∧ 0 ≤ isum (wsL L) ∧ isum (wsL L) ≤ 384 ∧ (sumL (wsL L) : Int) = isum (wsL L) := by
  obtain ⟨a, b, c, d, e⟩ := chk_ok hs L h
  obtain ⟨f1, f2, f3⟩ := isum_good _ e
  rw [wsL_len] at f3
  exact ⟨by unfold bitsH; rw [if_pos h], f2, by omega, f1.symm⟩
theorem bits_no {hs : ByteArray} {L : List Fld} (h : ¬ chkH hs L = 0) : bitsH hs L = 0 := by unfold bitsH; rw [if_neg h]
set_option maxRecDepth 100000 in
set_option maxHeartbeats 4000000 in
theorem bits_any (w : World) (hs : ByteArray) (a : Option Addr) (n c : Nat) (L : List Fld) (h : HdOk w hs a n c L) :
    Calls Try.prog 14 #[.agg #[.string hs, .slice a n c]] w (RetG (.int .i64 (bitsH hs L)) w) := by
  have HH := Lib.hid h
  have B0 := Lib.hid (fun (w' : World) (g : (w.alloc (.cells #[.string hs, .slice a n c] 24)).grownBy w' none) => fld_c g)
  have A0 := Lib.hid (gb_alloc w (.cells #[.string hs, .slice a n c] 24) none)
  have HC := Lib.hid (check_any (w.alloc (.cells #[.string hs, .slice a n c] 24)) hs a n c L (h.sf.keep0 A0.out) h.few h.nm h.hn)
  have HN := Lib.hid (bits_no (hs := hs) (L := L))
  have HY := Lib.hid (bits_ok (hs := hs) (L := L))
  have GL := Lib.hid (chk_ok hs L)
  have HL := Lib.hid (show (wsL L).length = n by rw [wsL_len, h.sf.len])
  obtain ⟨q, hq⟩ : ∃ q, q = chkH hs L := ⟨_, rfl⟩
  rw [← hq] at HC HN HY GL
  obtain ⟨r, hr⟩ : ∃ q, q = bitsH hs L := ⟨_, rfl⟩
  rw [← hr] at HN HY ⊢
  clear h hq hr
  by_cases q0 : q = 0
  · have Y := Lib.hid (HY.out q0)
    have G := Lib.hid (GL.out q0).2.2.2.2
    subst q0
    clear HN HY GL
    go_enter Try.func14, Try.ntmps14
    go_wp2_with fail
    refine HC.out.mono ?_
    rintro e w2 ⟨rfl, g2⟩
    obtain ⟨b0, b1⟩ := B0.out w2 g2
    have G2 := Lib.hid (gb_trans A0.out g2)
    have HW := Lib.hid (widths_any w2 hs a n c L (HH.out.sf.keep0 G2.out) HH.out.few)
    clear g2 HC
    go_wp2_with fail
    refine HW.out.mono ?_
    rintro e w3 ⟨V, rfl, o3, g3⟩
    obtain ⟨a3, c3, rfl⟩ := o3.shape
    have hfew := HH.out.few
    have HS := Lib.hid (sum_any w3 a3 _ c3 (wsL L) (o3.slr rfl) (by rw [HL.out]; omega) G.out)
    rw [← Y.out.1] at HS
    have G3 := Lib.hid (gb_trans G2.out g3)
    clear g3 o3 b0 b1 HW
    go_wp2_with fail
    refine HS.out.mono ?_
    rintro e w4 ⟨rfl, g4⟩
    have G4 := Lib.hid (gb_trans G3.out g4)
    clear g4
    go_wp2
    go_ret
    exact ⟨rfl, G4.out⟩
  · have N := Lib.hid (HN.out q0)
    have d1 : (q == 0) = false := by simp [q0]
    have d2 : (q != 0) = true := by simp [q0]
    clear q0 HN HY GL
    go_enter Try.func14, Try.ntmps14
    go_wp2_with fail
    refine HC.out.mono ?_
    rintro e w2 ⟨rfl, g2⟩
    have G2 := Lib.hid (gb_trans A0.out g2)
    clear g2 HC
    go_wp2
    go_ret
    exact ⟨by rw [N.out] <;> rfl, G2.out⟩
set_option maxRecDepth 100000 in
set_option maxHeartbeats 4000000 in
theorem rbits_any (w : World) (hs : ByteArray) (a : Option Addr) (n c : Nat) (L : List Fld) (h : HdOk w hs a n c L) :
    Calls Try.prog 15 #[.agg #[.string hs, .slice a n c]] w (RetG (.int .i64 (bitsH hs L)) w) := by
  have HH := Lib.hid h
  have B0 := Lib.hid (fun (w' : World) (g : (w.alloc (.cells #[.string hs, .slice a n c] 24)).grownBy w' none) => fld_c g)
  have A0 := Lib.hid (gb_alloc w (.cells #[.string hs, .slice a n c] 24) none)
  have HC := Lib.hid (rcheck_any (w.alloc (.cells #[.string hs, .slice a n c] 24)) hs a n c L (h.sf.keep0 A0.out) h.few h.nm h.hn)
  have HN := Lib.hid (bits_no (hs := hs) (L := L))
  have HY := Lib.hid (bits_ok (hs := hs) (L := L))
  have GL := Lib.hid (chk_ok hs L)
  have HL := Lib.hid (show (wsL L).length = n by rw [wsL_len, h.sf.len])
  have hfew := h.few
  obtain ⟨q, hq⟩ : ∃ q, q = chkH hs L := ⟨_, rfl⟩
  rw [← hq] at HC HN HY GL
  obtain ⟨r, hr⟩ : ∃ q, q = bitsH hs L := ⟨_, rfl⟩
  rw [← hr] at HN HY ⊢
  clear h hq hr
  by_cases q0 : q = 0
  · have Y := Lib.hid (HY.out q0)
    have G := Lib.hid (GL.out q0).2.2.2.2
    subst q0
    clear HN HY GL
    go_enter Try.func15, Try.ntmps15
    go_wp2_with fail
    refine HC.out.mono ?_
    rintro e w2 ⟨rfl, g2⟩
    have G2 := Lib.hid g2
    clear g2 HC
    go_wp2
    go_loopw [4, 3] (fun i s wr => ∃ j : Nat, j ≤ n ∧ i = .int .i64 j ∧ s = .int .i64 (isum ((wsL L).take j)) ∧ (w.alloc (.cells #[.string hs, .slice a n c] 24)).grownBy wr none) (fun i _ _ => n - (intOf i).toNat)
    case atStart => exact ⟨0, Nat.zero_le _, rfl, rfl, G2.out⟩
    case round =>
      obtain ⟨j, hj, rfl, rfl, hg⟩ := hrel
      clear G2 w2
      have G2 := Lib.hid hg
      obtain ⟨b0, b1⟩ := B0.out wr hg
      clear hg
      by_cases hlt : j < n
      · obtain ⟨ad, rfl⟩ := sf_some HH.out.sf (by omega)
        have hjl : j < L.length := by rw [HH.out.sf.len]; exact hlt
        obtain ⟨c0, c1⟩ := (HH.out.sf.keep0 (gb_trans A0.out G2.out)).cells ad rfl j hlt
        have ST := Lib.hid (isum_step (wsL L) j (by rw [HL.out]; exact hlt))
        rw [wsL_get L j hjl] at ST
        have s1 := isum_good ((wsL L).take j) (goodL_take _ _ G.out)
        have s2 := isum_good ((wsL L).take (j + 1)) (goodL_take _ _ G.out)
        have s3 : ((wsL L).take j).length ≤ 1000 ∧ ((wsL L).take (j + 1)).length ≤ 1000 := by simp; rw [HL.out]; omega
        rw [ST.out] at s2
        obtain ⟨p, hp⟩ : ∃ p, p = L.getD j fz := ⟨_, rfl⟩
        rw [← hp] at c0 c1 ST s2
        obtain ⟨v, m⟩ := p
        obtain ⟨s, hss⟩ : ∃ s, s = isum ((wsL L).take j) := ⟨_, rfl⟩
        rw [← hss] at ST s1 s2 ⊢
        have k1 : 0 ≤ s + m := s2.2.1
        have k2 : s + m ≤ 32000 := by have := s2.2.2; have := s3.2; omega
        have i1 : (j : Int) < n := by omega
        have i0 : (0 : Int) ≤ (j : Int) := by omega
        clear hp hss s1 s2 s3 hjl
        go_wp2
        go_roundw
        case rel => exact ⟨j + 1, by omega, by go_num, by rw [ST.out], G2.out⟩
        case measure => simp [intOf]; omega
      · have hje : j = n := by omega
        have E := Lib.hid (show isum ((wsL L).take j) = r by rw [Y.out.1, List.take_of_length_le (by rw [HL.out]; omega)])
        rw [E.out]
        subst hje
        go_wp2
        go_ret
        exact ⟨rfl, gb_trans A0.out G2.out⟩
  · have N := Lib.hid (HN.out q0)
    have d1 : (q == 0) = false := by simp [q0]
    have d2 : (q != 0) = true := by simp [q0]
    clear q0 HN HY GL
    go_enter Try.func15, Try.ntmps15
    go_wp2_with fail
    refine HC.out.mono ?_
    rintro e w2 ⟨rfl, g2⟩
    have G2 := Lib.hid (gb_trans A0.out g2)
    clear g2 HC
    go_wp2
    go_ret
    exact ⟨by rw [N.out] <;> rfl, G2.out⟩
/-- Small's answer. -/
def smallH (hs : ByteArray) (L : List Fld) : Bool := decide (hs.size ≤ 30 ∧ L.length ≤ 20 ∧ ∀ p ∈ L, p.1.size ≤ 30)
theorem smallH_ok {hs : ByteArray} {L : List Fld} (h : smallH hs L = true) : hs.size ≤ 30 ∧ L.length ≤ 20 ∧ ∀ p ∈ L, p.1.size ≤ 30 := of_decide_eq_true h
set_option maxRecDepth 100000 in
set_option maxHeartbeats 4000000 in
theorem small_any (w : World) (hs : ByteArray) (a : Option Addr) (n c : Nat) (L : List Fld) (h : SF w a n c L) :
    Calls Try.prog 8 #[.agg #[.string hs, .slice a n c]] w (RetG (.bool (smallH hs L)) w) := by
  have HH := Lib.hid h
  have HE := Lib.hid (show smallH hs L = decide (hs.size ≤ 30 ∧ L.length ≤ 20 ∧ ∀ p ∈ L, p.1.size ≤ 30) from rfl)
  rw [h.len] at HE
  have B0 := Lib.hid (fun (w' : World) (g : (w.alloc (.cells #[.string hs, .slice a n c] 24)).grownBy w' none) => fld_c g)
  have A0 := Lib.hid (gb_alloc w (.cells #[.string hs, .slice a n c] 24) none)
  obtain ⟨r, hr⟩ : ∃ q, q = smallH hs L := ⟨_, rfl⟩
  rw [← hr] at HE ⊢
  clear h hr
  by_cases h1 : hs.size ≤ 30
  · have i1 : ¬ (30 : Int) < hs.size := by omega
    by_cases h2 : n ≤ 20
    · have i2 : ¬ (20 : Int) < n := by omega
      go_enter Try.func8, Try.ntmps8
      go_wp2
      go_loopw [3] (fun i wr => ∃ j : Nat, j ≤ n ∧ i = .int .i64 j ∧ (∀ k, k < j → (L.getD k fz).1.size ≤ 30) ∧ (w.alloc (.cells #[.string hs, .slice a n c] 24)).grownBy wr none) (fun i _ => n - (intOf i).toNat)
      case atStart => exact ⟨0, Nat.zero_le _, rfl, (fun k hk => absurd hk (Nat.not_lt_zero _)), gb_refl _ _⟩
      case round =>
        obtain ⟨j, hj, rfl, ha, hg⟩ := hrel
        have HA := Lib.hid ha
        have G2 := Lib.hid hg
        obtain ⟨b0, b1⟩ := B0.out wr hg
        clear hg ha i1 i2
        by_cases hlt : j < n
        · obtain ⟨ad, rfl⟩ := sf_some HH.out (by omega)
          have hjl : j < L.length := by rw [HH.out.len]; exact hlt
          obtain ⟨c0, c1⟩ := (HH.out.keep0 (gb_trans A0.out G2.out)).cells ad rfl j hlt
          have HM := Lib.hid (show L.getD j fz ∈ L by simp [hjl])
          obtain ⟨p, hp⟩ : ∃ p, p = L.getD j fz := ⟨_, rfl⟩
          have HP := Lib.hid hp
          rw [← hp] at c0 c1 HM
          obtain ⟨v, m⟩ := p
          have i1 : (j : Int) < n := by omega
          have i0 : (0 : Int) ≤ (j : Int) := by omega
          clear hp hjl
          by_cases hv : v.size ≤ 30
          · have i2 : ¬ (30 : Int) < v.size := by omega
            have HA2 := Lib.hid (show ∀ k, k < j + 1 → (L.getD k fz).1.size ≤ 30 from fun k hk => by
              rcases (show k < j ∨ k = j by omega) with q | rfl
              · exact HA.out k q
              · rw [← HP.out]; exact hv)
            clear hv HA
            go_wp2
            go_roundw
            case rel => exact ⟨j + 1, by omega, by go_num, HA2.out, G2.out⟩
            case measure => simp [intOf]; omega
          · have i2 : (30 : Int) < v.size := by omega
            have R := Lib.hid (show r = false by rw [HE.out]; exact decide_eq_false (fun k => hv (k.2.2 _ HM.out)))
            clear hv HA
            go_wp2
            go_ret
            exact ⟨by rw [R.out] <;> rfl, gb_trans A0.out G2.out⟩
        · have hje : j = n := by omega
          have R := Lib.hid (show r = true by
            rw [HE.out]
            refine decide_eq_true ⟨h1, h2, fun p hp => ?_⟩
            obtain ⟨k, hk, rfl⟩ := List.mem_iff_getElem.1 hp
            have := HA.out k (by rw [hje, ← HH.out.len]; exact hk)
            simpa [hk] using this)
          clear HA
          subst hje
          go_wp2
          go_ret
          exact ⟨by rw [R.out] <;> rfl, gb_trans A0.out G2.out⟩
    · have i2 : (20 : Int) < n := by omega
      have R := Lib.hid (show r = false by rw [HE.out]; exact decide_eq_false (fun k => h2 k.2.1))
      go_enter Try.func8, Try.ntmps8
      go_wp2
      go_ret
      exact ⟨by rw [R.out] <;> rfl, A0.out⟩
  · have i1 : (30 : Int) < hs.size := by omega
    have R := Lib.hid (show r = false by rw [HE.out]; exact decide_eq_false (fun k => h1 k.1))
    go_enter Try.func8, Try.ntmps8
    go_wp2
    go_ret
    exact ⟨by rw [R.out] <;> rfl, A0.out⟩
end Go.Proofs.Ytgknooblnpmloaa
