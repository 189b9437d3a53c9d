/- Header: the walks of checkField, sum and widths; no condition but sizes. -/
import Derived.Test.YtgknooblnpmloaaHdB
import Derived.Deep.RegionHeld3
namespace Go.Proofs.Ytgknooblnpmloaa
open Go.RowKit
set_option linter.unusedVariables false

theorem ck_c {w0 w1 w2 : World} {t1 t2 : TypeId} {x y u v : Value} (h : ((w0.alloc (.cells #[x, y] t1)).alloc (.cells #[u, v] t2)).grownBy w2 none) :
    w2.cell? ⟨w0.heap.size, 1, none⟩ = some y ∧ w2.cell? ⟨w0.heap.size + 1, 0, none⟩ = some u ∧ ((w0.alloc (.cells #[x, y] t1)).alloc (.cells #[u, v] t2)).grownBy w2 none := by
  have b1 := ((IsB.new w0 t1 #[x, y]).alloc (.cells #[u, v] t2)).keep0 h
  have b2 := (IsB.new (w0.alloc (.cells #[x, y] t1)) t2 #[u, v]).keep0 h
  have e : (w0.alloc (.cells #[x, y] t1)).heap.size = w0.heap.size + 1 := by simp
  rw [e] at b2
  exact ⟨b1.cell 1, b2.cell 0, h⟩
set_option maxRecDepth 100000 in
set_option maxHeartbeats 4000000 in
theorem chkF_any (w : World) (hs : ByteArray) (a : Option Addr) (n c : Nat) (L : List Fld) (i : Nat) (h : SF w a n c L) (hn : n ≤ 1000) (hi : i < n) (hz : ∀ p ∈ L, p.1.size ≤ 1000000) :
    Calls Try.prog 36 #[.agg #[.string hs, .slice a n c], .int .i64 i] w (RetG (.int .i64 (chkF L i)) w) := by
  obtain ⟨ad, rfl⟩ := sf_some h (by omega)
  obtain ⟨c0, c1⟩ := (h.keep0 (gb_alloc w (.cells #[.string hs, .slice (some ad) n c] 24) none)).cells ad rfl i hi
  have hl : i < L.length := by rw [h.len]; exact hi
  have i0 : (i : Int) < n := by omega
  have i1 : (0 : Int) ≤ (i : Int) := by omega
  have hcap := h.cap
  have i2 : (i : Int) ≤ c := by omega
  have HE := Lib.hid (show chkF L i = if isI (L.getD i fz).1 = false then 6 else if ¬ (1 ≤ (L.getD i fz).2 ∧ (L.getD i fz).2 ≤ 32) then 10 else if hasNm (L.take i) (L.getD i fz).1 = true then 7 else 0 from rfl)
  obtain ⟨r, hr⟩ : ∃ r, r = chkF L i := ⟨_, rfl⟩
  rw [← hr] at HE ⊢
  have hzi := hz (L.getD i fz) (by simp [hl])
  obtain ⟨p, hp⟩ : ∃ p, p = L.getD i fz := ⟨_, rfl⟩
  rw [← hp] at c0 c1 HE hzi
  obtain ⟨v, m⟩ := p
  have HI := Lib.hid (fun w => isI_any w v hzi)
  have HF := Lib.hid (fun (w' : World) (x : ByteArray) (g : w.grownBy w' none) => find_any w' x (some ad) i c (L.take i) v ((h.keep0 g).cut i (by omega)) (by omega))
  clear hp hl hr h hz hzi
  cases hv : isI v
  · have HX := Lib.hid (show r = 6 by have := HE.out; rw [if_pos hv] at this; exact this)
    rw [hv] at HI
    clear hv HE HF
    go_enter Try.func36, Try.ntmps36
    go_wp2_with fail
    refine (HI.out _).mono ?_
    rintro e w2 ⟨rfl, g2⟩
    have G2 := Lib.hid (gb_trans (gb_trans (gb_alloc w _ none) (gb_alloc _ _ none)) g2)
    clear g2
    go_wp2
    go_ret
    exact ⟨by rw [HX.out] <;> rfl, G2.out⟩
  · rw [hv] at HI
    by_cases hm : 1 ≤ m ∧ m ≤ 32
    · obtain ⟨m1, m2⟩ := hm
      have HX := Lib.hid (show r = if hasNm (L.take i) v = true then 7 else 0 by have := HE.out; rw [if_neg (by rw [hv]; decide), if_neg (by omega)] at this; exact this)
      clear hv HE
      obtain ⟨f1, hf1⟩ : ∃ f, f = ((fIdx (L.take i) v : Nat) : Int) := ⟨_, rfl⟩
      obtain ⟨f2, hf2⟩ : ∃ f, f = hasNm (L.take i) v := ⟨_, rfl⟩
      rw [← hf1, ← hf2] at HF
      rw [← hf2] at HX
      clear hf1 hf2
      go_enter Try.func36, Try.ntmps36
      go_wp2_with fail
      refine (HI.out _).mono ?_
      rintro e w2 ⟨rfl, g2⟩
      have hc2 := ck_c (w1 := w) g2
      obtain ⟨d1, d2, d3⟩ := hc2
      have b3 := (IsB.new (w.alloc (.cells #[.string hs, .slice (some ad) n c] 24)) 70 #[.string v, .int .i64 m]).keep0 g2
      have b4 := b3.cell 1
      rw [show (w.alloc (.cells #[.string hs, .slice (some ad) n c] 24)).heap.size = w.heap.size + 1 by simp] at b4
      have G2 := Lib.hid (gb_trans (gb_trans (gb_alloc w _ none) (gb_alloc _ _ none)) g2)
      have G3 := Lib.hid g2
      clear g2 b3 d3
      have HF2 := Lib.hid (fun x => HF.out w2.drew x (gb_trans G2.out (gb_drew _ none)))
      simp at b4
      go_wp2_with fail
      go_region_held3 (fun w' => w'.cell? ⟨w.heap.size, 1, none⟩ = some (.slice (some ad) n c) ∧ w'.cell? ⟨w.heap.size + 1, 0, none⟩ = some (.string v) ∧ ((w.alloc (.cells #[.string hs, .slice (some ad) n c] 24)).alloc (.cells #[.string v, .int .i64 m] 70)).grownBy w' none)
        (first | exact ck_c (w1 := w) (gb_trans G3.out (gb_trans (gb_drew _ _) g4)) | exact ck_c (w1 := w) (gb_trans G3.out (gb_drew _ _)) | exact ck_c (w1 := w) G3.out | assumption)
        (first | (go_at_call 10; refine (HF2.out _).mono ?_; rintro e w4 ⟨rfl, g4⟩))
      rename_i hs9
      have G4 := Lib.hid (gb_trans G2.out (gb_trans (gb_drew _ _) g4))
      clear hs9 g4 HF HF2 d1 d2 b4
      cases f2
      · go_wp2
        go_ret
        exact ⟨by rw [HX.out] <;> rfl, G4.out⟩
      · go_wp2
        go_ret
        exact ⟨by rw [HX.out] <;> rfl, G4.out⟩
    · have HX := Lib.hid (show r = 10 by have := HE.out; rw [if_neg (by rw [hv]; decide), if_pos hm] at this; exact this)
      clear hv HE HF
      rcases (show m < 1 ∨ (1 ≤ m ∧ 32 < m) by omega) with k | ⟨k1, k2⟩
      all_goals
        clear hm
        go_enter Try.func36, Try.ntmps36
        go_wp2_with fail
        refine (HI.out _).mono ?_
        rintro e w2 ⟨rfl, g2⟩
        have G2 := Lib.hid (gb_trans (gb_trans (gb_alloc w _ none) (gb_alloc _ _ none)) g2)
        have b3 := (IsB.new (w.alloc (.cells #[.string hs, .slice (some ad) n c] 24)) 70 #[.string v, .int .i64 m]).keep0 g2
        have b4 := b3.cell 1
        rw [show (w.alloc (.cells #[.string hs, .slice (some ad) n c] 24)).heap.size = w.heap.size + 1 by simp] at b4
        clear g2 b3
        simp at b4
        go_wp2
        go_ret
        exact ⟨by rw [HX.out] <;> rfl, G2.out⟩
/-- A row of numbers of the call's own, or nil. -/
def NRow (w : World) (base : Nat) (V : Value) (l : List Int) : Prop := w.ownsRow base 3 1 V l.length (l.map (Value.int .i64))
set_option maxRecDepth 100000 in
set_option maxHeartbeats 4000000 in
theorem sum_any (w : World) (a : Option Addr) (n c : Nat) (l : List Int) (h : SlR w a n c (l.map (Value.int .i64))) (hn : n ≤ 1000) (hg : goodL l) :
    Calls Try.prog 37 #[.slice a n c] w (RetG (.int .i64 (isum l)) w) := by
  have hl : l.length = n := by simpa using h.1
  have HH := Lib.hid h
  obtain ⟨r, hr⟩ : ∃ r, r = isum l := ⟨_, rfl⟩
  rw [← hr]
  have HR := Lib.hid hr
  have HG0 := Lib.hid hg
  have HL := Lib.hid hl
  clear h hr hg hl
  go_enter Try.func37, Try.ntmps37
  go_wp2
  go_loopw [8, 3] (fun i s wr => ∃ j : Nat, j ≤ n ∧ i = .int .i64 j ∧ s = .int .i64 (isum (l.take j)) ∧ w.grownBy wr none) (fun i _ _ => n - (intOf i).toNat)
  case atStart => exact ⟨0, Nat.zero_le _, rfl, rfl, gb_refl _ _⟩
  case round =>
    obtain ⟨j, hj, rfl, rfl, hg⟩ := hrel
    have HG := Lib.hid hg
    clear hg
    by_cases hlt : j < n
    · cases a with
      | none => exact absurd (HH.out.2.1 rfl).1 (by omega)
      | some ad =>
        have c1 := (HH.out.keep0 HG.out).cellAt j (by rw [HL.out]; exact hlt)
        have i1 : (j : Int) < n := by omega
        have ST := Lib.hid (isum_step l j (by rw [HL.out]; exact hlt))
        have hb := isum_good (l.take j) (goodL_take l j HG0.out)
        have hb2 := isum_good (l.take (j + 1)) (goodL_take l (j + 1) HG0.out)
        have hx : (l.take j).length = j ∧ (l.take (j + 1)).length = j + 1 := by simp; rw [HL.out]; omega
        rw [hx.1] at hb
        rw [hx.2] at hb2
        rw [ST.out] at hb2
        obtain ⟨x, hxx⟩ : ∃ x, x = l.getD j 0 := ⟨_, rfl⟩
        obtain ⟨s, hss⟩ : ∃ s, s = isum (l.take j) := ⟨_, rfl⟩
        rw [← hxx] at c1 ST hb2
        rw [← hss] at ST hb hb2 ⊢
        have b1 : 0 ≤ s + x := by omega
        have b2 : s + x ≤ 32000 := by omega
        clear hx hxx hss hb hb2
        go_wp2
        go_roundw
        case rel => exact ⟨j + 1, by omega, by go_num, by rw [ST.out], HG.out⟩
        case measure => simp [intOf]; omega
    · have hje : j = n := by omega
      have E := Lib.hid (show isum (l.take j) = r by rw [HR.out, List.take_of_length_le (by rw [HL.out]; omega)])
      subst hje
      go_wp2
      go_ret
      exact ⟨by rw [E.out] <;> rfl, HG.out⟩
end Go.Proofs.Ytgknooblnpmloaa
