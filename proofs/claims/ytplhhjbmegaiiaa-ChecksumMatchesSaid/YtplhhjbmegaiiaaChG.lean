/- The examples of chapter 4 hold: the walk of awake; the laws on records: the walks; no condition. -/
import Derived.Test.YtplhhjbmegaiiaaChP
import Derived.Test.YtplhhjbmegaiiaaChF
namespace Go.Proofs.Ytplhhjbmegaiiaa
open Go.RowKit
set_option linter.unusedVariables false

theorem slr_nil (w : World) : SlR w none 0 0 (([] : List Int).map (Value.int .u8)) := ⟨rfl, fun _ => ⟨rfl, rfl⟩, by simp⟩
theorem BL.slrn {w : World} {base n c : Nat} {a : Option Addr} {L : List Int} (h : BL w base (.slice a n c) L) (hn : n = L.length) : SlR w a n c (L.map (Value.int .u8)) := by subst hn; exact h.slr
theorem BL.capn {w : World} {base n c : Nat} {a : Option Addr} {L : List Int} (h : BL w base (.slice a n c) L) (hn : n = L.length) : L.length ≤ c := by subst hn; exact h.cap
theorem BL.shapen {w : World} {base n : Nat} {V : Value} {L : List Int} (h : BL w base V L) (hn : n = L.length) : ∃ a c, V = .slice a n c := by subst hn; exact h.shape
def F0 : List Int := [0, 0, 0, 0, 75, 149, 245, 21]
theorem frm_nil : frm [] = F0 := by decide +kernel
theorem F0_range : ∀ x ∈ F0, 0 ≤ x ∧ x ≤ 255 := by decide +kernel
theorem none_range : ∀ x ∈ ([] : List Int), 0 ≤ x ∧ x ≤ 255 := by simp

set_option maxHeartbeats 1000000 in
theorem awake_any (W : World) : Calls Try.prog 27 #[] W (RetQ (.bool true) W none fun _ => True) := by
  go_enter Try.func27, Try.ntmps27
  go_wp2_with fail
  refine (frame_any W none 0 0 [] (slr_nil W) none_range (by decide)).mono ?_
  rintro e w1 ⟨V1, rfl, o1, g1⟩
  rw [frm_nil] at o1
  obtain ⟨a1, c1, rfl⟩ := o1.shapen (n := 8) rfl
  have G1 := Lib.hid g1
  have h2 := unframe_any w1 a1 8 c1 F0 (o1.slrn rfl) F0_range (by decide) (o1.capn rfl)
  rw [show unfR F0 = (0, [], 8) by decide +kernel] at h2
  have H2 := Lib.hid h2
  clear g1 o1 h2
  go_wp2_with fail
  refine H2.out.mono ?_
  rintro e w2 ⟨V2, rfl, o2, g2⟩
  obtain ⟨a2, c2, rfl⟩ := o2.shapen (n := 0) rfl
  have G2 := Lib.hid (gb_trans G1.out g2)
  have h3 := unframe_any _ _ 8 8 [0, 0, 0, 9, 0, 0, 0, 0] (slr_new w2 .u8 [0, 0, 0, 9, 0, 0, 0, 0] 5) (by decide) (by decide) (by decide)
  rw [show unfR [0, 0, 0, 9, 0, 0, 0, 0] = (3, [], 0) by decide +kernel] at h3
  have H3 := Lib.hid h3
  clear g2 o2 h3 H2 G1
  go_wp2_with fail
  refine H3.out.mono ?_
  rintro e w3 ⟨V3, rfl, o3, g3⟩
  have G3 := Lib.hid (gb_trans G2.out (gb_trans (gb_alloc w2 _ none) g3))
  have h4 := fnv_any w3 none 0 0 [] (slr_nil _) none_range (by decide)
  rw [show fnv [] = 2166136261 by decide +kernel] at h4
  have H4 := Lib.hid h4
  clear g3 o3 h4 H3 G2
  go_wp2_with fail
  refine H4.out.mono ?_
  rintro e w4 ⟨rfl, g4, _⟩
  have G4 := Lib.hid (gb_trans G3.out g4)
  have h5 := fnv_any _ _ 1 1 [97] (slr_new w4 .u8 [97] 5) (by decide) (by decide)
  rw [show fnv [97] = 3826002220 by decide +kernel] at h5
  have H5 := Lib.hid h5
  clear g4 h5 H4 G3
  go_wp2_with fail
  refine H5.out.mono ?_
  rintro e w5 ⟨rfl, g5, _⟩
  have G5 := Lib.hid (gb_trans G4.out (gb_trans (gb_alloc w4 _ none) g5))
  have h6 := inet_any _ _ 3 3 [1, 2, 3] (slr_new w5 .u8 [1, 2, 3] 5) (by decide) (by decide)
  rw [show inet [1, 2, 3] = 64509 by decide +kernel] at h6
  have H6 := Lib.hid h6
  clear g5 h6 H5 G4
  go_wp2_with fail
  refine H6.out.mono ?_
  rintro e w6 ⟨rfl, g6, _⟩
  have G6 := Lib.hid (gb_trans G5.out (gb_trans (gb_alloc w5 _ none) g6))
  have h7 := inet_any w6 none 0 0 [] (slr_nil _) none_range (by decide)
  rw [show inet [] = 65535 by decide +kernel] at h7
  have H7 := Lib.hid h7
  clear g6 h7 H6 G5
  go_wp2_with fail
  refine H7.out.mono ?_
  rintro e w7 ⟨rfl, g7, _⟩
  have G7 := Lib.hid (gb_trans G6.out g7)
  clear g7 H7 G6
  go_wp2
  go_ret
  exact ⟨rfl, G7.out, trivial⟩

/-- A slice of bytes as a law is handed it. -/
structure Arg (W : World) (a : Option Addr) (len cap : Nat) (bs : List Int) : Prop where
  slr : SlR W a len cap (bs.map (Value.int .u8))
  rng : ∀ x ∈ bs, 0 ≤ x ∧ x ≤ 255
  cap : bs.length ≤ cap
  len : bs.length = len
theorem arg_of {W : World} {a : Option Addr} {len cap : Nat} {z : List Int} (h : IsRow .u8 W a len cap z) : Arg W a len cap (z.take len) := by
  refine ⟨row_slr h, fun x hx => u8_bd (row_wf h x hx), ?_, row_len h⟩
  rw [row_len h]
  rcases h with ⟨rfl, rfl, rfl, rfl⟩ | ⟨x, rfl, hl, hm, hz, hc, hw⟩ <;> omega
theorem below_of {W w : World} (g : W.grownBy w none) : Below W.heap.size W w := (Below.refl _ _).grown g (Nat.le_refl _) (by intro k hk; cases hk)
/-- The law holds. -/
def Holds (W : World) (e : Ending) (w' : World) : Prop := e = .returned (.bool true) ∧ Below W.heap.size W w'

set_option maxHeartbeats 1000000 in
theorem recovers_walk (a : Option Addr) (len cap : Nat) (z : List Int) (a2 : Option Addr) (len2 cap2 : Nat) (z2 : List Int) (W : World) (h : IsRow .u8 W a len cap z) (h2 : IsRow .u8 W a2 len2 cap2 z2) :
    Calls Try.prog 10 #[.slice a len cap, .slice a2 len2 cap2] W (Holds W) := by
  have A1 := Lib.hid (arg_of h)
  have A2 := Lib.hid (arg_of h2)
  have hl := (arg_of h).len
  have hl2 := (arg_of h2).len
  clear h h2
  generalize z.take len = bs at *
  generalize z2.take len2 = ts at *
  subst hl
  subst hl2
  by_cases hc : bs.length ≤ 4000
  · by_cases hc2 : ts.length ≤ 4000
    · go_enter Try.func10, Try.ntmps10
      go_wp2_with fail
      refine (frame_any W a _ cap bs A1.out.slr A1.out.rng (by omega)).mono ?_
      rintro e w1 ⟨V1, rfl, o1, g1⟩
      obtain ⟨R, hR⟩ : ∃ R, R = frm bs := ⟨_, rfl⟩
      rw [← hR] at o1
      have HR := Lib.hid hR
      have HLR : R.length = bs.length + 8 := by rw [hR, frm_len]
      obtain ⟨a1, c1, rfl⟩ := o1.shapen (n := bs.length + 8) HLR.symm
      have G1 := Lib.hid g1
      have H2 := Lib.hid (join_any w1 a1 a2 _ _ c1 cap2 R ts (o1.slrn HLR.symm) (A2.out.slr.keep0 g1) (by omega) (by omega))
      clear g1 o1 hR
      go_wp2_with fail
      refine H2.out.mono ?_
      rintro e w2 ⟨V2, rfl, o2, g2⟩
      obtain ⟨R2, hR2⟩ : ∃ R2, R2 = R ++ ts := ⟨_, rfl⟩
      rw [← hR2] at o2
      have HL2 : R2.length = bs.length + 8 + ts.length := by rw [hR2, List.length_append, HLR]
      obtain ⟨a3, c3, rfl⟩ := o2.shape
      have G2 := Lib.hid (gb_trans G1.out g2)
      have h3 := unframe_any w2 a3 _ c3 R2 o2.slr (by rw [hR2, HR.out]; exact app_range (frm_range A1.out.rng) A2.out.rng) (by omega) o2.cap
      rw [show unfR R2 = (0, bs, (bs.length : Int) + 8) by rw [hR2, HR.out]; exact unf_frm ts (by omega)] at h3
      have H3 := Lib.hid h3
      clear g2 o2 h3 H2 G1 hR2 HL2 HLR
      go_wp2_with fail
      refine H3.out.mono ?_
      rintro e w3 ⟨V3, rfl, o3, g3⟩
      obtain ⟨a4, c4, rfl⟩ := o3.shape
      have G3 := Lib.hid (gb_trans G2.out g3)
      have cv1 := conv_str w3 a4 _ c4 bs o3.slr
      have cv2 := conv_str w3 a _ cap bs (A1.out.slr.keep0 G3.out)
      clear g3 o3 H3 G2
      go_wp2_with fail
      refine (awake_any _).mono ?_
      rintro e w4 ⟨rfl, g4, _⟩
      have G4 := Lib.hid (gb_trans G3.out g4)
      clear g4 cv1 cv2
      go_wp2
      go_ret
      exact ⟨rfl, below_of G4.out⟩
    · go_enter Try.func10, Try.ntmps10
      go_wp2_with fail
      refine (awake_any _).mono ?_
      rintro e w4 ⟨rfl, g4, _⟩
      go_wp2
      go_ret
      exact ⟨rfl, below_of g4⟩
  · go_enter Try.func10, Try.ntmps10
    go_wp2_with fail
    refine (awake_any _).mono ?_
    rintro e w4 ⟨rfl, g4, _⟩
    go_wp2
    go_ret
    exact ⟨rfl, below_of g4⟩
end Go.Proofs.Ytplhhjbmegaiiaa
