/- The examples of chapter 3 hold: the walk of works; no condition. -/
import Derived.Test.YtplhhjbmegaiiaaNtG
namespace Go.Proofs.Ytplhhjbmegaiiaa
open Go.RowKit
set_option linter.unusedVariables false

theorem BL.sh {w : World} {base n : Nat} {V : Value} {L : List Int} (h : BL w base V L) (hn : n = L.length) : ∃ a c, V = .slice a n c := by subst hn; exact h.shape
theorem BL.sl {w : World} {base n c : Nat} {a : Option Addr} {L : List Int} (h : BL w base (.slice a n c) L) (hn : n = L.length) : SlR w a n c (L.map (Value.int .u8)) := by subst hn; exact h.slr
set_option maxRecDepth 100000 in
set_option maxHeartbeats 2000000 in
theorem works_any (W : World) : Calls Try.prog 19 #[] W (RetQ (.bool true) W none fun _ => True) := by
  have h1 := parseInt_any W [49, 50, 51, 52, 53, 54, 55, 56, 57] (by decide) (by decide)
  rw [show prI [49, 50, 51, 52, 53, 54, 55, 56, 57] = (123456789, true) by decide +kernel] at h1
  rw [show strOf [49, 50, 51, 52, 53, 54, 55, 56, 57] = ⟨#[49, 50, 51, 52, 53, 54, 55, 56, 57]⟩ from rfl] at h1
  have H1 := Lib.hid h1
  clear h1
  go_enter Try.func19, Try.ntmps19
  go_wp2_with fail
  refine H1.out.mono ?_
  rintro e w1 ⟨rfl, g1, _⟩
  have G1 := Lib.hid g1
  have h2 := parseInt_any w1 [49, 50, 51, 52, 53, 54, 55, 56, 57, 48] (by decide) (by decide)
  rw [show prI [49, 50, 51, 52, 53, 54, 55, 56, 57, 48] = (0, false) by decide +kernel] at h2
  rw [show strOf [49, 50, 51, 52, 53, 54, 55, 56, 57, 48] = ⟨#[49, 50, 51, 52, 53, 54, 55, 56, 57, 48]⟩ from rfl] at h2
  have H2 := Lib.hid h2
  clear g1 h2 H1
  go_wp2_with fail
  refine H2.out.mono ?_
  rintro e w2 ⟨rfl, g2, _⟩
  have G2 := Lib.hid (gb_trans G1.out g2)
  have h3 := parseU_any w2 [48, 120, 102, 102, 102, 102, 102, 102, 102, 102] (by decide) (by decide)
  rw [show prU [48, 120, 102, 102, 102, 102, 102, 102, 102, 102] = (4294967295, true) by decide +kernel] at h3
  rw [show strOf [48, 120, 102, 102, 102, 102, 102, 102, 102, 102] = ⟨#[48, 120, 102, 102, 102, 102, 102, 102, 102, 102]⟩ from rfl] at h3
  have H3 := Lib.hid h3
  clear g2 h3 H2 G1
  go_wp2_with fail
  refine H3.out.mono ?_
  rintro e w3 ⟨rfl, g3, _⟩
  have G3 := Lib.hid (gb_trans G2.out g3)
  have h4 := parseU_any w3 [48, 120, 70, 70] (by decide) (by decide)
  rw [show prU [48, 120, 70, 70] = (0, false) by decide +kernel] at h4
  rw [show strOf [48, 120, 70, 70] = ⟨#[48, 120, 70, 70]⟩ from rfl] at h4
  have H4 := Lib.hid h4
  clear g3 h4 H3 G2
  go_wp2_with fail
  refine H4.out.mono ?_
  rintro e w4 ⟨rfl, g4, _⟩
  have G4 := Lib.hid (gb_trans G3.out g4)
  have h5 := decode_any w4 [48, 97, 102, 102] (by decide) (by decide)
  rw [show decX [48, 97, 102, 102] = some [10, 255] by decide +kernel] at h5
  rw [show strOf [48, 97, 102, 102] = ⟨#[48, 97, 102, 102]⟩ from rfl] at h5
  have H5 := Lib.hid h5
  clear g4 h5 H4 G3
  go_wp2_with fail
  refine H5.out.mono ?_
  rintro e w5 ⟨V5, rfl, o5, g5⟩
  change BL w5 w4.heap.size V5 [10, 255] at o5
  obtain ⟨a5, c5, rfl⟩ := o5.sh (n := 2) rfl
  have G5 := Lib.hid (gb_trans G4.out g5)
  have O5 := Lib.hid o5
  have h6 := fmtInt_any w5 (-5) (by decide) (by decide)
  rw [show fmtI (-5) = [45, 53] by decide +kernel] at h6
  rw [show strOf [45, 53] = ⟨#[45, 53]⟩ from rfl] at h6
  have H6 := Lib.hid h6
  clear g5 h6 o5 H5 G4
  go_wp2_with fail
  refine H6.out.mono ?_
  rintro e w6 ⟨rfl, g6, _⟩
  have G6 := Lib.hid (gb_trans G5.out g6)
  have O6 := Lib.hid (O5.out.keep0 g6)
  have h7 := fmtU_any w6 70 (by decide) (by decide)
  rw [show dec 70 = [55, 48] by decide +kernel] at h7
  rw [show strOf [55, 48] = ⟨#[55, 48]⟩ from rfl] at h7
  have H7 := Lib.hid h7
  clear g6 h7 O5 H6 G5
  go_wp2_with fail
  refine H7.out.mono ?_
  rintro e w7 ⟨rfl, g7, _⟩
  have G7 := Lib.hid (gb_trans G6.out g7)
  have O7 := Lib.hid (O6.out.keep0 g7)
  have cv1 := conv_str w7 a5 2 c5 [10, 255] (O7.out.sl rfl)
  have cv2 := conv_str _ _ 2 2 [10, 255] (slr_two w7 .u8 10 255 5 w7.heap.size rfl)
  have cv3 := conv_str _ a5 2 c5 [10, 255] ((O7.out.keep0 (gb_alloc w7 (.cells #[.int .u8 10, .int .u8 255] 5) none)).sl rfl)
  rw [show strOf [10, 255] = ⟨#[10, 255]⟩ from rfl] at cv1 cv2 cv3
  have h8 := encode_any (w7.alloc (.cells #[.int .u8 10, .int .u8 255] 5)) a5 2 c5 [10, 255] ((O7.out.keep0 (gb_alloc w7 (.cells #[.int .u8 10, .int .u8 255] 5) none)).sl rfl) (by decide) (by decide)
  rw [show encL [10, 255] = [48, 97, 102, 102] by decide +kernel] at h8
  rw [show strOf [48, 97, 102, 102] = ⟨#[48, 97, 102, 102]⟩ from rfl] at h8
  have H8 := Lib.hid h8
  clear g7 h8 O6 H7 G6
  go_wp2_with fail
  refine H8.out.mono ?_
  rintro e w8 ⟨rfl, g8, _⟩
  have G8 := Lib.hid (gb_trans G7.out (gb_trans (gb_alloc w7 _ none) g8))
  clear g8 H8 O7 G7 cv1 cv2 cv3
  go_wp2
  go_ret
  exact ⟨rfl, G8.out, trivial⟩
end Go.Proofs.Ytplhhjbmegaiiaa
