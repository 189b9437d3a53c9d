/- Header: the examples of chapter 11 hold: the walk of works; no condition. -/
import Derived.Test.YtgknooblnpmloaaHdM
namespace Go.Proofs.Ytgknooblnpmloaa
open Go.RowKit
set_option linter.unusedVariables false

def nA' : ByteArray := ⟨#[97]⟩
def nB' : ByteArray := ⟨#[98]⟩
def nH' : ByteArray := ⟨#[104]⟩
def L0 : List Fld := [(⟨#[97]⟩, 4), (⟨#[98]⟩, 12)]
theorem id_a : isI ⟨#[97]⟩ = true := by decide +kernel
theorem id_b : isI ⟨#[98]⟩ = true := by decide +kernel
theorem id_h : isI ⟨#[104]⟩ = true := by decide +kernel
theorem ne_ab : eqS ⟨#[97]⟩ ⟨#[98]⟩ = false := by unfold eqS; rw [ByteArray.toList_eq, ByteArray.toList_eq]; decide
theorem eq_bb : eqS ⟨#[98]⟩ ⟨#[98]⟩ = true := by unfold eqS; rw [ByteArray.toList_eq]; decide
theorem chk0 : chkH ⟨#[104]⟩ L0 = 0 := by
  have h1 : chkF L0 0 = 0 := by unfold chkF; simp [L0, id_a, hasNm]
  have h2 : chkF L0 1 = 0 := by unfold chkF; simp [L0, id_b, hasNm, ne_ab]
  have h3 : errs L0 2 = 0 := errs_next L0 1 (errs_next L0 0 rfl h1) h2
  unfold chkH
  rw [id_h, if_neg (by decide), if_neg (by decide), if_neg (by decide), show L0.length = 2 from rfl, if_pos h3]
  decide
theorem chk1 : chkH ⟨#[104]⟩ [] = 8 := by unfold chkH; rw [id_h]; rfl
theorem bits0 : bitsH ⟨#[104]⟩ L0 = 16 := by unfold bitsH; rw [if_pos chk0]; rfl
theorem rd0 : rdH ⟨#[104]⟩ L0 [81, 2] 0 = (0, [5, 258], 16) := by unfold rdH; rw [if_neg (by rw [chk0]; decide), if_neg (by decide)]; decide +kernel
theorem nm0 : hasNm L0 ⟨#[98]⟩ = true ∧ fIdx L0 ⟨#[98]⟩ = 1 := find_at L0 _ 1 (by decide) (by simp [L0, hasNm, ne_ab]) eq_bb
theorem sf_lit {w : World} {g : Nat} {t : TypeId} (h : IsB w g t #[.string ⟨#[97]⟩, .int .i64 4, .string ⟨#[98]⟩, .int .i64 12]) : SF w (some ⟨g, 0, none⟩) 2 2 L0 := by
  refine ⟨rfl, (fun e => by cases e), Nat.le_refl _, fun ad e j hj => ?_⟩
  cases e
  rcases (show j = 0 ∨ j = 1 by omega) with rfl | rfl
  · exact ⟨by simpa [Addr.add, L0] using h.cell 0, by simpa [Addr.add, L0] using h.cell 1⟩
  · exact ⟨by simpa [Addr.add, L0] using h.cell 2, by simpa [Addr.add, L0] using h.cell 3⟩
theorem sf_nil (w : World) : SF w none 0 0 [] := ⟨rfl, fun _ => ⟨rfl, rfl⟩, Nat.le_refl _, (fun ad e => by cases e)⟩
theorem nm_lit : ∀ p ∈ L0, p.1.size ≤ 1000000 := by
  intro p hp
  simp only [L0, List.mem_cons, List.mem_nil_iff, or_false] at hp
  rcases hp with rfl | rfl <;> decide
theorem below_gb {w w2 : World} (k : w.grownBy w2 none) : Below w.heap.size w w2 := ⟨k.os, k.tape, k.output, k.size, fun i hi => k.block i hi (by simp)⟩
set_option maxRecDepth 100000 in
set_option maxHeartbeats 8000000 in
theorem works_any (W : World) : Calls Try.prog 9 #[] W (RetG (.bool true) W) := by
  have b1 := IsB.new W 70 #[.string ⟨#[97]⟩, .int .i64 4, .string ⟨#[98]⟩, .int .i64 12]
  have b2 := IsB.new (W.alloc (.cells #[.string ⟨#[97]⟩, .int .i64 4, .string ⟨#[98]⟩, .int .i64 12] 70)) 24 #[.string ⟨#[104]⟩, .slice (some ⟨W.heap.size, 0, none⟩) 2 2]
  rw [show (W.alloc (.cells #[.string ⟨#[97]⟩, .int .i64 4, .string ⟨#[98]⟩, .int .i64 12] 70)).heap.size = W.heap.size + 1 by simp] at b2
  have B1 := Lib.hid (b1.alloc (.cells #[.string ⟨#[104]⟩, .slice (some ⟨W.heap.size, 0, none⟩) 2 2] 24))
  have B2 := Lib.hid b2
  have G1 := Lib.hid (gb_trans (gb_alloc W (.cells #[.string ⟨#[97]⟩, .int .i64 4, .string ⟨#[98]⟩, .int .i64 12] 70) none) (gb_alloc _ (.cells #[.string ⟨#[104]⟩, .slice (some ⟨W.heap.size, 0, none⟩) 2 2] 24) none))
  clear b1 b2
  go_enter Try.func9, Try.ntmps9
  go_wp2_with fail
  generalize (W.alloc (.cells #[.string ⟨#[97]⟩, .int .i64 4, .string ⟨#[98]⟩, .int .i64 12] 70)).alloc (.cells #[.string ⟨#[104]⟩, .slice (some ⟨W.heap.size, 0, none⟩) 2 2] 24) = w1 at *
  have HD := Lib.hid (show HdOk w1 ⟨#[104]⟩ (some ⟨W.heap.size, 0, none⟩) 2 2 L0 from ⟨sf_lit B1.out, by decide, nm_lit, by decide⟩)
  have KS := Lib.hid (fun (w' : World) (q : w1.grownBy w' none) => (⟨(B2.out.keep0 q).cell 0, (B2.out.keep0 q).cell 1, q⟩ : (fun w' : World => w'.cell? ⟨W.heap.size + 1, 0, none⟩ = some (.string ⟨#[104]⟩) ∧ w'.cell? ⟨W.heap.size + 1, 1, none⟩ = some (.slice (some ⟨W.heap.size, 0, none⟩) 2 2) ∧ w1.grownBy w' none) w'))
  have RC := Lib.hid (fun (w' : World) (g : w1.grownBy w' none) (base r s : Nat) (V : Value) (hr : Rdr w' base r s V [81, 2] 0) (ls : w1.heap.size ≤ s) => read_any w1 w' ⟨#[104]⟩ (some ⟨W.heap.size, 0, none⟩) 2 2 L0 HD.out (below_gb g) base r s V [81, 2] 0 hr ls (by decide) (by decide) (by decide) 0 [5, 258] 16 rd0)
  go_region_held3 (fun w' : World => w'.cell? ⟨W.heap.size + 1, 0, none⟩ = some (.string ⟨#[104]⟩) ∧ w'.cell? ⟨W.heap.size + 1, 1, none⟩ = some (.slice (some ⟨W.heap.size, 0, none⟩) 2 2) ∧ w1.grownBy w' none)
      (first
        | assumption
        | exact KS.out _ (by repeat' first
                                  | assumption
                                  | exact (And.right (And.right (by assumption)))
                                  | exact World.grownBy.refl _ _
                                  | exact gb_drew _ _
                                  | refine gb_trans ?_ (gb_alloc _ _ _)
                                  | refine gb_trans ?_ (gb_drew _ _)
                                  | refine gb_trans ?_ (by assumption)))
      (first
        | (go_at_call 16; refine (newReader_any _ _ _ _ [81, 2] ((slr_two w1 .u8 81 2 5 w1.heap.size rfl).keep0 (gb_drew _ none)) (by decide)).mono ?_; rintro e w' ⟨r, s, V, rfl, gN, rdN, _, lr, ls⟩; have gN2 := gb_trans (gb_trans (gb_alloc w1 _ none) (gb_drew _ none)) gN; have ls2 : w1.heap.size ≤ s := by (simp at ls; omega))
        | (go_at_call 20; refine (RC.out _ gN2 _ r s V rdN ls2).mono ?_; rintro e w' ⟨v', rfl, gR, rdR, uR⟩; have gQ := gb_new (gb_trans (gb_any gN2) gR) ls2))
  have U := Lib.hid uR
  have GQ := Lib.hid gQ
  rename_i hHeld
  clear hHeld gR rdR uR gN rdN lr ls ls2 gN2 gQ RC
  generalize w' = w2 at *
  obtain ⟨av, cv, rfl⟩ := U.out.shape
  have b0 := (B2.out.keep0 GQ.out).cell 0
  have b1 := (B2.out.keep0 GQ.out).cell 1
  simp at b0 b1
  have FI := Lib.hid (find_any w2 ⟨#[104]⟩ (some ⟨W.heap.size, 0, none⟩) 2 2 L0 ⟨#[98]⟩ (HD.out.sf.keep0 GQ.out) (by decide))
  rw [nm0.1, nm0.2] at FI
  go_wp2_with fail
  refine FI.out.mono ?_
  rintro e w3 ⟨rfl, g3⟩
  have G3 := Lib.hid (gb_trans GQ.out g3)
  have U := Lib.hid (UL.keep0 U.out g3)
  clear g3 FI b0 b1
  have b0 := (B2.out.keep0 G3.out).cell 0
  have b1 := (B2.out.keep0 G3.out).cell 1
  simp at b0 b1
  have CK := Lib.hid (check_any w3 ⟨#[104]⟩ (some ⟨W.heap.size, 0, none⟩) 2 2 L0 (HD.out.sf.keep0 G3.out) (by decide) nm_lit (by decide))
  rw [chk0] at CK
  go_wp2_with fail
  refine CK.out.mono ?_
  rintro e w4 ⟨rfl, g4⟩
  have G4 := Lib.hid (gb_trans G3.out g4)
  have U := Lib.hid (UL.keep0 U.out g4)
  clear g4 CK b0 b1
  have b0 := (B2.out.keep0 G4.out).cell 0
  have b1 := (B2.out.keep0 G4.out).cell 1
  simp at b0 b1
  have BT := Lib.hid (bits_any w4 ⟨#[104]⟩ (some ⟨W.heap.size, 0, none⟩) 2 2 L0 (HD.out.keep0 G4.out))
  rw [bits0] at BT
  go_wp2_with fail
  refine BT.out.mono ?_
  rintro e w5 ⟨rfl, g5⟩
  have G5 := Lib.hid (gb_trans G4.out g5)
  have U5 := Lib.hid (UL.keep0 U.out g5)
  have EQ := Lib.hid (fun (w' : World) (a2 : Option Addr) (n2 c2 : Nat) (h2 : SlR w' a2 n2 c2 ([5, 258].map (Value.int .u32))) (g : w5.grownBy w' none) => equ_same w' av a2 2 n2 cv c2 [5, 258] ((UL.slr U5.out rfl).keep0 g) h2 (by decide))
  have EQ0 := Lib.hid (EQ.out _ _ _ _ (slr_two w5 .u32 5 258 39 w5.heap.size rfl) (gb_alloc _ _ _))
  clear g5 BT b0 b1 EQ
  go_wp2_with fail
  refine EQ0.out.mono ?_
  rintro e w6 ⟨rfl, g6, _⟩
  have G6 := Lib.hid (gb_trans (gb_trans G5.out (gb_alloc _ (.cells #[.int .u32 5, .int .u32 258] 39) none)) g6)
  have CN := Lib.hid (check_any w6 ⟨#[104]⟩ none 0 0 [] (sf_nil w6) (by decide) (fun p hp => by cases hp) (by decide))
  rw [chk1] at CN
  clear g6 EQ0
  go_wp2_with fail
  refine CN.out.mono ?_
  rintro e w7 ⟨rfl, g7⟩
  have G7 := Lib.hid (gb_trans G1.out (gb_trans G6.out g7))
  clear g7 CN
  go_wp2
  go_ret
  exact ⟨rfl, G7.out⟩
end Go.Proofs.Ytgknooblnpmloaa
