/- Header: the walk of HeaderChecks; no condition but that the header can be read. -/
import Derived.Test.YtgknooblnpmloaaHdN
namespace Go.Proofs.Ytgknooblnpmloaa
open Go.RowKit
set_option linter.unusedVariables false

/-- The law holds: true, and what was there at the call is as it was. -/
def HoldsT (W : World) (e : Ending) (w' : World) : Prop := e = .returned (.bool true) ∧ Below W.heap.size W w'
theorem hd_small {W : World} {hs : ByteArray} {a : Option Addr} {n c : Nat} {L : List Fld} (h : SF W a n c L) (hsm : smallH hs L = true) : HdOk W hs a n c L := by
  obtain ⟨h1, h2, h3⟩ := smallH_ok hsm
  exact ⟨h, by rw [← h.len]; omega, fun p hp => by have := h3 p hp; omega, by omega⟩
set_option maxRecDepth 100000 in
set_option maxHeartbeats 8000000 in
theorem checks_walk (s0 : ByteArray) (a : Option Addr) (n c : Nat) (L : List Fld) (nm : ByteArray) (W : World) (h : SF W a n c L) : Calls Try.prog 3 #[.agg #[.string s0, .slice a n c], .string nm] W (HoldsT W) := by
  have HH := Lib.hid h
  have BX := Lib.hid (IsB.new W 24 #[.string s0, .slice a n c])
  have G0 := Lib.hid (gb_alloc W (.cells #[.string s0, .slice a n c] 24) none)
  have SM := Lib.hid (small_any _ s0 a n c L (h.keep0 G0.out))
  have WK := Lib.hid (fun w => works_any w)
  clear h
  cases hsm : smallH s0 L
  · rw [hsm] at SM
    clear hsm
    go_enter Try.func3, Try.ntmps3
    go_wp2_with fail
    refine SM.out.mono ?_
    rintro e w2 ⟨rfl, g2⟩
    have G2 := Lib.hid (gb_trans G0.out g2)
    clear g2 SM
    go_wp2_with fail
    refine (WK.out _).mono ?_
    rintro e w3 ⟨rfl, g3⟩
    have G3 := Lib.hid (gb_trans G2.out g3)
    clear g3
    go_wp2
    go_ret
    exact ⟨rfl, below_gb G3.out⟩
  · have OK := Lib.hid (hd_small HH.out hsm)
    rw [hsm] at SM
    clear hsm
    by_cases hnm : nm.size ≤ 30
    · have i1 : ¬ (30 : Int) < nm.size := by omega
      clear hnm
      go_enter Try.func3, Try.ntmps3
      go_wp2_with fail
      refine SM.out.mono ?_
      rintro e w2 ⟨rfl, g2⟩
      have G2 := Lib.hid (gb_trans G0.out g2)
      have BX2 := Lib.hid (BX.out.keep0 g2)
      have b0 := BX2.out.cell 0
      have b1 := BX2.out.cell 1
      simp at b0 b1
      have hfew := OK.out.few
      have FP := Lib.hid (find_any w2 s0 a n c L nm (HH.out.keep0 G2.out) (by omega))
      have FR := Lib.hid (fun (w' : World) (g : W.grownBy w' none) => rfind_any w' s0 a n c L nm (HH.out.keep0 g) (by omega))
      have CP := Lib.hid (fun (w' : World) (g : W.grownBy w' none) => check_any w' s0 a n c L (HH.out.keep0 g) OK.out.few OK.out.nm OK.out.hn)
      have CR := Lib.hid (fun (w' : World) (g : W.grownBy w' none) => rcheck_any w' s0 a n c L (HH.out.keep0 g) OK.out.few OK.out.nm OK.out.hn)
      have BP := Lib.hid (fun (w' : World) (g : W.grownBy w' none) => bits_any w' s0 a n c L (OK.out.keep0 g))
      have BR := Lib.hid (fun (w' : World) (g : W.grownBy w' none) => rbits_any w' s0 a n c L (OK.out.keep0 g))
      generalize ((fIdx L nm : Nat) : Int) = f1 at *
      generalize hasNm L nm = f2 at *
      generalize chkH s0 L = q at *
      generalize bitsH s0 L = bt at *
      clear g2 SM
      go_wp2_with fail
      refine FP.out.mono ?_
      rintro e w3 ⟨rfl, g3⟩
      have G3 := Lib.hid (gb_trans G2.out g3)
      have BX3 := Lib.hid (BX2.out.keep0 g3)
      clear b0 b1 g3 FP BX2
      have b0 := BX3.out.cell 0
      have b1 := BX3.out.cell 1
      simp at b0 b1
      have FR0 := Lib.hid (FR.out w3 G3.out)
      go_wp2_with fail
      refine FR0.out.mono ?_
      rintro e w4 ⟨rfl, g4⟩
      have G4 := Lib.hid (gb_trans G3.out g4)
      have BX4 := Lib.hid (BX3.out.keep0 g4)
      clear b0 b1 g4 FR FR0 BX3
      have KS := Lib.hid (fun (w' : World) (q : w4.grownBy w' none) => (⟨(BX4.out.keep0 q).cell 0, (BX4.out.keep0 q).cell 1, q⟩ : (fun w' : World => w'.cell? ⟨W.heap.size, 0, none⟩ = some (.string s0) ∧ w'.cell? ⟨W.heap.size, 1, none⟩ = some (.slice a n c) ∧ w4.grownBy w' none) w'))
      have e1 : (q == q) = true := by simp
      have e2 : (bt == bt) = true := by simp
      have e3 : (f1 == f1) = true := by simp
      have e4 : (f2 == f2) = true := by simp
      go_wp2_with fail
      go_region_held3 (fun w' : World => w'.cell? ⟨W.heap.size, 0, none⟩ = some (.string s0) ∧ w'.cell? ⟨W.heap.size, 1, none⟩ = some (.slice a n c) ∧ w4.grownBy w' none)
        (first
          | assumption
          | exact KS.out _ (by repeat' first
                                  | assumption
                                  | exact (And.right (And.right (by assumption)))
                                  | exact World.grownBy.refl _ _
                                  | exact gb_drew _ _
                                  | refine gb_trans ?_ (gb_drew _ _)
                                  | refine gb_trans ?_ (by assumption)))
        (first
          | (go_at_call 12; refine (CP.out _ (gb_trans G4.out (by repeat' first
                                  | assumption
                                  | exact (And.right (And.right (by assumption)))
                                  | exact World.grownBy.refl _ _
                                  | exact gb_drew _ _
                                  | refine gb_trans ?_ (gb_drew _ _)
                                  | refine gb_trans ?_ (by assumption)))).mono ?_; rintro e w' ⟨rfl, g⟩)
          | (go_at_call 13; refine (CR.out _ (gb_trans G4.out (by repeat' first
                                  | assumption
                                  | exact (And.right (And.right (by assumption)))
                                  | exact World.grownBy.refl _ _
                                  | exact gb_drew _ _
                                  | refine gb_trans ?_ (gb_drew _ _)
                                  | refine gb_trans ?_ (by assumption)))).mono ?_; rintro e w' ⟨rfl, g⟩)
          | (go_at_call 14; refine (BP.out _ (gb_trans G4.out (by repeat' first
                                  | assumption
                                  | exact (And.right (And.right (by assumption)))
                                  | exact World.grownBy.refl _ _
                                  | exact gb_drew _ _
                                  | refine gb_trans ?_ (gb_drew _ _)
                                  | refine gb_trans ?_ (by assumption)))).mono ?_; rintro e w' ⟨rfl, g⟩)
          | (go_at_call 15; refine (BR.out _ (gb_trans G4.out (by repeat' first
                                  | assumption
                                  | exact (And.right (And.right (by assumption)))
                                  | exact World.grownBy.refl _ _
                                  | exact gb_drew _ _
                                  | refine gb_trans ?_ (gb_drew _ _)
                                  | refine gb_trans ?_ (by assumption)))).mono ?_; rintro e w' ⟨rfl, g⟩)
          | (go_at_call 9; refine (WK.out _).mono ?_; rintro e w' ⟨rfl, g⟩))
      have gS : w4.grownBy w' none := And.right (And.right (by assumption))
      have G5 := Lib.hid (gb_trans G4.out gS)
      go_wp2
      go_ret
      exact ⟨rfl, below_gb G5.out⟩
    · have i1 : (30 : Int) < nm.size := by omega
      clear hnm
      go_enter Try.func3, Try.ntmps3
      go_wp2_with fail
      refine SM.out.mono ?_
      rintro e w2 ⟨rfl, g2⟩
      have G2 := Lib.hid (gb_trans G0.out g2)
      clear g2 SM
      go_wp2_with fail
      refine (WK.out _).mono ?_
      rintro e w3 ⟨rfl, g3⟩
      have G3 := Lib.hid (gb_trans G2.out g3)
      clear g3
      go_wp2
      go_ret
      exact ⟨rfl, below_gb G3.out⟩
end Go.Proofs.Ytgknooblnpmloaa
