/- Table: what the law calls small; no condition but sizes. -/
import Derived.Test.YtgdefahnmgonlaaTbL
namespace Go.Proofs.Ytgdefahnmgonlaa
open Go.RowKit
set_option linter.unusedVariables false
def RetB (Q : Prop) (w : World) (e : Ending) (w' : World) : Prop := ∃ b : Bool, e = .returned (.bool b) ∧ w.grownBy w' none ∧ (b = true → Q)
set_option maxRecDepth 100000 in
set_option maxHeartbeats 4000000 in
theorem fields_any (w : World) (a : Option Addr) (n c : Nat) (L : List Fld) (h : SF w a n c L) : Calls Try.prog 22 #[.slice a n c] w (RetB (n ≤ 16) w) := by
  have HS := Lib.hid h
  clear h
  by_cases h1 : (16 : Int) < n
  · go_enter Try.func22, Try.ntmps22
    go_wp2
    go_ret
    exact ⟨false, rfl, gb_refl _ _, fun h => by cases h⟩
  · have N := Lib.hid (show n ≤ 16 by omega)
    go_enter Try.func22, Try.ntmps22
    go_wp2
    go_loopw [3] (fun i wr => ∃ j : Nat, j ≤ n ∧ i = .int .i64 j ∧ w.grownBy wr none) (fun i _ => n - (intOf i).toNat)
    case atStart => exact ⟨0, Nat.zero_le _, rfl, gb_refl _ _⟩
    case round =>
      obtain ⟨j, hj, rfl, hg⟩ := hrel
      have G := Lib.hid hg
      clear hg
      by_cases hlt : j < n
      · obtain ⟨ad, had⟩ := HS.out.some (by omega)
        obtain ⟨e0, e1⟩ := (HS.out.keep0 G.out).cells ad had j hlt
        generalize (L.getD j fz).1 = nm at *
        have i1 : (j : Int) < n := by omega
        have i0 : (0 : Int) ≤ (j : Int) := by omega
        have hw : IntKind.i64.wrap ((j : Int) + 1) = ((j + 1 : Nat) : Int) := by have := N.out; rw [IntKind.wrap_i64]; omega
        rw [had]
        clear e1
        by_cases q : (40 : Int) < (nm.size : Int)
        · go_wp2
          go_ret
          exact ⟨false, rfl, G.out, fun h => by cases h⟩
        · go_wp2
          go_roundw
          case rel => exact ⟨j + 1, by omega, by first | rfl | (congr 1), G.out⟩
          case measure => simp [intOf]; omega
      · have i1 : ¬ (j : Int) < n := by omega
        go_wp2
        go_ret
        exact ⟨true, rfl, G.out, fun _ => N.out⟩
set_option maxRecDepth 100000 in
set_option maxHeartbeats 4000000 in
theorem body_any (w : World) (an : Actn) (pa ba : Option Addr) (pn pc bn bc : Nat) (hp : SF w pa pn pc an.ps) (hb : SSm w ba bn bc an.bd) : Calls Try.prog 23 #[.agg #[.string an.nm, .slice pa pn pc, .slice ba bn bc]] w (RetB True w) := by
  have HP := Lib.hid hp
  have HB := Lib.hid hb
  have G2 := Lib.hid (gb_alloc w (.cells #[.string an.nm, .slice pa pn pc, .slice ba bn bc] 74) none)
  have B1 := IsB.new w 74 #[.string an.nm, .slice pa pn pc, .slice ba bn bc]
  replace B1 := Lib.hid B1
  clear hp hb
  go_enter Try.func23, Try.ntmps23
  go_upto_region 1 with fail
  generalize w.alloc (.cells #[.string an.nm, .slice pa pn pc, .slice ba bn bc] 74) = w2 at *
  obtain ⟨bx, hbx⟩ : ∃ b, b = w.heap.size := ⟨_, rfl⟩
  have Lbx := Lib.hid (show w.heap.size ≤ bx by rw [hbx]; exact Nat.le_refl _)
  rw [← hbx] at B1 ⊢
  clear hbx
  replace HP := Lib.hid (HP.out.keep0 G2.out)
  replace HB := Lib.hid (HB.out.keep0SSm G2.out)
  have c0 := (B1.out.keep0 (gb_refl _ _)).cell 0
  have c1 := (B1.out.keep0 (gb_refl _ _)).cell 1
  have c2 := (B1.out.keep0 (gb_refl _ _)).cell 2
  dsimp at c0 c1 c2
  by_cases h0 : (40 : Int) < (an.nm.size : Int)
  · go_wp2
    go_ret
    exact ⟨false, rfl, G2.out, fun h => by cases h⟩
  · go_upto_region 1 with fail
    go_wp2_with fail
    refine (fields_any w2 pa pn pc an.ps HP.out).mono ?_
    rintro e w3 ⟨b, rfl, g, _⟩
    have c2 := (B1.out.keep0 g).cell 2
    dsimp at c2
    have G3 := Lib.hid (gb_trans G2.out g)
    have G23 := Lib.hid g
    clear g
    cases b
    · go_wp2
      go_ret
      exact ⟨false, rfl, G3.out, fun h => by cases h⟩
    · by_cases h1 : (16 : Int) < bn
      · go_wp2
        go_ret
        exact ⟨false, rfl, G3.out, fun h => by cases h⟩
      · have N := Lib.hid (show bn ≤ 16 by omega)
        go_wp2
        clear c0 c1 c2
        go_loopw [3] (fun i wr => ∃ j : Nat, j ≤ bn ∧ i = .int .i64 j ∧ w2.grownBy wr none) (fun i _ => bn - (intOf i).toNat)
        case atStart => exact ⟨0, Nat.zero_le _, rfl, G23.out⟩
        case round =>
          obtain ⟨j, hj, rfl, hg⟩ := hrel
          have G := Lib.hid hg
          clear hg
          have c2 := (B1.out.keep0 G.out).cell 2
          dsimp at c2
          by_cases hlt : j < bn
          · obtain ⟨ad, had⟩ := HB.out.some (by omega)
            obtain ⟨_, _, _, _, _, ⟨xa, xn, xc, e5, _⟩, ⟨ya, yn, yc, e6, _⟩⟩ := (HB.out.keep0SSm G.out).cells ad had j hlt
            have i1 : (j : Int) < bn := by omega
            have i0 : (0 : Int) ≤ (j : Int) := by omega
            have hw : IntKind.i64.wrap ((j : Int) + 1) = ((j + 1 : Nat) : Int) := by have := N.out; rw [IntKind.wrap_i64]; omega
            rw [had] at c2 ⊢
            by_cases q : (40 : Int) < xn
            · go_wp2
              go_ret
              exact ⟨false, rfl, gb_trans G2.out G.out, fun h => by cases h⟩
            · by_cases q2 : (40 : Int) < yn
              · go_wp2
                go_ret
                exact ⟨false, rfl, gb_trans G2.out G.out, fun h => by cases h⟩
              · go_wp2
                go_roundw
                case rel => exact ⟨j + 1, by omega, by first | rfl | (congr 1), G.out⟩
                case measure => simp [intOf]; omega
          · have i1 : ¬ (j : Int) < bn := by omega
            go_wp2
            go_ret
            exact ⟨true, rfl, gb_trans G2.out G.out, fun _ => trivial⟩
end Go.Proofs.Ytgdefahnmgonlaa
