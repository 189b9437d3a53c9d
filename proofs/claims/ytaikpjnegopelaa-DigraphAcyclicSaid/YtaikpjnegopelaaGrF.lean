/- The walk of the reference's Reverse. -/
import Derived.Test.YtaikpjnegopelaaGrE
namespace Go.Proofs.Ytaikpjnegopelaa
open Go.RowKit
set_option linter.unusedVariables false

/-- The call returns a graph of its own; beside it the world only grew. -/
def RetG (n : Nat) (g : List (List Int)) (w : World) (e : Ending) (w' : World) : Prop := ∃ b, w.heap.size ≤ b ∧ e = .returned (.slice (some ⟨b, 0, none⟩) n n) ∧ SlG w' (some ⟨b, 0, none⟩) n n g ∧ w.grownBy w' none

set_option maxRecDepth 100000 in
set_option maxHeartbeats 1000000 in
theorem rrev_any (w : World) (a : Option Addr) (n c : Nat) (g : List (List Int)) (h : SlG w a n c g) (hn : n ≤ 100000) :
    Calls Try.prog 30 #[.slice a n c] w (RetG n (revG g) w) := by
  obtain ⟨i0, hi, hz0, hz1, hz2⟩ := info_parts infoInts
  have HI := Lib.hid hi
  have HH := Lib.hid h
  have hl := h.1
  clear hi h
  subst hl
  go_enter Try.func30, Try.ntmps30
  go_wp2_with (at_make; refine wpList_make_full _ rfl _ _ 22 rfl w.heap.size 31 i0 (.slice none 0 0) 1 Try.underlying22 HI.out hz0 hz1 .i64 .i64 _ _ g.length rfl rfl ?c1 ?c2 ?c3 ?c4 ?c5 ?_)
  case c1 => first | rfl | omega
  case c2 => first | rfl | omega
  case c3 => rw [hz2]; omega
  case c4 => unfold maxLen; omega
  case c5 => simp
  intro w2 hown hg
  have N1 := Lib.hid (show RV w w.heap.size g.length 0 g (List.replicate g.length (.slice none 0 0)) w2 by
    rcases hown.2 with ⟨h1, _⟩ | ⟨b, cap, cur, h1, h2, h3, h4, h5, h6, h7⟩
    · injection h1 with h1; cases h1
    · injection h1 with h1 _ h8
      injection h1 with h1; injection h1 with h1
      subst h1; subst h8
      rw [made_zero] at h7
      have e : cur = (List.replicate g.length (Value.slice none 0 0)).toArray := by
        apply Array.toList_inj.1
        rw [← h7, List.take_of_length_le]
        rw [Array.length_toList, h6]; exact Nat.le_refl _
      subst e
      exact ⟨by simp, h3, fun j hj => absurd hj (Nat.not_lt_zero _), fun j _ hj => by simp [hj], hg⟩)
  clear hown hg
  go_wp2_with fail
  go_loopw [4] (fun i wr => ∃ (x : Nat) (Vs : List Value), x ≤ g.length ∧ i = .int .i64 x ∧ RV w w.heap.size g.length x g Vs wr) (fun i _ => g.length - (intOf i).toNat)
  case atStart => exact ⟨0, _, Nat.zero_le _, rfl, N1.out⟩
  case round =>
    obtain ⟨x, Vs, hx, rfl, q1⟩ := hrel
    clear N1
    have N1 := Lib.hid q1
    clear q1
    by_cases hxt : x < g.length
    · have i1 : (x : Int) < g.length := by omega
      go_wp2
      go_loopw [5] (fun i wr => ∃ (y : Nat) (base : Nat) (V : Value), y ≤ g.length ∧ i = .int .i64 y ∧ RX w w.heap.size g.length x y g Vs base V wr) (fun i _ => g.length - (intOf i).toNat)
      case atStart => exact ⟨0, _, _, Nat.zero_le _, rfl, N1.out.start hxt⟩
      case round =>
        obtain ⟨y, base, V, hy, rfl, q1⟩ := hrel
        clear N1
        have N1 := Lib.hid q1
        by_cases hyt : y < g.length
        · have i2 : (y : Int) < g.length := by omega
          have HH3 := Lib.hid (HH.out.keep0 q1.grown)
          by_cases he : gEdge g y x = true
          · have HE := Lib.hid he
            have hsh := q1.now.shape
            obtain ⟨A, C, hv⟩ := hsh
            subst hv
            have hlx : x < Vs.length := by rw [q1.len]; exact hxt
            have c1 : wr.cell? ⟨w.heap.size, x, none⟩ = some (.slice A (revUp g x y).length C) := by
              rw [q1.blk.cell x]; simp [hlx]
            have LN := Lib.hid (show (revUp g x y).length + 1 ≤ 1000000 by have := revUp_len g x y; omega)
            clear q1 he
            obtain ⟨m, hm⟩ : ∃ m, m = (revUp g x y).length := ⟨_, rfl⟩
            rw [← hm] at c1 N1 LN
            have HM := Lib.hid hm
            clear hm
            go_wp2_with fail
            refine (redge_any _ _ _ _ g y x HH3.out (by omega) (by omega)).mono ?_
            rintro e w1 ⟨rfl, rfl⟩
            rw [HE.out]
            go_wp2_with (at_builtin; refine npush_any rfl _ _ rfl base _ (revUp g x y) rfl (N1.out.now.keep0 (gb_alloc _ _ _)) _ _ _ [_] rfl (slr_one _ _ _ _ _ rfl) (by have := LN.out; have := HM.out; simp; omega) (by have := N1.out.low.2; simp; omega) ?_)
            intro V2 w2 o2 g2
            rw [← revUp_yes HE.out] at o2
            obtain ⟨A2, C2, hv2⟩ := o2.shape
            subst hv2
            have fr := RX.free (RX.keep N1.out (gb_alloc _ _ _)) g2
            have f2 := fr.1
            have NX := Lib.hid (RX.step (RX.keep N1.out (gb_alloc _ _ _)) hxt (Nat.le_refl _) o2 g2)
            obtain ⟨cs, hb, hcs⟩ := fr.2
            clear fr
            have c3 : ∃ u, w2.cell? ⟨w.heap.size, x, none⟩ = some u := by
              rw [hb.cell x]; exact ⟨_, Array.getElem?_eq_getElem (by omega)⟩
            obtain ⟨u, c3⟩ := c3
            obtain ⟨m2, hm2⟩ : ∃ m, m = (revUp g x (y + 1)).length := ⟨_, rfl⟩
            rw [← hm2] at NX ⊢
            clear o2 g2 hm2 c1 hb hcs
            go_wp2
            go_roundw
            case rel => exact ⟨y + 1, _, _, by omega, by go_num, NX.out⟩
            case measure => simp [intOf]; omega
          · have HE := Lib.hid (show gEdge g y x = false by simpa using he)
            have NX := Lib.hid (q1.skip HE.out)
            clear q1 he
            go_wp2_with fail
            refine (redge_any _ _ _ _ g y x HH3.out (by omega) (by omega)).mono ?_
            rintro e w1 ⟨rfl, rfl⟩
            rw [HE.out]
            go_wp2
            go_roundw
            case rel => exact ⟨y + 1, _, _, by omega, by go_num, NX.out⟩
            case measure => simp [intOf]; omega
        · have hye : y = g.length := by omega
          subst hye
          have NX := Lib.hid (q1.end_ hxt)
          clear q1
          go_wp2
          go_roundw
          case rel => exact ⟨x + 1, _, by omega, by go_num, NX.out⟩
          case measure => simp [intOf]; omega
    · have hxe : x = g.length := by omega
      subst hxe
      go_wp2
      go_ret
      exact ⟨_, Nat.le_refl _, rfl, N1.out.slg rfl hn, N1.out.grown⟩
end Go.Proofs.Ytaikpjnegopelaa
