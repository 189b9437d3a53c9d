/- Units: the law Exclude; no condition. -/
import Derived.Test.YtfjeonoihdgdoaaUnL
namespace Go.Proofs.Ytfjeonoihdgdoaa
open Go.RowKit
set_option linter.unusedVariables false
theorem opp_not {G H : List Gd} {B : List Bool} (h : opp G H = true) (h1 : okG G B = true) (h2 : okG H B = true) : False := by
  unfold opp at h
  obtain ⟨y, hy, q⟩ := List.any_eq_true.1 h
  obtain ⟨x, hx, r⟩ := List.any_eq_true.1 q
  unfold okG at h1 h2
  rw [Bool.not_eq_true', List.any_eq_false] at h1 h2
  have a := h1 x hx
  have b := h2 y hy
  rw [Bool.and_eq_true, decide_eq_true_eq] at r
  obtain ⟨e, ne⟩ := r
  rw [e] at a
  cases hb : bitO B y.1 <;> cases hx2 : x.2 <;> cases hy2 : y.2 <;> simp_all
theorem xcU_not (L : List Un) (B : List Bool) (i j : Int) (h : xcU L i j = true) (h1 : exU L B i = true) : exU L B j = false := by
  unfold xcU at h
  unfold exU at *
  rw [Bool.and_eq_true, Bool.and_eq_true] at h
  rw [Bool.and_eq_true] at h1
  cases hj : okG (L.getD j.toNat uz).G B with
  | false => rw [Bool.and_false]
  | true => exact (opp_not h.2 h1.2 hj).elim
set_option maxRecDepth 100000 in
set_option maxHeartbeats 8000000 in
theorem exclude_walk (w : World) (s : Sl) (L : List Un) (hL : SUn w s L) (b : Sl) (B : List Bool) (hB : SB w b.a b.n b.c B) (i j : Int) : Calls Try.prog 7 #[.slice s.a s.n s.c, .slice b.a b.n b.c, .agg #[.int .i64 i, .int .i64 j]] w (RetV (.bool true) w) := by
  have GA := Lib.hid (gb_alloc w (.cells #[.int .i64 i, .int .i64 j] 71) none)
  have BX := IsB.new w 71 #[.int .i64 i, .int .i64 j]
  have c0 := BX.cell 0
  have c1 := BX.cell 1
  dsimp at c0 c1
  have SM := Lib.hid (smallu_any _ s L (hL.keep0 GA.out))
  have AW := Lib.hid (fun w => awake_any w)
  have hn := hL.len
  unfold SmU at SM
  unfold RetV at AW
  have HL := Lib.hid (hL.keep0 GA.out)
  have HB := Lib.hid (hB.keep0 GA.out)
  clear hL hB BX
  go_enter Try.func7, Try.ntmps7
  go_upto_region 1 with fail
  generalize w.alloc (.cells #[.int .i64 i, .int .i64 j] 71) = w1 at *
  generalize w.heap.size = p at *
  go_wp2_with fail
  refine SM.out.mono ?_
  rintro e w2 ⟨q, rfl, rfl, hq⟩
  clear SM
  cases q with
  | false =>
    go_wp2_with fail
    refine (AW.out _).mono ?_
    rintro e x1 ⟨rfl, g⟩
    have GZ := Lib.hid (gb_trans GA.out g)
    clear g
    go_wp2
    go_ret
    exact ⟨rfl, GZ.out⟩
  | true =>
    obtain ⟨hl, hg⟩ := hq rfl
    have XC := Lib.hid (uxc_any w2 s L HL.out i j (fun k hk => Nat.le_trans (hg k (by omega)) (by decide)))
    have EX := Lib.hid (fun (w3 : World) (g : w2.grownBy w3 none) (i : Int) => uex_any w3 s L (HL.out.keep0 g) b B (HB.out.keep0 g) i (fun k hk => Nat.le_trans (hg k (by omega)) (by decide)))
    have NO := Lib.hid (xcU_not L B i j)
    unfold RetV at XC EX
    clear HL HB hq hg hl hn
    generalize xcU L i j = x at *
    go_wp2_with fail
    refine XC.out.mono ?_
    rintro e w3 ⟨rfl, g3⟩
    have G3 := Lib.hid g3
    have d0 := g3.cell c0 (by simp)
    have d1 := g3.cell c1 (by simp)
    clear g3 XC c0 c1
    cases x with
    | false =>
      go_wp2_with fail
      refine (AW.out _).mono ?_
      rintro e x1 ⟨rfl, g⟩
      have GZ := Lib.hid (gb_trans GA.out (gb_trans G3.out g))
      clear g
      go_wp2
      go_ret
      exact ⟨rfl, GZ.out⟩
    | true =>
      have E1 := Lib.hid (EX.out _ G3.out i)
      have N1 := Lib.hid (NO.out rfl)
      clear NO
      generalize exU L B i = y at *
      go_wp2_with fail
      refine E1.out.mono ?_
      rintro e w4 ⟨rfl, g4⟩
      have G4 := Lib.hid (gb_trans G3.out g4)
      have e1 := g4.cell d1 (by simp)
      clear g4 d0 d1 E1
      cases y with
      | false =>
        go_wp2_with fail
        refine (AW.out _).mono ?_
        rintro e x1 ⟨rfl, g⟩
        have GZ := Lib.hid (gb_trans GA.out (gb_trans G4.out g))
        clear g
        go_wp2
        go_ret
        exact ⟨rfl, GZ.out⟩
      | true =>
        have E2 := Lib.hid (EX.out _ G4.out j)
        rw [N1.out rfl] at E2
        go_wp2_with fail
        refine E2.out.mono ?_
        rintro e w5 ⟨rfl, g5⟩
        have G5 := Lib.hid (gb_trans G4.out g5)
        clear g5 e1 E2
        go_wp2_with fail
        refine (AW.out _).mono ?_
        rintro e x1 ⟨rfl, g⟩
        have GZ := Lib.hid (gb_trans GA.out (gb_trans G5.out g))
        clear g
        go_wp2
        go_ret
        exact ⟨rfl, GZ.out⟩
end Go.Proofs.Ytfjeonoihdgdoaa
