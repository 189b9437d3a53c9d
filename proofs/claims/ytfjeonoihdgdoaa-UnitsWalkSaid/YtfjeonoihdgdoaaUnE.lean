/- Units: the reference's Exclusive; the law's small; the walks; no condition but the lists' sizes. -/
import Derived.Test.YtfjeonoihdgdoaaUnD
namespace Go.Proofs.Ytfjeonoihdgdoaa
open Go.RowKit
set_option linter.unusedVariables false
theorem any_swap (G H : List Gd) (p : Gd → Gd → Bool) : (H.any fun h => G.any fun g => p g h) = G.any fun g => H.any fun h => p g h := by
  rw [Bool.eq_iff_iff, List.any_eq_true, List.any_eq_true]
  constructor
  · rintro ⟨h, hh, q⟩
    obtain ⟨g, hg, r⟩ := List.any_eq_true.1 q
    exact ⟨g, hg, List.any_eq_true.2 ⟨h, hh, r⟩⟩
  · rintro ⟨g, hg, q⟩
    obtain ⟨h, hh, r⟩ := List.any_eq_true.1 q
    exact ⟨h, hh, List.any_eq_true.2 ⟨g, hg, r⟩⟩
def hitG (g h : Gd) : Bool := decide (g.1 = h.1) && (g.2 != h.2)
theorem opp_hit (G H : List Gd) : opp G H = G.any fun g => H.any fun h => hitG g h := any_swap G H hitG
theorem any_step {G : List Gd} {j : Nat} (hj : j < G.length) (P : Gd → Bool) (h0 : (G.take j).any P = false) (h1 : P (G.getD j (0, false)) = false) : (G.take (j + 1)).any P = false := by
  rw [take_g G j hj, List.any_append, h0]; simpa using h1
theorem any_here {G : List Gd} {j : Nat} (hj : j < G.length) (P : Gd → Bool) (h1 : P (G.getD j (0, false)) = true) : G.any P = true := by
  rw [List.any_eq_true]
  exact ⟨G.getD j (0, false), by rw [List.getD_eq_getElem?_getD, List.getElem?_eq_getElem hj]; exact List.getElem_mem _, h1⟩
set_option maxRecDepth 100000 in
set_option maxHeartbeats 8000000 in
theorem ruxc_any (w : World) (ls : Sl) (L : List Un) (hL : SUn w ls L) (i j : Int) (hg : ∀ k, k < ls.n → (L.getD k uz).g.n ≤ 10000) :
    Calls Try.prog 32 #[.slice ls.a ls.n ls.c, .int .i64 i, .int .i64 j] w (RetV (.bool (xcU L i j)) w) := by
  have hl := hL.len
  by_cases hin : 0 ≤ i ∧ i < (ls.n : Int)
  · by_cases hjn : 0 ≤ j ∧ j < (ls.n : Int)
    · obtain ⟨k, rfl⟩ : ∃ k : Nat, i = (k : Int) := ⟨i.toNat, by omega⟩
      obtain ⟨m, rfl⟩ : ∃ k : Nat, j = (k : Int) := ⟨j.toNat, by omega⟩
      have hk : k < ls.n := by omega
      have hm : m < ls.n := by omega
      have HL := Lib.hid hL
      have hg1 := hg k hk
      have hg2 := hg m hm
      obtain ⟨ad, hsa⟩ := HL.out.some (by omega)
      have E := Lib.hid (show xcU L (k : Int) (m : Int) = (L.getD k uz).G.any fun g => (L.getD m uz).G.any fun h => hitG g h by
        unfold xcU
        rw [decide_eq_true (by omega), decide_eq_true (by omega), Int.toNat_natCast, Int.toNat_natCast, Bool.true_and, Bool.true_and, opp_hit])
      have CK1 := Lib.hid (fun wz (gz : w.grownBy wz none) => ((HL.out.keep0 gz).cells ad hsa k hk).2.2)
      have CM1 := Lib.hid (fun wz (gz : w.grownBy wz none) => ((HL.out.keep0 gz).cells ad hsa m hm).2.2)
      have MK := Lib.hid (fun wz (gz : w.grownBy wz none) => ((HL.out.keep0 gz).mem k hk).2)
      have MM := Lib.hid (fun wz (gz : w.grownBy wz none) => ((HL.out.keep0 gz).mem m hm).2)
      generalize L.getD k uz = U at *
      generalize L.getD m uz = V at *
      obtain ⟨ut, uc, uN, ⟨ga, gn, gc⟩, uG⟩ := U
      obtain ⟨vt, vc, vN, ⟨ha, hn, hc⟩, vG⟩ := V
      dsimp only [Sl.v] at CK1 CM1 MK MM E hg1 hg2
      have i1 : (k : Int) < (ls.n : Int) := by omega
      have i2 : (m : Int) < (ls.n : Int) := by omega
      have e1 : ¬ (k : Int) < 0 := by omega
      have e2 : ¬ (m : Int) < 0 := by omega
      rw [hsa]
      clear hin hjn hk hm hl hL hsa hg
      obtain ⟨r, hr⟩ : ∃ r, r = xcU L (k : Int) (m : Int) := ⟨_, rfl⟩
      rw [← hr] at E ⊢
      clear hr
      go_enter Try.func32, Try.ntmps32
      go_wp2
      go_loopw [7] (fun q wr => ∃ p : Nat, p ≤ gn ∧ q = .int .i64 p ∧ ((uG.take p).any fun g => vG.any fun h => hitG g h) = false ∧ w.grownBy wr none) (fun q _ => gn - (intOf q).toNat)
      case atStart => exact ⟨0, Nat.zero_le _, rfl, rfl, gb_refl _ _⟩
      case round =>
        obtain ⟨p, hp, rfl, q1, q2⟩ := hrel
        have T1 := Lib.hid q1
        have G6 := Lib.hid q2
        clear q1 q2
        have c2 := CK1.out wr G6.out
        by_cases hlt : p < gn
        · have i3 : (p : Int) < gn := by omega
          obtain ⟨ad2, hga⟩ := (MK.out w (gb_refl _ _)).some (by dsimp only; omega)
          dsimp only at hga
          subst hga
          have hlG : p < uG.length := by rw [(MK.out w (gb_refl _ _)).len]; exact hlt
          have DC := Lib.hid (fun wz gz => (MK.out wz gz).cells ad2 rfl p hlt)
          have ST := Lib.hid (fun h1 => any_step hlG (fun g => vG.any fun h => hitG g h) T1.out h1)
          have YES := Lib.hid (fun h1 => any_here hlG (fun g => vG.any fun h => hitG g h) h1)
          generalize uG.getD p (0, false) = y at *
          obtain ⟨u, x⟩ := y
          dsimp only at DC ST YES
          clear hlG
          go_wp2
          clear c2
          go_loopw [8] (fun q wq => ∃ s : Nat, s ≤ hn ∧ q = .int .i64 s ∧ ((vG.take s).any fun h => hitG (u, x) h) = false ∧ w.grownBy wq none) (fun q _ => hn - (intOf q).toNat)
          case atStart => exact ⟨0, Nat.zero_le _, rfl, rfl, G6.out⟩
          case round =>
            obtain ⟨s, hs, rfl, q1, q2⟩ := hrel
            have T2 := Lib.hid q1
            clear G6
            have G6 := Lib.hid q2
            clear q1 q2
            have c4 := CM1.out wr G6.out
            have c5 := CK1.out wr G6.out
            by_cases hst : s < hn
            · have i4 : (s : Int) < hn := by omega
              obtain ⟨ad3, hha⟩ := (MM.out w (gb_refl _ _)).some (by dsimp only; omega)
              dsimp only at hha
              subst hha
              have hlH : s < vG.length := by rw [(MM.out w (gb_refl _ _)).len]; exact hst
              obtain ⟨d0, d1⟩ := DC.out wr G6.out
              obtain ⟨d2, d3⟩ := (MM.out wr G6.out).cells ad3 rfl s hst
              have S2 := Lib.hid (fun h1 => any_step hlH (fun h => hitG (u, x) h) T2.out h1)
              have Y2 := Lib.hid (fun h1 => any_here hlH (fun h => hitG (u, x) h) h1)
              generalize vG.getD s (0, false) = z at *
              obtain ⟨v, t⟩ := z
              dsimp only at d2 d3 S2 Y2
              clear hlH
              by_cases huv : u = v
              · subst huv
                cases hxt : (x != t)
                · have NX := Lib.hid (S2.out (by unfold hitG; simp only; rw [hxt, Bool.and_false]))
                  have b0 : (u == u) = true := by simp
                  clear S2 Y2
                  cases x <;> cases t <;> (first | (cases hxt; done) | (clear hxt; go_wp2_with fail; go_quiet (fail); go_wp2; go_roundw; (case rel => exact ⟨s + 1, by omega, by go_num, NX.out, gb_trans G6.out (gb_drewN _ _ _)⟩); (case measure => simp [intOf]; omega)))
                · have HX := Lib.hid (YES.out (Y2.out (by unfold hitG; simp only; rw [hxt, Bool.and_true]; simp)))
                  have b0 : (u == u) = true := by simp
                  clear S2 Y2
                  cases x <;> cases t <;> (first | (cases hxt; done) | (clear hxt; go_wp2_with fail; go_quiet (fail); go_wp2; go_ret; exact ⟨ret_b (by rw [E.out, HX.out]), gb_trans G6.out (gb_drewN _ _ _)⟩))
              · have NX := Lib.hid (S2.out (by unfold hitG; simp only; rw [decide_eq_false huv, Bool.false_and]))
                have b0 : (u == v) = false := by simpa using huv
                clear S2 Y2
                go_wp2_with fail
                go_quiet (fail)
                go_wp2
                go_roundw
                case rel => exact ⟨s + 1, by omega, by go_num, NX.out, gb_trans G6.out (gb_drewN _ _ _)⟩
                case measure => simp [intOf]; omega
            · have hse : s = hn := by omega
              have NX := Lib.hid (ST.out (by have := T2.out; rwa [List.take_of_length_le (by have := (MM.out w (gb_refl _ _)).len; dsimp only at this; omega)] at this))
              have i4 : ¬ (s : Int) < hn := by omega
              go_wp2
              go_roundw
              case rel => exact ⟨p + 1, by omega, by go_num, NX.out, G6.out⟩
              case measure => simp [intOf]; omega
        · have hpe : p = gn := by omega
          have HX := Lib.hid (show (uG.any fun g => vG.any fun h => hitG g h) = false by have := T1.out; rwa [List.take_of_length_le (by have := (MK.out w (gb_refl _ _)).len; dsimp only at this; omega)] at this)
          have i3 : ¬ (p : Int) < gn := by omega
          go_wp2
          go_ret
          exact ⟨ret_b (by rw [E.out, HX.out]), G6.out⟩
    · have E := Lib.hid (show xcU L i j = false by unfold xcU; rw [decide_eq_false (show ¬ (0 ≤ j ∧ j < (L.length : Int)) by rw [hl]; exact hjn)]; simp)
      obtain ⟨r, hr⟩ : ∃ r, r = xcU L i j := ⟨_, rfl⟩
      rw [← hr] at E ⊢
      obtain ⟨hi0, hi1⟩ := hin
      have e1 : ¬ i < 0 := by omega
      have e3 : ¬ (ls.n : Int) ≤ i := by omega
      by_cases h0 : j < 0
      · clear hjn hl hL hg hr
        go_enter Try.func32, Try.ntmps32
        go_wp2
        go_ret
        exact ⟨ret_b E.out.symm, gb_refl _ _⟩
      · have h1 : (ls.n : Int) ≤ j := by omega
        clear hjn hl hL hg hr
        go_enter Try.func32, Try.ntmps32
        go_wp2
        go_ret
        exact ⟨ret_b E.out.symm, gb_refl _ _⟩
  · have E := Lib.hid (show xcU L i j = false by unfold xcU; rw [decide_eq_false (show ¬ (0 ≤ i ∧ i < (L.length : Int)) by rw [hl]; exact hin)]; simp)
    obtain ⟨r, hr⟩ : ∃ r, r = xcU L i j := ⟨_, rfl⟩
    rw [← hr] at E ⊢
    by_cases h0 : i < 0
    · clear hin hl hL hg hr
      go_enter Try.func32, Try.ntmps32
      go_wp2
      go_ret
      exact ⟨ret_b E.out.symm, gb_refl _ _⟩
    · have h1 : (ls.n : Int) ≤ i := by omega
      by_cases h2 : j < 0
      · clear hin hl hL hg hr
        go_enter Try.func32, Try.ntmps32
        go_wp2
        go_ret
        exact ⟨ret_b E.out.symm, gb_refl _ _⟩
      · clear hin hl hL hg hr
        go_enter Try.func32, Try.ntmps32
        go_wp2
        go_ret
        exact ⟨ret_b E.out.symm, gb_refl _ _⟩
/-- The call returns a truth value and changes nothing; true says that there are few units, of few guards. -/
def SmU (L : List Un) (w : World) (e : Ending) (w' : World) : Prop := ∃ b, e = .returned (.bool b) ∧ w' = w ∧ (b = true → L.length ≤ 60 ∧ ∀ k, k < L.length → (L.getD k uz).g.n ≤ 40)
set_option maxRecDepth 100000 in
set_option maxHeartbeats 2000000 in
theorem smallu_any (w : World) (ls : Sl) (L : List Un) (hL : SUn w ls L) : Calls Try.prog 28 #[.slice ls.a ls.n ls.c] w (SmU L w) := by
  have hl := hL.len
  have HL := Lib.hid hL
  obtain ⟨la, n, lc⟩ := ls
  dsimp only at hl ⊢
  subst hl
  clear hL
  by_cases hb : 60 < L.length
  · go_enter Try.func28, Try.ntmps28
    go_wp2
    go_ret
    exact ⟨false, rfl, rfl, fun h => by cases h⟩
  · go_enter Try.func28, Try.ntmps28
    go_wp2
    go_loopw [3] (fun s wr => ∃ k : Nat, k ≤ L.length ∧ s = .int .i64 k ∧ (∀ j, j < k → (L.getD j uz).g.n ≤ 40) ∧ wr = w) (fun s _ => L.length - (intOf s).toNat)
    case atStart => exact ⟨0, Nat.zero_le _, rfl, (fun j hj => absurd hj (Nat.not_lt_zero _)), rfl⟩
    case round =>
      obtain ⟨k, hk, rfl, hq, rfl⟩ := hrel
      have HQ := Lib.hid hq
      clear hq
      by_cases hlt : k < L.length
      · obtain ⟨ad, hsa⟩ := HL.out.some (by dsimp only; omega)
        dsimp only at hsa
        subst hsa
        have c2 := (HL.out.cells ad rfl k hlt).2.2
        have i1 : (k : Int) < L.length := by omega
        dsimp only [Sl.v] at c2
        by_cases h40 : 40 < (L.getD k uz).g.n
        · generalize (L.getD k uz).g = g at *
          go_wp2
          go_ret
          exact ⟨false, rfl, rfl, fun h => by cases h⟩
        · have HN := Lib.hid (show ∀ j, j < k + 1 → (L.getD j uz).g.n ≤ 40 from fun j hj => by
            rcases (show j < k ∨ j = k by omega) with q | rfl
            · exact HQ.out j q
            · omega)
          generalize (L.getD k uz).g = g at *
          go_wp2
          go_roundw
          case rel => exact ⟨k + 1, by omega, by go_num, HN.out, trivial⟩
          case measure => simp [intOf]; omega
      · have i1 : ¬ (k : Int) < L.length := by omega
        go_wp2
        go_ret
        exact ⟨true, rfl, rfl, fun _ => ⟨by omega, fun j hj => HQ.out j (by omega)⟩⟩
end Go.Proofs.Ytfjeonoihdgdoaa
