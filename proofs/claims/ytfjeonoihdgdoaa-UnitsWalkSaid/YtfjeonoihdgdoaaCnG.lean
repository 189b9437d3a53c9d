/- Control: the law's Small; no condition but that the tree lies in memory. -/
import Derived.Test.YtfjeonoihdgdoaaCnE
namespace Go.Proofs.Ytfjeonoihdgdoaa
open Go.RowKit
set_option linter.unusedVariables false
theorem nest_at' {T : CT} {x : CV} {j : Nat} (h : T.drop j = x.ct (T.drop (j + 1))) : (T.drop j).nest = max (1 + max x.th.nest x.el.nest) (T.drop (j + 1)).nest := nest_at h
/-- What is not too large: so many nodes, nested not too deep, with short conditions. -/
structure SmT (T : CT) (L d : Int) (v : Int) : Prop where
  lo : 0 ≤ v
  hi : v ≤ L + 1
  ok : v ≤ L → v = (T.cnt : Int) ∧ (T.nest : Int) ≤ d ∧ ∀ x ∈ T.pre, x.N.length ≤ 40
set_option maxRecDepth 100000 in
set_option maxHeartbeats 8000000 in
theorem size_rec : ∀ (m : Nat) (T : CT) (s : Sl) (L d : Int) (w : World), T.cnt < m → -1 ≤ L → L ≤ 1000 → 0 ≤ d → d ≤ 100 → ST w s T →
    Calls Try.prog 42 #[.slice s.a s.n s.c, .int .i64 L, .int .i64 d] w (fun e w' => (∃ v, e = .returned (.int .i64 v) ∧ SmT T L d v) ∧ w.grownBy w' none) := by
  intro m
  induction m with
  | zero => intro T s L d w h; omega
  | succ m ih =>
    intro T s L d w hm hL0 hL1 hd0 hd1 hS
    obtain ⟨sa, sn, sc⟩ := s
    have IH := Lib.hid ih
    have HM := Lib.hid hm
    have HS := Lib.hid hS
    have SL := Lib.hid hS.len
    have scap : sn ≤ sc := hS.cap
    clear ih hm hS
    dsimp only at *
    go_enter Try.func42, Try.ntmps42
    go_wp2
    go_loopw [7, 8] (fun s7 s8 wr => ∃ (j : Nat) (n : Int), s8 = .int .i64 (j : Int) ∧ s7 = .int .i64 n ∧ j ≤ sn ∧ (j : Int) ≤ n ∧ 0 ≤ n ∧ n ≤ L + 1 ∧ (n ≤ L → n + ((T.drop j).cnt : Int) = (T.cnt : Int) ∧ (((T.drop j).nest : Int) ≤ d → (T.nest : Int) ≤ d) ∧ ((∀ x ∈ (T.drop j).pre, x.N.length ≤ 40) → ∀ x ∈ T.pre, x.N.length ≤ 40)) ∧ w.grownBy wr none) (fun _ s8 _ => sn - (intOf s8).toNat)
    case atStart => exact ⟨0, 0, rfl, rfl, Nat.zero_le _, by omega, by omega, by omega, (fun _ => by rw [CT.drop_zero]; exact ⟨by omega, id, id⟩), gb_refl _ _⟩
    case round =>
      obtain ⟨j, n, rfl, rfl, hj, hjn, hn0, hn1, hok, hgr⟩ := hrel
      have OK := Lib.hid hok
      have GR := Lib.hid hgr
      clear hok hgr
      by_cases hlt : j < sn
      · have i1 : (j : Int) < sn := by omega
        have i0 : (0 : Int) ≤ (j : Int) := by omega
        by_cases hnl : n ≤ L
        · obtain ⟨x, ad, hsa, hd, ⟨c0, c1, c2, c3, c4⟩, vm⟩ := HS.out.at_ j hlt
          dsimp only at hsa
          subst hsa
          have HD := Lib.hid hd
          have VMx := Lib.hid vm
          have hcn := cnt_th hd
          have CNx := Lib.hid (show x.th.cnt < m ∧ x.el.cnt < m by have := HM.out; omega)
          have CA := Lib.hid (cnt_at hd)
          have NA := Lib.hid (nest_at hd)
          have PA := Lib.hid (pre_at hd)
          have ccap := vm.c.cap
          have CL := Lib.hid vm.c.len
          have I1 := Lib.hid (fun (L' d' : Int) (w2 : World) (g : w.grownBy w2 none) (h0 : -1 ≤ L') (h1 : L' ≤ 1000) (h2 : 0 ≤ d') (h3 : d' ≤ 100) => IH.out x.th x.s L' d' w2 CNx.out.1 h0 h1 h2 h3 (VMx.out.s.keep0 g))
          have I2 := Lib.hid (fun (L' d' : Int) (w2 : World) (g : w.grownBy w2 none) (h0 : -1 ≤ L') (h1 : L' ≤ 1000) (h2 : 0 ≤ d') (h3 : d' ≤ 100) => IH.out x.el x.u L' d' w2 CNx.out.2 h0 h1 h2 h3 (VMx.out.u.keep0 g))
          have C4 := Lib.hid c4
          have OKJ := Lib.hid (OK.out hnl)
          replace c2 := GR.out.cell c2 (by simp)
          replace c3 := GR.out.cell c3 (by simp)
          replace c4 := GR.out.cell c4 (by simp)
          clear hcn hd vm c0 c1 OK
          have w1 : wrap64 (n + 1) = n + 1 := wrapj (by omega) (by omega)
          by_cases hc : 40 < x.c.n
          · have k1 : (40 : Int) < (x.c.n : Int) := by omega
            have wl : wrap64 (L + 1) = L + 1 := wrapj (by omega) (by omega)
            go_wp2
            go_ret
            exact ⟨⟨_, rfl, by omega, by omega, fun h => by omega⟩, GR.out⟩
          have k1 : ¬ (40 : Int) < (x.c.n : Int) := by omega
          have XN := Lib.hid (show x.N.length ≤ 40 by rw [CL.out]; omega)
          clear hc
          by_cases hd0' : d = 0
          · subst hd0'
            have wl : wrap64 (L + 1) = L + 1 := wrapj (by omega) (by omega)
            go_wp2
            go_ret
            exact ⟨⟨_, rfl, by omega, by omega, fun h => by omega⟩, GR.out⟩
          have e1 : (d == 0) = false := by rw [beq_eq_false_iff_ne]; exact hd0'
          have e2 : decide (d = 0) = false := decide_eq_false hd0'
          have wl1 : wrap64 (L - (n + 1)) = L - (n + 1) := wrapj (by omega) (by omega)
          have wl2 : wrap64 (d - 1) = d - 1 := wrapj (by omega) (by omega)
          go_wp2_with fail
          refine (I1.out (L - (n + 1)) (d - 1) _ GR.out (by omega) (by omega) (by omega) (by omega)).mono ?_
          rintro e w5 ⟨⟨v1, rfl, sm1⟩, g5⟩
          have G5 := Lib.hid (gb_trans GR.out g5)
          replace c4 := g5.cell c4 (by simp)
          have a1 := sm1.lo
          have a2 := sm1.hi
          have SM1 := Lib.hid sm1
          clear sm1 g5 I1 c2 c3 wl1
          have w2 : wrap64 (n + 1 + v1) = n + 1 + v1 := wrapj (by omega) (by omega)
          by_cases hn2 : n + 1 + v1 ≤ L
          · have wl3 : wrap64 (L - (n + 1 + v1)) = L - (n + 1 + v1) := wrapj (by omega) (by omega)
            go_wp2_with fail
            refine (I2.out (L - (n + 1 + v1)) (d - 1) _ G5.out (by omega) (by omega) (by omega) (by omega)).mono ?_
            rintro e w6 ⟨⟨v2, rfl, sm2⟩, g6⟩
            have G6 := Lib.hid (gb_trans G5.out g6)
            have b1 := sm2.lo
            have b2 := sm2.hi
            have SM2 := Lib.hid sm2
            clear sm2 g6 I2 c4 wl3
            have w3 : wrap64 (n + 1 + v1 + v2) = n + 1 + v1 + v2 := wrapj (by omega) (by omega)
            have FIN := Lib.hid (show n + 1 + v1 + v2 ≤ L → n + 1 + v1 + v2 + ((T.drop (j + 1)).cnt : Int) = (T.cnt : Int) ∧ (((T.drop (j + 1)).nest : Int) ≤ d → (T.nest : Int) ≤ d) ∧ ((∀ x ∈ (T.drop (j + 1)).pre, x.N.length ≤ 40) → ∀ x ∈ T.pre, x.N.length ≤ 40) by
              intro hle
              obtain ⟨p1, p2, p3⟩ := SM1.out.ok (by omega)
              obtain ⟨q1, q2, q3⟩ := SM2.out.ok (by omega)
              obtain ⟨r1, r2, r3⟩ := OKJ.out
              have ca := CA.out
              have na := NA.out
              refine ⟨by omega, fun h => r2 (by omega), fun h => r3 (fun y hy => ?_)⟩
              rw [PA.out] at hy
              rcases List.mem_cons.1 hy with rfl | hy
              · exact XN.out
              rcases List.mem_append.1 hy with hy | hy
              · exact p3 y hy
              rcases List.mem_append.1 hy with hy | hy
              · exact q3 y hy
              · exact h y hy)
            go_wp2
            go_roundw
            case rel => exact ⟨j + 1, n + 1 + v1 + v2, by go_num, rfl, by omega, by omega, by omega, by omega, FIN.out, G6.out⟩
            case measure => simp [intOf]; omega
          · go_wp2
            go_roundw
            case rel => exact ⟨j + 1, n + 1 + v1, by go_num, rfl, by omega, by omega, by omega, by omega, fun h => by omega, G5.out⟩
            case measure => simp [intOf]; omega
        · go_wp2
          go_ret
          exact ⟨⟨_, rfl, hn0, hn1, fun h => by omega⟩, GR.out⟩
      · have hje : j = sn := by omega
        have i1 : ¬ (j : Int) < sn := by omega
        have DN := Lib.hid (CT.drop_all T j (by rw [SL.out]; omega))
        have FI := Lib.hid (show SmT T L d n from ⟨hn0, hn1, fun h => by
          obtain ⟨r1, r2, r3⟩ := OK.out h
          rw [DN.out] at r1 r2 r3
          exact ⟨by rw [CT.cnt_nil] at r1; omega, r2 (by simpa [CT.nest] using hd0), r3 (by intro x hx; cases hx)⟩⟩)
        go_wp2
        go_ret
        exact ⟨⟨_, rfl, FI.out⟩, GR.out⟩
/-- What Small asks. -/
def SmC (T : CT) (n : Nat) : Prop := T.cnt ≤ n ∧ T.nest ≤ 12 ∧ ∀ x ∈ T.pre, x.N.length ≤ 40
set_option maxRecDepth 100000 in
theorem small20_any (w : World) (s : Sl) (T : CT) (hS : ST w s T) (n : Nat) (hn : n ≤ 1000) : Calls Try.prog 15 #[.slice s.a s.n s.c, .int .i64 (n : Int)] w (fun e w' => (∃ b : Bool, e = .returned (.bool b) ∧ (b = true → SmC T n)) ∧ w.grownBy w' none) := by
  have SZ := Lib.hid (size_rec (T.cnt + 1) T s (n : Int) 12 w (by omega) (by omega) (by omega) (by omega) (by omega) hS)
  clear hS
  go_enter Try.func15, Try.ntmps15
  go_wp2_with fail
  refine SZ.out.mono ?_
  rintro e w5 ⟨⟨v1, rfl, sm1⟩, g5⟩
  have SM := Lib.hid sm1
  clear sm1
  go_wp2
  go_ret
  refine ⟨⟨_, rfl, fun h => ?_⟩, g5⟩
  obtain ⟨p1, p2, p3⟩ := SM.out.ok (by simpa using h)
  exact ⟨by have := of_decide_eq_true h; omega, by omega, p3⟩
end Go.Proofs.Ytfjeonoihdgdoaa
