/- The program's critical path: the walk; no condition but the matrix's size. -/
import Derived.Test.YtcbomfcioenliaaDsO
namespace Go.Proofs.Ytcbomfcioenliaa
open Go.RowKit
set_option linter.unusedVariables false

theorem alloc_size (w : World) (o : Obj) : (w.alloc o).heap.size = w.heap.size + 1 := by show (w.heap.push _).size = _; simp
theorem bo_range (g : List (List Int)) (k : Nat) (hk : k ≤ g.length) : 0 ≤ (bo g k).1 ∧ (bo g k).1 ≤ g.length + 1 ∧ 0 ≤ (bo g k).2 := by
  by_cases h : k = 0
  · subst h; exact ⟨Int.le_refl _, by show (0 : Int) ≤ _; omega, Int.le_refl _⟩
  · obtain ⟨u, u1, u2, _⟩ := bo_is (g := g) k hk (by omega)
    have h1 := chF_pos g u (by omega)
    have h2 := (ch_range g g.length u).2
    rw [u2]
    exact ⟨by show 0 ≤ (chF g u).1 + 1; omega, by show (chF g u).1 + 1 ≤ _; unfold chF; omega, by show 0 ≤ (u : Int); omega⟩
theorem nd_step (g : List (List Int)) (t : Nat) (h : (t : Int) < (bo g g.length).1) : nd g (bo g g.length).2.toNat t < g.length ∧ (chF g (nd g (bo g g.length).2.toNat t)).2 = (nd g (bo g g.length).2.toNat (t + 1) : Int) := by
  by_cases h0 : g.length = 0
  · rw [h0] at h
    have : (bo g 0).1 = 0 := rfl
    omega
  · obtain ⟨v, v1, v2, v3⟩ := bo_is (g := g) g.length (Nat.le_refl _) (by omega)
    rw [v2] at h ⊢
    simp only at h
    have e : ((chF g v).1 + 1, (v : Int)).2.toNat = v := by simp
    rw [e]
    have q := (nd_ok v1 t h).1
    refine ⟨q, ?_⟩
    have p := (chF_pos g _ q).2
    rw [nd]
    omega

set_option maxRecDepth 100000 in
set_option maxHeartbeats 4000000 in
theorem path_any (w : World) (a : Option Addr) (n c : Nat) (g : List (List Int)) (h : SlG w a n c g) (hn : n ≤ 1000) :
    Calls Try.prog 13 #[.slice a n c] w (RetN w.heap.size (pathG g) w) := by
  have CH := Lib.hid (chains_any w a n c g h hn)
  have hl := h.1
  clear h
  subst hl
  go_enter Try.func13, Try.ntmps13
  go_wp2_with fail
  refine CH.out.mono ?_
  rintro e w1 ⟨b, rfl, q1⟩
  have P1 := Lib.hid q1
  clear q1 CH
  obtain ⟨x, hx⟩ : ∃ x, x = w1.heap.size := ⟨_, rfl⟩
  have HB := Lib.hid (show b ≠ x ∧ w.heap.size ≤ x by
    have h1 := P1.out.lt
    have h2 := P1.out.2.1
    exact ⟨by omega, by omega⟩)
  have B2 := Lib.hid (show IsB (w1.alloc (.cells #[.int .i64 0, .int .i64 0] 33)) x 33 #[.int .i64 (bo g 0).1, .int .i64 (bo g 0).2] by rw [hx]; exact IsB.new w1 _ _)
  have P2 := Lib.hid (P1.out.keep0 (gb_alloc w1 (.cells #[.int .i64 0, .int .i64 0] 33) none))
  go_wp2_with fail
  rw [← hx]
  clear hx P1
  generalize w1.alloc (.cells #[.int .i64 0, .int .i64 0] 33) = w2 at *
  go_loopw [14] (fun s wr => ∃ k : Nat, k ≤ g.length ∧ s = .int .i64 k ∧ PR w b g.length (chF g) wr ∧ IsB wr x 33 #[.int .i64 (bo g k).1, .int .i64 (bo g k).2]) (fun s _ => g.length - (intOf s).toNat)
  case atStart => exact ⟨0, Nat.zero_le _, rfl, P2.out, B2.out⟩
  case round =>
    obtain ⟨k, hk, rfl, q1, q2⟩ := hrel
    clear P2 B2
    have P2 := Lib.hid q1
    have B2 := Lib.hid q2
    clear q1 q2
    by_cases hlt : k < g.length
    · have i1 : (k : Int) < g.length := by omega
      have p0 := P2.out.at0 k hlt
      have p1 := P2.out.at1 k hlt
      have RG := ch_range g g.length k
      have YS := Lib.hid (fun h => bo_yes (g := g) (k := k) h)
      have NO := Lib.hid (fun h => bo_no (g := g) (k := k) h)
      obtain ⟨X1, hX1⟩ : ∃ p, p = (chF g k).1 := ⟨_, rfl⟩
      obtain ⟨X2, hX2⟩ : ∃ p, p = (chF g k).2 := ⟨_, rfl⟩
      obtain ⟨Y1, hY1⟩ : ∃ p, p = (bo g k).1 := ⟨_, rfl⟩
      obtain ⟨Y2, hY2⟩ : ∃ p, p = (bo g k).2 := ⟨_, rfl⟩
      have EY := Lib.hid (show bo g k = (Y1, Y2) by rw [hY1, hY2])
      rw [← hX1] at p0 YS NO
      rw [← hX2] at p1
      rw [← hY1, ← hY2] at B2
      change 0 ≤ (chF g k).1 ∧ (chF g k).1 ≤ _ at RG
      rw [← hX1] at RG
      clear hX1 hX2 hY1 hY2
      have g7 := fun o o2 => gb_trans (gb_alloc wr o none) (gb_alloc _ o2 none)
      have a0 : ∀ o o2, ((wr.alloc o).alloc o2).cell? ⟨x, 0, none⟩ = some (.int .i64 Y1) := fun o o2 => (B2.out.keep0 (g7 o o2)).cell 0
      have a1 : ∀ o o2, ((wr.alloc o).alloc o2).cell? ⟨x, 1, none⟩ = some (.int .i64 Y2) := fun o o2 => (B2.out.keep0 (g7 o o2)).cell 1
      have B7 := Lib.hid (show IsB ((wr.alloc (.cells #[.int .i64 X1, .int .i64 X2] 33)).alloc (.cells #[.int .i64 (X1 + 1), .int .i64 k] 33)) (wr.heap.size + 1) 33 #[.int .i64 (X1 + 1), .int .i64 k] by
        have q := IsB.new (wr.alloc (.cells #[.int .i64 X1, .int .i64 X2] 33)) 33 #[.int .i64 (X1 + 1), .int .i64 k]
        rw [alloc_size] at q
        exact q)
      have P7 := Lib.hid (P2.out.keep0 (g7 (.cells #[.int .i64 X1, .int .i64 X2] 33) (.cells #[.int .i64 (X1 + 1), .int .i64 k] 33)))
      have BB := Lib.hid (B2.out.keep0 (g7 (.cells #[.int .i64 X1, .int .i64 X2] 33) (.cells #[.int .i64 (X1 + 1), .int .i64 k] 33)))
      clear g7
      go_wp2_with fail
      clear a0 a1 p0 p1
      refine (better_any _ (X1 + 1) k Y1 Y2).mono ?_
      rintro e w5 ⟨rfl, g5, -⟩
      have B7 := Lib.hid (B7.out.keep0 g5)
      have P7 := Lib.hid (P7.out.keep0 g5)
      have BB := Lib.hid (BB.out.keep0 g5)
      have k0 := B7.out.cell 0
      have k1 := B7.out.cell 1
      simp at k0 k1
      have y0 := BB.out.cell 0
      have y1 := BB.out.cell 1
      simp at y0 y1
      have f0 := BB.out.free 0
      have f1 := (BB.out.set 0 (.int .i64 (X1 + 1))).free 1
      have BN := Lib.hid ((BB.out.set 0 (.int .i64 (X1 + 1))).set 1 (.int .i64 k))
      have PN := Lib.hid ((P7.out.far HB.out.1 HB.out.2 0 (.int .i64 (X1 + 1))).far HB.out.1 HB.out.2 1 (.int .i64 k))
      clear g5
      cases hb : better (X1 + 1, (k : Int)) (Y1, Y2)
      · have EN := Lib.hid (show bo g (k + 1) = (Y1, Y2) by rw [NO.out (by rw [EY.out]; exact hb), EY.out])
        clear hb
        go_wp2
        go_roundw
        case rel => exact ⟨k + 1, by omega, by go_num, P7.out, by rw [EN.out]; exact BB.out⟩
        case measure => simp [intOf]; omega
      · have EN := Lib.hid (show bo g (k + 1) = (X1 + 1, (k : Int)) from YS.out (by rw [EY.out]; exact hb))
        clear hb
        go_wp2
        go_roundw
        case rel => exact ⟨k + 1, by omega, by go_num, PN.out, by rw [EN.out]; exact BN.out⟩
        case measure => simp [intOf]; omega
    · have hke : k = g.length := by omega
      subst hke
      have ST := Lib.hid (nd_step g)
      have RB := bo_range g g.length (Nat.le_refl _)
      have EP := Lib.hid (show pathG g = tab (bo g g.length).1.toNat fun t => (nd g (bo g g.length).2.toNat t : Nat) from rfl)
      obtain ⟨s, hs⟩ : ∃ s : Nat, (bo g g.length).2 = (s : Int) := ⟨(bo g g.length).2.toNat, by omega⟩
      obtain ⟨m, hm⟩ : ∃ m : Nat, (bo g g.length).1 = (m : Int) := ⟨(bo g g.length).1.toNat, by omega⟩
      rw [hs, hm] at B2 ST EP
      rw [hm] at RB
      simp only [Int.toNat_natCast] at ST EP
      have hm2 : m ≤ 2000 := by omega
      clear RB hs hm
      have k0 := B2.out.cell 0
      have k1 := B2.out.cell 1
      simp at k0 k1
      go_wp2
      clear k0 k1
      obtain ⟨wS, hwS⟩ : ∃ q, q = wr := ⟨_, rfl⟩
      rw [← hwS]
      rw [← hwS] at P2 B2
      clear hwS
      go_loopw [8, 9] (fun V q wq => ∃ t : Nat, t ≤ m ∧ q = .int .i64 (nd g s t : Nat) ∧ NL wq wS.heap.size V (tab t fun t => (nd g s t : Nat)) ∧ wS.grownBy wq none) (fun V _ _ => m - (match V with | .slice _ n _ => n | _ => 0))
      case atStart => exact ⟨0, Nat.zero_le _, rfl, NL.nil _ _, gb_refl _ _⟩
      case round =>
        obtain ⟨t, ht, rfl, q1, q2⟩ := hrel
        obtain ⟨va, vc, rfl⟩ := q1.shape
        rw [tab_len] at q1 ⊢
        have N1 := Lib.hid q1
        have G1 := Lib.hid q2
        have k0 := (B2.out.keep0 q2).cell 0
        have k1 := (B2.out.keep0 q2).cell 1
        simp at k0 k1
        clear q1 q2
        by_cases hlt2 : t < m
        · have i2 : (t : Int) < m := by omega
          obtain ⟨s1, s2⟩ := ST.out t (by omega)
          have S2 := Lib.hid s2
          have i3 : (nd g s t : Int) < g.length := by omega
          have TS := Lib.hid (tab_snoc t fun t => (nd g s t : Nat))
          have TL := Lib.hid (tab_len t fun t => (nd g s t : Nat))
          have PQ := Lib.hid (fun wz (gz : wS.grownBy wz none) => (P2.out.keep0 gz).at1 (nd g s t) s1)
          rw [s2] at PQ
          clear s2
          generalize hT : (tab t fun t => (nd g s t : Int)) = T at *
          generalize hU : nd g s t = u at *
          generalize hU2 : nd g s (t + 1) = u2 at *
          go_wp2_with (at_builtin; refine npush_any rfl _ _ rfl wS.heap.size _ T rfl (N1.out.keep0 (gb_alloc _ _ _)) _ _ _ [_] rfl (slr_one _ _ _ _ _ rfl) (by have := TL.out; simp; omega) (by have := G1.out.size; simp; omega) ?_)
          intro V2 w2 o2 g2
          have G2 := Lib.hid (gb_own (gb_trans G1.out (gb_alloc _ _ _)) (N1.out.keep0 (gb_alloc _ _ _)) (Nat.le_refl _) g2)
          have O2 := Lib.hid o2
          have p1 := PQ.out _ G2.out
          clear o2 g2
          go_wp2
          go_roundw
          case rel => exact ⟨t + 1, by omega, by rw [hU2], by rw [← TS.out]; exact O2.out, G2.out⟩
          case measure => obtain ⟨va2, vc2, rfl⟩ := O2.out.shape; have := TL.out; simp; omega
        · have hte : t = m := by omega
          subst hte
          go_wp2
          go_ret
          exact ⟨_, rfl, by rw [EP.out]; exact own_low N1.out (by have := P2.out.2.2.size; omega), gb_trans P2.out.2.2 G1.out⟩
end Go.Proofs.Ytcbomfcioenliaa
