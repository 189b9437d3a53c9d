/- Expr: a subexpression is checked and evaluated; no condition but that the nodes are few. -/
import Derived.Test.YtfjeonoihdgdoaaExH
namespace Go.Proofs.Ytfjeonoihdgdoaa
open Go.RowKit
set_option linter.unusedVariables false
/-- What the call leaves: a term, an error, and where the walk stands. -/
def RetSub (r : Except Int (Tm × List Nd)) (w : World) (g : Nat) (X : KX) (N : List Nd) (e : Ending) (w' : World) : Prop :=
  w.grownBy w' (some g) ∧ match r with
    | .error er => e = .returned (.tuple #[.agg #[.int .i64 0, .int .u32 0], .int .i64 er])
    | .ok (t, l) => e = .returned (.tuple #[.agg #[.int .i64 t.1, .int .u32 t.2], .int .i64 0]) ∧ ∃ k, k ≤ N.length ∧ l = N.drop k ∧ IsB w' g 85 (kc X k)
theorem gb_row {W w w2 : World} {g : Nat} (h : W.grownBy w none) (k : w.grownBy w2 (some g)) (hg : W.heap.size ≤ g) : W.grownBy w2 none := gb_new (gb_trans (gb_any h) k) hg
theorem drop_cons {N : List Nd} {k : Nat} (h : k < N.length) : N.drop k = N.getD k nz :: N.drop (k + 1) := by
  rw [List.drop_eq_getElem_cons h, List.getD_eq_getElem?_getD, List.getElem?_eq_getElem h]; rfl
/-- The operands' array. -/
def opsA (a b c : Tm) : Array Value := #[.int .i64 a.1, .int .u32 a.2, .int .i64 b.1, .int .u32 b.2, .int .i64 c.1, .int .u32 c.2]
theorem kset {w : World} {g : Nat} {X : KX} {k : Nat} (h : IsB w g 85 (kc X k)) (k2 : Nat) : IsB (w.setCell ⟨g, 1, none⟩ (.int .i64 (k2 : Int))) g 85 (kc X k2) := h.set 1 _
set_option maxRecDepth 100000 in
set_option maxHeartbeats 16000000 in
theorem ksub_any : ∀ (f : Nat) (w : World) (g : Nat) (X : KX) (k : Nat) (C : Cx) (N : List Nd) (W0 : World) (hB : IsB w g 85 (kc X k)) (hC : CR W0 X C N) (hG : W0.grownBy w none) (hg : W0.heap.size ≤ g) (hk : k ≤ N.length) (hl : N.length ≤ 100000) (hf : N.length - k < f),
    Calls Try.prog 64 #[.pointer (some ⟨g, 0, none⟩)] w (RetSub (subT C f (N.drop k)) w g X N) := by
  intro f
  induction f with
  | zero => intro w g X k C N W0 hB hC hG hg hk hf; omega
  | succ f ih =>
    intro w g X k C N W0 hB hC hG hg hk hl hf
    have BK := Lib.hid hB
    have CC := Lib.hid hC
    have NL := Lib.hid hC.nd.len
    have ncap := hC.nd.cap
    have GK := Lib.hid hG
    have HGs := Lib.hid hg
    have glt := BK.out.lt
    obtain ⟨P, hP⟩ : ∃ P, P = w.heap.size := ⟨_, rfl⟩
    obtain ⟨W1, hW1⟩ : ∃ W1, W1 = w.alloc (.cells #[.int .i64 0, .int .u32 0] 88) := ⟨_, rfl⟩
    have BP := Lib.hid (show IsB W1 P 88 #[.int .i64 0, .int .u32 0] from by rw [hW1, hP]; exact isb1 _ _ _)
    have G1 := Lib.hid (show w.grownBy W1 none from by rw [hW1]; exact gb_al (gb_refl _ _))
    have S1 := Lib.hid (show W1.heap.size = P + 1 by rw [hW1, sz_al, hP])
    have hgP : g < P := by omega
    have hPw := Lib.hid hP
    have K1 := BK.out.keep0 G1.out
    have wc0 : W1.cell? ⟨g, 0, none⟩ = some (.slice X.na X.nn X.nc) := (K1).cell 0
    have wc1 : W1.cell? ⟨g, 1, none⟩ = some (.int .i64 (k : Int)) := (K1).cell 1
    clear hB hC hG hg
    go_enter Try.func64, Try.ntmps64
    go_upto_region 1 with fail
    rw [← hW1, ← hP]
    clear hW1 hP
    by_cases hk : k = X.nn
    · subst hk
      have HS := Lib.hid (show subT C (f + 1) (N.drop X.nn) = .error 3 by rw [List.drop_of_length_le (by rw [NL.out]; omega)]; rfl)
      have k00 := BP.out.cell 0
      have k01 := BP.out.cell 1
      have f00 := BP.out.free 0
      have f01 := BP.out.free 1
      simp at k00 k01
      go_region
      go_wp2
      (try simp only [Exit.inBlock, Exit.then])
      refine bodyPost_ret (v := (.tuple #[.agg #[.int .i64 0, .int .u32 0], .int .i64 3])) (by rw [results_cell_tmp rfl]; go_simp) rfl ?_
      rw [HS.out]
      exact ⟨gr_put (gr_put (gr_dr1 (gb_any G1.out)) (by have := hPw.out; omega)) (by have := hPw.out; omega), rfl⟩
    · have hk1 : k < X.nn := by have := NL.out; omega
      obtain ⟨nad, hna⟩ := CC.out.nd.some (by omega)
      obtain ⟨n0, n1, n2⟩ := (CC.out.nd.keep0 (gb_trans GK.out G1.out)).cells nad hna k hk1
      have NR := Lib.hid (CC.out.nd.rng (N.getD k nz) (by rw [List.getD_eq_getElem?_getD, List.getElem?_eq_getElem (by rw [NL.out]; exact hk1)]; exact List.getElem_mem _))
      have DC := Lib.hid (drop_cons (N := N) (k := k) (by rw [NL.out]; exact hk1))
      generalize N.getD k nz = x at *
      obtain ⟨op, n, wd⟩ := x
      dsimp only at n0 n1 n2
      rw [hna] at wc0
      have kf := K1.free 1
      have i1 : (k : Int) < X.nn := by omega
      have i0 : (0 : Int) ≤ (k : Int) := by omega
      have ne1 : ((k : Int) == (X.nn : Int)) = false := by rw [beq_eq_false_iff_ne]; omega
      have ne2 : ¬ (k : Int) = (X.nn : Int) := by omega
      have m0 := fun o => (gb_alloc W1 o none).cell n0 (by simp)
      have m1 := fun o => (gb_alloc W1 o none).cell n1 (by simp)
      have m2 := fun o => (gb_alloc W1 o none).cell n2 (by simp)
      have m3 := fun o => (gb_alloc W1 o none).cell wc0 (by simp)
      have m4 := fun o => (gb_alloc W1 o none).cell wc1 (by simp)
      go_region
      go_wp2
      go_region
      have B3P := (BP.out.alloc (.cells #[.int .i64 op, .int .i64 n, .int .i64 wd] 51)).keep0 (gb_trans (gb_drew _ none) (gb_drew _ none))
      have B3N := (IsB.new W1 51 #[.int .i64 op, .int .i64 n, .int .i64 wd]).keep0 (gb_trans (gb_drew _ none) (gb_drew _ none))
      have B3K := (K1.alloc (.cells #[.int .i64 op, .int .i64 n, .int .i64 wd] 51)).keep0 (gb_trans (gb_drew _ none) (gb_drew _ none))
      have G3 := Lib.hid (gb_dr1 (gb_dr1 (gb_al (o := .cells #[.int .i64 op, .int .i64 n, .int .i64 wd] 51) G1.out)))
      have S3 := Lib.hid (show (W1.alloc (.cells #[.int .i64 op, .int .i64 n, .int .i64 wd] 51)).drew.drew.heap.size = P + 2 by show (W1.alloc _).heap.size = _; rw [sz_al, S1.out])
      rw [S1.out] at B3N
      obtain ⟨W3, hW3⟩ : ∃ W3, W3 = (W1.alloc (.cells #[.int .i64 op, .int .i64 n, .int .i64 wd] 51)).drew.drew := ⟨_, rfl⟩
      rw [← hW3] at B3P B3N B3K G3 S3
      rw [← hW3, S1.out]
      clear hW3 m0 m1 m2 m3 m4 n0 n1 n2 wc0 wc1 kf K1
      have x0 := B3N.cell 0
      simp at x0
      have y1 : W3.cell? ⟨g, 1, none⟩ = some (.int .i64 (k : Int)) := B3K.cell 1
      have y2 := B3K.free 1
      have i2 : (k : Int) ≤ 100000 := by have := NL.out; omega
      go_upto_region 5 with fail
      have K4 := Lib.hid (show IsB (W3.setCell ⟨g, 1, none⟩ (.int .i64 ((k : Int) + 1))) g 85 (kc X (k + 1)) from kset B3K (k + 1))
      have P4 := Lib.hid (B3P.set_far (show P ≠ g by omega) 1 (.int .i64 ((k : Int) + 1)))
      have N4 := Lib.hid (B3N.set_far (show P + 1 ≠ g by omega) 1 (.int .i64 ((k : Int) + 1)))
      have G4 := Lib.hid (gr_set (i := 1) (u := .int .i64 ((k : Int) + 1)) (gb_any (row := some g) G3.out))
      have S4 := Lib.hid (show (W3.setCell ⟨g, 1, none⟩ (.int .i64 ((k : Int) + 1))).heap.size = P + 2 by rw [sz_set, S3.out])
      generalize W3.setCell ⟨g, 1, none⟩ (.int .i64 ((k : Int) + 1)) = W4 at *
      clear x0 y1 y2 B3P B3N B3K i1 i0 ne1 ne2 S3 G3
      have z0 := N4.out.cell 0
      simp at z0
      have AR := Lib.hid (fun w => arity_any w op)
      unfold RetS at AR
      have CN := Lib.hid (show arN op ≤ 3 by unfold arN; split <;> (try split) <;> (try split) <;> (try split) <;> decide)
      have SU := Lib.hid (show subT C (f + 1) (N.drop k) = if arB op = true then (match manyT (subT C f) (arN op) (N.drop (k + 1)) with
          | .error e => .error e
          | .ok (ts, l1) => match nodeT C (op, n, wd) ts with
            | .error e => .error e
            | .ok t => .ok (t, l1)) else .error 11 by rw [DC.out]; rfl)
      cases hb : arB op with
      | false =>
        rw [hb] at AR SU
        rw [if_neg (by decide)] at SU
        clear hb
        go_wp2_with fail
        refine (AR.out _).mono ?_
        rintro e w5 ⟨rfl, rfl⟩
        have k00 := P4.out.cell 0
        have k01 := P4.out.cell 1
        have f00 := P4.out.free 0
        have f01 := P4.out.free 1
        simp at k00 k01
        go_wp2
        (try simp only [Exit.inBlock, Exit.then])
        refine bodyPost_ret (v := (.tuple #[.agg #[.int .i64 0, .int .u32 0], .int .i64 11])) (by rw [results_cell_tmp rfl]; go_simp) rfl ?_
        rw [SU.out]
        exact ⟨gr_put (gr_put G4.out (by have := hPw.out; omega)) (by have := hPw.out; omega), rfl⟩
      | true =>
        have HB := Lib.hid hb
        rw [hb] at AR SU
        rw [if_pos rfl] at SU
        have IH := Lib.hid (fun (w2 : World) (k2 : Nat) (hB2 : IsB w2 g 85 (kc X k2)) (hG2 : W0.grownBy w2 none) (h1 : k2 ≤ N.length) (h2 : k + 1 ≤ k2) => ih w2 g X k2 C N W0 hB2 CC.out hG2 HGs.out h1 hl (by omega))
        clear hb ih
        generalize hcn : arN op = cnt at *
        have HCN := Lib.hid hcn
        clear hcn
        go_wp2_with fail
        refine (AR.out _).mono ?_
        rintro e w5 ⟨rfl, rfl⟩
        obtain ⟨W6, hW6⟩ : ∃ W6, W6 = w5.alloc (.cells #[.int .i64 0, .int .u32 0, .int .i64 0, .int .u32 0, .int .i64 0, .int .u32 0] 163) := ⟨_, rfl⟩
        have B6A := Lib.hid (show IsB W6 (P + 2) 163 (opsA tz tz tz) from by
          rw [hW6]
          have := IsB.new w5 163 #[.int .i64 0, .int .u32 0, .int .i64 0, .int .u32 0, .int .i64 0, .int .u32 0]
          rwa [S4.out] at this)
        have B6K := Lib.hid (show IsB W6 g 85 (kc X (k + 1)) from by rw [hW6]; exact K4.out.alloc _)
        have B6P := Lib.hid (show IsB W6 P 88 #[.int .i64 0, .int .u32 0] from by rw [hW6]; exact P4.out.alloc _)
        have B6N := Lib.hid (show IsB W6 (P + 1) 51 #[.int .i64 op, .int .i64 n, .int .i64 wd] from by rw [hW6]; exact N4.out.alloc _)
        have G6 := Lib.hid (show w.grownBy W6 (some g) from by rw [hW6]; exact gr_al G4.out)
        go_upto_region 9 with fail
        rw [← hW6, S4.out]
        clear hW6 K4 P4 N4 G4 z0
        go_wp2
        go_loopw [49] (fun s49 wr => ∃ (i k1 : Nat) (a b c : Tm), i ≤ cnt ∧ s49 = .int .i64 i ∧ k1 ≤ N.length ∧ k + 1 ≤ k1 ∧ manyT (subT C f) i (N.drop (k + 1)) = .ok ([a, b, c].take i, N.drop k1) ∧ IsB wr g 85 (kc X k1) ∧ IsB wr P 88 #[.int .i64 0, .int .u32 0] ∧ IsB wr (P + 1) 51 #[.int .i64 op, .int .i64 n, .int .i64 wd] ∧ IsB wr (P + 2) 163 (opsA a b c) ∧ w.grownBy wr (some g)) (fun s49 _ => cnt - (intOf s49).toNat)
        case atStart => exact ⟨0, k + 1, tz, tz, tz, Nat.zero_le _, rfl, by have := NL.out; omega, Nat.le_refl _, rfl, B6K.out, B6P.out, B6N.out, B6A.out, G6.out⟩
        case round =>
          obtain ⟨i, k1, a, b, c, hi, rfl, hk1', hk2', hm, rK, rP, rN, rA, rG⟩ := hrel
          have HM := Lib.hid hm
          have RK := Lib.hid rK
          have RP := Lib.hid rP
          have RN := Lib.hid rN
          have RA := Lib.hid rA
          have RG := Lib.hid rG
          clear hm rK rP rN rA rG B6A B6K B6P B6N G6
          by_cases hlt : i < cnt
          · have CL := IH.out wr k1 RK.out (gb_row GK.out RG.out HGs.out) hk1' hk2'
            unfold RetSub at CL
            have l1 : (i : Int) < cnt := by omega
            cases hr : subT C f (N.drop k1) with
            | error er =>
              rw [hr] at CL
              have ne := sub_err C f _ er hr
              have HS := Lib.hid (show subT C (f + 1) (N.drop k) = .error er by rw [SU.out, many_err (i + 1) (many_bad HM.out hr) cnt hlt])
              have e1 : (er != 0) = true := by rw [bne_iff_ne]; exact ne
              have e2 : (er == 0) = false := by rw [beq_eq_false_iff_ne]; exact ne
              have e3 : ¬ er = 0 := ne
              clear hr ne
              go_wp2_with fail
              refine CL.mono ?_
              rintro e w7 ⟨g7, rfl⟩
              have P7 := RP.out.keep g7 (by intro h; injection h with h; omega)
              have G7 := Lib.hid (gb_trans RG.out g7)
              have k00 := P7.cell 0
              have k01 := P7.cell 1
              have f00 := P7.free 0
              have f01 := P7.free 1
              have plt := P7.lt
              simp at k00 k01
              clear g7 CL P7
              go_wp2
              (try simp only [Exit.inBlock, Exit.then])
              refine bodyPost_ret (v := (.tuple #[.agg #[.int .i64 0, .int .u32 0], .int .i64 er])) (by rw [results_cell_tmp rfl]; go_simp) rfl ?_
              rw [HS.out]
              exact ⟨gr_al (gr_put (gr_put G7.out (by have := hPw.out; omega)) (by have := hPw.out; omega)), rfl⟩
            | ok r =>
              obtain ⟨t, l'⟩ := r
              rw [hr] at CL
              have GTt := Lib.hid (sub_ok C f _ t l' hr).1
              have HM2 := Lib.hid (many_step HM.out hr)
              have LE := Lib.hid (sub_ok C f _ t l' hr).2.1
              clear hr
              obtain ⟨tw, tv⟩ := t
              go_wp2_with fail
              refine CL.mono ?_
              rintro e w7 ⟨g7, rfl, k2, hk3, rfl, K7⟩
              have hk4 : k1 ≤ k2 := by have := LE.out; rw [List.length_drop, List.length_drop] at this; omega
              have P7 := Lib.hid (RP.out.keep g7 (by intro h; injection h with h; omega))
              have N7 := Lib.hid (RN.out.keep g7 (by intro h; injection h with h; omega))
              have A7 := Lib.hid (RA.out.keep g7 (by intro h; injection h with h; omega))
              have KK7 := Lib.hid K7
              have G7 := Lib.hid (gb_trans RG.out g7)
              have alt := A7.out.lt
              clear g7 CL K7 LE HM RK RP RN RA RG
              dsimp only
              rcases (show i = 0 ∨ i = 1 ∨ i = 2 by have := CN.out; omega) with rfl | rfl | rfl
              · try rw [show ((0 : Nat) : Int) = 0 from rfl]
                try rw [show ((0 : Nat) : Int) = 0 from rfl] at l1
                have a0 := A7.out.cell 0
                have a1 := A7.out.cell 1
                have b0 := A7.out.free 0
                have b1 := A7.out.free 1
                simp [opsA] at a0 a1
                go_wp2
                go_roundw
                case rel =>
                  refine ⟨1, k2, (tw, tv), b, c, by omega, by rfl, hk3, by omega, HM2.out, ?_, ?_, ?_, ?_, ?_⟩
                  · exact ((KK7.out.set_far (by omega) _ _).set_far (by omega) _ _).alloc _
                  · exact ((P7.out.set_far (by omega) _ _).set_far (by omega) _ _).alloc _
                  · exact ((N7.out.set_far (by omega) _ _).set_far (by omega) _ _).alloc _
                  · exact ((A7.out.set 0 _).set 1 _).alloc _
                  · exact gr_al (gr_put (gr_put G7.out (by have := hPw.out; omega)) (by have := hPw.out; omega))
                case measure => simp [intOf]; omega
              · try rw [show ((1 : Nat) : Int) = 1 from rfl]
                try rw [show ((1 : Nat) : Int) = 1 from rfl] at l1
                have a0 := A7.out.cell 2
                have a1 := A7.out.cell 3
                have b0 := A7.out.free 2
                have b1 := A7.out.free 3
                simp [opsA] at a0 a1
                go_wp2
                go_roundw
                case rel =>
                  refine ⟨2, k2, a, (tw, tv), c, by omega, by rfl, hk3, by omega, HM2.out, ?_, ?_, ?_, ?_, ?_⟩
                  · exact ((KK7.out.set_far (by omega) _ _).set_far (by omega) _ _).alloc _
                  · exact ((P7.out.set_far (by omega) _ _).set_far (by omega) _ _).alloc _
                  · exact ((N7.out.set_far (by omega) _ _).set_far (by omega) _ _).alloc _
                  · exact ((A7.out.set 2 _).set 3 _).alloc _
                  · exact gr_al (gr_put (gr_put G7.out (by have := hPw.out; omega)) (by have := hPw.out; omega))
                case measure => simp [intOf]; omega
              · try rw [show ((2 : Nat) : Int) = 2 from rfl]
                try rw [show ((2 : Nat) : Int) = 2 from rfl] at l1
                have a0 := A7.out.cell 4
                have a1 := A7.out.cell 5
                have b0 := A7.out.free 4
                have b1 := A7.out.free 5
                simp [opsA] at a0 a1
                go_wp2
                go_roundw
                case rel =>
                  refine ⟨3, k2, a, b, (tw, tv), by omega, by rfl, hk3, by omega, HM2.out, ?_, ?_, ?_, ?_, ?_⟩
                  · exact ((KK7.out.set_far (by omega) _ _).set_far (by omega) _ _).alloc _
                  · exact ((P7.out.set_far (by omega) _ _).set_far (by omega) _ _).alloc _
                  · exact ((N7.out.set_far (by omega) _ _).set_far (by omega) _ _).alloc _
                  · exact ((A7.out.set 4 _).set 5 _).alloc _
                  · exact gr_al (gr_put (gr_put G7.out (by have := hPw.out; omega)) (by have := hPw.out; omega))
                case measure => simp [intOf]; omega
          · have hic : i = cnt := by omega
            subst hic
            obtain ⟨aw, av⟩ := a
            obtain ⟨bw, bv⟩ := b
            obtain ⟨cw, cv⟩ := c
            have HS := Lib.hid (show subT C (f + 1) (N.drop k) = match nodeT C (op, n, wd) ([(aw, av), (bw, bv), (cw, cv)].take i) with
              | .error e => .error e
              | .ok t => .ok (t, N.drop k1) by rw [SU.out, HM.out])
            have GTs := Lib.hid (many_ok (sub_ok C f) i _ _ _ HM.out).2.1
            have CW := Lib.hid (CC.out.keep0 (gb_row GK.out RG.out HGs.out))
            have c3 := CN.out
            have plt := RP.out.lt
            have a0 := RA.out.cell 0
            have a1 := RA.out.cell 1
            have a2 := RA.out.cell 2
            have a3 := RA.out.cell 3
            have a4 := RA.out.cell 4
            have a5 := RA.out.cell 5
            simp [opsA] at a0 a1 a2 a3 a4 a5
            have x0 := RN.out.cell 0
            have x1 := RN.out.cell 1
            have x2 := RN.out.cell 2
            simp at x0 x1 x2
            clear HM IH SU
            rcases (show i = 0 ∨ i = 1 ∨ i = 2 ∨ i = 3 by omega) with rfl | rfl | rfl | rfl
            · try rw [show ((0 : Nat) : Int) = 0 from rfl]
              have HN := Lib.hid (show nodeT C (op, n, wd) ([(aw, av), (bw, bv), (cw, cv)].take 0) = leafT C (op, n, wd) by unfold nodeT; rw [HCN.out]; rfl)
              have HS2 := Lib.hid (show subT C (f + 1) (N.drop k) = match leafT C (op, n, wd) with
                | .error e => .error e
                | .ok t => .ok (t, N.drop k1) by rw [HS.out, HN.out])
              have CO := kleaf_any wr g X k1 C N RK.out CW.out op n wd NR.out
              unfold RetT at CO
              generalize leafT C (op, n, wd) = R at *
              clear HN HS
              go_wp2_with fail
              refine CO.mono ?_
              rintro e w9 ⟨rfl, g9⟩
              have P9 := RP.out.keep0 g9
              have k00 := P9.cell 0
              have k01 := P9.cell 1
              have f00 := P9.free 0
              have f01 := P9.free 1
              simp at k00 k01
              have G9 := Lib.hid (gb_trans RG.out (gb_any g9))
              have K9 := Lib.hid (RK.out.keep0 g9)
              clear P9 CO a0 a1 a2 a3 a4 a5 x0 x1 x2 g9
              go_wp2
              (try simp only [Exit.inBlock, Exit.then])
              refine bodyPost_ret (v := (.tuple #[.agg #[.int .i64 (rW R), .int .u32 (rV R)], .int .i64 (rE R)])) (by rw [results_cell_tmp rfl]; go_simp) rfl ?_
              rw [HS2.out]
              have GF := gr_put (i := 1) (u := .int .u32 (rV R)) (gr_put (i := 0) (u := .int .i64 (rW R)) G9.out (g := P) (by have := hPw.out; omega)) (g := P) (by have := hPw.out; omega)
              cases R with
              | error er => exact ⟨GF, rfl⟩
              | ok t => exact ⟨GF, rfl, k1, hk1', rfl, (K9.out.set_far (by omega) _ _).set_far (by omega) _ _⟩
            · try rw [show ((1 : Nat) : Int) = 1 from rfl]
              have HN := Lib.hid (show nodeT C (op, n, wd) ([(aw, av), (bw, bv), (cw, cv)].take 1) = unT (op, n, wd) (aw, av) by unfold nodeT; rw [HCN.out]; rfl)
              have HS2 := Lib.hid (show subT C (f + 1) (N.drop k) = match unT (op, n, wd) (aw, av) with
                | .error e => .error e
                | .ok t => .ok (t, N.drop k1) by rw [HS.out, HN.out])
              have CO := unary_any wr op n wd aw av (show GT (aw, av) from GTs.out _ (by simp))
              unfold RetT at CO
              generalize unT (op, n, wd) (aw, av) = R at *
              clear HN HS
              go_wp2_with fail
              refine CO.mono ?_
              rintro e w9 ⟨rfl, g9⟩
              have P9 := RP.out.keep0 g9
              have k00 := P9.cell 0
              have k01 := P9.cell 1
              have f00 := P9.free 0
              have f01 := P9.free 1
              simp at k00 k01
              have G9 := Lib.hid (gb_trans RG.out (gb_any g9))
              have K9 := Lib.hid (RK.out.keep0 g9)
              clear P9 CO a0 a1 a2 a3 a4 a5 x0 x1 x2 g9
              go_wp2
              (try simp only [Exit.inBlock, Exit.then])
              refine bodyPost_ret (v := (.tuple #[.agg #[.int .i64 (rW R), .int .u32 (rV R)], .int .i64 (rE R)])) (by rw [results_cell_tmp rfl]; go_simp) rfl ?_
              rw [HS2.out]
              have GF := gr_put (i := 1) (u := .int .u32 (rV R)) (gr_put (i := 0) (u := .int .i64 (rW R)) G9.out (g := P) (by have := hPw.out; omega)) (g := P) (by have := hPw.out; omega)
              cases R with
              | error er => exact ⟨GF, rfl⟩
              | ok t => exact ⟨GF, rfl, k1, hk1', rfl, (K9.out.set_far (by omega) _ _).set_far (by omega) _ _⟩
            · try rw [show ((2 : Nat) : Int) = 2 from rfl]
              have HN := Lib.hid (show nodeT C (op, n, wd) ([(aw, av), (bw, bv), (cw, cv)].take 2) = binT op (aw, av) (bw, bv) by unfold nodeT; rw [HCN.out]; rfl)
              have HS2 := Lib.hid (show subT C (f + 1) (N.drop k) = match binT op (aw, av) (bw, bv) with
                | .error e => .error e
                | .ok t => .ok (t, N.drop k1) by rw [HS.out, HN.out])
              have CO := binary_any wr op aw av bw bv (show GT (aw, av) from GTs.out _ (by simp)) (show GT (bw, bv) from GTs.out _ (by simp))
              unfold RetT at CO
              generalize binT op (aw, av) (bw, bv) = R at *
              clear HN HS
              go_wp2_with fail
              refine CO.mono ?_
              rintro e w9 ⟨rfl, g9⟩
              have P9 := RP.out.keep0 g9
              have k00 := P9.cell 0
              have k01 := P9.cell 1
              have f00 := P9.free 0
              have f01 := P9.free 1
              simp at k00 k01
              have G9 := Lib.hid (gb_trans RG.out (gb_any g9))
              have K9 := Lib.hid (RK.out.keep0 g9)
              clear P9 CO a0 a1 a2 a3 a4 a5 x0 x1 x2 g9
              go_wp2
              (try simp only [Exit.inBlock, Exit.then])
              refine bodyPost_ret (v := (.tuple #[.agg #[.int .i64 (rW R), .int .u32 (rV R)], .int .i64 (rE R)])) (by rw [results_cell_tmp rfl]; go_simp) rfl ?_
              rw [HS2.out]
              have GF := gr_put (i := 1) (u := .int .u32 (rV R)) (gr_put (i := 0) (u := .int .i64 (rW R)) G9.out (g := P) (by have := hPw.out; omega)) (g := P) (by have := hPw.out; omega)
              cases R with
              | error er => exact ⟨GF, rfl⟩
              | ok t => exact ⟨GF, rfl, k1, hk1', rfl, (K9.out.set_far (by omega) _ _).set_far (by omega) _ _⟩
            · try rw [show ((3 : Nat) : Int) = 3 from rfl]
              have HN := Lib.hid (show nodeT C (op, n, wd) ([(aw, av), (bw, bv), (cw, cv)].take 3) = choT (aw, av) (bw, bv) (cw, cv) by unfold nodeT; rw [HCN.out]; rfl)
              have HS2 := Lib.hid (show subT C (f + 1) (N.drop k) = match choT (aw, av) (bw, bv) (cw, cv) with
                | .error e => .error e
                | .ok t => .ok (t, N.drop k1) by rw [HS.out, HN.out])
              have CO := choice_any wr aw av bw bv cw cv (show GT (bw, bv) from GTs.out _ (by simp)) (show GT (cw, cv) from GTs.out _ (by simp))
              unfold RetT at CO
              generalize choT (aw, av) (bw, bv) (cw, cv) = R at *
              clear HN HS
              go_wp2_with fail
              refine CO.mono ?_
              rintro e w9 ⟨rfl, g9⟩
              have P9 := RP.out.keep0 g9
              have k00 := P9.cell 0
              have k01 := P9.cell 1
              have f00 := P9.free 0
              have f01 := P9.free 1
              simp at k00 k01
              have G9 := Lib.hid (gb_trans RG.out (gb_any g9))
              have K9 := Lib.hid (RK.out.keep0 g9)
              clear P9 CO a0 a1 a2 a3 a4 a5 x0 x1 x2 g9
              go_wp2
              (try simp only [Exit.inBlock, Exit.then])
              refine bodyPost_ret (v := (.tuple #[.agg #[.int .i64 (rW R), .int .u32 (rV R)], .int .i64 (rE R)])) (by rw [results_cell_tmp rfl]; go_simp) rfl ?_
              rw [HS2.out]
              have GF := gr_put (i := 1) (u := .int .u32 (rV R)) (gr_put (i := 0) (u := .int .i64 (rW R)) G9.out (g := P) (by have := hPw.out; omega)) (g := P) (by have := hPw.out; omega)
              cases R with
              | error er => exact ⟨GF, rfl⟩
              | ok t => exact ⟨GF, rfl, k1, hk1', rfl, (K9.out.set_far (by omega) _ _).set_far (by omega) _ _⟩
end Go.Proofs.Ytfjeonoihdgdoaa
