/- Ternary: the walk of the program's Subtract. -/
import Derived.Test.YteemhabgliglmaaTeQ
import Derived.Deep.RegionHeld3
import Derived.Deep.RegionWith
import Derived.Deep.CutRange
namespace Go.Proofs.Yteemhabgliglmaa
open Go.RowKit
set_option linter.unusedVariables false
set_option linter.unusedSimpArgs false

theorem isb_keep2 {w w2 : World} {b : Nat} {t : TypeId} {cs : Array Value} (k : w.grownBy w2 none) (h : IsB w b t cs) : IsB w2 b t cs := h.keep0 k
theorem box2 {w : World} {b : Nat} {t : TypeId} {x y : Value} (h : IsB w b t #[x, y]) : w.cell? ⟨b, 0, none⟩ = some x ∧ w.cell? ⟨b, 1, none⟩ = some y ∧ w.frozen? ⟨b, 0, none⟩ = false ∧ w.frozen? ⟨b, 1, none⟩ = false ∧ b ≠ w.heap.size ∧ w.heap.size ≠ b ∧ (∀ o, (w.alloc o).cell? ⟨b, 0, none⟩ = some x) ∧ (∀ o, (w.alloc o).cell? ⟨b, 1, none⟩ = some y) ∧ (∀ o, (w.alloc o).frozen? ⟨b, 0, none⟩ = false) ∧ (∀ o, (w.alloc o).frozen? ⟨b, 1, none⟩ = false) :=
  ⟨h.cell 0, h.cell 1, h.free 0, h.free 1, Nat.ne_of_lt h.lt, Nat.ne_of_gt h.lt, fun o => (h.alloc o).cell 0, fun o => (h.alloc o).cell 1, fun o => (h.alloc o).free 0, fun o => (h.alloc o).free 1⟩
theorem isb_fill2 {w : World} {g : Nat} {t : TypeId} {a b x y : Value} (h : IsB w g t #[a, b]) : IsB ((w.setCell ⟨g, 0, none⟩ x).setCell ⟨g, 1, none⟩ y) g t #[x, y] := (h.set 0 _).set 1 _
theorem gb_putS {w0 w : World} {s g i : Nat} {u : Value} (h : w0.grownBy w (some s)) (hg : w0.heap.size ≤ g) : w0.grownBy (w.setCell ⟨g, i, none⟩ u) (some s) := by
  have k := gb_set w g i u
  refine ⟨k.os.trans h.os, k.tape.trans h.tape, k.output.trans h.output, Nat.le_trans h.size k.size, fun j hj hn => ?_⟩
  refine (k.block j (Nat.lt_of_lt_of_le hj h.size) ?_).trans (h.block j hj hn)
  intro e; injection e with e; omega
theorem gb_putR {w0 w : World} {s i : Nat} {u : Value} (h : w0.grownBy w (some s)) : w0.grownBy (w.setCell ⟨s, i, none⟩ u) (some s) := gb_trans h (gb_set _ _ _ _)
/-- What is left behind the two cuts: a is a new block, or one made ahead; b lies where its argument lay. -/
theorem fin1 {W w2 : World} {p4 : Nat} {x1 x2 y1 y2 a b : Value} {t : TypeId} (h4 : IsB w2 p4 t #[a, b]) (g : W.grownBy w2 none) (l4 : W.heap.size ≤ p4) :
    ∃ p7 : Nat, Value.pointer (some ⟨w2.heap.size, 0, none⟩) = Value.pointer (some ⟨p7, 0, none⟩) ∧ p7 ≠ p4 ∧ W.heap.size ≤ p7 ∧
      IsB (((w2.alloc (.cells #[x1, x2] t)).setCell ⟨p4, 0, none⟩ y1).setCell ⟨p4, 1, none⟩ y2) p7 t #[x1, x2] ∧
      IsB (((w2.alloc (.cells #[x1, x2] t)).setCell ⟨p4, 0, none⟩ y1).setCell ⟨p4, 1, none⟩ y2) p4 t #[y1, y2] ∧
      W.grownBy (((w2.alloc (.cells #[x1, x2] t)).setCell ⟨p4, 0, none⟩ y1).setCell ⟨p4, 1, none⟩ y2) none :=
  ⟨w2.heap.size, rfl, Nat.ne_of_gt h4.lt, g.size, ((IsB.new w2 t #[x1, x2]).set_far (Nat.ne_of_gt h4.lt) 0 y1).set_far (Nat.ne_of_gt h4.lt) 1 y2, isb_fill2 (h4.alloc _),
    gb_put (gb_put (gb_trans g (gb_alloc _ _ _)) l4) l4⟩
theorem fin2 {W w2 : World} {p7 p4 : Nat} {x1 x2 y1 y2 a b c d : Value} {t : TypeId} (h7 : IsB w2 p7 t #[c, d]) (h4 : IsB w2 p4 t #[a, b]) (hne : p7 ≠ p4) (l7 : W.heap.size ≤ p7) (g : W.grownBy w2 none) (l4 : W.heap.size ≤ p4) :
    ∃ q7 : Nat, Value.pointer (some ⟨p7, 0, none⟩) = Value.pointer (some ⟨q7, 0, none⟩) ∧ q7 ≠ p4 ∧ W.heap.size ≤ q7 ∧
      IsB ((((w2.setCell ⟨p7, 0, none⟩ x1).setCell ⟨p7, 1, none⟩ x2).setCell ⟨p4, 0, none⟩ y1).setCell ⟨p4, 1, none⟩ y2) q7 t #[x1, x2] ∧
      IsB ((((w2.setCell ⟨p7, 0, none⟩ x1).setCell ⟨p7, 1, none⟩ x2).setCell ⟨p4, 0, none⟩ y1).setCell ⟨p4, 1, none⟩ y2) p4 t #[y1, y2] ∧
      W.grownBy ((((w2.setCell ⟨p7, 0, none⟩ x1).setCell ⟨p7, 1, none⟩ x2).setCell ⟨p4, 0, none⟩ y1).setCell ⟨p4, 1, none⟩ y2) none :=
  ⟨p7, rfl, hne, l7, ((isb_fill2 h7).set_far hne 0 y1).set_far hne 1 y2, isb_fill2 ((h4.set_far (Ne.symm hne) 0 x1).set_far (Ne.symm hne) 1 x2),
    gb_put (gb_put (gb_put (gb_put g l7) l7) l4) l4⟩
theorem CLs.made (w : World) (base cap : Nat) (cur : Array Value) (hb : base ≤ w.heap.size) (hm : cap ≤ 64) (hs : cur.size = cap * 2) : CLs (w.alloc (.cells cur 49)) base (.slice (some ⟨w.heap.size, 0, none⟩) 0 cap) [] :=
  World.ownsRow_made w cur cap hb (by unfold maxLen; omega) hs
theorem CLs.one (w : World) (base x m : Nat) (hb : base ≤ w.heap.size) : CLs (w.alloc (.cells #[.int .u64 x, .int .u64 m] 49)) base (.slice (some ⟨w.heap.size, 0, none⟩) 1 1) [(x, m)] :=
  World.ownsRow_lit w #[.int .u64 x, .int .u64 m] 1 hb (by unfold maxLen; omega) rfl
set_option maxRecDepth 100000 in
set_option maxHeartbeats 20000000 in
theorem psub_any (W : World) (v m v2 m2 : Nat) (x : Int) (hv : B64 v) (hm : B64 m) (hv2 : B64 v2) (hm2 : B64 m2) : Calls Try.prog 65 #[.agg #[.int .u64 v, .int .u64 m], .agg #[.int .u64 v2, .int .u64 m2], .int .i64 x] W (RetC (subL v m v2 m2 x) W) := by
  have VA := Lib.hid (fun W => valid_any W x)
  by_cases hw : 1 ≤ x ∧ x ≤ 64
  · rw [decide_eq_true hw] at VA
    obtain ⟨k, rfl⟩ : ∃ k : Nat, x = (k : Int) := ⟨x.toNat, by omega⟩
    have HS := Lib.hid (show subL v m v2 m2 (k : Int) = subC (cutV v m k) (cutM m k) (cutV v2 m2 k) (cutM m2 k) k by unfold subL; rw [if_pos hw, Int.toNat_natCast])
    obtain ⟨h1, h2⟩ := hw
    have K1 := Lib.hid (fun w => narrow_any w v m k hv hm (by omega))
    have K2 := Lib.hid (fun w => narrow_any w v2 m2 k hv2 hm2 (by omega))
    obtain ⟨lx1, lx2⟩ := cut_lt v m k hv hm
    obtain ⟨ly1, ly2⟩ := cut_lt v2 m2 k hv2 hm2
    have YB := Lib.hid (show ∀ j, k ≤ j → (cutM m2 k).testBit j = false from fun j hj => by unfold cutM; rw [Nat.testBit_and, tb_low, decide_eq_false (by omega), Bool.and_false])
    generalize cutV v m k = xv at *
    generalize cutM m k = xm at *
    generalize cutV v2 m2 k = yv at *
    generalize cutM m2 k = ym at *
    have A1 := Lib.hid (IsB.new W 49 #[.int .u64 v, .int .u64 m])
    have A2 := Lib.hid (isb_last W (.cells #[.int .u64 v, .int .u64 m] 49) 49 #[.int .u64 v2, .int .u64 m2])
    have A1 := Lib.hid (A1.out.keep0 (gb_alloc _ (.cells #[.int .u64 v2, .int .u64 m2] 49) none))
    have AZ := Lib.hid (show ((W.alloc (.cells #[.int .u64 v, .int .u64 m] 49)).alloc (.cells #[.int .u64 v2, .int .u64 m2] 49)).heap.size = W.heap.size + 2 by rw [alloc_sz, alloc_sz])
    have GG := Lib.hid (al2 W (.cells #[.int .u64 v, .int .u64 m] 49) (.cells #[.int .u64 v2, .int .u64 m2] 49))
    go_enter Try.func65, Try.ntmps65
    go_wp2_with fail
    refine (VA.out _).mono ?_
    rintro e w1 ⟨rfl, rfl⟩
    go_upto_region 3 with fail
    generalize (W.alloc (.cells #[.int .u64 v, .int .u64 m] 49)).alloc (.cells #[.int .u64 v2, .int .u64 m2] 49) = w0 at *
    go_cut [7] from 16 to 21 (fun s7 wx => ∃ p7 : Nat, s7 = .pointer (some ⟨p7, 0, none⟩) ∧ p7 ≠ W.heap.size + 1 ∧ W.heap.size ≤ p7 ∧ IsB wx p7 49 #[.int .u64 xv, .int .u64 xm] ∧ IsB wx (W.heap.size + 1) 49 #[.int .u64 yv, .int .u64 ym] ∧ W.grownBy wx none)
    case first =>
      obtain ⟨z1, z2, z3, z4, z5, z6, z7, z8, z9, z10⟩ := box2 A2.out
      obtain ⟨q1, q2, q3, q4, q5, q6, q7, q8, q9, q10⟩ := box2 A1.out
      go_region_with
        (first
          | (go_at_call_of 73 (Value.agg #[Value.int IntKind.u64 (v : Int), Value.int IntKind.u64 (m : Int)]); refine (K1.out _).mono ?_; rintro e w' ⟨rfl, gA⟩
             try with_reducible (have gA := gb_trans (gb_drew _ none) gA)
             have NA := isb_keep2 gA (by first | exact A1.out | exact A1.out.alloc _)
             obtain ⟨n1, n2, n3, n4, n5, n6, n7, n8, n9, n10⟩ := box2 NA
             have PA := isb_keep2 gA (by first | exact A2.out | exact A2.out.alloc _)
             obtain ⟨y1, y2, y3, y4, y5, y6, y7, y8, y9, y10⟩ := box2 PA
             try with_reducible (have IA := isb_keep gA (IsB.new _ _ _); (try simp only [alloc_sz, drew_sz] at IA); obtain ⟨a1, a2, a3, a4, a5, a6, a7, a8, a9, a10⟩ := box_facts IA))
          | (go_at_call_of 73 (Value.agg #[Value.int IntKind.u64 (v2 : Int), Value.int IntKind.u64 (m2 : Int)]); refine (K2.out _).mono ?_; rintro e w2 ⟨rfl, gB⟩
             have PB := isb_keep2 gB (by first | exact PA | exact PA.alloc _)
             obtain ⟨x1, x2, x3, x4, x5, x6, x7, x8, x9, x10⟩ := box2 PB
             try with_reducible (have JA := isb_keep gB (IsB.new _ _ _); (try simp only [alloc_sz, drew_sz] at JA); obtain ⟨c1, c2, c3, c4, c5, c6, c7, c8, c9, c10⟩ := box_facts JA)
             try with_reducible (have KA := isb_keep gB IA; (try simp only [alloc_sz, drew_sz] at KA); obtain ⟨e1, e2, e3, e4, e5, e6, e7, e8, e9, e10⟩ := box_facts KA)))
      all_goals (go_wp2_with fail)
      all_goals (try go_meet)
      all_goals (
        have GA : w0.grownBy w' none := by first | with_reducible exact gA | with_reducible exact gb_trans (gb_alloc _ _ _) gA | with_reducible exact gb_trans (gb_drew _ _) gA | with_reducible exact gb_trans (gb_drew _ _) (gb_trans (gb_alloc _ _ _) gA)
        have GB : w'.grownBy w2 none := by first | with_reducible exact gB | with_reducible exact gb_trans (gb_alloc _ _ _) gB
        have G2 := gb_trans GG.out (gb_trans GA GB)
        have s0 := AZ.out
        have s1 := GA.size
        first
          | with_reducible exact fin1 PB G2 (Nat.le_succ _)
          | with_reducible refine fin2 KA PB ?_ ?_ G2 (Nat.le_succ _)
          | with_reducible refine fin2 JA PB ?_ ?_ G2 (Nat.le_succ _))
      all_goals (have s0 := AZ.out; omega)
    case rest =>
      obtain ⟨p7, rfl, hne, l7, B7, B8, gw⟩ := hcut
      obtain ⟨p8, hp8⟩ : ∃ p8, p8 = W.heap.size + 1 := ⟨_, rfl⟩
      have HL8 := Lib.hid (show W.heap.size ≤ p8 by omega)
      rw [← hp8] at hne B8 ⊢
      clear hp8
      have IN := Lib.hid (fun w => int_any w xv xm yv ym lx1 lx2 ly1 ly2)
      have c70 : wc.cell? ⟨p7, 0, none⟩ = some (.int .u64 (xv : Int)) := B7.cell 0
      have c71 : wc.cell? ⟨p7, 1, none⟩ = some (.int .u64 (xm : Int)) := B7.cell 1
      have c80 : wc.cell? ⟨p8, 0, none⟩ = some (.int .u64 (yv : Int)) := B8.cell 0
      have c81 : wc.cell? ⟨p8, 1, none⟩ = some (.int .u64 (ym : Int)) := B8.cell 1
      have HB7 := Lib.hid B7
      have HB8 := Lib.hid B8
      have HGW := Lib.hid gw
      have HL7 := Lib.hid l7
      clear B7 B8 gw l7
      go_wp2_with fail
      refine (IN.out _).mono ?_
      rintro e w4 ⟨rfl, g4⟩
      have HB7 := Lib.hid (HB7.out.keep0 g4)
      have HB8 := Lib.hid (HB8.out.keep0 g4)
      have HGW := Lib.hid (gb_trans HGW.out g4)
      clear c70 c71 c80 c81 g4
      have c70 : ∀ o, (w4.alloc o).cell? ⟨p7, 0, none⟩ = some (.int .u64 (xv : Int)) := fun o => (HB7.out.alloc o).cell 0
      have c71 : ∀ o, (w4.alloc o).cell? ⟨p7, 1, none⟩ = some (.int .u64 (xm : Int)) := fun o => (HB7.out.alloc o).cell 1
      cases hm : meetN xv xm yv ym
      · have hD : subC xv xm yv ym k = [(xv, xm)] := by unfold subC; rw [hm]; rfl
        go_wp2
        go_ret
        refine ⟨_, rfl, ?_, ?_⟩
        · rw [HS.out, hD]
          have e1 := CLs.one (w4.alloc (.cells #[.int .u64 (intV xv xm yv ym : Nat), .int .u64 (intM xv xm yv ym : Nat)] 49)) W.heap.size xv xm (by rw [alloc_sz]; have := HGW.out.size; omega)
          rw [alloc_sz] at e1
          exact e1
        · exact gb_trans HGW.out (al2 _ _ _)
      · obtain ⟨F, hF, hFl, eF⟩ := bN ym xm ly2 lx2
        have hD : subC xv xm yv ym k = subR yv F 64 xv xm := by
          unfold subC
          rw [if_pos hm, ← hF, subR_skip yv F k 64 (by omega) xv xm (fun j h1 _ => by rw [hF, tb_andN _ _ _ ly2 lx2, YB.out j h1]; rfl)]
        obtain ⟨D, hDD⟩ : ∃ D, D = subR yv F 64 xv xm := ⟨_, rfl⟩
        have HD := Lib.hid hDD
        have HX := Lib.hid (hD.trans hDD.symm)
        have ON := Lib.hid (fun w => ones_any w F hFl)
        have c80 : ∀ o, (w4.alloc o).cell? ⟨p8, 0, none⟩ = some (.int .u64 (yv : Int)) := fun o => (HB8.out.alloc o).cell 0
        have c81 : ∀ o, (w4.alloc o).cell? ⟨p8, 1, none⟩ = some (.int .u64 (ym : Int)) := fun o => (HB8.out.alloc o).cell 1
        obtain ⟨n, hn⟩ : ∃ n, n = popTo 64 F := ⟨_, rfl⟩
        have hn64 : n ≤ 64 := by rw [hn]; exact popTo_le 64 F
        rw [← hn] at ON
        clear hD hDD hF hn
        go_wp2_with fail
        refine (ON.out _).mono ?_
        rintro e w5 ⟨rfl, rfl⟩
        obtain ⟨i0, hi, hz0, hz1, hz2⟩ := info_parts infoCube
        have HI := Lib.hid hi
        have q7 := HB7.out.lt
        have q8 := HB8.out.lt
        obtain ⟨bs, hbs⟩ : ∃ bs, bs = w4.heap.size := ⟨_, rfl⟩
        have HBW := Lib.hid (show W.heap.size ≤ bs by rw [hbs]; exact HGW.out.size)
        have HB4 := Lib.hid (show ∀ o, bs ≤ (w4.alloc o).heap.size from fun o => by rw [hbs, alloc_sz]; omega)
        rw [← hbs] at q7 q8
        have HQ7 := Lib.hid q7
        have HQ8 := Lib.hid q8
        clear hi hbs q7 q8
        go_wp2_with (at_make; refine wpList_make_own _ rfl _ _ 22 rfl bs 49 i0 _ 2 Try.underlying22 HI.out hz0 hz1 .i64 .i64 _ n rfl rfl rfl (by rw [hz2]; omega) (by unfold maxLen; omega) (HB4.out _) ?_)
        intro w6 o6 g6
        have HO := Lib.hid (show CLs w6 bs _ [] from o6)
        have HB7 := Lib.hid ((HB7.out.alloc _).keep0 g6)
        have HB8 := Lib.hid ((HB8.out.alloc _).keep0 g6)
        have HGW := Lib.hid (gb_trans HGW.out (gb_trans (gb_alloc _ _ _) g6))
        have HB6 := Lib.hid (Nat.le_trans (HB4.out _) g6.size)
        clear o6 g6 c70 c71 c80 c81 hz0 hz1 hz2 HI
        go_wp2
        go_loopw [10, 11] (fun f o wr => ∃ (F' xv' xm' : Nat) (out : List (Nat × Nat)), f = .int .u64 F' ∧ CLs wr bs o out ∧ out ++ subR yv F' 64 xv' xm' = D ∧ B64 F' ∧ B64 xv' ∧ B64 xm' ∧ IsB wr p7 49 #[.int .u64 xv', .int .u64 xm'] ∧ IsB wr p8 49 #[.int .u64 yv, .int .u64 ym] ∧ W.grownBy wr none ∧ bs ≤ wr.heap.size) (fun f _ _ => (intOf f).toNat)
        case atStart => exact ⟨F, xv, xm, [], rfl, HO.out, by rw [HD.out]; rfl, hFl, lx1, lx2, HB7.out, HB8.out, HGW.out, HB6.out⟩
        case round =>
          obtain ⟨F', xv', xm', out, rfl, ho, hout, bF, bv', bm', B7, B8, gw, hbw⟩ := hrel
          obtain ⟨oa, oc, rfl⟩ := ho.shape
          have hol : out.length ≤ 64 := by
            have e := congrArg List.length hout
            rw [List.length_append, HD.out] at e
            have := subR_len yv F 64 xv xm
            omega
          have HO := Lib.hid ho
          have HB7 := Lib.hid B7
          have HB8 := Lib.hid B8
          have HGW := Lib.hid gw
          have HOUT := Lib.hid hout
          have HBR := Lib.hid hbw
          clear ho hout B7 B8 gw hbw
          by_cases hF0 : F' = 0
          · subst hF0
            go_wp2
            go_ret
            refine ⟨_, rfl, ?_, HGW.out⟩
            have e := HOUT.out
            rw [subR_zero, List.append_nil] at e
            rw [HS.out, HX.out, ← e]
            exact own_low HO.out HBW.out
          · obtain ⟨i, hlen, hi64, hbit, htop⟩ := top_bit F' bF hF0
            have LN := Lib.hid (fun w => len_any w F' bF)
            rw [hlen] at LN
            have HTOP := Lib.hid (subR_top yv F' i xv' xm' hi64 bF hbit htop)
            have HLESS := Lib.hid (andN_less F' i hi64 bF hbit)
            have c70 : wr.cell? ⟨p7, 0, none⟩ = some (.int .u64 (xv' : Int)) := HB7.out.cell 0
            have c71 : wr.cell? ⟨p7, 1, none⟩ = some (.int .u64 (xm' : Int)) := HB7.out.cell 1
            have c80 : wr.cell? ⟨p8, 0, none⟩ = some (.int .u64 (yv : Int)) := HB8.out.cell 0
            have c7f : wr.frozen? ⟨p7, 1, none⟩ = false := HB7.out.free 1
            have i1 : (((i + 1 : Nat) : Int) - 1) = (i : Int) := by omega
            have i2 : (0 : Int) ≤ (i : Int) := by omega
            have d1 : ((F' : Int) != 0) = true := by rw [bne_iff_ne]; omega
            have d2 : ¬ (F' : Int) = 0 := by omega
            obtain ⟨b, hb⟩ : ∃ b, b = 2 ^ i := ⟨_, rfl⟩
            have bb : B64 b := by rw [hb]; exact one_lt i hi64
            have eb : IntKind.u64.wrap ((2 : Int) ^ i) = (b : Int) := by
              rw [hb] at bb ⊢
              rw [← u64w _ bb]; simp
            rw [← hb] at HTOP HLESS
            obtain ⟨f2, hf2, hf2l, ef2⟩ := bN F' b bF bb
            obtain ⟨r, hr, hrl, er⟩ := bO xm' b bm' bb
            obtain ⟨t, ht, htl, et⟩ := bN b yv bb ly1
            obtain ⟨u, hu, hul, eu⟩ := bO xv' t bv' htl
            obtain ⟨s, hs', hsl, es⟩ := bA b yv bb ly1
            obtain ⟨x2, hx2, hx2l, ex2⟩ := bO xv' s bv' hsl
            rw [← ht, ← hu, ← hr, ← hf2, ← hs', ← hx2] at HTOP
            rw [← hf2] at HLESS
            clear hlen hbit htop hb hf2 hr ht hu hs' hx2
            have f7 := own_far HO.out HQ7.out
            have HO2 := Lib.hid (show CLs (wr.setCell ⟨p7, 1, none⟩ (.int .u64 r)) bs (.slice oa out.length oc) out from HO.out.kept (gb_set _ _ _ _) (.inr f7))
            have HG2 := Lib.hid (show ∀ o, W.grownBy ((wr.setCell ⟨p7, 1, none⟩ (.int .u64 r)).alloc o) none from fun o => gb_trans (gb_put HGW.out HL7.out) (gb_alloc _ _ _))
            have HS2 := Lib.hid (show ∀ o, bs ≤ ((wr.setCell ⟨p7, 1, none⟩ (.int .u64 r)).alloc o).heap.size from fun o => Nat.le_trans HBR.out (by rw [alloc_sz, set_sz]; omega))
            clear f7
            go_wp2_with fail
            refine (LN.out _).mono ?_
            rintro e w7 ⟨rfl, rfl⟩
            go_wp2_with (at_builtin; refine pushCube rfl _ _ rfl bs _ out rfl (HO2.out.keep0 (gb_alloc _ _ _)) _ _ (u, r) rfl (two_cell _ _ _ _ _ (isb_set _ _ _ _ _) rfl) (by omega) (HS2.out _) ?_)
            intro V9 w9 o9 g9
            have n7 : some p7 ≠ Value.ownBlock (.slice oa out.length oc) := fun e => own_far HO.out HQ7.out e.symm
            have n8 : some p8 ≠ Value.ownBlock (.slice oa out.length oc) := fun e => own_far HO.out HQ8.out e.symm
            have HG9 := Lib.hid (gb_own (HG2.out _) (HO2.out.keep0 (gb_alloc _ _ _)) HBW.out g9)
            have HS9 := Lib.hid (Nat.le_trans (HS2.out _) g9.size)
            have B7n : IsB w9 p7 49 #[.int .u64 xv', .int .u64 r] := ((HB7.out.set 1 (.int .u64 r)).alloc _).keep g9 n7
            have B8n : IsB w9 p8 49 #[.int .u64 yv, .int .u64 ym] := ((HB8.out.set_far (Ne.symm hne) 1 (.int .u64 r)).alloc _).keep g9 n8
            have HB7n := Lib.hid B7n
            have HB8n := Lib.hid B8n
            have HO9 := Lib.hid o9
            clear c70 c71 c80 c7f o9 g9 n7 n8 B7n B8n
            have c70 : w9.cell? ⟨p7, 0, none⟩ = some (.int .u64 (xv' : Int)) := HB7n.out.cell 0
            have c80 : w9.cell? ⟨p8, 0, none⟩ = some (.int .u64 (yv : Int)) := HB8n.out.cell 0
            have c71 : w9.cell? ⟨p7, 1, none⟩ = some (.int .u64 (r : Int)) := HB7n.out.cell 1
            have c7f : w9.frozen? ⟨p7, 0, none⟩ = false := HB7n.out.free 0
            go_wp2
            go_roundw
            case rel =>
              refine ⟨f2, x2, r, out ++ [(u, r)], rfl, HO9.out.kept (gb_set _ _ _ _) (.inr (own_far HO9.out HQ7.out)), ?_, hf2l, hx2l, hrl, HB7n.out.set 0 _, HB8n.out.set_far (Ne.symm hne) 0 _, gb_put HG9.out HL7.out, by rw [set_sz]; exact HS9.out⟩
              rw [← HOUT.out, HTOP.out, List.append_assoc]; rfl
            case measure =>
              have := HLESS.out
              simp [intOf]; omega
  · rw [decide_eq_false hw] at VA
    have HD : subL v m v2 m2 x = [] := by unfold subL; rw [if_neg hw]
    rw [HD]
    go_enter Try.func65, Try.ntmps65
    go_wp2_with fail
    refine (VA.out _).mono ?_
    rintro e w1 ⟨rfl, rfl⟩
    go_wp2
    go_ret
    exact ⟨_, rfl, CLs.nil _ _, al2 _ _ _⟩
end Go.Proofs.Yteemhabgliglmaa
