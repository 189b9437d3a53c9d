/- Ternary: the walk of the reference's Subtract. -/
import Derived.Test.YteemhabgliglmaaTeQ
import Derived.Deep.RegionHeld3
import Derived.Deep.CutRange
namespace Go.Proofs.Yteemhabgliglmaa
open Go.RowKit
set_option linter.unusedVariables false
set_option linter.unusedSimpArgs false

theorem isb_fill2 {w : World} {g : Nat} {t : TypeId} {a b x y : Value} (h : IsB w g t #[a, b]) : IsB ((w.setCell ⟨g, 0, none⟩ x).setCell ⟨g, 1, none⟩ y) g t #[x, y] := (h.set 0 _).set 1 _
/-- What is left behind the two cuts: two boxes that hold the narrowed cubes. -/
def Two (w0 : World) (t : TypeId) (x1 x2 y1 y2 s7 s8 : Value) (Z : World) : Prop :=
  ∃ p7 p8 : Nat, s7 = .pointer (some ⟨p7, 0, none⟩) ∧ s8 = .pointer (some ⟨p8, 0, none⟩) ∧ p7 ≠ p8 ∧ w0.heap.size ≤ p7 ∧ w0.heap.size ≤ p8 ∧ IsB Z p7 t #[x1, x2] ∧ IsB Z p8 t #[y1, y2] ∧ w0.grownBy Z none
section
variable {w0 w2 : World} {t : TypeId} {x1 x2 y1 y2 : Value}
theorem new_old (w : World) (o : Obj) (t : TypeId) (cs : Array Value) : IsB ((w.alloc (.cells cs t)).alloc o) w.heap.size t cs := (IsB.new w t cs).alloc o
theorem two1 (g : w0.grownBy w2 none) : Two w0 t x1 x2 y1 y2 (.pointer (some ⟨w2.heap.size, 0, none⟩)) (.pointer (some ⟨w2.heap.size + 1, 0, none⟩)) ((w2.alloc (.cells #[x1, x2] t)).alloc (.cells #[y1, y2] t)) :=
  ⟨_, _, rfl, rfl, Nat.ne_of_lt (Nat.lt_succ_self _), g.size, Nat.le_succ_of_le g.size, new_old _ _ _ _, isb_last _ _ _ _, gb_trans g (al2 _ _ _)⟩
theorem two2 (g : w0.grownBy w2 none) : Two w0 t x1 x2 y1 y2 (.pointer (some ⟨w2.heap.size + 1, 0, none⟩)) (.pointer (some ⟨w2.heap.size, 0, none⟩)) ((w2.alloc (.cells #[y1, y2] t)).alloc (.cells #[x1, x2] t)) :=
  ⟨_, _, rfl, rfl, Nat.ne_of_gt (Nat.lt_succ_self _), Nat.le_succ_of_le g.size, g.size, isb_last _ _ _ _, new_old _ _ _ _, gb_trans g (al2 _ _ _)⟩
theorem two3 {p7 : Nat} {a b c d : Value} (h7 : IsB w2 p7 t #[a, b]) (l7 : w0.heap.size ≤ p7) (g : w0.grownBy w2 none) : Two w0 t x1 x2 y1 y2 (.pointer (some ⟨p7, 0, none⟩)) (.pointer (some ⟨w2.heap.size, 0, none⟩)) (((((w2.alloc (.cells #[c, d] t)).setCell ⟨p7, 0, none⟩ x1).setCell ⟨p7, 1, none⟩ x2).setCell ⟨w2.heap.size, 0, none⟩ y1).setCell ⟨w2.heap.size, 1, none⟩ y2) :=
  have n : p7 ≠ w2.heap.size := Nat.ne_of_lt h7.lt
  ⟨_, _, rfl, rfl, n, l7, g.size, ((isb_fill2 (h7.alloc _)).set_far n 0 y1).set_far n 1 y2, isb_fill2 (((IsB.new w2 t #[c, d]).set_far (Ne.symm n) 0 x1).set_far (Ne.symm n) 1 x2),
    gb_put (gb_put (gb_put (gb_put (gb_trans g (gb_alloc _ _ _)) l7) l7) g.size) g.size⟩
theorem two4 {p7 p8 : Nat} {a b c d : Value} (h7 : IsB w2 p7 t #[a, b]) (h8 : IsB w2 p8 t #[c, d]) (n : p7 ≠ p8) (l7 : w0.heap.size ≤ p7) (l8 : w0.heap.size ≤ p8) (g : w0.grownBy w2 none) : Two w0 t x1 x2 y1 y2 (.pointer (some ⟨p7, 0, none⟩)) (.pointer (some ⟨p8, 0, none⟩)) ((((w2.setCell ⟨p7, 0, none⟩ x1).setCell ⟨p7, 1, none⟩ x2).setCell ⟨p8, 0, none⟩ y1).setCell ⟨p8, 1, none⟩ y2) :=
  ⟨_, _, rfl, rfl, n, l7, l8, ((isb_fill2 h7).set_far n 0 y1).set_far n 1 y2, isb_fill2 ((h8.set_far (Ne.symm n) 0 x1).set_far (Ne.symm n) 1 x2),
    gb_put (gb_put (gb_put (gb_put g l7) l7) l8) l8⟩
theorem two5 {p8 : Nat} {c d : Value} (h8 : IsB w2 p8 t #[c, d]) (l8 : w0.heap.size ≤ p8) (g : w0.grownBy w2 none) : Two w0 t x1 x2 y1 y2 (.pointer (some ⟨w2.heap.size, 0, none⟩)) (.pointer (some ⟨p8, 0, none⟩)) (((w2.alloc (.cells #[x1, x2] t)).setCell ⟨p8, 0, none⟩ y1).setCell ⟨p8, 1, none⟩ y2) :=
  have n : w2.heap.size ≠ p8 := Nat.ne_of_gt h8.lt
  ⟨_, _, rfl, rfl, n, g.size, l8, ((IsB.new w2 t #[x1, x2]).set_far n 0 y1).set_far n 1 y2, isb_fill2 (h8.alloc _), gb_put (gb_put (gb_trans g (gb_alloc _ _ _)) l8) l8⟩
end
set_option maxRecDepth 100000 in
set_option maxHeartbeats 20000000 in
theorem rsub_any (W : World) (v m v2 m2 : Nat) (x : Int) (hv : B64 v) (hm : B64 m) (hv2 : B64 v2) (hm2 : B64 m2) : Calls Try.prog 46 #[.agg #[.int .u64 v, .int .u64 m], .agg #[.int .u64 v2, .int .u64 m2], .int .i64 x] W (RetC (subL v m v2 m2 x) W) := by
  by_cases hw : 1 ≤ x ∧ x ≤ 64
  · obtain ⟨k, rfl⟩ : ∃ k : Nat, x = (k : Int) := ⟨x.toNat, by omega⟩
    have HS := Lib.hid (show subL v m v2 m2 (k : Int) = subC (cutV v m k) (cutM m k) (cutV v2 m2 k) (cutM m2 k) k by unfold subL; rw [if_pos hw, Int.toNat_natCast])
    obtain ⟨h1, h2⟩ := hw
    have g1 : ¬ (k : Int) < 1 := by omega
    have g2 : ¬ (64 : Int) < k := by omega
    have K1 := Lib.hid (fun w => cut_any w v m k hv hm (by omega))
    have K2 := Lib.hid (fun w => cut_any w v2 m2 k hv2 hm2 (by omega))
    obtain ⟨lx1, lx2⟩ := cut_lt v m k hv hm
    obtain ⟨ly1, ly2⟩ := cut_lt v2 m2 k hv2 hm2
    generalize cutV v m k = xv at *
    generalize cutM m k = xm at *
    generalize cutV v2 m2 k = yv at *
    generalize cutM m2 k = ym at *
    have A1 := Lib.hid (IsB.new W 49 #[.int .u64 v, .int .u64 m])
    have A2 := Lib.hid (IsB.new (W.alloc (.cells #[.int .u64 v, .int .u64 m] 49)) 49 #[.int .u64 v2, .int .u64 m2])
    have A1 := Lib.hid (A1.out.keep0 (gb_alloc _ (.cells #[.int .u64 v2, .int .u64 m2] 49) none))
    have AS := Lib.hid (show (W.alloc (.cells #[.int .u64 v, .int .u64 m] 49)).heap.size = W.heap.size + 1 by show (W.heap.push _).size = _; simp)
    have GG := Lib.hid (al2 W (.cells #[.int .u64 v, .int .u64 m] 49) (.cells #[.int .u64 v2, .int .u64 m2] 49))
    rw [AS.out] at A2
    go_enter Try.func46, Try.ntmps46
    go_upto_region 3 with fail
    generalize (W.alloc (.cells #[.int .u64 v, .int .u64 m] 49)).alloc (.cells #[.int .u64 v2, .int .u64 m2] 49) = w0 at *
    have KS := Lib.hid (fun (w' : World) (q : w0.grownBy w' none) => (⟨(A1.out.keep0 q).cell 0, (A1.out.keep0 q).cell 1, (A2.out.keep0 q).cell 0, (A2.out.keep0 q).cell 1, q⟩ : w'.cell? ⟨W.heap.size, 0, none⟩ = some (.int .u64 (v : Int)) ∧ w'.cell? ⟨W.heap.size, 1, none⟩ = some (.int .u64 (m : Int)) ∧ w'.cell? ⟨W.heap.size + 1, 0, none⟩ = some (.int .u64 (v2 : Int)) ∧ w'.cell? ⟨W.heap.size + 1, 1, none⟩ = some (.int .u64 (m2 : Int)) ∧ w0.grownBy w' none))
    go_cut [7, 8] from 20 to 27 (fun s7 s8 wx => ∃ p7 p8 : Nat, s7 = .pointer (some ⟨p7, 0, none⟩) ∧ s8 = .pointer (some ⟨p8, 0, none⟩) ∧ p7 ≠ p8 ∧ w0.heap.size ≤ p7 ∧ w0.heap.size ≤ p8 ∧ IsB wx p7 49 #[.int .u64 xv, .int .u64 xm] ∧ IsB wx p8 49 #[.int .u64 yv, .int .u64 ym] ∧ w0.grownBy wx none)
    case first =>
      go_region_held3 (fun w' => w'.cell? ⟨W.heap.size, 0, none⟩ = some (.int .u64 (v : Int)) ∧ w'.cell? ⟨W.heap.size, 1, none⟩ = some (.int .u64 (m : Int)) ∧ w'.cell? ⟨W.heap.size + 1, 0, none⟩ = some (.int .u64 (v2 : Int)) ∧ w'.cell? ⟨W.heap.size + 1, 1, none⟩ = some (.int .u64 (m2 : Int)) ∧ w0.grownBy w' none)
        (first
          | assumption
          | exact KS.out _ (by repeat' first
                                      | assumption
                                      | exact And.right (And.right (And.right (And.right (by assumption))))
                                      | exact World.grownBy.refl _ _
                                      | exact gb_drew _ _
                                      | refine gb_trans ?_ (gb_alloc _ _ _)
                                      | refine gb_trans ?_ (gb_drew _ _)
                                      | refine gb_put ?_ ?_
                                      | refine gsz ?_
                                      | exact Nat.le_refl _
                                      | refine Nat.le_succ_of_le ?_
                                      | refine gb_trans ?_ (by assumption)
                                      | (simp only [alloc_sz]; omega)))
        (first
          | (go_at_call_of 66 (Value.agg #[Value.int IntKind.u64 (v : Int), Value.int IntKind.u64 (m : Int)]); refine (K1.out _).mono ?_; rintro e w' ⟨rfl, gA⟩
             try with_reducible (have gA := gb_trans (gb_drew _ none) gA)
             try with_reducible (have IA := isb_keep gA (IsB.new _ _ _); (try simp only [alloc_sz, drew_sz] at IA); obtain ⟨a1, a2, a3, a4, a5, a6, a7, a8, a9, a10⟩ := box_facts IA)
             try with_reducible (have IB := isb_keep gA (isb_keep (gb_alloc _ _ _) (IsB.new _ _ _)); (try simp only [alloc_sz, drew_sz] at IB); obtain ⟨b1, b2, b3, b4, b5, b6, b7, b8, b9, b10⟩ := box_facts IB))
          | (go_at_call_of 66 (Value.agg #[Value.int IntKind.u64 (v2 : Int), Value.int IntKind.u64 (m2 : Int)]); refine (K2.out _).mono ?_; rintro e w2 ⟨rfl, gB⟩
             try with_reducible (have JA := isb_keep gB (IsB.new _ _ _); (try simp only [alloc_sz, drew_sz] at JA); obtain ⟨c1, c2, c3, c4, c5, c6, c7, c8, c9, c10⟩ := box_facts JA)
             try with_reducible (have JB := isb_keep gB (isb_keep (gb_alloc _ _ _) (IsB.new _ _ _)); (try simp only [alloc_sz, drew_sz] at JB); obtain ⟨d1, d2, d3, d4, d5, d6, d7, d8, d9, d10⟩ := box_facts JB)
             try with_reducible (have KA := isb_keep gB IA; (try simp only [alloc_sz, drew_sz] at KA); obtain ⟨e1, e2, e3, e4, e5, e6, e7, e8, e9, e10⟩ := box_facts KA)
             try with_reducible (have KA := isb_keep gB (isb_keep (gb_alloc _ _ _) IA); (try simp only [alloc_sz, drew_sz] at KA); obtain ⟨e1, e2, e3, e4, e5, e6, e7, e8, e9, e10⟩ := box_facts KA)
             try with_reducible (have KB := isb_keep gB IB; (try simp only [alloc_sz, drew_sz] at KB); obtain ⟨f1, f2, f3, f4, f5, f6, f7, f8, f9, f10⟩ := box_facts KB)))
      all_goals (go_wp2_with fail)
      all_goals go_meet
      all_goals (
        have GA : w0.grownBy w' none := by first | with_reducible exact gA | with_reducible exact gb_trans (gb_alloc _ _ _) gA | with_reducible exact gb_trans (al2 _ _ _) gA
        have GB : w'.grownBy w2 none := by first | with_reducible exact gB | with_reducible exact gb_trans (gb_alloc _ _ _) gB | with_reducible exact gb_trans (al2 _ _ _) gB
        have G2 := gb_trans GA GB
        show Two w0 _ _ _ _ _ _ _ _
        first
          | with_reducible exact two1 G2
          | with_reducible exact two2 G2
          | with_reducible refine two3 JA ?_ G2
          | with_reducible refine two3 KA ?_ G2
          | with_reducible refine two5 JA ?_ G2
          | with_reducible refine two5 KA ?_ G2
          | with_reducible refine two4 JA JB ?_ ?_ ?_ G2
          | with_reducible refine two4 JB JA ?_ ?_ ?_ G2
          | with_reducible refine two4 KA KB ?_ ?_ ?_ G2
          | with_reducible refine two4 KB KA ?_ ?_ ?_ G2
          | with_reducible refine two4 JA KA ?_ ?_ ?_ G2
          | with_reducible refine two4 KA JA ?_ ?_ ?_ G2
          | trace_state)
      all_goals (have s1 := gsz gA; have s2 := gsz gB; (try simp only [alloc_sz] at s1 s2); omega)
    case rest =>
      obtain ⟨p7, p8, rfl, rfl, hne, l7, l8, B7, B8, gw⟩ := hcut
      have SU := Lib.hid (fun w => rsubset_any w xv xm yv ym lx1 lx2 ly1 ly2)
      have c70 : wc.cell? ⟨p7, 0, none⟩ = some (.int .u64 (xv : Int)) := B7.cell 0
      have c71 : wc.cell? ⟨p7, 1, none⟩ = some (.int .u64 (xm : Int)) := B7.cell 1
      have c80 : wc.cell? ⟨p8, 0, none⟩ = some (.int .u64 (yv : Int)) := B8.cell 0
      have c81 : wc.cell? ⟨p8, 1, none⟩ = some (.int .u64 (ym : Int)) := B8.cell 1
      cases hs : subN xv xm yv ym
      · rw [hs] at SU
        have IN := Lib.hid (fun w => rint_any w xv xm yv ym lx1 lx2 ly1 ly2)
        have HB7 := Lib.hid B7
        have HB8 := Lib.hid B8
        have HGW := Lib.hid (gb_trans GG.out gw)
        have HL7 := Lib.hid (show W.heap.size ≤ p7 from Nat.le_trans GG.out.size l7)
        have HL8 := Lib.hid (show W.heap.size ≤ p8 from Nat.le_trans GG.out.size l8)
        clear B7 B8 gw l7 l8
        go_wp2_with fail
        refine (SU.out _).mono ?_
        rintro e w3 ⟨rfl, g3⟩
        have HB7 := Lib.hid (HB7.out.keep0 g3)
        have HB8 := Lib.hid (HB8.out.keep0 g3)
        have HGW := Lib.hid (gb_trans HGW.out g3)
        clear c70 c71 c80 c81 g3
        have c70 : w3.cell? ⟨p7, 0, none⟩ = some (.int .u64 (xv : Int)) := HB7.out.cell 0
        have c71 : w3.cell? ⟨p7, 1, none⟩ = some (.int .u64 (xm : Int)) := HB7.out.cell 1
        have c80 : w3.cell? ⟨p8, 0, none⟩ = some (.int .u64 (yv : Int)) := HB8.out.cell 0
        have c81 : w3.cell? ⟨p8, 1, none⟩ = some (.int .u64 (ym : Int)) := HB8.out.cell 1
        go_wp2_with fail
        refine (IN.out _).mono ?_
        rintro e w4 ⟨rfl, g4⟩
        have HB7 := Lib.hid (HB7.out.keep0 g4)
        have HB8 := Lib.hid (HB8.out.keep0 g4)
        have HGW := Lib.hid (gb_trans HGW.out g4)
        clear c70 c71 c80 c81 g4
        have c70 : ∀ o, (w4.alloc o).cell? ⟨p7, 0, none⟩ = some (.int .u64 (xv : Int)) := fun o => (HB7.out.alloc o).cell 0
        have c71 : ∀ o, (w4.alloc o).cell? ⟨p7, 1, none⟩ = some (.int .u64 (xm : Int)) := fun o => (HB7.out.alloc o).cell 1
        cases hm : meetN xv xm yv ym
        · have hD : subC xv xm yv ym k = [(xv, xm)] := by unfold subC; rw [hm]; rfl
          go_wp2_with (at_builtin; refine pushCube rfl _ _ rfl W.heap.size _ [] rfl (CLs.nil _ _) _ _ (xv, xm) rfl (two_cell _ _ _ _ _ (isb_last _ _ _ _) rfl) (by simp) (by have := HGW.out.size; simp; omega) ?_)
          intro V9 w9 o9 g9
          go_wp2
          go_ret
          refine ⟨_, rfl, ?_, ?_⟩
          · rw [HS.out, hD]; exact o9
          · exact gb_trans HGW.out (gb_trans (al2 _ _ _) g9)
        · obtain ⟨F, hF⟩ : ∃ F, F = andN ym xm := ⟨_, rfl⟩
          have hD : subC xv xm yv ym k = subR yv F k xv xm := by unfold subC; rw [hm, hF]; rfl
          obtain ⟨D, hDD⟩ : ∃ D, D = subR yv F k xv xm := ⟨_, rfl⟩
          have HD := Lib.hid hDD
          have HX := Lib.hid (hD.trans hDD.symm)
          have HF := Lib.hid hF
          clear hD hDD hF
          go_wp2
          have q7 := HB7.out.lt
          have q8 := HB8.out.lt
          obtain ⟨bs, hbs⟩ : ∃ bs, bs = w4.heap.size := ⟨_, rfl⟩
          have HBW := Lib.hid (show W.heap.size ≤ bs by rw [hbs]; exact HGW.out.size)
          have HB4 := Lib.hid (show bs ≤ w4.heap.size by rw [hbs]; exact Nat.le_refl _)
          rw [← hbs] at q7 q8
          have HQ7 := Lib.hid q7
          have HQ8 := Lib.hid q8
          clear hbs q7 q8
          go_loopw [9, 12] (fun o i wr => ∃ (j xv' xm' : Nat) (out : List (Nat × Nat)), j ≤ k ∧ i = .int .i64 ((j : Int) - 1) ∧ CLs wr bs o out ∧ out.length + j ≤ 64 ∧ out ++ subR yv F j xv' xm' = D ∧ B64 xv' ∧ B64 xm' ∧ (∀ t, t < j → xm'.testBit t = xm.testBit t) ∧ IsB wr p7 49 #[.int .u64 xv', .int .u64 xm'] ∧ IsB wr p8 49 #[.int .u64 yv, .int .u64 ym] ∧ W.grownBy wr none ∧ bs ≤ wr.heap.size) (fun _ i _ => ((intOf i) + 1).toNat)
          case atStart => exact ⟨k, xv, xm, [], Nat.le_refl _, rfl, CLs.nil _ _, by simp; omega, by rw [HD.out]; rfl, lx1, lx2, fun _ _ => rfl, HB7.out.alloc _, HB8.out.alloc _, gb_trans HGW.out (gb_alloc _ _ _), Nat.le_trans HB4.out (gb_alloc w4 _ none).size⟩
          case round =>
            obtain ⟨j, xv', xm', out, hj, rfl, ho, hol, hout, bv', bm', hsame, B7, B8, gw, hbw⟩ := hrel
            obtain ⟨oa, oc, rfl⟩ := ho.shape
            have HO := Lib.hid ho
            have HB7 := Lib.hid B7
            have HB8 := Lib.hid B8
            have HGW := Lib.hid gw
            have HOUT := Lib.hid hout
            have HSAME := Lib.hid hsame
            have HBR := Lib.hid hbw
            clear ho hout B7 B8 gw hsame hbw c70 c71
            cases j with
            | zero =>
              go_wp2
              go_ret
              refine ⟨_, rfl, ?_, HGW.out⟩
              have e := HOUT.out
              rw [show subR yv F 0 xv' xm' = [] from rfl, List.append_nil] at e
              rw [HS.out, HX.out, ← e]
              exact own_low HO.out HBW.out
            | succ j =>
              have c70 : wr.cell? ⟨p7, 0, none⟩ = some (.int .u64 (xv' : Int)) := HB7.out.cell 0
              have c71 : wr.cell? ⟨p7, 1, none⟩ = some (.int .u64 (xm' : Int)) := HB7.out.cell 1
              have c80 : wr.cell? ⟨p8, 0, none⟩ = some (.int .u64 (yv : Int)) := HB8.out.cell 0
              have c81 : wr.cell? ⟨p8, 1, none⟩ = some (.int .u64 (ym : Int)) := HB8.out.cell 1
              have i1 : (((j + 1 : Nat) : Int) - 1) = (j : Int) := by omega
              rw [i1]
              have i2 : (0 : Int) ≤ (j : Int) := by omega
              have FB : F.testBit j = (ym.testBit j && !xm'.testBit j) := by rw [HF.out, tb_andN _ _ _ ly2 lx2, HSAME.out j (by omega)]
              obtain ⟨b, hb⟩ : ∃ b, b = 2 ^ j := ⟨_, rfl⟩
              have bb : B64 b := by rw [hb]; exact one_lt j (by omega)
              have eb : IntKind.u64.wrap ((2 : Int) ^ j) = (b : Int) := by
                rw [hb] at bb ⊢
                rw [← u64w _ bb]; simp
              obtain ⟨p, hp, hpl, ep⟩ := bA ym b ly2 bb
              obtain ⟨q, hq, hql, eq⟩ := bA xm' b bm' bb
              have pz : p = if ym.testBit j = true then b else 0 := by rw [hp, hb]; exact and_bit ym j
              have qz : q = if xm'.testBit j = true then b else 0 := by rw [hq, hb]; exact and_bit xm' j
              have bpos : 0 < b := by rw [hb]; exact Nat.two_pow_pos j
              have HSUB := Lib.hid (show subR yv F (j + 1) xv' xm' = if F.testBit j = true then (xv' ||| andN b yv, xm' ||| b) :: subR yv F j (xv' ||| (b &&& yv)) (xm' ||| b) else subR yv F j xv' xm' by rw [hb]; rfl)
              have HBIT := Lib.hid (show ∀ t, t < j → (xm' ||| b).testBit t = xm'.testBit t from fun t ht => by rw [Nat.testBit_or, hb, bit_one, decide_eq_false (by omega), Bool.or_false])
              clear hp hq hb
              cases hy : ym.testBit j
              · rw [hy] at pz FB
                have p0 : (p : Int) = 0 := by rw [pz]; rfl
                have p1 : ((p : Int) != 0) = false := by rw [p0]; rfl
                clear pz qz
                go_wp2
                go_roundw
                case rel =>
                  refine ⟨j, xv', xm', out, by omega, rfl, HO.out, by omega, ?_, bv', bm', fun t ht => HSAME.out t (by omega), HB7.out, HB8.out, HGW.out, HBR.out⟩
                  rw [← HOUT.out, HSUB.out, FB]; rfl
                case measure => (simp [intOf] <;> omega)
              · cases hx : xm'.testBit j
                · rw [hy, hx] at FB
                  rw [hy, if_pos rfl] at pz
                  rw [hx, if_neg (by decide)] at qz
                  have p0 : ¬ (p : Int) = 0 := by omega
                  have p1 : ((p : Int) != 0) = true := by rw [bne_iff_ne]; omega
                  have q0 : (q : Int) = 0 := by omega
                  have q1 : ((q : Int) == 0) = true := by rw [beq_iff_eq]; omega
                  obtain ⟨r, hr, hrl, er⟩ := bO xm' b bm' bb
                  obtain ⟨s, hs', hsl, es⟩ := bA yv b ly1 bb
                  obtain ⟨t, ht, htl, et⟩ := bX s b hsl bb
                  obtain ⟨u, hu, hul, eu⟩ := bO xv' t bv' htl
                  obtain ⟨x2, hx2, hx2l, ex2⟩ := bO xv' s bv' hsl
                  have HU := Lib.hid (show xv' ||| andN b yv = u by rw [hu, ht, hs', andN_xor b yv bb ly1])
                  have HR := Lib.hid hr.symm
                  have HX2 := Lib.hid (show xv' ||| (b &&& yv) = x2 by rw [hx2, hs', Nat.and_comm])
                  clear pz qz hr hs' ht hu hx2
                  have f7 := own_far HO.out HQ7.out
                  have c7f : wr.frozen? ⟨p7, 1, none⟩ = false := HB7.out.free 1
                  have HO2 := Lib.hid (show CLs (wr.setCell ⟨p7, 1, none⟩ (.int .u64 r)) bs (.slice oa out.length oc) out from HO.out.kept (gb_set _ _ _ _) (.inr f7))
                  have HG2 := Lib.hid (show ∀ o, W.grownBy ((wr.setCell ⟨p7, 1, none⟩ (.int .u64 r)).alloc o) none from fun o => gb_trans (gb_put HGW.out HL7.out) (gb_alloc _ _ _))
                  have HS2 := Lib.hid (show ∀ o, bs ≤ ((wr.setCell ⟨p7, 1, none⟩ (.int .u64 r)).alloc o).heap.size from fun o => Nat.le_trans HBR.out (by rw [alloc_sz, set_sz]; omega))
                  clear f7
                  go_wp2_with (at_builtin; refine pushCube rfl _ _ rfl bs _ out rfl (HO2.out.keep0 (gb_alloc _ _ _)) _ _ (u, r) rfl (two_cell _ _ _ _ _ (isb_set _ _ _ _ _) rfl) (by omega) (HS2.out _) ?_)
                  intro V9 w9 o9 g9
                  have n7 : some p7 ≠ Value.ownBlock (.slice oa out.length oc) := fun e => own_far HO.out HQ7.out e.symm
                  have n8 : some p8 ≠ Value.ownBlock (.slice oa out.length oc) := fun e => own_far HO.out HQ8.out e.symm
                  have HG9 := Lib.hid (gb_own (HG2.out _) (HO2.out.keep0 (gb_alloc _ _ _)) HBW.out g9)
                  have HS9 := Lib.hid (Nat.le_trans (HS2.out _) g9.size)
                  have B7n : IsB w9 p7 49 #[.int .u64 xv', .int .u64 r] := ((HB7.out.set 1 (.int .u64 r)).alloc _).keep g9 n7
                  have B8n : IsB w9 p8 49 #[.int .u64 yv, .int .u64 ym] := ((HB8.out.set_far (Ne.symm hne) 1 (.int .u64 r)).alloc _).keep g9 n8
                  have HB7n := Lib.hid B7n
                  have HB8n := Lib.hid B8n
                  have HO9 := Lib.hid o9
                  clear c70 c71 c80 c81 c7f o9 g9 n7 n8 B7n B8n
                  have c70 : w9.cell? ⟨p7, 0, none⟩ = some (.int .u64 (xv' : Int)) := HB7n.out.cell 0
                  have c80 : w9.cell? ⟨p8, 0, none⟩ = some (.int .u64 (yv : Int)) := HB8n.out.cell 0
                  have c71 : w9.cell? ⟨p7, 1, none⟩ = some (.int .u64 (r : Int)) := HB7n.out.cell 1
                  have c7f : w9.frozen? ⟨p7, 0, none⟩ = false := HB7n.out.free 0
                  go_wp2
                  go_roundw
                  case rel =>
                    refine ⟨j, x2, r, out ++ [(u, r)], by omega, rfl, HO9.out.kept (gb_set _ _ _ _) (.inr (own_far HO9.out HQ7.out)), by simp; omega, ?_, hx2l, hrl, fun t ht => ?_, HB7n.out.set 0 _, HB8n.out.set_far (Ne.symm hne) 0 _, gb_put HG9.out HL7.out, by rw [set_sz]; exact HS9.out⟩
                    · rw [← HOUT.out, HSUB.out, FB, if_pos (show (true && !false) = true from rfl), HU.out, HR.out, HX2.out, List.append_assoc]; rfl
                    · rw [← HR.out, HBIT.out t ht, HSAME.out t (by omega)]
                  case measure => (simp [intOf] <;> omega)
                · rw [hy, hx] at FB
                  rw [hy, if_pos rfl] at pz
                  rw [hx, if_pos rfl] at qz
                  have p0 : ¬ (p : Int) = 0 := by omega
                  have p1 : ((p : Int) != 0) = true := by rw [bne_iff_ne]; omega
                  have q0 : ¬ (q : Int) = 0 := by omega
                  have q1 : ((q : Int) == 0) = false := by rw [beq_eq_false_iff_ne]; omega
                  clear pz qz
                  go_wp2
                  go_roundw
                  case rel =>
                    refine ⟨j, xv', xm', out, by omega, rfl, HO.out, by omega, ?_, bv', bm', fun t ht => HSAME.out t (by omega), HB7.out, HB8.out, HGW.out, HBR.out⟩
                    rw [← HOUT.out, HSUB.out, FB]; rfl
                  case measure => (simp [intOf] <;> omega)
      · rw [hs] at SU
        have hD := sub_nil xv xm yv ym k lx2 ly2 hs
        go_wp2_with fail
        refine (SU.out _).mono ?_
        rintro e w3 ⟨rfl, g3⟩
        go_wp2
        go_ret
        refine ⟨_, rfl, ?_, ?_⟩
        · rw [HS.out, hD]; exact CLs.nil _ _
        · exact gb_trans GG.out (gb_trans gw g3)
  · have HD : subL v m v2 m2 x = [] := by unfold subL; rw [if_neg hw]
    rw [HD]
    by_cases h1 : x < 1
    · go_enter Try.func46, Try.ntmps46
      go_wp2
      go_ret
      exact ⟨_, rfl, CLs.nil _ _, al2 _ _ _⟩
    · have h2 : 64 < x := by omega
      go_enter Try.func46, Try.ntmps46
      go_wp2
      go_ret
      exact ⟨_, rfl, CLs.nil _ _, al2 _ _ _⟩
end Go.Proofs.Yteemhabgliglmaa
