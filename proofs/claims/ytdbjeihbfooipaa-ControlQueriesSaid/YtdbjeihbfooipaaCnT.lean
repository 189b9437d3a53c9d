/- The law Queries: Count, Nesting, Tables and Node are those of the definition; no condition. -/
import Derived.Test.YtdbjeihbfooipaaCnR
import Derived.Test.YtdbjeihbfooipaaCnS
import Derived.Test.YtdbjeihbfooipaaCnJ
namespace Go.Proofs.Ytdbjeihbfooipaa
open Go.RowKit
set_option linter.unusedVariables false
theorem eqv_symm : ∀ (T U : CT), T.eqv U → U.eqv T
  | .nil, .nil, _ => trivial
  | .cons _ _ _ _ _ th _ el r, .cons _ _ _ _ _ th2 _ el2 r2, h => ⟨h.1.symm, h.2.1.symm, h.2.2.1.symm, eqv_symm th th2 h.2.2.2.1, eqv_symm el el2 h.2.2.2.2.1, eqv_symm r r2 h.2.2.2.2.2⟩
  | .nil, .cons _ _ _ _ _ _ _ _ _, h => h.elim
  | .cons _ _ _ _ _ _ _ _ _, .nil, h => h.elim
theorem EqN.symm {x y : CV} (h : EqN x y) : EqN y x := ⟨h.k.symm, h.t.symm, h.N.symm, eqv_symm _ _ h.th, eqv_symm _ _ h.el⟩
theorem eqv_N : ∀ (T U : CT), T.eqv U → U.pre.map (·.N) = T.pre.map (·.N)
  | .nil, .nil, _ => rfl
  | .cons k t c N s th u el r, .cons k2 t2 c2 N2 s2 th2 u2 el2 r2, h => by
    have p : (CT.cons k t c N s th u el r).pre = ⟨k, t, c, N, s, th, u, el⟩ :: (th.pre ++ (el.pre ++ r.pre)) := rfl
    have p2 : (CT.cons k2 t2 c2 N2 s2 th2 u2 el2 r2).pre = ⟨k2, t2, c2, N2, s2, th2, u2, el2⟩ :: (th2.pre ++ (el2.pre ++ r2.pre)) := rfl
    rw [p, p2]
    simp only [List.map_cons, List.map_append]
    rw [eqv_N th th2 h.2.2.2.1, eqv_N el el2 h.2.2.2.2.1, eqv_N r r2 h.2.2.2.2.2, h.2.2.1]
  | .nil, .cons _ _ _ _ _ _ _ _ _, h => h.elim
  | .cons _ _ _ _ _ _ _ _ _, .nil, h => h.elim
theorem eqv_cnt {T U : CT} (h : T.eqv U) : U.cnt = T.cnt := by
  have e := congrArg List.length (eqv_N T U h)
  rw [List.length_map, List.length_map] at e
  exact e
theorem eqv_cnd {T U : CT} (h : T.eqv U) (c : Cnd T) : Cnd U := by
  intro x hx
  have m : x.N ∈ U.pre.map (·.N) := List.mem_map.2 ⟨x, hx, rfl⟩
  rw [eqv_N T U h] at m
  obtain ⟨y, hy, e⟩ := List.mem_map.1 m
  rw [← e]
  exact c y hy
theorem one_st {w : World} {b : Nat} {y : CV} (hb : IsB w b 67 #[.int .i64 y.k, .int .i64 y.t, .slice y.c.a y.c.n y.c.c, .slice y.s.a y.s.n y.s.c, .slice y.u.a y.u.n y.u.c]) (hv : VM w y) : ST w ⟨some ⟨b, 0, none⟩, 1, 1⟩ (y.ct .nil) := by
  refine ⟨rfl, (fun e => by cases e), Nat.le_refl _, fun ad e => ?_⟩
  cases e
  refine ctm_mk ?_ hv trivial
  rw [addr0c]
  exact ⟨hb.cell 0, hb.cell 1, hb.cell 2, hb.cell 3, hb.cell 4⟩
theorem sm_cnd {T : CT} {n : Nat} (h : SmC T n) : Cnd T := fun x hx => Nat.le_trans (h.2.2 x hx) (by decide)
set_option maxRecDepth 100000 in
set_option maxHeartbeats 40000000 in
theorem queries_walk (w : World) (s : Sl) (T : CT) (hS : ST w s T) (at_ : Int) : Calls Try.prog 6 #[.slice s.a s.n s.c, .int .i64 at_] w (RetV (.bool true) w) := by
  have HS := Lib.hid hS
  have SM := Lib.hid (small20_any w s T hS 60 (by decide))
  have AW := Lib.hid (fun w => works20_any w)
  unfold RetV at AW
  clear hS
  go_enter Try.func6, Try.ntmps6
  go_wp2_with fail
  refine SM.out.mono ?_
  rintro e w1 ⟨⟨b, rfl, hb⟩, g1⟩
  have G1 := Lib.hid g1
  have HB := Lib.hid hb
  clear SM g1 hb
  cases b with
  | false =>
    go_wp2_with fail
    refine (AW.out _).mono ?_
    rintro e x1 ⟨rfl, g⟩
    have GZ := Lib.hid (gb_trans G1.out g)
    clear g
    go_wp2
    go_ret
    exact ⟨rfl, GZ.out⟩
  | true =>
    have sm := HB.out rfl
    have hc : T.cnt ≤ 1000000 := Nat.le_trans sm.1 (by decide)
    have hcd := sm_cnd sm
    have HC := Lib.hid hc
    have HCD := Lib.hid hcd
    have KN := Lib.hid (fun (w2 : World) (q : w.grownBy w2 none) => knode_any w2 s T (HS.out.keep0 q) hc hcd at_)
    have RN := Lib.hid (fun (w2 : World) (q : w.grownBy w2 none) => rnode_any w2 s T (HS.out.keep0 q) hc at_)
    have KC := Lib.hid (fun (w2 : World) (q : w.grownBy w2 none) => count_any w2 s T (HS.out.keep0 q) hc)
    have RC := Lib.hid (fun (w2 : World) (q : w.grownBy w2 none) => rcount_any w2 s T (HS.out.keep0 q) hc)
    have KE := Lib.hid (fun (w2 : World) (q : w.grownBy w2 none) => knest_any w2 s T (HS.out.keep0 q) hc)
    have RE := Lib.hid (fun (w2 : World) (q : w.grownBy w2 none) => rnest_any w2 s T (HS.out.keep0 q) hc)
    have KT := Lib.hid (fun (w2 : World) (q : w.grownBy w2 none) => ktables_any w2 s T (HS.out.keep0 q) hc)
    have RT := Lib.hid (fun (w2 : World) (q : w.grownBy w2 none) => rtables_any w2 s T (HS.out.keep0 q) hc)
    unfold RetKN at KN
    unfold RetNd at RN
    unfold RetV at KC RC KE RE
    unfold RetNL at KT RT
    have XV := Lib.hid (show VM w ((nodA T.pre at_).getD cz) ∧ ((nodA T.pre at_).getD cz).th.cnt ≤ 60 ∧ ((nodA T.pre at_).getD cz).el.cnt ≤ 60 ∧ Cnd (((nodA T.pre at_).getD cz).ct .nil) by
      by_cases h : 0 ≤ at_ ∧ at_ < (T.pre.length : Int)
      · have e : nodA T.pre at_ = some (T.pre.getD at_.toNat cz) := by unfold nodA; rw [if_pos h]
        have m : T.pre.getD at_.toNat cz ∈ T.pre := by
          rw [List.getD_eq_getElem?_getD, List.getElem?_eq_getElem (show at_.toNat < T.pre.length by omega)]
          exact List.getElem_mem _
        rw [e]
        obtain ⟨p1, p2, p3, p4⟩ := pre_mem T _ m
        have hs := sm.1
        refine ⟨HS.out.vm _ m, by show (T.pre.getD at_.toNat cz).th.cnt ≤ 60; omega, by show (T.pre.getD at_.toNat cz).el.cnt ≤ 60; omega, fun y hy => ?_⟩
        rw [CV.pre_ct] at hy
        rcases List.mem_cons.1 hy with rfl | hy
        · exact hcd _ m
        rcases List.mem_append.1 hy with hy | hy
        · exact hcd _ (p3 y hy)
        rcases List.mem_append.1 hy with hy | hy
        · exact hcd _ (p4 y hy)
        · cases hy
      · have e : nodA T.pre at_ = none := by unfold nodA; rw [if_neg h]
        rw [e]
        refine ⟨cz_vm _, by decide, by decide, fun y hy => ?_⟩
        have z : (cz.ct .nil).pre = [cz] := rfl
        rw [Option.getD_none, z, List.mem_singleton] at hy
        subst hy
        decide)
    generalize (nodA T.pre at_).isSome = isb at *
    generalize (nodA T.pre at_).getD cz = x at *
    have TLn := Lib.hid (show (tabL T.pre).length ≤ 10000 by have := tabL_len T.pre; have := sm.1; unfold CT.cnt at this; omega)
    generalize tabL T.pre = tb at *
    generalize T.cnt = tc at *
    generalize T.nest = tn at *
    clear sm hc hcd HB
    go_upto_region 4 with (go_at_call 30; refine (KN.out _ G1.out).mono ?_; clear KN; rintro e w2 ⟨y, rfl, eqn, vm, g2⟩; have EQ := Lib.hid eqn; have VY := Lib.hid vm; have G2 := Lib.hid (gb_trans G1.out g2); clear eqn vm g2; dsimp only [CV.cs, Sl.v])
    have B3 := Lib.hid (IsB.new w2 67 #[.int .i64 y.k, .int .i64 y.t, .slice y.c.a y.c.n y.c.c, .slice y.s.a y.s.n y.s.c, .slice y.u.a y.u.n y.u.c])
    have G3 := Lib.hid (gb_trans G2.out (gb_alloc w2 (.cells #[.int .i64 y.k, .int .i64 y.t, .slice y.c.a y.c.n y.c.c, .slice y.s.a y.s.n y.s.c, .slice y.u.a y.u.n y.u.c] 67) none))
    have V3 := Lib.hid (VY.out.keep0 (gb_alloc w2 (.cells #[.int .i64 y.k, .int .i64 y.t, .slice y.c.a y.c.n y.c.c, .slice y.s.a y.s.n y.s.c, .slice y.u.a y.u.n y.u.c] 67) none))
    generalize w2.alloc (.cells #[.int .i64 y.k, .int .i64 y.t, .slice y.c.a y.c.n y.c.c, .slice y.s.a y.s.n y.s.c, .slice y.u.a y.u.n y.u.c] 67) = w3 at *
    generalize w2.heap.size = b3 at *
    go_upto_region 5 with (go_at_call 31; refine (RN.out _ G3.out).mono ?_; clear RN; rintro e w4 ⟨rfl, g4⟩; have G4 := Lib.hid (gb_trans G3.out g4); have B4 := Lib.hid (B3.out.keep0 g4); have V4 := Lib.hid (V3.out.keep0 g4); clear g4; dsimp only [CV.cs, Sl.v])
    have B5 := Lib.hid (IsB.new w4 67 #[.int .i64 x.k, .int .i64 x.t, .slice x.c.a x.c.n x.c.c, .slice x.s.a x.s.n x.s.c, .slice x.u.a x.u.n x.u.c])
    have G5 := Lib.hid (gb_trans G4.out (gb_alloc w4 (.cells #[.int .i64 x.k, .int .i64 x.t, .slice x.c.a x.c.n x.c.c, .slice x.s.a x.s.n x.s.c, .slice x.u.a x.u.n x.u.c] 67) none))
    have V5 := Lib.hid (V4.out.keep0 (gb_alloc w4 (.cells #[.int .i64 x.k, .int .i64 x.t, .slice x.c.a x.c.n x.c.c, .slice x.s.a x.s.n x.s.c, .slice x.u.a x.u.n x.u.c] 67) none))
    have C5_ := Lib.hid (B4.out.keep0 (gb_alloc w4 (.cells #[.int .i64 x.k, .int .i64 x.t, .slice x.c.a x.c.n x.c.c, .slice x.s.a x.s.n x.s.c, .slice x.u.a x.u.n x.u.c] 67) none))
    generalize w4.alloc (.cells #[.int .i64 x.k, .int .i64 x.t, .slice x.c.a x.c.n x.c.c, .slice x.s.a x.s.n x.s.c, .slice x.u.a x.u.n x.u.c] 67) = w5 at *
    generalize w4.heap.size = b5 at *
    clear B3 B4 V3 V4 VY G1 G2 G3 G4
    have RQ := Lib.hid (fun (w2 : World) (a b : Nat) (ha : IsB w2 a 67 #[.int .i64 y.k, .int .i64 y.t, .slice y.c.a y.c.n y.c.c, .slice y.s.a y.s.n y.s.c, .slice y.u.a y.u.n y.u.c]) (hb : IsB w2 b 67 #[.int .i64 x.k, .int .i64 x.t, .slice x.c.a x.c.n x.c.c, .slice x.s.a x.s.n x.s.c, .slice x.u.a x.u.n x.u.c]) (hy : VM w2 y) (hx : VM w2 x) => (by
      have ee := EQ.out.symm
      have ev : (y.ct .nil).eqv (x.ct .nil) := ⟨ee.k, ee.t, ee.N, ee.th, ee.el, trivial⟩
      have xc : (x.ct .nil).cnt ≤ 1000 := by rw [CV.cnt_ct, CT.cnt_nil]; have := XV.out.2.1; have := XV.out.2.2.1; omega
      have yc : (y.ct .nil).cnt ≤ 1000 := by rw [← eqv_cnt ev]; exact xc
      exact req_rec ((y.ct .nil).cnt + 1) (y.ct .nil) (x.ct .nil) ⟨some ⟨a, 0, none⟩, 1, 1⟩ ⟨some ⟨b, 0, none⟩, 1, 1⟩ w2 (by omega) (by omega) (eqv_cnd (eqv_symm _ _ ev) XV.out.2.2.2) (one_st ha hy) (one_st hb hx) ev :
        Calls Try.prog 39 #[.slice (some ⟨a, 0, none⟩) 1 1, .slice (some ⟨b, 0, none⟩) 1 1] w2 (RetV (.bool true) w2)))
    unfold RetV at RQ
    go_wp2_with (first
      | (go_at_call 32; refine (KC.out _ G5.out).mono ?_; clear KC; rintro e w6 ⟨rfl, g6⟩; have G6 := Lib.hid (gb_trans G5.out g6); have H6 := Lib.hid g6; clear g6)
      | (go_at_call 33; refine (RC.out _ G6.out).mono ?_; clear RC; rintro e w7 ⟨rfl, g7⟩; have G7 := Lib.hid (gb_trans G6.out g7); have H7 := Lib.hid (gb_trans H6.out g7); clear g7)
      | (go_at_call 34; refine (KE.out _ G7.out).mono ?_; clear KE; rintro e w8 ⟨rfl, g8⟩; have G8 := Lib.hid (gb_trans G7.out g8); have H8 := Lib.hid (gb_trans H7.out g8); clear g8)
      | (go_at_call 35; refine (RE.out _ G8.out).mono ?_; clear RE; rintro e w9 ⟨rfl, g9⟩; have G9 := Lib.hid (gb_trans G8.out g9); have H9 := Lib.hid (gb_trans H8.out g9); clear g9)
      | (go_at_call 37; refine (KT.out _ G9.out).mono ?_; clear KT; rintro e w10 ⟨a10, c10, rfl, n10, g10⟩; have G10 := Lib.hid (gb_trans G9.out g10); have H10 := Lib.hid (gb_trans H9.out g10); have Z10 := Lib.hid (nl_sz2 n10 rfl); clear n10 g10)
      | (go_at_call 38; refine (RT.out _ G10.out).mono ?_; clear RT; rintro e w11 ⟨a11, c11, rfl, n11, g11⟩; have G11 := Lib.hid (gb_trans G10.out g11); have H11 := Lib.hid (gb_trans H10.out g11); have Z11 := Lib.hid (nl_sz2 n11 rfl); replace Z10 := Lib.hid (Z10.out.keep0 g11); clear n11 g11)
      | (go_at_call 36; refine (eqi_any _ _ _ _ _ _ _ tb tb Z10.out Z11.out TLn.out TLn.out).mono ?_; rintro e w12 ⟨rfl, g12⟩; rw [decide_eq_true rfl]; have G12 := Lib.hid (gb_trans G11.out g12); have H12 := Lib.hid (gb_trans H11.out g12); have A1 := Lib.hid (gb_alloc w12 (.cells #[.int .i64 y.k, .int .i64 y.t, .slice y.c.a y.c.n y.c.c, .slice y.s.a y.s.n y.s.c, .slice y.u.a y.u.n y.u.c] 67) none); have P3 := C5_.out.keep0 H12.out; have y0 := P3.cell 0; have y1 := P3.cell 1; have y2 := P3.cell 2; have y3 := P3.cell 3; have y4 := P3.cell 4; have P5 := B5.out.keep0 (gb_trans H12.out A1.out); have x0 := P5.cell 0; have x1 := P5.cell 1; have x2 := P5.cell 2; have x3 := P5.cell 3; have x4 := P5.cell 4; dsimp at y0 y1 y2 y3 y4 x0 x1 x2 x3 x4; clear g12 P3 P5; have N1 := Lib.hid ((IsB.new w12 67 #[.int .i64 y.k, .int .i64 y.t, .slice y.c.a y.c.n y.c.c, .slice y.s.a y.s.n y.s.c, .slice y.u.a y.u.n y.u.c]).alloc (.cells #[.int .i64 x.k, .int .i64 x.t, .slice x.c.a x.c.n x.c.c, .slice x.s.a x.s.n x.s.c, .slice x.u.a x.u.n x.u.c] 67)); have N2 := IsB.new (w12.alloc (.cells #[.int .i64 y.k, .int .i64 y.t, .slice y.c.a y.c.n y.c.c, .slice y.s.a y.s.n y.s.c, .slice y.u.a y.u.n y.u.c] 67)) 67 #[.int .i64 x.k, .int .i64 x.t, .slice x.c.a x.c.n x.c.c, .slice x.s.a x.s.n x.s.c, .slice x.u.a x.u.n x.u.c]; rw [sz_al] at N2; have N2 := Lib.hid N2; have A2 := Lib.hid (gb_trans A1.out (gb_alloc (w12.alloc (.cells #[.int .i64 y.k, .int .i64 y.t, .slice y.c.a y.c.n y.c.c, .slice y.s.a y.s.n y.s.c, .slice y.u.a y.u.n y.u.c] 67)) (.cells #[.int .i64 x.k, .int .i64 x.t, .slice x.c.a x.c.n x.c.c, .slice x.s.a x.s.n x.s.c, .slice x.u.a x.u.n x.u.c] 67) none)); have GX := Lib.hid (gb_trans G12.out A2.out); have HX := Lib.hid (gb_trans H12.out A2.out))
      | (go_at_call 39; refine (RQ.out _ _ _ N1.out N2.out (V5.out.keep0 HX.out) (XV.out.1.keep0 GX.out)).mono ?_; rintro e w13 ⟨rfl, g13⟩; have G13 := Lib.hid (gb_trans GX.out g13); clear g13 x0 x1 x2 x3 x4 y0 y1 y2 y3 y4)
      | (go_at_call 27; refine (AW.out _).mono ?_; rintro e w14 ⟨rfl, g14⟩; have G14 := Lib.hid (gb_trans G13.out g14); clear g14))
    go_ret
    exact ⟨rfl, G14.out⟩
end Go.Proofs.Ytdbjeihbfooipaa
