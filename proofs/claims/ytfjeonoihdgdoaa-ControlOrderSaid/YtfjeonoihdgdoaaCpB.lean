/- The law Order: the tables applied are a part of all tables, in their order, and every node is numbered ahead of its branches; the walk; no condition. -/
import Derived.Test.YtfjeonoihdgdoaaCpA
import Derived.WalkMore
namespace Go.Proofs.Ytfjeonoihdgdoaa
open Go.RowKit
set_option linter.unusedVariables false
theorem kt_low {w w4 w5 : World} {b z : Nat} (g : w.grownBy w4 none) (k : Kt (OwW b z) w4 w5) (hb : w.heap.size ≤ b) (hz : b < z) : w.grownBy w5 none :=
  Kt.gb (own := fun k _ => w.heap.size ≤ k) ((Kt.of_gb g).trans (k.mono (fun k o q => by
    cases o <;> first | exact q.elim | (rcases q with ⟨q, _⟩ | ⟨q, _⟩ <;> omega)))) (fun k o hk q => by omega)
theorem nod_in {T : CT} {i : Nat} (h : i < T.cnt) : nodA T.pre (i : Int) = some (T.pre.getD i cz) := by
  have l : T.pre.length = T.cnt := rfl
  unfold nodA
  rw [if_pos (by rw [l]; omega), Int.toNat_natCast]
theorem nod_end (T : CT) : nodA T.pre (T.cnt : Int) = none := by
  have l : T.pre.length = T.cnt := rfl
  unfold nodA
  rw [if_neg (by rw [l]; omega)]
theorem addr00 (ad : Addr) : ad.add 0 = ad := by unfold Addr.add; split <;> simp_all
theorem nod_low (T : CT) : nodA T.pre (-1) = none := by
  unfold nodA
  rw [if_neg (by omega)]
set_option maxRecDepth 100000 in
set_option maxHeartbeats 16000000 in
theorem order_walk (w : World) (s : Sl) (T : CT) (hS : ST w s T) (a : Sl) (A : List Bool) (hA : SB w a.a a.n a.c A) : Calls Try.prog 4 #[.slice s.a s.n s.c, .slice a.a a.n a.c] w (RetV (.bool true) w) := by
  have HS := Lib.hid hS
  have HA := Lib.hid hA
  have SM := Lib.hid (small20_any w s T hS 60 (by decide))
  have AW := Lib.hid (fun w => works20_any w)
  unfold RetV at AW
  clear hS hA
  go_enter Try.func4, Try.ntmps4
  go_wp2_with fail
  refine SM.out.mono ?_
  rintro e w1 ⟨⟨b, rfl, hb⟩, g1⟩
  have G1 := Lib.hid g1
  have HB := Lib.hid hb
  clear SM g1 hb
  cases b with
  | false =>
    go_wp2_with fail
    refine (AW.out _).mono ?_
    rintro e x1 ⟨rfl, g⟩
    have GZ := Lib.hid (gb_trans G1.out g)
    clear g
    go_wp2
    go_ret
    exact ⟨rfl, GZ.out⟩
  | true =>
    by_cases hl : (20 : Int) < a.n
    · go_wp2_with fail
      refine (AW.out _).mono ?_
      rintro e x1 ⟨rfl, g⟩
      have GZ := Lib.hid (gb_trans G1.out g)
      clear g
      go_wp2
      go_ret
      exact ⟨rfl, GZ.out⟩
    have AN := Lib.hid (show a.n ≤ 1000000 by omega)
    have sm := HB.out rfl
    have cb : T.cnt ≤ 60 := sm.1
    have HC := Lib.hid (Nat.le_trans sm.1 (show 60 ≤ 1000 by decide))
    have HCD := Lib.hid (sm_cnd sm)
    clear sm HB
    go_upto_region 4 with fail
    have GA := Lib.hid (gb_trans G1.out (gb_alloc w1 (.cells #[.slice a.a a.n a.c, .int .i64 0, .slice none 0 0, .slice none 0 0] 56) none))
    have B3 := (IsB.new w1 56 #[.slice a.a a.n a.c, .int .i64 0, .slice none 0 0, .slice none 0 0])
    have SZ : (w1.alloc (.cells #[.slice a.a a.n a.c, .int .i64 0, .slice none 0 0, .slice none 0 0] 56)).heap.size = w1.heap.size + 1 := by rw [sz_al]
    generalize w1.alloc (.cells #[.slice a.a a.n a.c, .int .i64 0, .slice none 0 0, .slice none 0 0] 56) = w4 at *
    obtain ⟨b, hb⟩ : ∃ b, b = w1.heap.size := ⟨_, rfl⟩
    have LB := Lib.hid (show w.heap.size ≤ b by rw [hb]; exact G1.out.size)
    rw [← hb] at B3 SZ ⊢
    clear hb
    replace B3 := Lib.hid B3
    replace SZ := Lib.hid SZ
    obtain ⟨st, hst⟩ : ∃ q, q = runT (CW A) T ⟨0, [], []⟩ := ⟨_, rfl⟩
    have SS := Lib.hid (show (CW A).sz st ≤ 60 by
      have q := runT_sz (CW_sz1 A) (CW_sz2 A) T ⟨0, [], []⟩
      have e : (CW A).sz ⟨0, [], []⟩ = 0 := rfl
      rw [← hst, e] at q
      omega)
    have SUB := Lib.hid (sub_start A T)
    have KC4 := Kc.of_gb GA.out
    have WA := Lib.hid (walk_any (cw_cbi w b (b + 1) a A HA.out LB.out (by omega) AN.out) w (oww_low LB.out (by omega)) T s w4 ⟨0, [], []⟩ HC.out HS.out HCD.out KC4 (wi_new B3.out KC4 (by rw [SZ.out]; omega)) (by
      have e : (CW A).sz ⟨0, [], []⟩ = 0 := rfl
      rw [e]; have := HC.out; omega))
    rw [← hst] at WA SUB
    unfold RetR at WA
    dsimp only at WA
    clear hst KC4
    go_upto_region 5 with (
      (go_at_call 17; refine WA.out.mono ?_; clear WA; rintro e w5 ⟨⟨v, rfl⟩, i5, k5⟩; have I5 := Lib.hid i5; have K5 := Lib.hid k5; clear i5 k5))
    have GG := Lib.hid (kt_low GA.out K5.out LB.out (by omega))
    obtain ⟨V1, V2, h1, h2, h3, h4⟩ := I5.out.ex
    obtain ⟨a1, c1, rfl⟩ := h2.shape
    have X1 := Lib.hid h1
    have P1 := Lib.hid (h2.slr rfl)
    clear h1 h2 h3 h4
    obtain ⟨nx, tb, cd⟩ := st
    have T1 := Lib.hid (show tb.length ≤ 60 by have q := (CW_le SS.out).2.1; dsimp only at q; omega)
    dsimp only at X1 P1 SUB
    have TT := Lib.hid (ktables_any w5 s T (HS.out.keep0 GG.out) (by omega))
    clear GA B3 SZ SS K5 I5
    go_wp2_with (
      (go_at_call 20; refine TT.out.mono ?_; clear TT; rintro e w6 ⟨a6, c6, rfl, n6, g6⟩; have Q6 := Lib.hid (n6.slr rfl); have G6 := Lib.hid g6; clear n6 g6))
    have TL := Lib.hid (Nat.le_trans (tabL_len T.pre) (show T.pre.length ≤ 60 from cb))
    have G6w := Lib.hid (gb_trans GG.out G6.out)
    have X1 := Lib.hid (X1.out.keep0 G6.out)
    have P1 := Lib.hid (P1.out.keep0 G6.out)
    clear GG G6
    have TH := Lib.hid (fun (i : Nat) h ha => tab_here (T := T) (i := i) h ha)
    have ALL := Lib.hid (show tabL (T.pre.take T.cnt) = tabL T.pre by rw [show T.cnt = T.pre.length from rfl, List.take_of_length_le (Nat.le_refl _)])
    generalize tabL T.pre = Q at *
    go_loopw [7, 8] (fun p q wr => ∃ at_ i : Nat, at_ ≤ tb.length ∧ i ≤ Q.length ∧ p = .int .i64 at_ ∧ q = .int .i64 i ∧ (tb.drop at_).Sublist (Q.drop i) ∧ ∃ x, wr = w6.drewN x) (fun _ q _ => Q.length - (intOf q).toNat)
    case atStart => exact ⟨0, 0, Nat.zero_le _, Nat.zero_le _, rfl, rfl, SUB.out, ⟨0, rfl⟩⟩
    case round =>
      obtain ⟨at_, i, hat, hi, rfl, rfl, hsub, hdn⟩ := hrel
      have SUB := Lib.hid hsub
      have DN := Lib.hid hdn
      have GW := Lib.hid (show w6.grownBy wr none by obtain ⟨x, rfl⟩ := hdn; exact gb_drewN _ _ _)
      clear hsub hdn
      have k2 := (X1.out.keep0 GW.out).cell 2
      simp at k2
      have q6 : Q.length ≤ 60 := TL.out
      have q7 : tb.length ≤ 60 := T1.out
      by_cases hlt : i < Q.length ∧ at_ < tb.length
      · obtain ⟨h1, h2⟩ := hlt
        have i1 : (i : Int) < Q.length := by omega
        have i2 : (at_ : Int) < tb.length := by omega
        cases a6 with
        | none => exact absurd (Q6.out.2.1 rfl).1 (by omega)
        | some ad6 =>
          cases a1 with
          | none => exact absurd (P1.out.2.1 rfl).1 (by omega)
          | some ad1 =>
            have c1' := (Q6.out.keep0 GW.out).cellAt i h1
            have c2' := (P1.out.keep0 GW.out).cellAt at_ h2
            by_cases he : Q.getD i 0 = tb.getD at_ 0
            · have SB2 := Lib.hid (sub_hit h1 h2 SUB.out he)
              rw [he] at c1'
              clear he
              generalize tb.getD at_ 0 = z at *
              go_wp2_with fail
              go_quiet (fail)
              go_wp2
              go_roundw
              case rel => exact ⟨at_ + 1, i + 1, by omega, by omega, by go_num, by go_num, SB2.out, by obtain ⟨x, rfl⟩ := DN.out; exact ⟨x + _, World.drewN_drewN _ _ _⟩⟩
              case measure => simp [intOf]; omega
            · have SB2 := Lib.hid (sub_miss h1 h2 SUB.out he)
              have b1 : (Q.getD i 0 == tb.getD at_ 0) = false := by simpa using he
              generalize Q.getD i 0 = y at *
              generalize tb.getD at_ 0 = z at *
              go_wp2_with fail
              go_quiet (fail)
              go_wp2
              go_roundw
              case rel => exact ⟨at_, i + 1, by omega, by omega, rfl, by go_num, SB2.out, by obtain ⟨x, rfl⟩ := DN.out; exact ⟨x + _, World.drewN_drewN _ _ _⟩⟩
              case measure => simp [intOf]; omega
      · have EA := Lib.hid (show at_ = tb.length by
          rcases Nat.lt_or_ge i Q.length with h1 | h1
          · omega
          · have := sub_end h1 SUB.out; omega)
        have stop : ∀ P : Prop, (¬ (i : Int) < Q.length → P) → ((i : Int) < Q.length → ¬ (at_ : Int) < tb.length → P) → P := fun P u v => by
          by_cases h1 : (i : Int) < Q.length
          · exact v h1 (by omega)
          · exact u h1
        have CN := Lib.hid (fun wz (gz : w6.grownBy wz none) => count_any wz s T (HS.out.keep0 (gb_trans G6w.out gz)) (by omega))
        unfold RetV at CN
        have BIG : True := trivial
        refine stop _ (fun n1 => ?_) (fun n1 n2 => ?_)
        · clear stop hlt
          go_wp2_with fail
          refine (CN.out _ GW.out).mono ?_
          rintro e w7 ⟨rfl, g7⟩
          have G7 := Lib.hid (gb_trans GW.out g7)
          clear g7 k2 SUB DN GW
          go_wp2
          go_loopw [10, 11] (fun p q wr => ∃ i : Nat, i ≤ T.cnt ∧ p = .int .i64 ((tabL (T.pre.take i)).length : Nat) ∧ q = .int .i64 i ∧ w6.grownBy wr none) (fun _ q _ => T.cnt - (intOf q).toNat)
          case atStart => exact ⟨0, Nat.zero_le _, by simp [tabL], rfl, G7.out⟩
          case round =>
            obtain ⟨i, hi, rfl, rfl, g8⟩ := hrel
            have G8 := Lib.hid g8
            clear g8
            by_cases hlt : i < T.cnt
            · have i3 : (i : Int) < T.cnt := by omega
              have KN := Lib.hid (knode_any wr s T (HS.out.keep0 (gb_trans G6w.out G8.out)) (by omega) HCD.out (i : Int))
              rw [nod_in hlt] at KN
              unfold RetKN at KN
              dsimp only [Option.getD_some, Option.isSome_some] at KN
              have TS := Lib.hid (tab_step (T := T) (i := i) hlt)
              have TR := Lib.hid (fun ha => TH.out i hlt ha)
              have BLW := Lib.hid (below_lt (T := T) (i := i) hlt)
              have NXT := Lib.hid (fun (y : CV) r e => next_th (T := T) (i := i) hlt (y := y) (r := r) e)
              have LT1 := Lib.hid (show (tabL (T.pre.take (i + 1))).length ≤ 60 by
                have := tabL_len (T.pre.take (i + 1)); rw [List.length_take] at this; omega)
              have KN2 := Lib.hid (fun wz (gz : w6.grownBy wz none) => knode_any wz s T (HS.out.keep0 (gb_trans G6w.out gz)) (by omega) HCD.out ((i : Int) + 1))
              have ND2 := Lib.hid (fun (h : i + 1 < T.cnt) => (nod_in h : nodA T.pre ((i + 1 : Nat) : Int) = _))
              generalize T.pre.getD i cz = x at *
              generalize hP : tabL (T.pre.take i) = P at *
              generalize hP1 : tabL (T.pre.take (i + 1)) = P1' at *
              go_wp2_with fail
              refine KN.out.mono ?_
              rintro e w8 ⟨y, rfl, eqn, vm, g8⟩
              have EQ := Lib.hid eqn
              have VMy := Lib.hid vm
              have G9 := Lib.hid (gb_trans G8.out (gb_trans g8 (gb_alloc w8 (.cells #[.int .i64 y.k, .int .i64 y.t, .slice y.c.a y.c.n y.c.c, .slice y.s.a y.s.n y.s.c, .slice y.u.a y.u.n y.u.c] 63) none)))
              have BX := IsB.new w8 63 #[.int .i64 y.k, .int .i64 y.t, .slice y.c.a y.c.n y.c.c, .slice y.s.a y.s.n y.s.c, .slice y.u.a y.u.n y.u.c]
              have VM9 := Lib.hid (vm.keep0 (gb_alloc w8 (.cells #[.int .i64 y.k, .int .i64 y.t, .slice y.c.a y.c.n y.c.c, .slice y.s.a y.s.n y.s.c, .slice y.u.a y.u.n y.u.c] 63) none))
              clear KN eqn vm g8 G8
              have ecn := Lib.hid (show y.th.cnt = x.th.cnt ∧ y.el.cnt = x.el.cnt from ⟨eqv_cnt EQ.out.th, eqv_cnt EQ.out.el⟩)
              have CB := Lib.hid (show x.th.cnt ≤ 60 ∧ x.el.cnt ≤ 60 by have := BLW.out; omega)
              have C1 := Lib.hid (fun (wz : World) (gz : (w8.alloc (.cells #[.int .i64 y.k, .int .i64 y.t, .slice y.c.a y.c.n y.c.c, .slice y.s.a y.s.n y.s.c, .slice y.u.a y.u.n y.u.c] 63)).grownBy wz none) => count_any wz y.s y.th (VM9.out.s.keep0 gz) (by have := ecn.out; have := CB.out; omega))
              have C2 := Lib.hid (fun (wz : World) (gz : (w8.alloc (.cells #[.int .i64 y.k, .int .i64 y.t, .slice y.c.a y.c.n y.c.c, .slice y.s.a y.s.n y.s.c, .slice y.u.a y.u.n y.u.c] 63)).grownBy wz none) => count_any wz y.u y.el (VM9.out.u.keep0 gz) (by have := ecn.out; have := CB.out; omega))
              unfold RetV at C1 C2
              go_upto_region 20 with fail
              obtain ⟨bx, hbx⟩ : ∃ q, q = w8.heap.size := ⟨_, rfl⟩
              rw [← hbx] at BX ⊢
              generalize w8.alloc (.cells #[.int .i64 y.k, .int .i64 y.t, .slice y.c.a y.c.n y.c.c, .slice y.s.a y.s.n y.s.c, .slice y.u.a y.u.n y.u.c] 63) = w9 at *
              clear hbx
              replace BX := Lib.hid BX
              have k0 := BX.out.cell 0
              have k1 := BX.out.cell 1
              simp at k0 k1
              have KS := Lib.hid (fun (w' : World) (q0 : w9.grownBy w' none) => (⟨(BX.out.keep0 q0).cell 3, (BX.out.keep0 q0).cell 4, q0⟩ : (fun w' : World => w'.cell? ⟨bx, 3, none⟩ = some (.slice y.s.a y.s.n y.s.c) ∧ w'.cell? ⟨bx, 4, none⟩ = some (.slice y.u.a y.u.n y.u.c) ∧ w9.grownBy w' none) w'))
              have n25 : ¬ (T.cnt : Int) ≤ (i : Int) + ((y.th.cnt : Int) + (y.el.cnt : Int)) := by have := BLW.out; have := ecn.out; omega
              have cbt : y.th.cnt ≤ 60 ∧ y.el.cnt ≤ 60 := by have := CB.out; have := ecn.out; omega
              obtain ⟨cbt1, cbt2⟩ := cbt
              by_cases hk1 : y.k = 1
              · rw [hk1] at k0
                have hap : appl x = true := by unfold appl; rw [EQ.out.k, hk1]; rfl
                obtain ⟨tr1, tr2⟩ := TR.out hap
                have EP := Lib.hid (show P1' = P ++ [x.t] by rw [TS.out, hap, if_pos rfl])
                cases a6 with
                | none => exact absurd (Q6.out.2.1 rfl).1 (by omega)
                | some ad6 =>
                  have c6' := (Q6.out.keep0 G9.out).cellAt P.length tr1
                  rw [tr2, EQ.out.t] at c6'
                  have d1 : decide ((Q.length : Int) ≤ (P.length : Int)) = false := decide_eq_false (by omega)
                  have d2 : decide (Q.length ≤ P.length) = false := decide_eq_false (by omega)
                  have i5 : (P.length : Int) < Q.length := by omega
                  have b5 : (y.t != y.t) = false := by simp
                  have RL := Lib.hid (show ((P1'.length : Nat) : Int) = (P.length : Int) + 1 by rw [EP.out]; simp)
                  have lp : P.length ≤ 60 := by have := TL.out; omega
                  clear tr2 TR TH hap
                  go_wp2_with fail
                  go_quiet (fail)
                  go_wp2_with fail
                  refine wp_region_held_drew (S := (fun w' : World => w'.cell? ⟨bx, 3, none⟩ = some (.slice y.s.a y.s.n y.s.c) ∧ w'.cell? ⟨bx, 4, none⟩ = some (.slice y.u.a y.u.n y.u.c) ∧ w9.grownBy w' none)) (by kernel_rfl) (KS.out _ (by first | exact gb_drew _ none | exact gb_trans (gb_drewN _ _ none) (gb_drew _ none))) (fun hH0 => ?_)
                  have H0 := Lib.hid hH0.2.2
                  refine wpAnyH_take (i := 0) (v := ?v41001) rfl (by kernel_rfl) (by kernel_rfl) (by kernel_rfl) (fun _ _ _ h => h) (Or.inl ⟨by rfl, ?hy41001⟩) (by assumption) ?rest41001
                  case hy41001 => (intro wz hSw; (try dsimp only at hSw); first | (go_simp; done) | (go_simp; with_reducible rfl))
                  try simp only [Act.put, List.getElem_toArray, List.getElem_cons_zero, List.setIfInBounds_toArray, List.set_cons_zero, List.set_cons_succ]
                  refine wpAnyH_take (i := 1) (v := ?v41002) rfl (by kernel_rfl) (by kernel_rfl) (by kernel_rfl) (fun _ _ _ h => h) (Or.inl ⟨by rfl, ?hy41002⟩) (by assumption) ?rest41002
                  case hy41002 => (intro wz hSw; (try dsimp only at hSw); first | (go_simp; done) | (go_simp; with_reducible rfl))
                  try simp only [Act.put, List.getElem_toArray, List.getElem_cons_succ, List.getElem_cons_zero, List.setIfInBounds_toArray, List.set_cons_zero, List.set_cons_succ]
                  refine wpAnyH_take (i := 3) (v := ?v41003) rfl (by kernel_rfl) (by kernel_rfl) (by kernel_rfl) (fun _ _ _ h => h) (Or.inl ⟨by rfl, ?hy41003⟩) (by assumption) ?rest41003
                  case hy41003 => (intro wz hSw; (try dsimp only at hSw); first | (go_simp; done) | (go_simp; with_reducible rfl))
                  try simp only [Act.put, List.getElem_toArray, List.getElem_cons_succ, List.getElem_cons_zero, List.setIfInBounds_toArray, List.set_cons_zero, List.set_cons_succ]
                  refine wpAnyH_take (i := 4) (v := ?v41004) rfl (by kernel_rfl) (by kernel_rfl) (by kernel_rfl) (fun _ _ _ h => h) (Or.inl ⟨by rfl, ?hy41004⟩) (by assumption) ?rest41004
                  case hy41004 => (intro wz hSw; (try dsimp only at hSw); first | (go_simp; done) | (go_simp; with_reducible rfl))
                  try simp only [Act.put, List.getElem_toArray, List.getElem_cons_succ, List.getElem_cons_zero, List.setIfInBounds_toArray, List.set_cons_zero, List.set_cons_succ]
                  refine wpAnyH_ready (rs := [2]) (by kernel_rfl) (by simp) ?_
                  refine AllReadyH.cons (o := _) rfl (fun K hK => ?_) AllReadyH.nil
                  go_simp
                  refine (C1.out _ H0.out).mono ?_
                  rintro e wh1 ⟨rfl, g⟩
                  have H1 := Lib.hid (gb_trans H0.out g)
                  clear g
                  try dsimp only
                  refine hK.out _ _ (KS.out _ H1.out) (fun hH1 => ?_)
                  clear hK K hH0
                  try simp only [Act.put, List.getElem_toArray, List.getElem_cons_succ, List.getElem_cons_zero, List.setIfInBounds_toArray, List.set_cons_zero, List.set_cons_succ]
                  refine wpAnyH_ready (rs := [5]) (by kernel_rfl) (by simp) ?_
                  refine AllReadyH.cons (o := _) rfl (fun K hK => ?_) AllReadyH.nil
                  go_simp
                  refine (C2.out _ H1.out).mono ?_
                  rintro e wh2 ⟨rfl, g⟩
                  have H2 := Lib.hid (gb_trans H1.out g)
                  clear g
                  try dsimp only
                  refine hK.out _ _ (KS.out _ H2.out) (fun hH2 => ?_)
                  clear hK K hH1
                  try simp only [Act.put, List.getElem_toArray, List.getElem_cons_succ, List.getElem_cons_zero, List.setIfInBounds_toArray, List.set_cons_zero, List.set_cons_succ]
                  refine wpAnyH_take (i := 6) (v := ?v41005) rfl (by kernel_rfl) (by kernel_rfl) (by kernel_rfl) (fun _ _ _ h => h) (Or.inl ⟨by rfl, ?hy41005⟩) (by assumption) ?rest41005
                  case hy41005 => (intro wz hSw; (try dsimp only at hSw); first | (go_simp; done) | (go_simp; with_reducible rfl))
                  try simp only [Act.put, List.getElem_toArray, List.getElem_cons_succ, List.getElem_cons_zero, List.setIfInBounds_toArray, List.set_cons_zero, List.set_cons_succ]
                  refine wpAnyH_take (i := 7) (v := ?v41006) rfl (by kernel_rfl) (by kernel_rfl) (by kernel_rfl) (fun _ _ _ h => h) (Or.inl ⟨by rfl, ?hy41006⟩) (by assumption) ?rest41006
                  case hy41006 => (intro wz hSw; (try dsimp only at hSw); first | (go_simp; done) | (go_simp; with_reducible rfl))
                  try simp only [Act.put, List.getElem_toArray, List.getElem_cons_succ, List.getElem_cons_zero, List.setIfInBounds_toArray, List.set_cons_zero, List.set_cons_succ]
                  refine wpAnyH_done (by kernel_rfl) ?_ _
                  clear hH2
                  have k3 := (BX.out.keep0 H2.out).cell 3
                  simp at k3
                  have G11 := Lib.hid (gb_trans G9.out H2.out)
                  by_cases hs : 0 < y.s.n
                  · obtain ⟨z, ad, hsa, hdr, ⟨z0, z1, -, -, -⟩, -⟩ := (VM9.out.s.keep0 H2.out).at_ 0 hs
                    rw [CT.drop_zero] at hdr
                    have ev := eqv_symm _ _ EQ.out.th
                    rw [hdr] at ev
                    obtain ⟨z', q, hxth, hk, ht⟩ := eqv_ct2 ev
                    have nx1 := NXT.out z' q hxth
                    have hlt2 : i + 1 < T.cnt := by
                      have := BLW.out
                      have e := CV.cnt_ct z' q
                      rw [← hxth] at e
                      omega
                    have K3 := Lib.hid (show Calls Try.prog 22 #[.slice s.a s.n s.c, .int .i64 ((i : Int) + 1)] wh2 (RetKN (some z') wh2) by
                      have q := KN2.out wh2 G11.out
                      have n2 := ND2.out hlt2
                      rw [nx1] at n2
                      rw [show ((i + 1 : Nat) : Int) = (i : Int) + 1 by omega] at n2
                      rw [n2] at q
                      exact q)
                    unfold RetKN at K3
                    dsimp only [Option.getD_some, Option.isSome_some] at K3
                    rw [hsa] at k3
                    have HSA := Lib.hid hsa
                    have hsi : (0 : Int) < (y.s.n : Int) := by omega
                    have Z0 := Lib.hid z0
                    have Z1 := Lib.hid z1
                    have HK := Lib.hid hk
                    have HT := Lib.hid ht
                    clear hsa hdr ev hxth nx1 hk ht z0 z1 NXT KN2 ND2 BLW
                    go_wp2_with fail
                    refine K3.out.mono ?_
                    rintro e w10 ⟨y2, rfl, eq2, vm2, g10⟩
                    clear K3 vm2
                    have G12 := Lib.hid (gb_trans G11.out (gb_trans g10 (gb_alloc w10 (.cells #[.int .i64 y2.k, .int .i64 y2.t, .slice y2.c.a y2.c.n y2.c.c, .slice y2.s.a y2.s.n y2.s.c, .slice y2.u.a y2.u.n y2.u.c] 63) none)))
                    have B2 := IsB.new w10 63 #[.int .i64 y2.k, .int .i64 y2.t, .slice y2.c.a y2.c.n y2.c.c, .slice y2.s.a y2.s.n y2.s.c, .slice y2.u.a y2.u.n y2.u.c]
                    have gz := gb_trans g10 (gb_alloc w10 (.cells #[.int .i64 y2.k, .int .i64 y2.t, .slice y2.c.a y2.c.n y2.c.c, .slice y2.s.a y2.s.n y2.s.c, .slice y2.u.a y2.u.n y2.u.c] 63) none)
                    have BX3 := (BX.out.keep0 (gb_trans H2.out gz)).cell 3
                    have z0 := gz.cell Z0.out (by simp)
                    have z1 := gz.cell Z1.out (by simp)
                    simp only [Nat.zero_mul, addr00] at z0 z1
                    go_upto_region 29 with fail
                    obtain ⟨bx2, hbx2⟩ : ∃ q, q = w10.heap.size := ⟨_, rfl⟩
                    rw [← hbx2] at B2 ⊢
                    generalize w10.alloc (.cells #[.int .i64 y2.k, .int .i64 y2.t, .slice y2.c.a y2.c.n y2.c.c, .slice y2.s.a y2.s.n y2.s.c, .slice y2.u.a y2.u.n y2.u.c] 63) = w12 at *
                    clear hbx2 gz g10
                    have q0 := B2.cell 0
                    have q1 := B2.cell 1
                    simp at q0 q1 BX3
                    rw [← eq2.k, ← HK.out] at q0
                    rw [← eq2.t, ← HT.out] at q1
                    rw [HSA.out] at BX3
                    have b6 : (z.k != z.k) = false := by simp
                    have b7 : (z.t != z.t) = false := by simp
                    clear B2 eq2 k3
                    go_wp2_with fail
                    go_quiet (fail)
                    go_wp2
                    go_roundw
                    case rel => exact ⟨i + 1, by omega, by rw [hP1, RL.out], by go_num, gb_trans G12.out (gb_drewN _ _ none)⟩
                    case measure => simp [intOf]; omega
                  · have hsi : ¬ (0 : Int) < (y.s.n : Int) := by omega
                    go_wp2
                    go_roundw
                    case rel => exact ⟨i + 1, by omega, by rw [hP1, RL.out], by go_num, G11.out⟩
                    case measure => simp [intOf]; omega
              · by_cases hk3 : y.k = 3
                · rw [hk3] at k0
                  have hap : appl x = true := by unfold appl; rw [EQ.out.k, hk3]; rfl
                  have b13 : ((3 : Int) == 1) = false := by decide
                  obtain ⟨tr1, tr2⟩ := TR.out hap
                  have EP := Lib.hid (show P1' = P ++ [x.t] by rw [TS.out, hap, if_pos rfl])
                  cases a6 with
                  | none => exact absurd (Q6.out.2.1 rfl).1 (by omega)
                  | some ad6 =>
                    have c6' := (Q6.out.keep0 G9.out).cellAt P.length tr1
                    rw [tr2, EQ.out.t] at c6'
                    have d1 : decide ((Q.length : Int) ≤ (P.length : Int)) = false := decide_eq_false (by omega)
                    have d2 : decide (Q.length ≤ P.length) = false := decide_eq_false (by omega)
                    have i5 : (P.length : Int) < Q.length := by omega
                    have b5 : (y.t != y.t) = false := by simp
                    have RL := Lib.hid (show ((P1'.length : Nat) : Int) = (P.length : Int) + 1 by rw [EP.out]; simp)
                    have lp : P.length ≤ 60 := by have := TL.out; omega
                    clear tr2 TR TH hap
                    go_wp2_with fail
                    go_quiet (fail)
                    go_wp2_with fail
                    refine wp_region_held_drew (S := (fun w' : World => w'.cell? ⟨bx, 3, none⟩ = some (.slice y.s.a y.s.n y.s.c) ∧ w'.cell? ⟨bx, 4, none⟩ = some (.slice y.u.a y.u.n y.u.c) ∧ w9.grownBy w' none)) (by kernel_rfl) (KS.out _ (by first | exact gb_drew _ none | exact gb_trans (gb_drewN _ _ none) (gb_drew _ none))) (fun hH0 => ?_)
                    have H0 := Lib.hid hH0.2.2
                    refine wpAnyH_take (i := 0) (v := ?v41007) rfl (by kernel_rfl) (by kernel_rfl) (by kernel_rfl) (fun _ _ _ h => h) (Or.inl ⟨by rfl, ?hy41007⟩) (by assumption) ?rest41007
                    case hy41007 => (intro wz hSw; (try dsimp only at hSw); first | (go_simp; done) | (go_simp; with_reducible rfl))
                    try simp only [Act.put, List.getElem_toArray, List.getElem_cons_zero, List.setIfInBounds_toArray, List.set_cons_zero, List.set_cons_succ]
                    refine wpAnyH_take (i := 1) (v := ?v41008) rfl (by kernel_rfl) (by kernel_rfl) (by kernel_rfl) (fun _ _ _ h => h) (Or.inl ⟨by rfl, ?hy41008⟩) (by assumption) ?rest41008
                    case hy41008 => (intro wz hSw; (try dsimp only at hSw); first | (go_simp; done) | (go_simp; with_reducible rfl))
                    try simp only [Act.put, List.getElem_toArray, List.getElem_cons_succ, List.getElem_cons_zero, List.setIfInBounds_toArray, List.set_cons_zero, List.set_cons_succ]
                    refine wpAnyH_take (i := 3) (v := ?v41009) rfl (by kernel_rfl) (by kernel_rfl) (by kernel_rfl) (fun _ _ _ h => h) (Or.inl ⟨by rfl, ?hy41009⟩) (by assumption) ?rest41009
                    case hy41009 => (intro wz hSw; (try dsimp only at hSw); first | (go_simp; done) | (go_simp; with_reducible rfl))
                    try simp only [Act.put, List.getElem_toArray, List.getElem_cons_succ, List.getElem_cons_zero, List.setIfInBounds_toArray, List.set_cons_zero, List.set_cons_succ]
                    refine wpAnyH_take (i := 4) (v := ?v41010) rfl (by kernel_rfl) (by kernel_rfl) (by kernel_rfl) (fun _ _ _ h => h) (Or.inl ⟨by rfl, ?hy41010⟩) (by assumption) ?rest41010
                    case hy41010 => (intro wz hSw; (try dsimp only at hSw); first | (go_simp; done) | (go_simp; with_reducible rfl))
                    try simp only [Act.put, List.getElem_toArray, List.getElem_cons_succ, List.getElem_cons_zero, List.setIfInBounds_toArray, List.set_cons_zero, List.set_cons_succ]
                    refine wpAnyH_ready (rs := [2]) (by kernel_rfl) (by simp) ?_
                    refine AllReadyH.cons (o := _) rfl (fun K hK => ?_) AllReadyH.nil
                    go_simp
                    refine (C1.out _ H0.out).mono ?_
                    rintro e wh1 ⟨rfl, g⟩
                    have H1 := Lib.hid (gb_trans H0.out g)
                    clear g
                    try dsimp only
                    refine hK.out _ _ (KS.out _ H1.out) (fun hH1 => ?_)
                    clear hK K hH0
                    try simp only [Act.put, List.getElem_toArray, List.getElem_cons_succ, List.getElem_cons_zero, List.setIfInBounds_toArray, List.set_cons_zero, List.set_cons_succ]
                    refine wpAnyH_ready (rs := [5]) (by kernel_rfl) (by simp) ?_
                    refine AllReadyH.cons (o := _) rfl (fun K hK => ?_) AllReadyH.nil
                    go_simp
                    refine (C2.out _ H1.out).mono ?_
                    rintro e wh2 ⟨rfl, g⟩
                    have H2 := Lib.hid (gb_trans H1.out g)
                    clear g
                    try dsimp only
                    refine hK.out _ _ (KS.out _ H2.out) (fun hH2 => ?_)
                    clear hK K hH1
                    try simp only [Act.put, List.getElem_toArray, List.getElem_cons_succ, List.getElem_cons_zero, List.setIfInBounds_toArray, List.set_cons_zero, List.set_cons_succ]
                    refine wpAnyH_take (i := 6) (v := ?v41011) rfl (by kernel_rfl) (by kernel_rfl) (by kernel_rfl) (fun _ _ _ h => h) (Or.inl ⟨by rfl, ?hy41011⟩) (by assumption) ?rest41011
                    case hy41011 => (intro wz hSw; (try dsimp only at hSw); first | (go_simp; done) | (go_simp; with_reducible rfl))
                    try simp only [Act.put, List.getElem_toArray, List.getElem_cons_succ, List.getElem_cons_zero, List.setIfInBounds_toArray, List.set_cons_zero, List.set_cons_succ]
                    refine wpAnyH_take (i := 7) (v := ?v41012) rfl (by kernel_rfl) (by kernel_rfl) (by kernel_rfl) (fun _ _ _ h => h) (Or.inl ⟨by rfl, ?hy41012⟩) (by assumption) ?rest41012
                    case hy41012 => (intro wz hSw; (try dsimp only at hSw); first | (go_simp; done) | (go_simp; with_reducible rfl))
                    try simp only [Act.put, List.getElem_toArray, List.getElem_cons_succ, List.getElem_cons_zero, List.setIfInBounds_toArray, List.set_cons_zero, List.set_cons_succ]
                    refine wpAnyH_done (by kernel_rfl) ?_ _
                    clear hH2
                    have k3 := (BX.out.keep0 H2.out).cell 3
                    simp at k3
                    have G11 := Lib.hid (gb_trans G9.out H2.out)
                    by_cases hs : 0 < y.s.n
                    · obtain ⟨z, ad, hsa, hdr, ⟨z0, z1, -, -, -⟩, -⟩ := (VM9.out.s.keep0 H2.out).at_ 0 hs
                      rw [CT.drop_zero] at hdr
                      have ev := eqv_symm _ _ EQ.out.th
                      rw [hdr] at ev
                      obtain ⟨z', q, hxth, hk, ht⟩ := eqv_ct2 ev
                      have nx1 := NXT.out z' q hxth
                      have hlt2 : i + 1 < T.cnt := by
                        have := BLW.out
                        have e := CV.cnt_ct z' q
                        rw [← hxth] at e
                        omega
                      have K3 := Lib.hid (show Calls Try.prog 22 #[.slice s.a s.n s.c, .int .i64 ((i : Int) + 1)] wh2 (RetKN (some z') wh2) by
                        have q := KN2.out wh2 G11.out
                        have n2 := ND2.out hlt2
                        rw [nx1] at n2
                        rw [show ((i + 1 : Nat) : Int) = (i : Int) + 1 by omega] at n2
                        rw [n2] at q
                        exact q)
                      unfold RetKN at K3
                      dsimp only [Option.getD_some, Option.isSome_some] at K3
                      rw [hsa] at k3
                      have HSA := Lib.hid hsa
                      have hsi : (0 : Int) < (y.s.n : Int) := by omega
                      have Z0 := Lib.hid z0
                      have Z1 := Lib.hid z1
                      have HK := Lib.hid hk
                      have HT := Lib.hid ht
                      clear hsa hdr ev hxth nx1 hk ht z0 z1 NXT KN2 ND2 BLW
                      go_wp2_with fail
                      refine K3.out.mono ?_
                      rintro e w10 ⟨y2, rfl, eq2, vm2, g10⟩
                      clear K3 vm2
                      have G12 := Lib.hid (gb_trans G11.out (gb_trans g10 (gb_alloc w10 (.cells #[.int .i64 y2.k, .int .i64 y2.t, .slice y2.c.a y2.c.n y2.c.c, .slice y2.s.a y2.s.n y2.s.c, .slice y2.u.a y2.u.n y2.u.c] 63) none)))
                      have B2 := IsB.new w10 63 #[.int .i64 y2.k, .int .i64 y2.t, .slice y2.c.a y2.c.n y2.c.c, .slice y2.s.a y2.s.n y2.s.c, .slice y2.u.a y2.u.n y2.u.c]
                      have gz := gb_trans g10 (gb_alloc w10 (.cells #[.int .i64 y2.k, .int .i64 y2.t, .slice y2.c.a y2.c.n y2.c.c, .slice y2.s.a y2.s.n y2.s.c, .slice y2.u.a y2.u.n y2.u.c] 63) none)
                      have BX3 := (BX.out.keep0 (gb_trans H2.out gz)).cell 3
                      have z0 := gz.cell Z0.out (by simp)
                      have z1 := gz.cell Z1.out (by simp)
                      simp only [Nat.zero_mul, addr00] at z0 z1
                      go_upto_region 29 with fail
                      obtain ⟨bx2, hbx2⟩ : ∃ q, q = w10.heap.size := ⟨_, rfl⟩
                      rw [← hbx2] at B2 ⊢
                      generalize w10.alloc (.cells #[.int .i64 y2.k, .int .i64 y2.t, .slice y2.c.a y2.c.n y2.c.c, .slice y2.s.a y2.s.n y2.s.c, .slice y2.u.a y2.u.n y2.u.c] 63) = w12 at *
                      clear hbx2 gz g10
                      have q0 := B2.cell 0
                      have q1 := B2.cell 1
                      simp at q0 q1 BX3
                      rw [← eq2.k, ← HK.out] at q0
                      rw [← eq2.t, ← HT.out] at q1
                      rw [HSA.out] at BX3
                      have b6 : (z.k != z.k) = false := by simp
                      have b7 : (z.t != z.t) = false := by simp
                      clear B2 eq2 k3
                      go_wp2_with fail
                      go_quiet (fail)
                      go_wp2
                      go_roundw
                      case rel => exact ⟨i + 1, by omega, by rw [hP1, RL.out], by go_num, gb_trans G12.out (gb_drewN _ _ none)⟩
                      case measure => simp [intOf]; omega
                    · have hsi : ¬ (0 : Int) < (y.s.n : Int) := by omega
                      go_wp2
                      go_roundw
                      case rel => exact ⟨i + 1, by omega, by rw [hP1, RL.out], by go_num, G11.out⟩
                      case measure => simp [intOf]; omega
                · have hap : appl x = false := by unfold appl; rw [EQ.out.k]; simp [hk1, hk3]
                  have b1 : (y.k == 1) = false := by simpa using hk1
                  have b3 : (y.k == 3) = false := by simpa using hk3
                  have EP := Lib.hid (show P1' = P by rw [TS.out, hap, if_neg (show ¬ (false = true) from by decide)])
                  generalize y.k = yk at *
                  have PL : P1'.length = P.length := by rw [EP.out]
                  have RL := Lib.hid (show ((P1'.length : Nat) : Int) = (P.length : Int) by rw [PL])
                  clear PL TR TH hk1 hk3 hap
                  go_wp2_with fail
                  refine wp_region_held_drew (S := (fun w' : World => w'.cell? ⟨bx, 3, none⟩ = some (.slice y.s.a y.s.n y.s.c) ∧ w'.cell? ⟨bx, 4, none⟩ = some (.slice y.u.a y.u.n y.u.c) ∧ w9.grownBy w' none)) (by kernel_rfl) (KS.out _ (by first | exact gb_drew _ none | exact gb_trans (gb_drewN _ _ none) (gb_drew _ none))) (fun hH0 => ?_)
                  have H0 := Lib.hid hH0.2.2
                  refine wpAnyH_take (i := 0) (v := ?v41013) rfl (by kernel_rfl) (by kernel_rfl) (by kernel_rfl) (fun _ _ _ h => h) (Or.inl ⟨by rfl, ?hy41013⟩) (by assumption) ?rest41013
                  case hy41013 => (intro wz hSw; (try dsimp only at hSw); first | (go_simp; done) | (go_simp; with_reducible rfl))
                  try simp only [Act.put, List.getElem_toArray, List.getElem_cons_zero, List.setIfInBounds_toArray, List.set_cons_zero, List.set_cons_succ]
                  refine wpAnyH_take (i := 1) (v := ?v41014) rfl (by kernel_rfl) (by kernel_rfl) (by kernel_rfl) (fun _ _ _ h => h) (Or.inl ⟨by rfl, ?hy41014⟩) (by assumption) ?rest41014
                  case hy41014 => (intro wz hSw; (try dsimp only at hSw); first | (go_simp; done) | (go_simp; with_reducible rfl))
                  try simp only [Act.put, List.getElem_toArray, List.getElem_cons_succ, List.getElem_cons_zero, List.setIfInBounds_toArray, List.set_cons_zero, List.set_cons_succ]
                  refine wpAnyH_take (i := 3) (v := ?v41015) rfl (by kernel_rfl) (by kernel_rfl) (by kernel_rfl) (fun _ _ _ h => h) (Or.inl ⟨by rfl, ?hy41015⟩) (by assumption) ?rest41015
                  case hy41015 => (intro wz hSw; (try dsimp only at hSw); first | (go_simp; done) | (go_simp; with_reducible rfl))
                  try simp only [Act.put, List.getElem_toArray, List.getElem_cons_succ, List.getElem_cons_zero, List.setIfInBounds_toArray, List.set_cons_zero, List.set_cons_succ]
                  refine wpAnyH_take (i := 4) (v := ?v41016) rfl (by kernel_rfl) (by kernel_rfl) (by kernel_rfl) (fun _ _ _ h => h) (Or.inl ⟨by rfl, ?hy41016⟩) (by assumption) ?rest41016
                  case hy41016 => (intro wz hSw; (try dsimp only at hSw); first | (go_simp; done) | (go_simp; with_reducible rfl))
                  try simp only [Act.put, List.getElem_toArray, List.getElem_cons_succ, List.getElem_cons_zero, List.setIfInBounds_toArray, List.set_cons_zero, List.set_cons_succ]
                  refine wpAnyH_ready (rs := [2]) (by kernel_rfl) (by simp) ?_
                  refine AllReadyH.cons (o := _) rfl (fun K hK => ?_) AllReadyH.nil
                  go_simp
                  refine (C1.out _ H0.out).mono ?_
                  rintro e wh1 ⟨rfl, g⟩
                  have H1 := Lib.hid (gb_trans H0.out g)
                  clear g
                  try dsimp only
                  refine hK.out _ _ (KS.out _ H1.out) (fun hH1 => ?_)
                  clear hK K hH0
                  try simp only [Act.put, List.getElem_toArray, List.getElem_cons_succ, List.getElem_cons_zero, List.setIfInBounds_toArray, List.set_cons_zero, List.set_cons_succ]
                  refine wpAnyH_ready (rs := [5]) (by kernel_rfl) (by simp) ?_
                  refine AllReadyH.cons (o := _) rfl (fun K hK => ?_) AllReadyH.nil
                  go_simp
                  refine (C2.out _ H1.out).mono ?_
                  rintro e wh2 ⟨rfl, g⟩
                  have H2 := Lib.hid (gb_trans H1.out g)
                  clear g
                  try dsimp only
                  refine hK.out _ _ (KS.out _ H2.out) (fun hH2 => ?_)
                  clear hK K hH1
                  try simp only [Act.put, List.getElem_toArray, List.getElem_cons_succ, List.getElem_cons_zero, List.setIfInBounds_toArray, List.set_cons_zero, List.set_cons_succ]
                  refine wpAnyH_take (i := 6) (v := ?v41017) rfl (by kernel_rfl) (by kernel_rfl) (by kernel_rfl) (fun _ _ _ h => h) (Or.inl ⟨by rfl, ?hy41017⟩) (by assumption) ?rest41017
                  case hy41017 => (intro wz hSw; (try dsimp only at hSw); first | (go_simp; done) | (go_simp; with_reducible rfl))
                  try simp only [Act.put, List.getElem_toArray, List.getElem_cons_succ, List.getElem_cons_zero, List.setIfInBounds_toArray, List.set_cons_zero, List.set_cons_succ]
                  refine wpAnyH_take (i := 7) (v := ?v41018) rfl (by kernel_rfl) (by kernel_rfl) (by kernel_rfl) (fun _ _ _ h => h) (Or.inl ⟨by rfl, ?hy41018⟩) (by assumption) ?rest41018
                  case hy41018 => (intro wz hSw; (try dsimp only at hSw); first | (go_simp; done) | (go_simp; with_reducible rfl))
                  try simp only [Act.put, List.getElem_toArray, List.getElem_cons_succ, List.getElem_cons_zero, List.setIfInBounds_toArray, List.set_cons_zero, List.set_cons_succ]
                  refine wpAnyH_done (by kernel_rfl) ?_ _
                  clear hH2
                  have k3 := (BX.out.keep0 H2.out).cell 3
                  simp at k3
                  have G11 := Lib.hid (gb_trans G9.out H2.out)
                  by_cases hs : 0 < y.s.n
                  · obtain ⟨z, ad, hsa, hdr, ⟨z0, z1, -, -, -⟩, -⟩ := (VM9.out.s.keep0 H2.out).at_ 0 hs
                    rw [CT.drop_zero] at hdr
                    have ev := eqv_symm _ _ EQ.out.th
                    rw [hdr] at ev
                    obtain ⟨z', q, hxth, hk, ht⟩ := eqv_ct2 ev
                    have nx1 := NXT.out z' q hxth
                    have hlt2 : i + 1 < T.cnt := by
                      have := BLW.out
                      have e := CV.cnt_ct z' q
                      rw [← hxth] at e
                      omega
                    have K3 := Lib.hid (show Calls Try.prog 22 #[.slice s.a s.n s.c, .int .i64 ((i : Int) + 1)] wh2 (RetKN (some z') wh2) by
                      have q := KN2.out wh2 G11.out
                      have n2 := ND2.out hlt2
                      rw [nx1] at n2
                      rw [show ((i + 1 : Nat) : Int) = (i : Int) + 1 by omega] at n2
                      rw [n2] at q
                      exact q)
                    unfold RetKN at K3
                    dsimp only [Option.getD_some, Option.isSome_some] at K3
                    rw [hsa] at k3
                    have HSA := Lib.hid hsa
                    have hsi : (0 : Int) < (y.s.n : Int) := by omega
                    have Z0 := Lib.hid z0
                    have Z1 := Lib.hid z1
                    have HK := Lib.hid hk
                    have HT := Lib.hid ht
                    clear hsa hdr ev hxth nx1 hk ht z0 z1 NXT KN2 ND2 BLW
                    go_wp2_with fail
                    refine K3.out.mono ?_
                    rintro e w10 ⟨y2, rfl, eq2, vm2, g10⟩
                    clear K3 vm2
                    have G12 := Lib.hid (gb_trans G11.out (gb_trans g10 (gb_alloc w10 (.cells #[.int .i64 y2.k, .int .i64 y2.t, .slice y2.c.a y2.c.n y2.c.c, .slice y2.s.a y2.s.n y2.s.c, .slice y2.u.a y2.u.n y2.u.c] 63) none)))
                    have B2 := IsB.new w10 63 #[.int .i64 y2.k, .int .i64 y2.t, .slice y2.c.a y2.c.n y2.c.c, .slice y2.s.a y2.s.n y2.s.c, .slice y2.u.a y2.u.n y2.u.c]
                    have gz := gb_trans g10 (gb_alloc w10 (.cells #[.int .i64 y2.k, .int .i64 y2.t, .slice y2.c.a y2.c.n y2.c.c, .slice y2.s.a y2.s.n y2.s.c, .slice y2.u.a y2.u.n y2.u.c] 63) none)
                    have BX3 := (BX.out.keep0 (gb_trans H2.out gz)).cell 3
                    have z0 := gz.cell Z0.out (by simp)
                    have z1 := gz.cell Z1.out (by simp)
                    simp only [Nat.zero_mul, addr00] at z0 z1
                    go_upto_region 29 with fail
                    obtain ⟨bx2, hbx2⟩ : ∃ q, q = w10.heap.size := ⟨_, rfl⟩
                    rw [← hbx2] at B2 ⊢
                    generalize w10.alloc (.cells #[.int .i64 y2.k, .int .i64 y2.t, .slice y2.c.a y2.c.n y2.c.c, .slice y2.s.a y2.s.n y2.s.c, .slice y2.u.a y2.u.n y2.u.c] 63) = w12 at *
                    clear hbx2 gz g10
                    have q0 := B2.cell 0
                    have q1 := B2.cell 1
                    simp at q0 q1 BX3
                    rw [← eq2.k, ← HK.out] at q0
                    rw [← eq2.t, ← HT.out] at q1
                    rw [HSA.out] at BX3
                    have b6 : (z.k != z.k) = false := by simp
                    have b7 : (z.t != z.t) = false := by simp
                    clear B2 eq2 k3
                    go_wp2_with fail
                    go_quiet (fail)
                    go_wp2
                    go_roundw
                    case rel => exact ⟨i + 1, by omega, by rw [hP1, RL.out], by go_num, gb_trans G12.out (gb_drewN _ _ none)⟩
                    case measure => simp [intOf]; omega
                  · have hsi : ¬ (0 : Int) < (y.s.n : Int) := by omega
                    go_wp2
                    go_roundw
                    case rel => exact ⟨i + 1, by omega, by rw [hP1, RL.out], by go_num, G11.out⟩
                    case measure => simp [intOf]; omega
            · have hie : i = T.cnt := by omega
              subst hie
              have KN1 := Lib.hid (show Calls Try.prog 22 #[.slice s.a s.n s.c, .int .i64 (T.cnt : Int)] wr (RetKN none wr) by
                have q := knode_any wr s T (HS.out.keep0 (gb_trans G6w.out G8.out)) (by omega) HCD.out (T.cnt : Int)
                rw [nod_end] at q
                exact q)
              have KN2 := Lib.hid (fun wz (gz : w6.grownBy wz none) => (show Calls Try.prog 22 #[.slice s.a s.n s.c, .int .i64 (-1)] wz (RetKN none wz) by
                have q := knode_any wz s T (HS.out.keep0 (gb_trans G6w.out gz)) (by omega) HCD.out (-1)
                rw [nod_low] at q
                exact q))
              unfold RetKN at KN1 KN2
              dsimp only [Option.getD_none, Option.isSome_none] at KN1 KN2
              have QL := congrArg List.length ALL.out
              have ea : ((at_ : Int) == (tb.length : Int)) = true := by have := EA.out; simp; omega
              have eb : (((tabL (T.pre.take T.cnt)).length : Int) == (Q.length : Int)) = true := by rw [QL]; simp
              clear QL
              generalize tabL (T.pre.take T.cnt) = P at *
              go_wp2_with fail
              refine KN1.out.mono ?_
              rintro e w8 ⟨y, rfl, -, -, g8⟩
              have G9 := Lib.hid (gb_trans G8.out (gb_trans g8 (gb_alloc w8 (.cells #[.int .i64 y.k, .int .i64 y.t, .slice y.c.a y.c.n y.c.c, .slice y.s.a y.s.n y.s.c, .slice y.u.a y.u.n y.u.c] 63) none)))
              clear KN1 g8
              go_wp2_with fail
              refine (KN2.out _ G9.out).mono ?_
              rintro e w10 ⟨y2, rfl, -, -, g10⟩
              have G12 := Lib.hid (gb_trans G9.out (gb_trans g10 (gb_alloc w10 (.cells #[.int .i64 y2.k, .int .i64 y2.t, .slice y2.c.a y2.c.n y2.c.c, .slice y2.s.a y2.s.n y2.s.c, .slice y2.u.a y2.u.n y2.u.c] 63) none)))
              have k2 := (X1.out.keep0 G12.out).cell 2
              simp at k2
              clear KN2 g10
              go_wp2_with fail
              refine (AW.out _).mono ?_
              rintro e we ⟨rfl, ge⟩
              have GE := Lib.hid (gb_trans G6w.out (gb_trans G12.out ge))
              clear ge
              go_wp2
              go_ret
              exact ⟨rfl, GE.out⟩
        · clear stop hlt
          go_wp2_with fail
          refine (CN.out _ GW.out).mono ?_
          rintro e w7 ⟨rfl, g7⟩
          have G7 := Lib.hid (gb_trans GW.out g7)
          clear g7 k2 SUB DN GW
          go_wp2
          go_loopw [10, 11] (fun p q wr => ∃ i : Nat, i ≤ T.cnt ∧ p = .int .i64 ((tabL (T.pre.take i)).length : Nat) ∧ q = .int .i64 i ∧ w6.grownBy wr none) (fun _ q _ => T.cnt - (intOf q).toNat)
          case atStart => exact ⟨0, Nat.zero_le _, by simp [tabL], rfl, G7.out⟩
          case round =>
            obtain ⟨i, hi, rfl, rfl, g8⟩ := hrel
            have G8 := Lib.hid g8
            clear g8
            by_cases hlt : i < T.cnt
            · have i3 : (i : Int) < T.cnt := by omega
              have KN := Lib.hid (knode_any wr s T (HS.out.keep0 (gb_trans G6w.out G8.out)) (by omega) HCD.out (i : Int))
              rw [nod_in hlt] at KN
              unfold RetKN at KN
              dsimp only [Option.getD_some, Option.isSome_some] at KN
              have TS := Lib.hid (tab_step (T := T) (i := i) hlt)
              have TR := Lib.hid (fun ha => TH.out i hlt ha)
              have BLW := Lib.hid (below_lt (T := T) (i := i) hlt)
              have NXT := Lib.hid (fun (y : CV) r e => next_th (T := T) (i := i) hlt (y := y) (r := r) e)
              have LT1 := Lib.hid (show (tabL (T.pre.take (i + 1))).length ≤ 60 by
                have := tabL_len (T.pre.take (i + 1)); rw [List.length_take] at this; omega)
              have KN2 := Lib.hid (fun wz (gz : w6.grownBy wz none) => knode_any wz s T (HS.out.keep0 (gb_trans G6w.out gz)) (by omega) HCD.out ((i : Int) + 1))
              have ND2 := Lib.hid (fun (h : i + 1 < T.cnt) => (nod_in h : nodA T.pre ((i + 1 : Nat) : Int) = _))
              generalize T.pre.getD i cz = x at *
              generalize hP : tabL (T.pre.take i) = P at *
              generalize hP1 : tabL (T.pre.take (i + 1)) = P1' at *
              go_wp2_with fail
              refine KN.out.mono ?_
              rintro e w8 ⟨y, rfl, eqn, vm, g8⟩
              have EQ := Lib.hid eqn
              have VMy := Lib.hid vm
              have G9 := Lib.hid (gb_trans G8.out (gb_trans g8 (gb_alloc w8 (.cells #[.int .i64 y.k, .int .i64 y.t, .slice y.c.a y.c.n y.c.c, .slice y.s.a y.s.n y.s.c, .slice y.u.a y.u.n y.u.c] 63) none)))
              have BX := IsB.new w8 63 #[.int .i64 y.k, .int .i64 y.t, .slice y.c.a y.c.n y.c.c, .slice y.s.a y.s.n y.s.c, .slice y.u.a y.u.n y.u.c]
              have VM9 := Lib.hid (vm.keep0 (gb_alloc w8 (.cells #[.int .i64 y.k, .int .i64 y.t, .slice y.c.a y.c.n y.c.c, .slice y.s.a y.s.n y.s.c, .slice y.u.a y.u.n y.u.c] 63) none))
              clear KN eqn vm g8 G8
              have ecn := Lib.hid (show y.th.cnt = x.th.cnt ∧ y.el.cnt = x.el.cnt from ⟨eqv_cnt EQ.out.th, eqv_cnt EQ.out.el⟩)
              have CB := Lib.hid (show x.th.cnt ≤ 60 ∧ x.el.cnt ≤ 60 by have := BLW.out; omega)
              have C1 := Lib.hid (fun (wz : World) (gz : (w8.alloc (.cells #[.int .i64 y.k, .int .i64 y.t, .slice y.c.a y.c.n y.c.c, .slice y.s.a y.s.n y.s.c, .slice y.u.a y.u.n y.u.c] 63)).grownBy wz none) => count_any wz y.s y.th (VM9.out.s.keep0 gz) (by have := ecn.out; have := CB.out; omega))
              have C2 := Lib.hid (fun (wz : World) (gz : (w8.alloc (.cells #[.int .i64 y.k, .int .i64 y.t, .slice y.c.a y.c.n y.c.c, .slice y.s.a y.s.n y.s.c, .slice y.u.a y.u.n y.u.c] 63)).grownBy wz none) => count_any wz y.u y.el (VM9.out.u.keep0 gz) (by have := ecn.out; have := CB.out; omega))
              unfold RetV at C1 C2
              go_upto_region 20 with fail
              obtain ⟨bx, hbx⟩ : ∃ q, q = w8.heap.size := ⟨_, rfl⟩
              rw [← hbx] at BX ⊢
              generalize w8.alloc (.cells #[.int .i64 y.k, .int .i64 y.t, .slice y.c.a y.c.n y.c.c, .slice y.s.a y.s.n y.s.c, .slice y.u.a y.u.n y.u.c] 63) = w9 at *
              clear hbx
              replace BX := Lib.hid BX
              have k0 := BX.out.cell 0
              have k1 := BX.out.cell 1
              simp at k0 k1
              have KS := Lib.hid (fun (w' : World) (q0 : w9.grownBy w' none) => (⟨(BX.out.keep0 q0).cell 3, (BX.out.keep0 q0).cell 4, q0⟩ : (fun w' : World => w'.cell? ⟨bx, 3, none⟩ = some (.slice y.s.a y.s.n y.s.c) ∧ w'.cell? ⟨bx, 4, none⟩ = some (.slice y.u.a y.u.n y.u.c) ∧ w9.grownBy w' none) w'))
              have n25 : ¬ (T.cnt : Int) ≤ (i : Int) + ((y.th.cnt : Int) + (y.el.cnt : Int)) := by have := BLW.out; have := ecn.out; omega
              have cbt : y.th.cnt ≤ 60 ∧ y.el.cnt ≤ 60 := by have := CB.out; have := ecn.out; omega
              obtain ⟨cbt1, cbt2⟩ := cbt
              by_cases hk1 : y.k = 1
              · rw [hk1] at k0
                have hap : appl x = true := by unfold appl; rw [EQ.out.k, hk1]; rfl
                obtain ⟨tr1, tr2⟩ := TR.out hap
                have EP := Lib.hid (show P1' = P ++ [x.t] by rw [TS.out, hap, if_pos rfl])
                cases a6 with
                | none => exact absurd (Q6.out.2.1 rfl).1 (by omega)
                | some ad6 =>
                  have c6' := (Q6.out.keep0 G9.out).cellAt P.length tr1
                  rw [tr2, EQ.out.t] at c6'
                  have d1 : decide ((Q.length : Int) ≤ (P.length : Int)) = false := decide_eq_false (by omega)
                  have d2 : decide (Q.length ≤ P.length) = false := decide_eq_false (by omega)
                  have i5 : (P.length : Int) < Q.length := by omega
                  have b5 : (y.t != y.t) = false := by simp
                  have RL := Lib.hid (show ((P1'.length : Nat) : Int) = (P.length : Int) + 1 by rw [EP.out]; simp)
                  have lp : P.length ≤ 60 := by have := TL.out; omega
                  clear tr2 TR TH hap
                  go_wp2_with fail
                  go_quiet (fail)
                  go_wp2_with fail
                  refine wp_region_held_drew (S := (fun w' : World => w'.cell? ⟨bx, 3, none⟩ = some (.slice y.s.a y.s.n y.s.c) ∧ w'.cell? ⟨bx, 4, none⟩ = some (.slice y.u.a y.u.n y.u.c) ∧ w9.grownBy w' none)) (by kernel_rfl) (KS.out _ (by first | exact gb_drew _ none | exact gb_trans (gb_drewN _ _ none) (gb_drew _ none))) (fun hH0 => ?_)
                  have H0 := Lib.hid hH0.2.2
                  refine wpAnyH_take (i := 0) (v := ?v41019) rfl (by kernel_rfl) (by kernel_rfl) (by kernel_rfl) (fun _ _ _ h => h) (Or.inl ⟨by rfl, ?hy41019⟩) (by assumption) ?rest41019
                  case hy41019 => (intro wz hSw; (try dsimp only at hSw); first | (go_simp; done) | (go_simp; with_reducible rfl))
                  try simp only [Act.put, List.getElem_toArray, List.getElem_cons_zero, List.setIfInBounds_toArray, List.set_cons_zero, List.set_cons_succ]
                  refine wpAnyH_take (i := 1) (v := ?v41020) rfl (by kernel_rfl) (by kernel_rfl) (by kernel_rfl) (fun _ _ _ h => h) (Or.inl ⟨by rfl, ?hy41020⟩) (by assumption) ?rest41020
                  case hy41020 => (intro wz hSw; (try dsimp only at hSw); first | (go_simp; done) | (go_simp; with_reducible rfl))
                  try simp only [Act.put, List.getElem_toArray, List.getElem_cons_succ, List.getElem_cons_zero, List.setIfInBounds_toArray, List.set_cons_zero, List.set_cons_succ]
                  refine wpAnyH_take (i := 3) (v := ?v41021) rfl (by kernel_rfl) (by kernel_rfl) (by kernel_rfl) (fun _ _ _ h => h) (Or.inl ⟨by rfl, ?hy41021⟩) (by assumption) ?rest41021
                  case hy41021 => (intro wz hSw; (try dsimp only at hSw); first | (go_simp; done) | (go_simp; with_reducible rfl))
                  try simp only [Act.put, List.getElem_toArray, List.getElem_cons_succ, List.getElem_cons_zero, List.setIfInBounds_toArray, List.set_cons_zero, List.set_cons_succ]
                  refine wpAnyH_take (i := 4) (v := ?v41022) rfl (by kernel_rfl) (by kernel_rfl) (by kernel_rfl) (fun _ _ _ h => h) (Or.inl ⟨by rfl, ?hy41022⟩) (by assumption) ?rest41022
                  case hy41022 => (intro wz hSw; (try dsimp only at hSw); first | (go_simp; done) | (go_simp; with_reducible rfl))
                  try simp only [Act.put, List.getElem_toArray, List.getElem_cons_succ, List.getElem_cons_zero, List.setIfInBounds_toArray, List.set_cons_zero, List.set_cons_succ]
                  refine wpAnyH_ready (rs := [2]) (by kernel_rfl) (by simp) ?_
                  refine AllReadyH.cons (o := _) rfl (fun K hK => ?_) AllReadyH.nil
                  go_simp
                  refine (C1.out _ H0.out).mono ?_
                  rintro e wh1 ⟨rfl, g⟩
                  have H1 := Lib.hid (gb_trans H0.out g)
                  clear g
                  try dsimp only
                  refine hK.out _ _ (KS.out _ H1.out) (fun hH1 => ?_)
                  clear hK K hH0
                  try simp only [Act.put, List.getElem_toArray, List.getElem_cons_succ, List.getElem_cons_zero, List.setIfInBounds_toArray, List.set_cons_zero, List.set_cons_succ]
                  refine wpAnyH_ready (rs := [5]) (by kernel_rfl) (by simp) ?_
                  refine AllReadyH.cons (o := _) rfl (fun K hK => ?_) AllReadyH.nil
                  go_simp
                  refine (C2.out _ H1.out).mono ?_
                  rintro e wh2 ⟨rfl, g⟩
                  have H2 := Lib.hid (gb_trans H1.out g)
                  clear g
                  try dsimp only
                  refine hK.out _ _ (KS.out _ H2.out) (fun hH2 => ?_)
                  clear hK K hH1
                  try simp only [Act.put, List.getElem_toArray, List.getElem_cons_succ, List.getElem_cons_zero, List.setIfInBounds_toArray, List.set_cons_zero, List.set_cons_succ]
                  refine wpAnyH_take (i := 6) (v := ?v41023) rfl (by kernel_rfl) (by kernel_rfl) (by kernel_rfl) (fun _ _ _ h => h) (Or.inl ⟨by rfl, ?hy41023⟩) (by assumption) ?rest41023
                  case hy41023 => (intro wz hSw; (try dsimp only at hSw); first | (go_simp; done) | (go_simp; with_reducible rfl))
                  try simp only [Act.put, List.getElem_toArray, List.getElem_cons_succ, List.getElem_cons_zero, List.setIfInBounds_toArray, List.set_cons_zero, List.set_cons_succ]
                  refine wpAnyH_take (i := 7) (v := ?v41024) rfl (by kernel_rfl) (by kernel_rfl) (by kernel_rfl) (fun _ _ _ h => h) (Or.inl ⟨by rfl, ?hy41024⟩) (by assumption) ?rest41024
                  case hy41024 => (intro wz hSw; (try dsimp only at hSw); first | (go_simp; done) | (go_simp; with_reducible rfl))
                  try simp only [Act.put, List.getElem_toArray, List.getElem_cons_succ, List.getElem_cons_zero, List.setIfInBounds_toArray, List.set_cons_zero, List.set_cons_succ]
                  refine wpAnyH_done (by kernel_rfl) ?_ _
                  clear hH2
                  have k3 := (BX.out.keep0 H2.out).cell 3
                  simp at k3
                  have G11 := Lib.hid (gb_trans G9.out H2.out)
                  by_cases hs : 0 < y.s.n
                  · obtain ⟨z, ad, hsa, hdr, ⟨z0, z1, -, -, -⟩, -⟩ := (VM9.out.s.keep0 H2.out).at_ 0 hs
                    rw [CT.drop_zero] at hdr
                    have ev := eqv_symm _ _ EQ.out.th
                    rw [hdr] at ev
                    obtain ⟨z', q, hxth, hk, ht⟩ := eqv_ct2 ev
                    have nx1 := NXT.out z' q hxth
                    have hlt2 : i + 1 < T.cnt := by
                      have := BLW.out
                      have e := CV.cnt_ct z' q
                      rw [← hxth] at e
                      omega
                    have K3 := Lib.hid (show Calls Try.prog 22 #[.slice s.a s.n s.c, .int .i64 ((i : Int) + 1)] wh2 (RetKN (some z') wh2) by
                      have q := KN2.out wh2 G11.out
                      have n2 := ND2.out hlt2
                      rw [nx1] at n2
                      rw [show ((i + 1 : Nat) : Int) = (i : Int) + 1 by omega] at n2
                      rw [n2] at q
                      exact q)
                    unfold RetKN at K3
                    dsimp only [Option.getD_some, Option.isSome_some] at K3
                    rw [hsa] at k3
                    have HSA := Lib.hid hsa
                    have hsi : (0 : Int) < (y.s.n : Int) := by omega
                    have Z0 := Lib.hid z0
                    have Z1 := Lib.hid z1
                    have HK := Lib.hid hk
                    have HT := Lib.hid ht
                    clear hsa hdr ev hxth nx1 hk ht z0 z1 NXT KN2 ND2 BLW
                    go_wp2_with fail
                    refine K3.out.mono ?_
                    rintro e w10 ⟨y2, rfl, eq2, vm2, g10⟩
                    clear K3 vm2
                    have G12 := Lib.hid (gb_trans G11.out (gb_trans g10 (gb_alloc w10 (.cells #[.int .i64 y2.k, .int .i64 y2.t, .slice y2.c.a y2.c.n y2.c.c, .slice y2.s.a y2.s.n y2.s.c, .slice y2.u.a y2.u.n y2.u.c] 63) none)))
                    have B2 := IsB.new w10 63 #[.int .i64 y2.k, .int .i64 y2.t, .slice y2.c.a y2.c.n y2.c.c, .slice y2.s.a y2.s.n y2.s.c, .slice y2.u.a y2.u.n y2.u.c]
                    have gz := gb_trans g10 (gb_alloc w10 (.cells #[.int .i64 y2.k, .int .i64 y2.t, .slice y2.c.a y2.c.n y2.c.c, .slice y2.s.a y2.s.n y2.s.c, .slice y2.u.a y2.u.n y2.u.c] 63) none)
                    have BX3 := (BX.out.keep0 (gb_trans H2.out gz)).cell 3
                    have z0 := gz.cell Z0.out (by simp)
                    have z1 := gz.cell Z1.out (by simp)
                    simp only [Nat.zero_mul, addr00] at z0 z1
                    go_upto_region 29 with fail
                    obtain ⟨bx2, hbx2⟩ : ∃ q, q = w10.heap.size := ⟨_, rfl⟩
                    rw [← hbx2] at B2 ⊢
                    generalize w10.alloc (.cells #[.int .i64 y2.k, .int .i64 y2.t, .slice y2.c.a y2.c.n y2.c.c, .slice y2.s.a y2.s.n y2.s.c, .slice y2.u.a y2.u.n y2.u.c] 63) = w12 at *
                    clear hbx2 gz g10
                    have q0 := B2.cell 0
                    have q1 := B2.cell 1
                    simp at q0 q1 BX3
                    rw [← eq2.k, ← HK.out] at q0
                    rw [← eq2.t, ← HT.out] at q1
                    rw [HSA.out] at BX3
                    have b6 : (z.k != z.k) = false := by simp
                    have b7 : (z.t != z.t) = false := by simp
                    clear B2 eq2 k3
                    go_wp2_with fail
                    go_quiet (fail)
                    go_wp2
                    go_roundw
                    case rel => exact ⟨i + 1, by omega, by rw [hP1, RL.out], by go_num, gb_trans G12.out (gb_drewN _ _ none)⟩
                    case measure => simp [intOf]; omega
                  · have hsi : ¬ (0 : Int) < (y.s.n : Int) := by omega
                    go_wp2
                    go_roundw
                    case rel => exact ⟨i + 1, by omega, by rw [hP1, RL.out], by go_num, G11.out⟩
                    case measure => simp [intOf]; omega
              · by_cases hk3 : y.k = 3
                · rw [hk3] at k0
                  have hap : appl x = true := by unfold appl; rw [EQ.out.k, hk3]; rfl
                  have b13 : ((3 : Int) == 1) = false := by decide
                  obtain ⟨tr1, tr2⟩ := TR.out hap
                  have EP := Lib.hid (show P1' = P ++ [x.t] by rw [TS.out, hap, if_pos rfl])
                  cases a6 with
                  | none => exact absurd (Q6.out.2.1 rfl).1 (by omega)
                  | some ad6 =>
                    have c6' := (Q6.out.keep0 G9.out).cellAt P.length tr1
                    rw [tr2, EQ.out.t] at c6'
                    have d1 : decide ((Q.length : Int) ≤ (P.length : Int)) = false := decide_eq_false (by omega)
                    have d2 : decide (Q.length ≤ P.length) = false := decide_eq_false (by omega)
                    have i5 : (P.length : Int) < Q.length := by omega
                    have b5 : (y.t != y.t) = false := by simp
                    have RL := Lib.hid (show ((P1'.length : Nat) : Int) = (P.length : Int) + 1 by rw [EP.out]; simp)
                    have lp : P.length ≤ 60 := by have := TL.out; omega
                    clear tr2 TR TH hap
                    go_wp2_with fail
                    go_quiet (fail)
                    go_wp2_with fail
                    refine wp_region_held_drew (S := (fun w' : World => w'.cell? ⟨bx, 3, none⟩ = some (.slice y.s.a y.s.n y.s.c) ∧ w'.cell? ⟨bx, 4, none⟩ = some (.slice y.u.a y.u.n y.u.c) ∧ w9.grownBy w' none)) (by kernel_rfl) (KS.out _ (by first | exact gb_drew _ none | exact gb_trans (gb_drewN _ _ none) (gb_drew _ none))) (fun hH0 => ?_)
                    have H0 := Lib.hid hH0.2.2
                    refine wpAnyH_take (i := 0) (v := ?v41025) rfl (by kernel_rfl) (by kernel_rfl) (by kernel_rfl) (fun _ _ _ h => h) (Or.inl ⟨by rfl, ?hy41025⟩) (by assumption) ?rest41025
                    case hy41025 => (intro wz hSw; (try dsimp only at hSw); first | (go_simp; done) | (go_simp; with_reducible rfl))
                    try simp only [Act.put, List.getElem_toArray, List.getElem_cons_zero, List.setIfInBounds_toArray, List.set_cons_zero, List.set_cons_succ]
                    refine wpAnyH_take (i := 1) (v := ?v41026) rfl (by kernel_rfl) (by kernel_rfl) (by kernel_rfl) (fun _ _ _ h => h) (Or.inl ⟨by rfl, ?hy41026⟩) (by assumption) ?rest41026
                    case hy41026 => (intro wz hSw; (try dsimp only at hSw); first | (go_simp; done) | (go_simp; with_reducible rfl))
                    try simp only [Act.put, List.getElem_toArray, List.getElem_cons_succ, List.getElem_cons_zero, List.setIfInBounds_toArray, List.set_cons_zero, List.set_cons_succ]
                    refine wpAnyH_take (i := 3) (v := ?v41027) rfl (by kernel_rfl) (by kernel_rfl) (by kernel_rfl) (fun _ _ _ h => h) (Or.inl ⟨by rfl, ?hy41027⟩) (by assumption) ?rest41027
                    case hy41027 => (intro wz hSw; (try dsimp only at hSw); first | (go_simp; done) | (go_simp; with_reducible rfl))
                    try simp only [Act.put, List.getElem_toArray, List.getElem_cons_succ, List.getElem_cons_zero, List.setIfInBounds_toArray, List.set_cons_zero, List.set_cons_succ]
                    refine wpAnyH_take (i := 4) (v := ?v41028) rfl (by kernel_rfl) (by kernel_rfl) (by kernel_rfl) (fun _ _ _ h => h) (Or.inl ⟨by rfl, ?hy41028⟩) (by assumption) ?rest41028
                    case hy41028 => (intro wz hSw; (try dsimp only at hSw); first | (go_simp; done) | (go_simp; with_reducible rfl))
                    try simp only [Act.put, List.getElem_toArray, List.getElem_cons_succ, List.getElem_cons_zero, List.setIfInBounds_toArray, List.set_cons_zero, List.set_cons_succ]
                    refine wpAnyH_ready (rs := [2]) (by kernel_rfl) (by simp) ?_
                    refine AllReadyH.cons (o := _) rfl (fun K hK => ?_) AllReadyH.nil
                    go_simp
                    refine (C1.out _ H0.out).mono ?_
                    rintro e wh1 ⟨rfl, g⟩
                    have H1 := Lib.hid (gb_trans H0.out g)
                    clear g
                    try dsimp only
                    refine hK.out _ _ (KS.out _ H1.out) (fun hH1 => ?_)
                    clear hK K hH0
                    try simp only [Act.put, List.getElem_toArray, List.getElem_cons_succ, List.getElem_cons_zero, List.setIfInBounds_toArray, List.set_cons_zero, List.set_cons_succ]
                    refine wpAnyH_ready (rs := [5]) (by kernel_rfl) (by simp) ?_
                    refine AllReadyH.cons (o := _) rfl (fun K hK => ?_) AllReadyH.nil
                    go_simp
                    refine (C2.out _ H1.out).mono ?_
                    rintro e wh2 ⟨rfl, g⟩
                    have H2 := Lib.hid (gb_trans H1.out g)
                    clear g
                    try dsimp only
                    refine hK.out _ _ (KS.out _ H2.out) (fun hH2 => ?_)
                    clear hK K hH1
                    try simp only [Act.put, List.getElem_toArray, List.getElem_cons_succ, List.getElem_cons_zero, List.setIfInBounds_toArray, List.set_cons_zero, List.set_cons_succ]
                    refine wpAnyH_take (i := 6) (v := ?v41029) rfl (by kernel_rfl) (by kernel_rfl) (by kernel_rfl) (fun _ _ _ h => h) (Or.inl ⟨by rfl, ?hy41029⟩) (by assumption) ?rest41029
                    case hy41029 => (intro wz hSw; (try dsimp only at hSw); first | (go_simp; done) | (go_simp; with_reducible rfl))
                    try simp only [Act.put, List.getElem_toArray, List.getElem_cons_succ, List.getElem_cons_zero, List.setIfInBounds_toArray, List.set_cons_zero, List.set_cons_succ]
                    refine wpAnyH_take (i := 7) (v := ?v41030) rfl (by kernel_rfl) (by kernel_rfl) (by kernel_rfl) (fun _ _ _ h => h) (Or.inl ⟨by rfl, ?hy41030⟩) (by assumption) ?rest41030
                    case hy41030 => (intro wz hSw; (try dsimp only at hSw); first | (go_simp; done) | (go_simp; with_reducible rfl))
                    try simp only [Act.put, List.getElem_toArray, List.getElem_cons_succ, List.getElem_cons_zero, List.setIfInBounds_toArray, List.set_cons_zero, List.set_cons_succ]
                    refine wpAnyH_done (by kernel_rfl) ?_ _
                    clear hH2
                    have k3 := (BX.out.keep0 H2.out).cell 3
                    simp at k3
                    have G11 := Lib.hid (gb_trans G9.out H2.out)
                    by_cases hs : 0 < y.s.n
                    · obtain ⟨z, ad, hsa, hdr, ⟨z0, z1, -, -, -⟩, -⟩ := (VM9.out.s.keep0 H2.out).at_ 0 hs
                      rw [CT.drop_zero] at hdr
                      have ev := eqv_symm _ _ EQ.out.th
                      rw [hdr] at ev
                      obtain ⟨z', q, hxth, hk, ht⟩ := eqv_ct2 ev
                      have nx1 := NXT.out z' q hxth
                      have hlt2 : i + 1 < T.cnt := by
                        have := BLW.out
                        have e := CV.cnt_ct z' q
                        rw [← hxth] at e
                        omega
                      have K3 := Lib.hid (show Calls Try.prog 22 #[.slice s.a s.n s.c, .int .i64 ((i : Int) + 1)] wh2 (RetKN (some z') wh2) by
                        have q := KN2.out wh2 G11.out
                        have n2 := ND2.out hlt2
                        rw [nx1] at n2
                        rw [show ((i + 1 : Nat) : Int) = (i : Int) + 1 by omega] at n2
                        rw [n2] at q
                        exact q)
                      unfold RetKN at K3
                      dsimp only [Option.getD_some, Option.isSome_some] at K3
                      rw [hsa] at k3
                      have HSA := Lib.hid hsa
                      have hsi : (0 : Int) < (y.s.n : Int) := by omega
                      have Z0 := Lib.hid z0
                      have Z1 := Lib.hid z1
                      have HK := Lib.hid hk
                      have HT := Lib.hid ht
                      clear hsa hdr ev hxth nx1 hk ht z0 z1 NXT KN2 ND2 BLW
                      go_wp2_with fail
                      refine K3.out.mono ?_
                      rintro e w10 ⟨y2, rfl, eq2, vm2, g10⟩
                      clear K3 vm2
                      have G12 := Lib.hid (gb_trans G11.out (gb_trans g10 (gb_alloc w10 (.cells #[.int .i64 y2.k, .int .i64 y2.t, .slice y2.c.a y2.c.n y2.c.c, .slice y2.s.a y2.s.n y2.s.c, .slice y2.u.a y2.u.n y2.u.c] 63) none)))
                      have B2 := IsB.new w10 63 #[.int .i64 y2.k, .int .i64 y2.t, .slice y2.c.a y2.c.n y2.c.c, .slice y2.s.a y2.s.n y2.s.c, .slice y2.u.a y2.u.n y2.u.c]
                      have gz := gb_trans g10 (gb_alloc w10 (.cells #[.int .i64 y2.k, .int .i64 y2.t, .slice y2.c.a y2.c.n y2.c.c, .slice y2.s.a y2.s.n y2.s.c, .slice y2.u.a y2.u.n y2.u.c] 63) none)
                      have BX3 := (BX.out.keep0 (gb_trans H2.out gz)).cell 3
                      have z0 := gz.cell Z0.out (by simp)
                      have z1 := gz.cell Z1.out (by simp)
                      simp only [Nat.zero_mul, addr00] at z0 z1
                      go_upto_region 29 with fail
                      obtain ⟨bx2, hbx2⟩ : ∃ q, q = w10.heap.size := ⟨_, rfl⟩
                      rw [← hbx2] at B2 ⊢
                      generalize w10.alloc (.cells #[.int .i64 y2.k, .int .i64 y2.t, .slice y2.c.a y2.c.n y2.c.c, .slice y2.s.a y2.s.n y2.s.c, .slice y2.u.a y2.u.n y2.u.c] 63) = w12 at *
                      clear hbx2 gz g10
                      have q0 := B2.cell 0
                      have q1 := B2.cell 1
                      simp at q0 q1 BX3
                      rw [← eq2.k, ← HK.out] at q0
                      rw [← eq2.t, ← HT.out] at q1
                      rw [HSA.out] at BX3
                      have b6 : (z.k != z.k) = false := by simp
                      have b7 : (z.t != z.t) = false := by simp
                      clear B2 eq2 k3
                      go_wp2_with fail
                      go_quiet (fail)
                      go_wp2
                      go_roundw
                      case rel => exact ⟨i + 1, by omega, by rw [hP1, RL.out], by go_num, gb_trans G12.out (gb_drewN _ _ none)⟩
                      case measure => simp [intOf]; omega
                    · have hsi : ¬ (0 : Int) < (y.s.n : Int) := by omega
                      go_wp2
                      go_roundw
                      case rel => exact ⟨i + 1, by omega, by rw [hP1, RL.out], by go_num, G11.out⟩
                      case measure => simp [intOf]; omega
                · have hap : appl x = false := by unfold appl; rw [EQ.out.k]; simp [hk1, hk3]
                  have b1 : (y.k == 1) = false := by simpa using hk1
                  have b3 : (y.k == 3) = false := by simpa using hk3
                  have EP := Lib.hid (show P1' = P by rw [TS.out, hap, if_neg (show ¬ (false = true) from by decide)])
                  generalize y.k = yk at *
                  have PL : P1'.length = P.length := by rw [EP.out]
                  have RL := Lib.hid (show ((P1'.length : Nat) : Int) = (P.length : Int) by rw [PL])
                  clear PL TR TH hk1 hk3 hap
                  go_wp2_with fail
                  refine wp_region_held_drew (S := (fun w' : World => w'.cell? ⟨bx, 3, none⟩ = some (.slice y.s.a y.s.n y.s.c) ∧ w'.cell? ⟨bx, 4, none⟩ = some (.slice y.u.a y.u.n y.u.c) ∧ w9.grownBy w' none)) (by kernel_rfl) (KS.out _ (by first | exact gb_drew _ none | exact gb_trans (gb_drewN _ _ none) (gb_drew _ none))) (fun hH0 => ?_)
                  have H0 := Lib.hid hH0.2.2
                  refine wpAnyH_take (i := 0) (v := ?v41031) rfl (by kernel_rfl) (by kernel_rfl) (by kernel_rfl) (fun _ _ _ h => h) (Or.inl ⟨by rfl, ?hy41031⟩) (by assumption) ?rest41031
                  case hy41031 => (intro wz hSw; (try dsimp only at hSw); first | (go_simp; done) | (go_simp; with_reducible rfl))
                  try simp only [Act.put, List.getElem_toArray, List.getElem_cons_zero, List.setIfInBounds_toArray, List.set_cons_zero, List.set_cons_succ]
                  refine wpAnyH_take (i := 1) (v := ?v41032) rfl (by kernel_rfl) (by kernel_rfl) (by kernel_rfl) (fun _ _ _ h => h) (Or.inl ⟨by rfl, ?hy41032⟩) (by assumption) ?rest41032
                  case hy41032 => (intro wz hSw; (try dsimp only at hSw); first | (go_simp; done) | (go_simp; with_reducible rfl))
                  try simp only [Act.put, List.getElem_toArray, List.getElem_cons_succ, List.getElem_cons_zero, List.setIfInBounds_toArray, List.set_cons_zero, List.set_cons_succ]
                  refine wpAnyH_take (i := 3) (v := ?v41033) rfl (by kernel_rfl) (by kernel_rfl) (by kernel_rfl) (fun _ _ _ h => h) (Or.inl ⟨by rfl, ?hy41033⟩) (by assumption) ?rest41033
                  case hy41033 => (intro wz hSw; (try dsimp only at hSw); first | (go_simp; done) | (go_simp; with_reducible rfl))
                  try simp only [Act.put, List.getElem_toArray, List.getElem_cons_succ, List.getElem_cons_zero, List.setIfInBounds_toArray, List.set_cons_zero, List.set_cons_succ]
                  refine wpAnyH_take (i := 4) (v := ?v41034) rfl (by kernel_rfl) (by kernel_rfl) (by kernel_rfl) (fun _ _ _ h => h) (Or.inl ⟨by rfl, ?hy41034⟩) (by assumption) ?rest41034
                  case hy41034 => (intro wz hSw; (try dsimp only at hSw); first | (go_simp; done) | (go_simp; with_reducible rfl))
                  try simp only [Act.put, List.getElem_toArray, List.getElem_cons_succ, List.getElem_cons_zero, List.setIfInBounds_toArray, List.set_cons_zero, List.set_cons_succ]
                  refine wpAnyH_ready (rs := [2]) (by kernel_rfl) (by simp) ?_
                  refine AllReadyH.cons (o := _) rfl (fun K hK => ?_) AllReadyH.nil
                  go_simp
                  refine (C1.out _ H0.out).mono ?_
                  rintro e wh1 ⟨rfl, g⟩
                  have H1 := Lib.hid (gb_trans H0.out g)
                  clear g
                  try dsimp only
                  refine hK.out _ _ (KS.out _ H1.out) (fun hH1 => ?_)
                  clear hK K hH0
                  try simp only [Act.put, List.getElem_toArray, List.getElem_cons_succ, List.getElem_cons_zero, List.setIfInBounds_toArray, List.set_cons_zero, List.set_cons_succ]
                  refine wpAnyH_ready (rs := [5]) (by kernel_rfl) (by simp) ?_
                  refine AllReadyH.cons (o := _) rfl (fun K hK => ?_) AllReadyH.nil
                  go_simp
                  refine (C2.out _ H1.out).mono ?_
                  rintro e wh2 ⟨rfl, g⟩
                  have H2 := Lib.hid (gb_trans H1.out g)
                  clear g
                  try dsimp only
                  refine hK.out _ _ (KS.out _ H2.out) (fun hH2 => ?_)
                  clear hK K hH1
                  try simp only [Act.put, List.getElem_toArray, List.getElem_cons_succ, List.getElem_cons_zero, List.setIfInBounds_toArray, List.set_cons_zero, List.set_cons_succ]
                  refine wpAnyH_take (i := 6) (v := ?v41035) rfl (by kernel_rfl) (by kernel_rfl) (by kernel_rfl) (fun _ _ _ h => h) (Or.inl ⟨by rfl, ?hy41035⟩) (by assumption) ?rest41035
                  case hy41035 => (intro wz hSw; (try dsimp only at hSw); first | (go_simp; done) | (go_simp; with_reducible rfl))
                  try simp only [Act.put, List.getElem_toArray, List.getElem_cons_succ, List.getElem_cons_zero, List.setIfInBounds_toArray, List.set_cons_zero, List.set_cons_succ]
                  refine wpAnyH_take (i := 7) (v := ?v41036) rfl (by kernel_rfl) (by kernel_rfl) (by kernel_rfl) (fun _ _ _ h => h) (Or.inl ⟨by rfl, ?hy41036⟩) (by assumption) ?rest41036
                  case hy41036 => (intro wz hSw; (try dsimp only at hSw); first | (go_simp; done) | (go_simp; with_reducible rfl))
                  try simp only [Act.put, List.getElem_toArray, List.getElem_cons_succ, List.getElem_cons_zero, List.setIfInBounds_toArray, List.set_cons_zero, List.set_cons_succ]
                  refine wpAnyH_done (by kernel_rfl) ?_ _
                  clear hH2
                  have k3 := (BX.out.keep0 H2.out).cell 3
                  simp at k3
                  have G11 := Lib.hid (gb_trans G9.out H2.out)
                  by_cases hs : 0 < y.s.n
                  · obtain ⟨z, ad, hsa, hdr, ⟨z0, z1, -, -, -⟩, -⟩ := (VM9.out.s.keep0 H2.out).at_ 0 hs
                    rw [CT.drop_zero] at hdr
                    have ev := eqv_symm _ _ EQ.out.th
                    rw [hdr] at ev
                    obtain ⟨z', q, hxth, hk, ht⟩ := eqv_ct2 ev
                    have nx1 := NXT.out z' q hxth
                    have hlt2 : i + 1 < T.cnt := by
                      have := BLW.out
                      have e := CV.cnt_ct z' q
                      rw [← hxth] at e
                      omega
                    have K3 := Lib.hid (show Calls Try.prog 22 #[.slice s.a s.n s.c, .int .i64 ((i : Int) + 1)] wh2 (RetKN (some z') wh2) by
                      have q := KN2.out wh2 G11.out
                      have n2 := ND2.out hlt2
                      rw [nx1] at n2
                      rw [show ((i + 1 : Nat) : Int) = (i : Int) + 1 by omega] at n2
                      rw [n2] at q
                      exact q)
                    unfold RetKN at K3
                    dsimp only [Option.getD_some, Option.isSome_some] at K3
                    rw [hsa] at k3
                    have HSA := Lib.hid hsa
                    have hsi : (0 : Int) < (y.s.n : Int) := by omega
                    have Z0 := Lib.hid z0
                    have Z1 := Lib.hid z1
                    have HK := Lib.hid hk
                    have HT := Lib.hid ht
                    clear hsa hdr ev hxth nx1 hk ht z0 z1 NXT KN2 ND2 BLW
                    go_wp2_with fail
                    refine K3.out.mono ?_
                    rintro e w10 ⟨y2, rfl, eq2, vm2, g10⟩
                    clear K3 vm2
                    have G12 := Lib.hid (gb_trans G11.out (gb_trans g10 (gb_alloc w10 (.cells #[.int .i64 y2.k, .int .i64 y2.t, .slice y2.c.a y2.c.n y2.c.c, .slice y2.s.a y2.s.n y2.s.c, .slice y2.u.a y2.u.n y2.u.c] 63) none)))
                    have B2 := IsB.new w10 63 #[.int .i64 y2.k, .int .i64 y2.t, .slice y2.c.a y2.c.n y2.c.c, .slice y2.s.a y2.s.n y2.s.c, .slice y2.u.a y2.u.n y2.u.c]
                    have gz := gb_trans g10 (gb_alloc w10 (.cells #[.int .i64 y2.k, .int .i64 y2.t, .slice y2.c.a y2.c.n y2.c.c, .slice y2.s.a y2.s.n y2.s.c, .slice y2.u.a y2.u.n y2.u.c] 63) none)
                    have BX3 := (BX.out.keep0 (gb_trans H2.out gz)).cell 3
                    have z0 := gz.cell Z0.out (by simp)
                    have z1 := gz.cell Z1.out (by simp)
                    simp only [Nat.zero_mul, addr00] at z0 z1
                    go_upto_region 29 with fail
                    obtain ⟨bx2, hbx2⟩ : ∃ q, q = w10.heap.size := ⟨_, rfl⟩
                    rw [← hbx2] at B2 ⊢
                    generalize w10.alloc (.cells #[.int .i64 y2.k, .int .i64 y2.t, .slice y2.c.a y2.c.n y2.c.c, .slice y2.s.a y2.s.n y2.s.c, .slice y2.u.a y2.u.n y2.u.c] 63) = w12 at *
                    clear hbx2 gz g10
                    have q0 := B2.cell 0
                    have q1 := B2.cell 1
                    simp at q0 q1 BX3
                    rw [← eq2.k, ← HK.out] at q0
                    rw [← eq2.t, ← HT.out] at q1
                    rw [HSA.out] at BX3
                    have b6 : (z.k != z.k) = false := by simp
                    have b7 : (z.t != z.t) = false := by simp
                    clear B2 eq2 k3
                    go_wp2_with fail
                    go_quiet (fail)
                    go_wp2
                    go_roundw
                    case rel => exact ⟨i + 1, by omega, by rw [hP1, RL.out], by go_num, gb_trans G12.out (gb_drewN _ _ none)⟩
                    case measure => simp [intOf]; omega
                  · have hsi : ¬ (0 : Int) < (y.s.n : Int) := by omega
                    go_wp2
                    go_roundw
                    case rel => exact ⟨i + 1, by omega, by rw [hP1, RL.out], by go_num, G11.out⟩
                    case measure => simp [intOf]; omega
            · have hie : i = T.cnt := by omega
              subst hie
              have KN1 := Lib.hid (show Calls Try.prog 22 #[.slice s.a s.n s.c, .int .i64 (T.cnt : Int)] wr (RetKN none wr) by
                have q := knode_any wr s T (HS.out.keep0 (gb_trans G6w.out G8.out)) (by omega) HCD.out (T.cnt : Int)
                rw [nod_end] at q
                exact q)
              have KN2 := Lib.hid (fun wz (gz : w6.grownBy wz none) => (show Calls Try.prog 22 #[.slice s.a s.n s.c, .int .i64 (-1)] wz (RetKN none wz) by
                have q := knode_any wz s T (HS.out.keep0 (gb_trans G6w.out gz)) (by omega) HCD.out (-1)
                rw [nod_low] at q
                exact q))
              unfold RetKN at KN1 KN2
              dsimp only [Option.getD_none, Option.isSome_none] at KN1 KN2
              have QL := congrArg List.length ALL.out
              have ea : ((at_ : Int) == (tb.length : Int)) = true := by have := EA.out; simp; omega
              have eb : (((tabL (T.pre.take T.cnt)).length : Int) == (Q.length : Int)) = true := by rw [QL]; simp
              clear QL
              generalize tabL (T.pre.take T.cnt) = P at *
              go_wp2_with fail
              refine KN1.out.mono ?_
              rintro e w8 ⟨y, rfl, -, -, g8⟩
              have G9 := Lib.hid (gb_trans G8.out (gb_trans g8 (gb_alloc w8 (.cells #[.int .i64 y.k, .int .i64 y.t, .slice y.c.a y.c.n y.c.c, .slice y.s.a y.s.n y.s.c, .slice y.u.a y.u.n y.u.c] 63) none)))
              clear KN1 g8
              go_wp2_with fail
              refine (KN2.out _ G9.out).mono ?_
              rintro e w10 ⟨y2, rfl, -, -, g10⟩
              have G12 := Lib.hid (gb_trans G9.out (gb_trans g10 (gb_alloc w10 (.cells #[.int .i64 y2.k, .int .i64 y2.t, .slice y2.c.a y2.c.n y2.c.c, .slice y2.s.a y2.s.n y2.s.c, .slice y2.u.a y2.u.n y2.u.c] 63) none)))
              have k2 := (X1.out.keep0 G12.out).cell 2
              simp at k2
              clear KN2 g10
              go_wp2_with fail
              refine (AW.out _).mono ?_
              rintro e we ⟨rfl, ge⟩
              have GE := Lib.hid (gb_trans G6w.out (gb_trans G12.out ge))
              clear ge
              go_wp2
              go_ret
              exact ⟨rfl, GE.out⟩
end Go.Proofs.Ytfjeonoihdgdoaa
