/- Ternary: the walk of TernarySubtracts. -/
import Derived.Test.YtphejamjognmpaaTeY
import Derived.Test.YtphejamjognmpaaTeV
import Derived.Deep.RegionHeld3
import Derived.Deep.CutRange
namespace Go.Proofs.Ytphejamjognmpaa
open Go.RowKit
set_option linter.unusedVariables false

theorem args_cells2 {w : World} {g : Nat} {t : TypeId} {a b c d e f : Value} (h : IsB w g t #[a, b, c, d, e, f]) : w.cell? ⟨g, 0, none⟩ = some a ∧ w.cell? ⟨g, 1, none⟩ = some b ∧ w.cell? ⟨g, 2, none⟩ = some c ∧ w.cell? ⟨g, 3, none⟩ = some d ∧ w.cell? ⟨g, 4, none⟩ = some e ∧ w.cell? ⟨g, 5, none⟩ = some f := ⟨h.cell 0, h.cell 1, h.cell 2, h.cell 3, h.cell 4, h.cell 5⟩
theorem subs_out (a b c d n : Nat) (x : Int) (W : World) (ha : B64 a) (hb : B64 b) (hc : B64 c) (hd : B64 d) (hn : B64 n) (hx : (Lit.int .i64 x).wf = true) (hw : ¬ (1 ≤ x ∧ x ≤ 64)) : Calls Try.prog 6 #[.agg #[.int .u64 a, .int .u64 b, .int .u64 c, .int .u64 d, .int .u64 n, .int .i64 x]] W (HoldsT W) := by
  have SB := Lib.hid (fun w => psub_any w a b c d x ha hb hc hd)
  rw [show subL a b c d x = [] by unfold subL; rw [if_neg hw]] at SB
  have HA := Lib.hid (IsB.new W 26 #[.int .u64 a, .int .u64 b, .int .u64 c, .int .u64 d, .int .u64 n, .int .i64 x])
  have G := Lib.hid (gb_alloc W (.cells #[.int .u64 a, .int .u64 b, .int .u64 c, .int .u64 d, .int .u64 n, .int .i64 x] 26) none)
  clear ha hb hc hd hn hx
  by_cases h1 : x < 1
  · clear hw
    go_enter Try.func6, Try.ntmps6
    go_wp2_with fail
    generalize W.alloc (.cells #[.int .u64 a, .int .u64 b, .int .u64 c, .int .u64 d, .int .u64 n, .int .i64 x] 26) = w0 at *
    refine (SB.out _).mono ?_
    rintro e w1 ⟨V, rfl, o1, g1⟩
    obtain ⟨la, lc, rfl⟩ := o1.shape
    have HA := Lib.hid (HA.out.keep0 g1)
    have G := Lib.hid (gb_trans G.out g1)
    obtain ⟨a1, a2, a3, a4, a5, a6⟩ := args_cells2 HA.out
    clear g1 o1
    go_wp2_with fail
    refine (awake_any _).mono ?_
    rintro e w7 ⟨rfl, g7⟩
    have G := Lib.hid (gb_trans G.out g7)
    clear g7
    go_wp2
    go_ret
    exact ⟨rfl, below_of G.out⟩
  · have h2 : 64 < x := by omega
    clear hw
    go_enter Try.func6, Try.ntmps6
    go_wp2_with fail
    generalize W.alloc (.cells #[.int .u64 a, .int .u64 b, .int .u64 c, .int .u64 d, .int .u64 n, .int .i64 x] 26) = w0 at *
    refine (SB.out _).mono ?_
    rintro e w1 ⟨V, rfl, o1, g1⟩
    obtain ⟨la, lc, rfl⟩ := o1.shape
    have HA := Lib.hid (HA.out.keep0 g1)
    have G := Lib.hid (gb_trans G.out g1)
    obtain ⟨a1, a2, a3, a4, a5, a6⟩ := args_cells2 HA.out
    clear g1 o1
    go_wp2_with fail
    refine (awake_any _).mono ?_
    rintro e w7 ⟨rfl, g7⟩
    have G := Lib.hid (gb_trans G.out g7)
    clear g7
    go_wp2
    go_ret
    exact ⟨rfl, below_of G.out⟩
theorem cnt_snoc (L : List (Nat × Nat)) (N j : Nat) (h : j < L.length) : cntN (L.take (j + 1)) N = cntN (L.take j) N + if hasN (L.getD j (0, 0)).1 (L.getD j (0, 0)).2 N = true then 1 else 0 := by
  have a : L.take (j + 1) = L.take j ++ [L.getD j (0, 0)] := by rw [List.take_add_one]; simp [h]
  unfold cntN
  rw [a, List.countP_append, List.countP_cons, List.countP_nil, Nat.zero_add]
theorem apart_at {L : List (Nat × Nat)} (h : L.Pairwise fun p q => meetN p.1 p.2 q.1 q.2 = false) {i j : Nat} (hi : i < L.length) (hj : j < L.length) (hij : i < j) : meetN (L.getD i (0, 0)).1 (L.getD i (0, 0)).2 (L.getD j (0, 0)).1 (L.getD j (0, 0)).2 = false := by
  have k := List.pairwise_iff_getElem.mp h i j hi hj hij
  rw [List.getD_eq_getElem?_getD, List.getD_eq_getElem?_getD, List.getElem?_eq_getElem hi, List.getElem?_eq_getElem hj]
  exact k
theorem cnt_le (L : List (Nat × Nat)) (N : Nat) : cntN L N ≤ L.length := List.countP_le_length
set_option maxRecDepth 100000 in
set_option maxHeartbeats 20000000 in
theorem subs_in (a b c d n : Nat) (k : Nat) (W : World) (ha : B64 a) (hb : B64 b) (hc : B64 c) (hd : B64 d) (hn : B64 n) (h1 : 1 ≤ k) (h2 : k ≤ 64) : Calls Try.prog 6 #[.agg #[.int .u64 a, .int .u64 b, .int .u64 c, .int .u64 d, .int .u64 n, .int .i64 k]] W (HoldsT W) := by
  have SB := Lib.hid (fun w => psub_any w a b c d (k : Int) ha hb hc hd)
  obtain ⟨n2, hn2, hnl, en⟩ := bA n (lowN k) hn (lowN_lt k h2)
  obtain ⟨b2, hb2, hbl, eb⟩ := bA b (lowN k) hb (lowN_lt k h2)
  obtain ⟨d2, hd2, hdl, ed⟩ := bA d (lowN k) hd (lowN_lt k h2)
  have CT := Lib.hid (subL_cnt a b c d k n2 h1 h2 ha hb hc hd)
  rw [← hb2, ← hd2] at CT
  have CK := Lib.hid (subL_chk a b c d k h1 h2 ha hb hc hd)
  have AP := Lib.hid (subL_apart a b c d (k : Int) ha hb hc hd)
  have LN := Lib.hid (subL_len a b c d (k : Int))
  generalize subL a b c d (k : Int) = L at *
  have NB := Lib.hid hnl
  have C1 := Lib.hid (fun w => contains_any w a b2 n2 ha hbl hnl)
  have C2 := Lib.hid (fun w => contains_any w c d2 n2 hc hdl hnl)
  have N64 := Lib.hid (show k = 64 → n2 = n ∧ b2 = b ∧ d2 = d from fun e => by
    subst e
    have z : lowN 64 = 2 ^ 64 - 1 := rfl
    exact ⟨by rw [hn2, z, Nat.and_two_pow_sub_one_of_lt_two_pow hn], by rw [hb2, z, Nat.and_two_pow_sub_one_of_lt_two_pow hb], by rw [hd2, z, Nat.and_two_pow_sub_one_of_lt_two_pow hd]⟩)
  have HL := Lib.hid (show k < 64 → IntKind.u64.wrap (IntKind.u64.wrap ((2 : Int) ^ k) - 1) = (lowN k : Int) from fun h => by
    have z : B64 (2 ^ k) := one_lt k h
    have z1 := u64w (2 ^ k) z
    have z2 : ((2 ^ k : Nat) : Int) = (2 : Int) ^ k := by simp
    rw [z2] at z1
    rw [z1, ← z2]
    have z3 := Nat.two_pow_pos k
    have z4 : ((2 ^ k : Nat) : Int) - 1 = (lowN k : Int) := by unfold lowN; omega
    rw [z4, u64w _ (lowN_lt k (by omega))])
  have LW := lowN_lt k h2
  generalize lowN k = lw at *
  have HA := Lib.hid (IsB.new W 26 #[.int .u64 a, .int .u64 b, .int .u64 c, .int .u64 d, .int .u64 n, .int .i64 k])
  have G := Lib.hid (gb_alloc W (.cells #[.int .u64 a, .int .u64 b, .int .u64 c, .int .u64 d, .int .u64 n, .int .i64 k] 26) none)
  have g1 : ¬ (k : Int) < 1 := by omega
  have g2 : ¬ (64 : Int) < (k : Int) := by omega
  have g3 : (0 : Int) ≤ (k : Int) := by omega
  clear ha hb hc hd hn hn2 hb2 hd2 hnl hbl hdl h1
  go_enter Try.func6, Try.ntmps6
  go_wp2_with fail
  generalize W.alloc (.cells #[.int .u64 a, .int .u64 b, .int .u64 c, .int .u64 d, .int .u64 n, .int .i64 k] 26) = w0 at *
  refine (SB.out _).mono ?_
  rintro e w1 ⟨V, rfl, o1, gg⟩
  obtain ⟨bs, hbs⟩ : ∃ bs, bs = w0.heap.size := ⟨_, rfl⟩
  rw [← hbs] at o1
  have HP := Lib.hid (show W.heap.size < bs by rw [hbs]; exact HA.out.lt)
  obtain ⟨la, lc, rfl⟩ := o1.shape
  have HA := Lib.hid (HA.out.keep0 gg)
  have G := Lib.hid (gb_trans G.out gg)
  have HO := Lib.hid o1
  obtain ⟨a1, a2, a3, a4, a5, a6⟩ := args_cells2 HA.out
  clear gg o1 hbs
  go_upto_if 36 with fail
  go_cut [4] from 37 to 65 (fun s4 wx => s4 = .int .u64 n2 ∧ IsB wx W.heap.size 26 #[.int .u64 a, .int .u64 b2, .int .u64 c, .int .u64 d2, .int .u64 n, .int .i64 k] ∧ CLs wx bs (.slice la L.length lc) L ∧ W.grownBy wx none)
  case first =>
    by_cases hk : k < 64
    · have i1 : (k : Int) < 64 := by omega
      have hl := HL.out hk
      clear hk
      have f1 : w1.frozen? ⟨W.heap.size, 1, none⟩ = false := HA.out.free 1
      have f3 : w1.frozen? ⟨W.heap.size, 3, none⟩ = false := HA.out.free 3
      go_wp2
      go_meet
      have o2 := HO.out.kept (gb_set w1 W.heap.size 1 (.int .u64 b2)) (.inr (own_far HO.out HP.out))
      exact ⟨rfl, (HA.out.set 1 _).set 3 _, o2.kept (gb_set _ _ _ _) (.inr (own_far o2 HP.out)), gb_put (gb_put G.out (Nat.le_refl _)) (Nat.le_refl _)⟩
    · have e : k = 64 := by omega
      obtain ⟨e1, e2, e3⟩ := N64.out e
      have i1 : ¬ (k : Int) < 64 := by omega
      clear hk e
      go_wp2
      go_meet
      rw [e1, e2, e3]
      exact ⟨rfl, HA.out, HO.out, G.out⟩
  case rest =>
    obtain ⟨rfl, B1, O1, gw⟩ := hcut
    clear a1 a2 a3 a4 a5 a6 HA HO G SB en eb ed N64 HL
    obtain ⟨N, hN⟩ : ∃ N, N = L.length := ⟨_, rfl⟩
    have HN := Lib.hid hN.symm
    have hN64 : N ≤ 64 := by rw [hN]; exact LN.out
    have HB := Lib.hid B1
    have HO := Lib.hid O1
    have G := Lib.hid gw
    clear B1 O1 gw
    rw [← hN]
    clear hN
    go_wp2
    go_loopw [5, 6] (fun s i wr => ∃ j ct : Nat, j ≤ N ∧ i = .int .i64 j ∧ s = .int .i64 ct ∧ ct = cntN (L.take j) n2 ∧ IsB wr W.heap.size 26 #[.int .u64 a, .int .u64 b2, .int .u64 c, .int .u64 d2, .int .u64 n, .int .i64 k] ∧ CLs wr bs (.slice la L.length lc) L ∧ W.grownBy wr none) (fun _ i _ => N - (intOf i).toNat)
    case atStart => exact ⟨0, 0, Nat.zero_le _, rfl, rfl, rfl, HB.out, HO.out, G.out⟩
    case round =>
      clear HB HO G
      obtain ⟨j, ct, hj, rfl, rfl, hct, B1, O1, gw⟩ := hrel
      have ct64 : ct ≤ 64 := by rw [hct]; exact Nat.le_trans (cnt_le _ _) (by rw [List.length_take, HN.out]; omega)
      have HCT := Lib.hid hct
      clear hct
      have HB := Lib.hid B1
      have HO := Lib.hid O1
      have G := Lib.hid gw
      clear B1 O1 gw
      by_cases hlt : j < N
      · have i1 : (j : Int) < N := by omega
        have i0 : (0 : Int) ≤ (j : Int) := by omega
        have HO2 := HO.out
        obtain ⟨g1, d1, hV1⟩ := HO2.head (by rw [HN.out]; omega)
        rw [hV1] at HO2
        cases hV1
        have SN := Lib.hid (cnt_snoc L n2 j (by rw [HN.out]; exact hlt))
        have MEM := Lib.hid (CK.out (L.getD j (0, 0)) (by rw [List.getD_eq_getElem?_getD, List.getElem?_eq_getElem (by rw [HN.out]; exact hlt)]; exact List.getElem_mem _))
        have AT := Lib.hid (fun t (h : t < N) => HO2.at_ t (by rw [HN.out]; exact h))
        have HO := Lib.hid HO2
        have AJ := Lib.hid (fun t (h : t < N) (h2 : j < t) => apart_at AP.out (by rw [HN.out]; exact hlt) (by rw [HN.out]; exact h) h2)
        clear HO2
        have A0 := AT.out j hlt
        obtain ⟨q, hq⟩ : ∃ q, q = L.getD j (0, 0) := ⟨_, rfl⟩
        have QJ := Lib.hid hq.symm
        rw [← hq] at SN MEM A0
        obtain ⟨qv, qm⟩ := q
        clear hq
        obtain ⟨m1, m2, m3⟩ := MEM.out
        have CHK := Lib.hid (fun w => chk_any w qv qm (k : Int) m1 m2)
        have CON := Lib.hid (fun w => contains_any w qv qm n2 m1 m2 NB.out)
        unfold RetV at CHK CON
        rw [m3] at CHK
        have INT := Lib.hid (fun w rv rm (r1 : B64 rv) (r2 : B64 rm) => int_any w qv qm rv rm m1 m2 r1 r2)
        unfold RetI at INT
        clear MEM m1 m2 m3
        go_upto_region 12 with fail
        have KS := Lib.hid (fun (w' : World) (q : wr.grownBy w' none) => (⟨(((HO.out.keep0 q).at_ j (by rw [HN.out]; exact hlt)).1.trans (by rw [QJ.out])), (((HO.out.keep0 q).at_ j (by rw [HN.out]; exact hlt)).2.trans (by rw [QJ.out])), ((HB.out.keep0 q).cell 5), q⟩ : (fun w' => w'.cell? ⟨g1, j * 2, none⟩ = some (.int .u64 (qv : Int)) ∧ w'.cell? ⟨g1, j * 2 + 1, none⟩ = some (.int .u64 (qm : Int)) ∧ w'.cell? ⟨W.heap.size, 5, none⟩ = some (.int .i64 (k : Int)) ∧ wr.grownBy w' none) w'))
        go_region_held3 (fun w' => w'.cell? ⟨g1, j * 2, none⟩ = some (.int .u64 (qv : Int)) ∧ w'.cell? ⟨g1, j * 2 + 1, none⟩ = some (.int .u64 (qm : Int)) ∧ w'.cell? ⟨W.heap.size, 5, none⟩ = some (.int .i64 (k : Int)) ∧ wr.grownBy w' none)
          (first
            | assumption
            | exact KS.out _ (by repeat' first
                                      | assumption
                                      | exact (And.right (And.right (And.right (by assumption))))
                                      | exact World.grownBy.refl _ _
                                      | exact gb_drew _ _
                                      | refine gb_trans ?_ (gb_alloc _ _ _)
                                      | refine gb_trans ?_ (gb_drew _ _)
                                      | refine gb_put ?_ ?_
                                      | refine gsz ?_
                                      | exact Nat.le_refl _
                                      | refine Nat.le_succ_of_le ?_
                                      | refine gb_trans ?_ (by assumption)
                                      | (simp only [alloc_sz]; omega)))
          (first
            | (go_at_call 12; refine (CHK.out _).mono ?_; rintro e w' ⟨rfl, g⟩))
        have gS : wr.grownBy w' none := (And.right (And.right (And.right (by assumption))))
        have HB := Lib.hid (HB.out.keep0 gS)
        have HO := Lib.hid (HO.out.keep0 gS)
        have G := Lib.hid (gb_trans G.out gS)
        clear gS KS A0
        obtain ⟨c1, c2⟩ := (show _ ∧ _ from HO.out.at_ j (by rw [HN.out]; exact hlt))
        rw [QJ.out] at c1 c2
        cases hh : hasN qv qm n2
        · rw [hh] at CON SN
          have SN2 := Lib.hid (show cntN (L.take (j + 1)) n2 = ct by rw [SN.out, ← HCT.out]; rfl)
          go_wp2_with fail
          refine (CON.out _).mono ?_
          rintro e w8 ⟨rfl, g8⟩
          have HB := Lib.hid (HB.out.keep0 g8)
          have HO := Lib.hid (HO.out.keep0 g8)
          have G := Lib.hid (gb_trans G.out g8)
          clear g8 c1 c2
          go_wp2
          go_loopw [7] (fun kk wr2 => ∃ t : Nat, j + 1 ≤ t ∧ t ≤ N ∧ kk = .int .i64 t ∧ IsB wr2 W.heap.size 26 #[.int .u64 a, .int .u64 b2, .int .u64 c, .int .u64 d2, .int .u64 n, .int .i64 k] ∧ CLs wr2 bs (.slice (some ⟨g1, 0, none⟩) L.length lc) L ∧ W.grownBy wr2 none) (fun kk _ => N - (intOf kk).toNat)
          case atStart => exact ⟨j + 1, Nat.le_refl _, by omega, by go_num, HB.out, HO.out, G.out⟩
          case round =>
            clear HB HO G
            obtain ⟨t, ht1, ht2, rfl, B1, O1, gw⟩ := hrel
            have HB := Lib.hid B1
            have HO := Lib.hid O1
            have G := Lib.hid gw
            clear B1 O1 gw
            by_cases hlt2 : t < N
            · have j1 : (t : Int) < N := by omega
              have j0 : (0 : Int) ≤ (t : Int) := by omega
              have AP2 := AJ.out t hlt2 (by omega)
              have MEM := CK.out (L.getD t (0, 0)) (by rw [List.getD_eq_getElem?_getD, List.getElem?_eq_getElem (by rw [HN.out]; exact hlt2)]; exact List.getElem_mem _)
              obtain ⟨q2, hq2⟩ : ∃ q2, q2 = L.getD t (0, 0) := ⟨_, rfl⟩
              have QT := Lib.hid hq2.symm
              rw [← hq2] at AP2 MEM
              rw [QJ.out] at AP2
              obtain ⟨rv, rm⟩ := q2
              obtain ⟨r1, r2, r3⟩ := MEM
              have IX := Lib.hid (fun w => INT.out w rv rm r1 r2)
              have AP3 : meetN qv qm rv rm = false := AP2
              rw [AP3, (int_none qv qm rv rm AP3).1, (int_none qv qm rv rm AP3).2] at IX
              clear hq2 AP2 AP3 r1 r2 r3
              go_upto_region 19 with fail
              have KT := Lib.hid (fun (w' : World) (q : wr.grownBy w' none) => (⟨(((HO.out.keep0 q).at_ j (by rw [HN.out]; exact hlt)).1.trans (by rw [QJ.out])), (((HO.out.keep0 q).at_ j (by rw [HN.out]; exact hlt)).2.trans (by rw [QJ.out])), (((HO.out.keep0 q).at_ t (by rw [HN.out]; exact hlt2)).1.trans (by rw [QT.out])), (((HO.out.keep0 q).at_ t (by rw [HN.out]; exact hlt2)).2.trans (by rw [QT.out])), q⟩ : (fun w' => w'.cell? ⟨g1, j * 2, none⟩ = some (.int .u64 (qv : Int)) ∧ w'.cell? ⟨g1, j * 2 + 1, none⟩ = some (.int .u64 (qm : Int)) ∧ w'.cell? ⟨g1, t * 2, none⟩ = some (.int .u64 (rv : Int)) ∧ w'.cell? ⟨g1, t * 2 + 1, none⟩ = some (.int .u64 (rm : Int)) ∧ wr.grownBy w' none) w'))
              go_region_held3 (fun w' => w'.cell? ⟨g1, j * 2, none⟩ = some (.int .u64 (qv : Int)) ∧ w'.cell? ⟨g1, j * 2 + 1, none⟩ = some (.int .u64 (qm : Int)) ∧ w'.cell? ⟨g1, t * 2, none⟩ = some (.int .u64 (rv : Int)) ∧ w'.cell? ⟨g1, t * 2 + 1, none⟩ = some (.int .u64 (rm : Int)) ∧ wr.grownBy w' none)
                (first
                  | assumption
                  | exact KT.out _ (by repeat' first
                                            | assumption
                                            | exact (And.right (And.right (And.right (And.right (by assumption)))))
                                            | exact World.grownBy.refl _ _
                                            | exact gb_drew _ _
                                            | refine gb_trans ?_ (gb_alloc _ _ _)
                                            | refine gb_trans ?_ (gb_drew _ _)
                                            | refine gb_put ?_ ?_
                                            | refine gsz ?_
                                            | exact Nat.le_refl _
                                            | refine Nat.le_succ_of_le ?_
                                            | refine gb_trans ?_ (by assumption)
                                            | (simp only [alloc_sz]; omega)))
                (first
                  | (go_at_call 8; refine (IX.out _).mono ?_; rintro e w' ⟨rfl, gA⟩; (try with_reducible (have gA := gb_trans (gb_drew _ none) gA)); (try with_reducible (have IA := isb_keep gA (IsB.new _ _ _); (try simp only [alloc_sz, drew_sz] at IA); obtain ⟨a1, a2, a3, a4, a5, a6, a7, a8, a9, a10⟩ := box_facts IA))))
              all_goals (
                have gS : wr.grownBy _ none := (And.right (And.right (And.right (And.right (by assumption)))))
                clear KT
                go_wp2
                go_roundw)
              all_goals first
                | exact ⟨t + 1, by omega, by omega, by go_num, HB.out.keep0 gS, HO.out.keep0 gS, gb_trans G.out gS⟩
                | (simp [intOf]; omega)
            · have hje : t = N := by omega
              subst hje
              go_wp2
              go_roundw
              case rel => exact ⟨j + 1, ct, by omega, by go_num, by go_num, SN2.out.symm, HB.out, HO.out, G.out⟩
              case measure => simp [intOf]; omega
        · rw [hh] at CON SN
          have SN2 := Lib.hid (show cntN (L.take (j + 1)) n2 = ct + 1 by rw [SN.out, ← HCT.out]; rfl)
          go_wp2_with fail
          refine (CON.out _).mono ?_
          rintro e w8 ⟨rfl, g8⟩
          have HB := Lib.hid (HB.out.keep0 g8)
          have HO := Lib.hid (HO.out.keep0 g8)
          have G := Lib.hid (gb_trans G.out g8)
          clear g8 c1 c2
          go_wp2
          go_loopw [7] (fun kk wr2 => ∃ t : Nat, j + 1 ≤ t ∧ t ≤ N ∧ kk = .int .i64 t ∧ IsB wr2 W.heap.size 26 #[.int .u64 a, .int .u64 b2, .int .u64 c, .int .u64 d2, .int .u64 n, .int .i64 k] ∧ CLs wr2 bs (.slice (some ⟨g1, 0, none⟩) L.length lc) L ∧ W.grownBy wr2 none) (fun kk _ => N - (intOf kk).toNat)
          case atStart => exact ⟨j + 1, Nat.le_refl _, by omega, by go_num, HB.out, HO.out, G.out⟩
          case round =>
            clear HB HO G
            obtain ⟨t, ht1, ht2, rfl, B1, O1, gw⟩ := hrel
            have HB := Lib.hid B1
            have HO := Lib.hid O1
            have G := Lib.hid gw
            clear B1 O1 gw
            by_cases hlt2 : t < N
            · have j1 : (t : Int) < N := by omega
              have j0 : (0 : Int) ≤ (t : Int) := by omega
              have AP2 := AJ.out t hlt2 (by omega)
              have MEM := CK.out (L.getD t (0, 0)) (by rw [List.getD_eq_getElem?_getD, List.getElem?_eq_getElem (by rw [HN.out]; exact hlt2)]; exact List.getElem_mem _)
              obtain ⟨q2, hq2⟩ : ∃ q2, q2 = L.getD t (0, 0) := ⟨_, rfl⟩
              have QT := Lib.hid hq2.symm
              rw [← hq2] at AP2 MEM
              rw [QJ.out] at AP2
              obtain ⟨rv, rm⟩ := q2
              obtain ⟨r1, r2, r3⟩ := MEM
              have IX := Lib.hid (fun w => INT.out w rv rm r1 r2)
              have AP3 : meetN qv qm rv rm = false := AP2
              rw [AP3, (int_none qv qm rv rm AP3).1, (int_none qv qm rv rm AP3).2] at IX
              clear hq2 AP2 AP3 r1 r2 r3
              go_upto_region 19 with fail
              have KT := Lib.hid (fun (w' : World) (q : wr.grownBy w' none) => (⟨(((HO.out.keep0 q).at_ j (by rw [HN.out]; exact hlt)).1.trans (by rw [QJ.out])), (((HO.out.keep0 q).at_ j (by rw [HN.out]; exact hlt)).2.trans (by rw [QJ.out])), (((HO.out.keep0 q).at_ t (by rw [HN.out]; exact hlt2)).1.trans (by rw [QT.out])), (((HO.out.keep0 q).at_ t (by rw [HN.out]; exact hlt2)).2.trans (by rw [QT.out])), q⟩ : (fun w' => w'.cell? ⟨g1, j * 2, none⟩ = some (.int .u64 (qv : Int)) ∧ w'.cell? ⟨g1, j * 2 + 1, none⟩ = some (.int .u64 (qm : Int)) ∧ w'.cell? ⟨g1, t * 2, none⟩ = some (.int .u64 (rv : Int)) ∧ w'.cell? ⟨g1, t * 2 + 1, none⟩ = some (.int .u64 (rm : Int)) ∧ wr.grownBy w' none) w'))
              go_region_held3 (fun w' => w'.cell? ⟨g1, j * 2, none⟩ = some (.int .u64 (qv : Int)) ∧ w'.cell? ⟨g1, j * 2 + 1, none⟩ = some (.int .u64 (qm : Int)) ∧ w'.cell? ⟨g1, t * 2, none⟩ = some (.int .u64 (rv : Int)) ∧ w'.cell? ⟨g1, t * 2 + 1, none⟩ = some (.int .u64 (rm : Int)) ∧ wr.grownBy w' none)
                (first
                  | assumption
                  | exact KT.out _ (by repeat' first
                                            | assumption
                                            | exact (And.right (And.right (And.right (And.right (by assumption)))))
                                            | exact World.grownBy.refl _ _
                                            | exact gb_drew _ _
                                            | refine gb_trans ?_ (gb_alloc _ _ _)
                                            | refine gb_trans ?_ (gb_drew _ _)
                                            | refine gb_put ?_ ?_
                                            | refine gsz ?_
                                            | exact Nat.le_refl _
                                            | refine Nat.le_succ_of_le ?_
                                            | refine gb_trans ?_ (by assumption)
                                            | (simp only [alloc_sz]; omega)))
                (first
                  | (go_at_call 8; refine (IX.out _).mono ?_; rintro e w' ⟨rfl, gA⟩; (try with_reducible (have gA := gb_trans (gb_drew _ none) gA)); (try with_reducible (have IA := isb_keep gA (IsB.new _ _ _); (try simp only [alloc_sz, drew_sz] at IA); obtain ⟨a1, a2, a3, a4, a5, a6, a7, a8, a9, a10⟩ := box_facts IA))))
              all_goals (
                have gS : wr.grownBy _ none := (And.right (And.right (And.right (And.right (by assumption)))))
                clear KT
                go_wp2
                go_roundw)
              all_goals first
                | exact ⟨t + 1, by omega, by omega, by go_num, HB.out.keep0 gS, HO.out.keep0 gS, gb_trans G.out gS⟩
                | (simp [intOf]; omega)
            · have hje : t = N := by omega
              subst hje
              go_wp2
              go_roundw
              case rel => exact ⟨j + 1, ct + 1, by omega, by go_num, by go_num, SN2.out.symm, HB.out, HO.out, G.out⟩
              case measure => simp [intOf]; omega
      · have hje : j = N := by omega
        subst hje
        have HF := Lib.hid (show ct = cntN L n2 by rw [HCT.out, List.take_of_length_le (by rw [HN.out]; exact Nat.le_refl _)])
        have CT2 := Lib.hid (show ct = if hasN a b2 n2 = true ∧ hasN c d2 n2 = false then 1 else 0 by rw [HF.out]; exact CT.out)
        clear CT HCT HF
        obtain ⟨a1, a2, a3, a4, a5, a6⟩ := args_cells2 HB.out
        unfold RetV at C1 C2
        cases h1 : hasN a b2 n2
        · rw [h1] at C1
          have e0 : ct = 0 := by rw [CT2.out, if_neg (by rw [h1]; simp)]
          subst e0
          clear CT2
          go_wp2_with fail
          refine (C1.out _).mono ?_
          rintro e w8 ⟨rfl, g8⟩
          have G := Lib.hid (gb_trans G.out g8)
          clear g8 a1 a2 a3 a4 a5 a6
          go_wp2_with fail
          refine (awake_any _).mono ?_
          rintro e w9 ⟨rfl, g9⟩
          have G := Lib.hid (gb_trans G.out g9)
          clear g9
          go_wp2
          go_ret
          exact ⟨rfl, below_of G.out⟩
        · rw [h1] at C1
          cases h2 : hasN c d2 n2
          · rw [h2] at C2
            have e0 : ct = 1 := by rw [CT2.out, if_pos ⟨h1, h2⟩]
            subst e0
            clear CT2
            go_wp2_with fail
            refine (C1.out _).mono ?_
            rintro e w8 ⟨rfl, g8⟩
            have G := Lib.hid (gb_trans G.out g8)
            have HB := Lib.hid (HB.out.keep0 g8)
            clear g8 a1 a2 a3 a4 a5 a6
            obtain ⟨a1, a2, a3, a4, a5, a6⟩ := args_cells2 HB.out
            go_wp2_with fail
            refine (C2.out _).mono ?_
            rintro e w10 ⟨rfl, g10⟩
            have G := Lib.hid (gb_trans G.out g10)
            clear g10 a1 a2 a3 a4 a5 a6
            go_wp2_with fail
            refine (awake_any _).mono ?_
            rintro e w9 ⟨rfl, g9⟩
            have G := Lib.hid (gb_trans G.out g9)
            clear g9
            go_wp2
            go_ret
            exact ⟨rfl, below_of G.out⟩
          · rw [h2] at C2
            have e0 : ct = 0 := by rw [CT2.out, if_neg (by rw [h2]; simp)]
            subst e0
            clear CT2
            go_wp2_with fail
            refine (C1.out _).mono ?_
            rintro e w8 ⟨rfl, g8⟩
            have G := Lib.hid (gb_trans G.out g8)
            have HB := Lib.hid (HB.out.keep0 g8)
            clear g8 a1 a2 a3 a4 a5 a6
            obtain ⟨a1, a2, a3, a4, a5, a6⟩ := args_cells2 HB.out
            go_wp2_with fail
            refine (C2.out _).mono ?_
            rintro e w10 ⟨rfl, g10⟩
            have G := Lib.hid (gb_trans G.out g10)
            clear g10 a1 a2 a3 a4 a5 a6
            go_wp2_with fail
            refine (awake_any _).mono ?_
            rintro e w9 ⟨rfl, g9⟩
            have G := Lib.hid (gb_trans G.out g9)
            clear g9
            go_wp2
            go_ret
            exact ⟨rfl, below_of G.out⟩
theorem subtracts_walk (a b c d n : Nat) (x : Int) (W : World) (ha : B64 a) (hb : B64 b) (hc : B64 c) (hd : B64 d) (hn : B64 n) (hx : (Lit.int .i64 x).wf = true) : Calls Try.prog 6 #[.agg #[.int .u64 a, .int .u64 b, .int .u64 c, .int .u64 d, .int .u64 n, .int .i64 x]] W (HoldsT W) := by
  by_cases hw : 1 ≤ x ∧ x ≤ 64
  · obtain ⟨k, rfl⟩ : ∃ k : Nat, x = (k : Int) := ⟨x.toNat, by omega⟩
    exact subs_in a b c d n k W ha hb hc hd hn (by omega) (by omega)
  · exact subs_out a b c d n x W ha hb hc hd hn hx hw
end Go.Proofs.Ytphejamjognmpaa
