/- The walk of TopologicalOrder. -/
import Derived.Test.YtaikpjnegopelaaDgQ
namespace Go.Proofs.Ytaikpjnegopelaa
open Go.RowKit
set_option linter.unusedVariables false

set_option maxRecDepth 100000 in
set_option maxHeartbeats 4000000 in
theorem topo_any (w : World) (a : Option Addr) (c : Nat) (g : List (List Int)) (h : SlG w a g.length c g) (hn : g.length ≤ 1000) (hb : ∀ v, v < g.length → (g.getD v []).length ≤ 1000) :
    Calls Try.prog 20 #[.slice a g.length c] w (RetNB w.heap.size ((topG g).getD []) (topG g).isSome w) := by
  have HH := Lib.hid h
  have HB := Lib.hid hb
  have CA := Lib.hid (count_any w a c g h hn hb)
  obtain ⟨D, hD⟩ : ∃ D, D = topG g := ⟨_, rfl⟩
  rw [← hD]
  have TG := Lib.hid (show D = (topF g g.length (tabB g.length fun _ => false)).map (([] : List Int) ++ ·) by rw [hD]; unfold topG; simp)
  clear h hb hD
  go_enter Try.func20, Try.ntmps20
  go_wp2_with fail
  refine CA.out.mono ?_
  rintro e w1 ⟨V, rfl, o1, g1⟩
  obtain ⟨A, C, hV⟩ := o1.shape
  rw [tab_len] at hV
  subst hV
  have T0 := Lib.hid (show TK w (w1.alloc (.cells #[.slice none 0 0] 45)) w1.heap.size (.slice A g.length C) (.slice none 0 0) (.slice none 0 0) (tab g.length fun x => (inN g g.length x : Int)) [] [] from
    ⟨o1.keep0 (gb_alloc _ _ _), fun q e => (nl_lt o1 e).2, IsB.new _ _ _, NL.nil _ _, NL.nil _ _, fun q e => (by cases e), gb_trans g1 (gb_alloc _ _ _), g1.size⟩)
  have IB := Lib.hid (fun x : Nat => inN_le g 1000 x HB.out g.length (Nat.le_refl _))
  have IT := Lib.hid (fun i (hi : i < g.length) => tab_at g.length (fun x => (inN g g.length x : Int)) i hi)
  have TL := Lib.hid (tab_len g.length fun x => (inN g g.length x : Int))
  obtain ⟨W0, hW0⟩ : ∃ W0, W0 = tab g.length fun x => (inN g g.length x : Int) := ⟨_, rfl⟩
  have KST := Lib.hid (fun H (q : K0 g g.length H) => K0.start q)
  rw [← hW0] at T0 IT TL KST
  clear o1 g1 hW0 CA
  go_wp2_with fail
  generalize w1.heap.size = hp at T0 ⊢
  go_loopw [16] (fun k wr => ∃ (i : Nat) (VH : Value) (H : List Int), i ≤ g.length ∧ k = .int .i64 i ∧ TK w wr hp (.slice A g.length C) VH (.slice none 0 0) W0 H [] ∧ K0 g i H) (fun k _ => g.length - (intOf k).toNat)
  case atStart => exact ⟨0, _, [], Nat.zero_le _, rfl, T0.out, K0.nil g⟩
  case round =>
    obtain ⟨i, VH, H, hi, rfl, q1, q2⟩ := hrel
    clear T0
    have T1 := Lib.hid q1
    have K1 := Lib.hid q2
    have hHl : H.length ≤ 1000 := by have := q2.few; omega
    clear q1 q2
    by_cases hit : i < g.length
    · have i1 : (i : Int) < g.length := by omega
      obtain ⟨b, cc, hA⟩ := T1.out.cnt.headn TL.out.symm (by omega)
      injection hA with e1 e2 e3
      subst e1
      subst e3
      have c1 := T1.out.cnt.at_ TL.out.symm i (by rw [TL.out]; exact hit)
      rw [IT.out i hit] at c1
      have hib := IB.out i
      obtain ⟨m, hm⟩ : ∃ m, m = inN g g.length (i : Int) := ⟨_, rfl⟩
      rw [← hm] at c1 hib
      have HM := Lib.hid hm.symm
      have hmb : m ≤ 1000000 := by omega
      clear hm hib
      by_cases hm0 : m = 0
      · subst hm0
        go_wp2_with fail
        refine (T1.out.push (i : Int) (by omega)).mono ?_
        rintro e w3 ⟨rfl, V3, t3⟩
        have T3 := Lib.hid t3
        have K3 := Lib.hid (K1.out.on HM.out)
        clear t3
        go_wp2
        go_roundw
        case rel => exact ⟨i + 1, _, _, by omega, by go_num, T3.out, K3.out⟩
        case measure => simp [intOf]; omega
      · have K3 := Lib.hid (K1.out.off (by rw [HM.out]; exact hm0))
        have im0 : ¬ (m : Int) = 0 := by omega
        go_wp2
        go_roundw
        case rel => exact ⟨i + 1, _, _, by omega, by go_num, T1.out, K3.out⟩
        case measure => simp [intOf]; omega
    · have hie : i = g.length := by omega
      subst hie
      have KS := Lib.hid (KST.out H K1.out)
      have TT := Lib.hid T1.out
      clear T1
      have T1 := Lib.hid (show ∃ VH, TK w wr hp (.slice A g.length C) VH (.slice none 0 0) W0 H [] from ⟨_, TT.out⟩)
      clear TT
      go_wp2
      go_loopw [8] (fun VO wr => ∃ (f : Nat) (p : List Bool) (VH : Value) (W H O : List Int), O.length + f = g.length ∧ TK w wr hp (.slice A g.length C) VH VO W H O ∧ KI g p [] W H ∧ p.count true = O.length ∧ D = (topF g f p).map (O ++ ·)) (fun V _ => g.length - (match V with | .slice _ l _ => l | _ => 0))
      case atStart =>
        obtain ⟨VH, q⟩ := T1.out
        refine ⟨g.length, _, VH, W0, H, [], Nat.zero_add _, q, KS.out, ?_, TG.out⟩
        rw [tabB_const]; simp [List.count_replicate]
      case round =>
        obtain ⟨f, p, VH2, W, H2, O, hf, q1, q2, q3, q4⟩ := hrel
        clear T1 KS K1 TG hHl
        obtain ⟨ao, co, hsh⟩ := q1.out.shape
        subst hsh
        obtain ⟨ah, ch, hsh⟩ := q1.row.shape
        subst hsh
        have T2 := Lib.hid q1
        have K2 := Lib.hid q2
        have HC := Lib.hid q3
        have TG := Lib.hid q4
        have HF := Lib.hid hf
        have cv := q1.var.cell 0
        have fv := q1.var.free 0
        have hHl : H2.length ≤ 1000 := by have := q2.few; omega
        simp only [List.getElem?_toArray, List.getElem?_cons_zero] at cv
        clear q1 q2 q3 q4 hf
        by_cases h0 : 0 < H2.length
        · have ih0 : (0 : Int) < H2.length := by omega
          obtain ⟨v, hv0, hvn, hpv, hnx, hki⟩ := K2.out.pop h0
          have HV0 := Lib.hid hv0
          have K3 := Lib.hid hki
          have HNX := Lib.hid hnx
          have HPV := Lib.hid hpv
          have hf1 : O.length < g.length := by
            rcases Nat.lt_or_ge O.length g.length with q | q
            · exact q
            · exact (K2.out.full (by rw [HC.out]; have := HF.out; omega) v hvn hpv).elim
          clear hv0 hpv hnx hki
          go_wp2_with fail
          refine (T2.out.pop h0 (by omega)).mono ?_
          rintro e w4 ⟨rfl, V4, t4⟩
          rw [HV0.out]
          have T4 := Lib.hid t4
          clear t4 cv fv
          have SZ := Lib.hid (T4.out.var.lt)
          go_wp2_with (at_builtin; refine npush_fresh rfl _ _ rfl (hp + 1) _ O rfl (T4.out.out.keep0 (gb_alloc _ _ _)) _ _ (v : Int) rfl (slr_one _ _ _ _ _ rfl) (by omega) (Nat.le_trans SZ.out (gb_alloc _ _ none).size) ?_)
          intro V5 w5 o5 g5 n5
          obtain ⟨X5, hX5⟩ : ∃ X5, TK w w5 hp (.slice A g.length C) X5 V5 W (popL H2) (O ++ [(v : Int)]) := by
            rcases n5 with e | e
            · exact ⟨_, (T4.out.keep (gb_alloc _ _ _)).outp o5 g5 (.inl e)⟩
            · exact ⟨_, (T4.out.keep (gb_alloc _ _ _)).outp o5 g5 (.inr (by rw [e]; first | rfl | (unfold World.alloc; simp; done) | simp))⟩
          have T5 := Lib.hid hX5
          obtain ⟨ao5, co5, hsh⟩ := o5.shape
          obtain ⟨lo, hlo⟩ : ∃ lo, lo = (O ++ [(v : Int)]).length := ⟨_, rfl⟩
          rw [← hlo] at hsh
          have HLO := Lib.hid (show lo = O.length + 1 by rw [hlo]; simp)
          subst hsh
          clear hlo
          clear o5 g5 n5 hX5 T4 T2 SZ
          cases a with
          | none => exact absurd (HH.out.2.1 rfl).1 (by omega)
          | some ad =>
            obtain ⟨AR, CR, c0, r0, l1⟩ := HH.out.row v hvn
            have c1 := T5.out.grown.cell c0 (by simp)
            have hbv := HB.out v hvn
            have ivn : (v : Int) < g.length := by omega
            obtain ⟨zs, hz⟩ : ∃ zs, zs = g.getD v [] := ⟨_, rfl⟩
            rw [← hz] at c1 r0 l1 hbv K3
            have R0 := Lib.hid r0
            clear r0 hz c0
            go_wp2
            go_loopw [39] (fun i wr => ∃ (j : Nat) (VH : Value) (W H : List Int), j ≤ zs.length ∧ i = .int .i64 j ∧ TK w wr hp (.slice A g.length C) VH (.slice ao5 lo co5) W H (O ++ [(v : Int)]) ∧ KI g (p.set v true) (zs.drop j) W H) (fun i _ => zs.length - (intOf i).toNat)
            case atStart => exact ⟨0, _, _, _, Nat.zero_le _, rfl, T5.out, K3.out⟩
            case round =>
              obtain ⟨j, VH5, W5, H5, hj, rfl, q1, q2⟩ := hrel
              clear T5 c1
              have T6 := Lib.hid q1
              have K6 := Lib.hid q2
              have hHl5 : H5.length ≤ 1000 := by have := q2.few; omega
              clear q1 q2
              by_cases hjt : j < zs.length
              · have i2 : (j : Int) < zs.length := by omega
                cases AR with
                | none => exact absurd (R0.out.2.1 rfl).1 (by omega)
                | some ar =>
                  have c2 := (R0.out.keep0 T6.out.grown).cellAt j hjt
                  have DR := Lib.hid (show zs.drop j = zs.getD j 0 :: zs.drop (j + 1) by rw [List.drop_eq_getElem_cons hjt]; simp [hjt])
                  obtain ⟨x, hx⟩ : ∃ x, x = zs.getD j 0 := ⟨_, rfl⟩
                  rw [← hx] at c2 DR
                  clear hx
                  have K7 := Lib.hid (show KI g (p.set v true) (x :: zs.drop (j + 1)) W5 H5 by rw [← DR.out]; exact K6.out)
                  clear K6 DR
                  have HN := Lib.hid (fun w => isNode_any w (some ad) g.length c x)
                  by_cases hnode : 0 ≤ x ∧ x < (g.length : Int)
                  · simp only [decide_eq_true hnode] at HN
                    obtain ⟨xn, rfl⟩ : ∃ xn : Nat, x = (xn : Int) := ⟨x.toNat, by omega⟩
                    have hxn : xn < g.length := by omega
                    have ix : (xn : Int) < g.length := by omega
                    obtain ⟨b, cc, hA⟩ := T6.out.cnt.headn K7.out.lw.symm (by omega)
                    injection hA with e1 e2 e3
                    subst e1
                    subst e3
                    have cx := T6.out.cnt.at_ K7.out.lw.symm xn (by rw [K7.out.lw]; exact hxn)
                    have fx := T6.out.cnt.free K7.out.lw.symm xn
                    obtain ⟨k1, k2⟩ := K7.out.rel hxn
                    have kw := K7.out.ww xn hxn
                    have sb := sumO_le g (p.set v true) 1000 (xn : Int) HB.out g.length (Nat.le_refl _)
                    have cb := List.count_le_length (a := (xn : Int)) (l := (xn : Int) :: zs.drop (j + 1))
                    simp only [List.length_cons, List.length_drop] at cb
                    have hgb : g.length * 1000 ≤ 1000000 := by omega
                    obtain ⟨y, hy⟩ : ∃ y : Nat, W5.getD xn 0 = (y : Int) := ⟨_, kw⟩
                    obtain ⟨m, hm⟩ : ∃ m : Nat, y = m + 1 := ⟨y - 1, by omega⟩
                    have hyb : y ≤ 2000000 := by omega
                    have hmb : m ≤ 2000000 := by omega
                    have hsub : (y : Int) - 1 = (m : Int) := by omega
                    rw [hy, hsub] at k2
                    rw [hy] at cx
                    have TS := Lib.hid (T6.out.set K7.out.lw.symm xn (m : Int))
                    clear k1 kw sb cb hgb hy hm hnode
                    by_cases hm0 : m = 0
                    · subst hm0
                      rw [if_pos (show ((0 : Nat) : Int) = 0 from rfl)] at k2
                      have K8 := Lib.hid k2
                      clear k2
                      go_wp2_with fail
                      refine (HN.out _).mono ?_
                      rintro e w6 ⟨rfl, rfl⟩
                      go_wp2_with fail
                      refine (TS.out.push (xn : Int) (by omega)).mono ?_
                      rintro e w7 ⟨rfl, V7, t7⟩
                      have T7 := Lib.hid t7
                      clear t7
                      go_wp2
                      go_roundw
                      case rel => exact ⟨j + 1, _, _, _, by omega, by go_num, T7.out, K8.out⟩
                      case measure => simp [intOf]; omega
                    · have im0 : ¬ (m : Int) = 0 := by omega
                      rw [if_neg im0] at k2
                      have K8 := Lib.hid k2
                      clear k2
                      go_wp2_with fail
                      refine (HN.out _).mono ?_
                      rintro e w6 ⟨rfl, rfl⟩
                      go_wp2
                      go_roundw
                      case rel => exact ⟨j + 1, _, _, _, by omega, by go_num, TS.out, K8.out⟩
                      case measure => simp [intOf]; omega
                  · simp only [decide_eq_false hnode] at HN
                    have K8 := Lib.hid (K7.out.off hnode)
                    clear hnode
                    go_wp2_with fail
                    refine (HN.out _).mono ?_
                    rintro e w6 ⟨rfl, rfl⟩
                    go_wp2
                    go_roundw
                    case rel => exact ⟨j + 1, _, _, _, by omega, by go_num, T6.out, K8.out⟩
                    case measure => simp [intOf]; omega
              · have hje : j = zs.length := by omega
                subst hje
                have K8 := Lib.hid (show KI g (p.set v true) [] W5 H5 by have := K6.out; rwa [List.drop_length] at this)
                have CC := Lib.hid (show (p.set v true).count true = (O ++ [(v : Int)]).length by
                  rw [mark_count p v (by have := K8.out.len; simp at this; omega) HPV.out, HC.out]; simp)
                have FF := Lib.hid (show (O ++ [(v : Int)]).length + (f - 1) = g.length by have := HF.out; simp; omega)
                have DD := Lib.hid (show D = (topF g (f - 1) (p.set v true)).map ((O ++ [(v : Int)]) ++ ·) by
                  obtain ⟨f', rfl⟩ : ∃ f', f = f' + 1 := ⟨f - 1, by have := HF.out; omega⟩
                  rw [TG.out]
                  simp [topF, HNX.out, Function.comp_def])
                go_wp2
                go_roundw
                case rel => exact ⟨f - 1, _, _, _, _, _, FF.out, T6.out, K8.out, CC.out, DD.out⟩
                case measure => have := HLO.out; simp; omega
        · have he : H2 = [] := by
            cases H2 with
            | nil => rfl
            | cons y t => simp at h0
          subst he
          have NX := Lib.hid K2.out.empty
          by_cases hlt : O.length < g.length
          · have ilt : (O.length : Int) < g.length := by omega
            have DD := Lib.hid (show D = none by
              obtain ⟨f', rfl⟩ : ∃ f', f = f' + 1 := ⟨f - 1, by have := HF.out; omega⟩
              rw [TG.out]
              simp [topF, NX.out])
            go_wp2
            go_ret2
            exact ⟨_, ret_vb (by rw [DD.out]; rfl), by rw [DD.out]; exact NL.nil _ _, T2.out.grown⟩
          · have ilt : ¬ (O.length : Int) < g.length := by omega
            have DD := Lib.hid (show D = some O by
              have e : f = 0 := by have := HF.out; omega
              subst e
              rw [TG.out]
              simp [topF])
            go_wp2
            go_ret2
            exact ⟨_, ret_vb (by rw [DD.out]; rfl), by rw [DD.out]; exact own_low T2.out.out (by have := T2.out.low; omega), T2.out.grown⟩
end Go.Proofs.Ytaikpjnegopelaa
