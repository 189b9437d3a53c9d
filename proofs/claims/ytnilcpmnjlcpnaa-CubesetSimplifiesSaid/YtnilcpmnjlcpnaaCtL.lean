/- Cubeset: the law Simplifies. -/
import Derived.Test.YtnilcpmnjlcpnaaCtI
import Derived.BigQuiet
namespace Go.Proofs.Ytnilcpmnjlcpnaa
open Go.RowKit
set_option linter.unusedVariables false
theorem keptT_pre (L : List (Nat × Nat)) (i : Nat) : ∀ n, i ≤ n → (keptT L i).IsPrefix (keptT L n) := by
  intro n
  induction n with
  | zero => intro h; have : i = 0 := by omega
            subst this; exact List.prefix_refl _
  | succ n ih =>
    intro h
    by_cases e : i = n + 1
    · subst e; exact List.prefix_refl _
    · refine List.IsPrefix.trans (ih (by omega)) ?_
      rw [keptT_succ]
      split
      · exact List.prefix_refl _
      · exact List.prefix_append _ _
theorem kept_here (L : List (Nat × Nat)) (i : Nat) (hi : i < L.length) (hr : redN L i = false) : (simpL L).getD (keptT L i).length (0, 0) = canP (L.getD i (0, 0)) := by
  have h := keptT_pre L (i + 1) L.length (by omega)
  rw [keptT_succ, if_neg (by rw [hr]; decide)] at h
  obtain ⟨t, ht⟩ := h
  unfold simpL
  rw [← ht, List.getD_eq_getElem?_getD, List.append_assoc, List.getElem?_append_right (Nat.le_refl _)]
  simp
theorem simp_pos (L : List (Nat × Nat)) (wf : Wf L) (h : 0 < L.length) : 0 < (simpL L).length := by
  have key : ∃ i, i < L.length ∧ redN L i = false := by
    cases hr : redN L 0 with
    | false => exact ⟨0, h, hr⟩
    | true =>
      obtain ⟨k, hk, _, h2, _⟩ := (kept_iff L wf 0 h).1 hr
      exact ⟨k, hk, h2⟩
  obtain ⟨i, hi, hr⟩ := key
  unfold simpL keptT
  rw [List.length_map]
  exact List.length_pos_of_mem (List.mem_filter.2 ⟨List.mem_range.2 hi, by rw [hr]; rfl⟩)
/-- The greedy match of a part. -/
def stepA (L : List (Nat × Nat)) (i at_ : Nat) : Nat := if (simpL L).getD at_ (0, 0) = canP (L.getD i (0, 0)) then at_ + 1 else at_
theorem stepA_ok (L : List (Nat × Nat)) (i at_ : Nat) (hi : i < L.length) (h : (keptT L i).length ≤ at_) : (keptT L (i + 1)).length ≤ stepA L i at_ := by
  unfold stepA
  rw [keptT_succ]
  cases hr : redN L i with
  | true => rw [if_pos rfl]; split <;> omega
  | false =>
    rw [if_neg (by decide), List.length_append]
    have hk := kept_here L i hi hr
    by_cases e : (keptT L i).length = at_
    · rw [← e, if_pos hk]; simp
    · split <;> (simp; omega)
theorem getD_mem (L : List (Nat × Nat)) (i : Nat) (h : i < L.length) : L.getD i (0, 0) ∈ L := by
  rw [List.getD_eq_getElem?_getD, List.getElem?_eq_getElem h]; exact List.getElem_mem _
theorem irr_at (L : List (Nat × Nat)) (h : Irr L) (i k : Nat) (hi : i < L.length) (hk : k < L.length) (hne : i ≠ k) : subP (L.getD i (0, 0)) (L.getD k (0, 0)) = false := by
  have gi : L.getD i (0, 0) = L[i] := by rw [List.getD_eq_getElem?_getD, List.getElem?_eq_getElem hi]; rfl
  have gk : L.getD k (0, 0) = L[k] := by rw [List.getD_eq_getElem?_getD, List.getElem?_eq_getElem hk]; rfl
  have hp := List.pairwise_iff_getElem.1 h
  rw [gi, gk]
  rcases Nat.lt_or_gt_of_ne hne with q | q
  · exact (hp i k hi hk q).1
  · exact (hp k i hk hi q).2
set_option maxRecDepth 100000 in
set_option maxHeartbeats 20000000 in
theorem simplifies_walk (w : World) (a : Option Addr) (n c : Nat) (L : List (Nat × Nat)) (h : SC w a n c L) : Calls Try.prog 9 #[.slice a n c] w (RetV (.bool true) w) := by
  have WK := Lib.hid (fun w => works_any w)
  unfold RetV at WK
  by_cases hbig : n ≤ 40
  case neg =>
    clear h
    have hb : (40 : Int) < (n : Int) := by omega
    clear hbig
    go_enter Try.func9, Try.ntmps9
    go_wp2_with fail
    refine (WK.out _).mono ?_
    rintro e w2 ⟨rfl, g2⟩
    go_wp2
    go_ret
    exact ⟨rfl, g2⟩
  have hb : ¬ (40 : Int) < (n : Int) := by omega
  have SP := Lib.hid (simplify_any w a n c L h (by omega))
  unfold RetC at SP
  have HA := Lib.hid h
  have HL := Lib.hid h.len
  have WF := Lib.hid (show Wf L from h.wf)
  have IRR := Lib.hid (simp_irr L h.wf)
  have SWF := Lib.hid (simpL_wf' L h.wf)
  have SCN := Lib.hid (show ∀ p ∈ simpL L, andN p.1 p.2 = 0 from fun p hp => by
    obtain ⟨q, hq, rfl⟩ := simp_mem L p hp
    have wq := h.wf q hq
    refine (canon_iff _ _ (Nat.lt_of_le_of_lt Nat.and_le_left wq.1) wq.2).2 (fun i hi => ?_)
    have hi : (q.1 &&& q.2).testBit i = true := hi
    rw [Nat.testBit_and, Bool.and_eq_true] at hi
    exact hi.2)
  have IDM := Lib.hid (simp_idem L h.wf)
  have POS := Lib.hid (simp_pos L h.wf)
  have LE := Lib.hid (show (simpL L).length ≤ n by rw [← h.len]; exact keptT_len L L.length)
  have ATL := Lib.hid (fun (i at_ : Nat) (hi : i < L.length) (h : (keptT L i).length ≤ at_) => stepA_ok L i at_ hi h)
  have KN := Lib.hid (show (keptT L L.length).length = (simpL L).length from rfl)
  clear h
  go_enter Try.func9, Try.ntmps9
  go_wp2_with fail
  refine SP.out.mono ?_
  rintro e w1 ⟨V, rfl, o1, g1⟩
  have SA0 := Lib.hid (fun i at_ => show stepA L i at_ = (if (simpL L).getD at_ (0, 0) = canP (L.getD i (0, 0)) then at_ + 1 else at_) from rfl)
  generalize stepA L = stA at *
  generalize hS : simpL L = S at *
  obtain ⟨la, lc, rfl⟩ := o1.shape
  have O1 := Lib.hid o1
  have S1 := Lib.hid (sc_own o1 SWF.out)
  have G1 := Lib.hid g1
  have HS := Lib.hid hS
  clear o1 g1 SP hS
  generalize hnl : S.length = nl at *
  have NL := Lib.hid hnl
  have le1 := LE.out
  clear hnl
  go_wp2
  go_loopw [4, 5] (fun s4 s5 wr => ∃ i : Nat, i ≤ nl ∧ s4 = .int .i64 i ∧ w1.grownBy wr none) (fun s4 _ _ => nl - (intOf s4).toNat)
  case atStart => exact ⟨0, Nat.zero_le _, rfl, gb_refl _ _⟩
  case round =>
    obtain ⟨i, hi, rfl, hg⟩ := hrel
    have HG := Lib.hid hg
    clear hg
    by_cases hlt : i < nl
    · obtain ⟨ld, rfl⟩ := S1.out.some (by omega)
      have i1 : (i : Int) < nl := by omega
      have i0 : (0 : Int) ≤ (i : Int) := by omega
      have CI := Lib.hid (fun (w2 : World) (g : w1.grownBy w2 none) => (S1.out.keep0 g).cells ld rfl i hlt)
      obtain ⟨b0, b1⟩ := S1.out.wfAt i hlt
      have B0 := Lib.hid b0
      have B1 := Lib.hid b1
      have cz := SCN.out _ (getD_mem S i (by rw [NL.out]; exact hlt))
      have IR := Lib.hid (fun k (hk : k < nl) (hne : i ≠ k) => irr_at S IRR.out i k (by rw [NL.out]; exact hlt) (by rw [NL.out]; exact hk) hne)
      obtain ⟨p, hp⟩ : ∃ p, p = S.getD i (0, 0) := ⟨_, rfl⟩
      rw [← hp] at CI B0 B1 cz IR
      obtain ⟨v, m⟩ := p
      obtain ⟨z, hz, hzl, ez⟩ := bN v m B0.out B1.out
      have hz0 : z = 0 := hz.trans cz
      subst hz0
      have ez0 : bits .andNot .u64 (v : Int) (m : Int) = 0 := ez
      obtain ⟨d0, d1⟩ := CI.out wr HG.out
      clear hp b0 b1 cz hz hzl ez
      go_wp2
      go_quiet (fail)
      go_wp2
      have HG1 := Lib.hid (gb_trans HG.out (gb_drewN wr nq none))
      clear d0 d1
      go_loopw [5] (fun s5 wx => ∃ k : Nat, k ≤ nl ∧ s5 = .int .i64 k ∧ w1.grownBy wx none) (fun s5 _ => nl - (intOf s5).toNat)
      case atStart => exact ⟨0, Nat.zero_le _, rfl, HG1.out⟩
      case round =>
        obtain ⟨k, hk, rfl, hg⟩ := hrel
        have HG := Lib.hid hg
        clear hg
        by_cases hlt2 : k < nl
        · have k1 : (k : Int) < nl := by omega
          have k0 : (0 : Int) ≤ (k : Int) := by omega
          by_cases hki : k = i
          · subst hki
            have e1 : ((k : Int) != k) = false := by simp
            go_wp2
            go_quiet (fail)
            go_wp2
            go_roundw
            case rel => exact ⟨k + 1, by omega, by go_num, gb_trans HG.out (gb_drewN _ _ _)⟩
            case measure => simp [intOf]; omega
          · have e1 : ((k : Int) != i) = true := by rw [bne_iff_ne]; omega
            have e1' : ¬ (k : Int) = i := by omega
            have IK := IR.out k hlt2 (Ne.symm hki)
            obtain ⟨u0, u1⟩ := CI.out _ HG.out
            obtain ⟨x0, x1⟩ := (S1.out.keep0 HG.out).cells ld rfl k hlt2
            obtain ⟨y0, y1⟩ := S1.out.wfAt k hlt2
            obtain ⟨q, hq⟩ : ∃ q, q = S.getD k (0, 0) := ⟨_, rfl⟩
            rw [← hq] at x0 x1 y0 y1 IK
            obtain ⟨v2, m2⟩ := q
            obtain ⟨p1, hp1, hpl1, ep1⟩ := bA m m2 B1.out y1
            obtain ⟨p2, hp2, hpl2, ep2⟩ := bX v v2 B0.out y0
            obtain ⟨p3, hp3, hpl3, ep3⟩ := bA p2 m2 hpl2 y1
            have NOT : ¬ (p1 = m2 ∧ p3 = 0) := by
              rintro ⟨q1, q2⟩
              have : subP (v, m) (v2, m2) = true := by
                show subN v m v2 m2 = true
                unfold subN iAgree
                rw [Bool.and_eq_true, decide_eq_true_eq, decide_eq_true_eq, andN_zero _ _ y1 B1.out]
                exact ⟨by rw [← hp1, q1], by rw [← hp2, ← hp3, q2]⟩
              rw [IK] at this; cases this
            clear hq y0 y1 IK hki hp1 hpl1 hp2 hpl2 hp3 hpl3
            by_cases h1 : p1 = m2
            · subst h1
              have h3 : ¬ p3 = 0 := fun e => NOT ⟨rfl, e⟩
              have f1 : ((p1 : Int) == p1) = true := by simp
              have f3 : ((p3 : Int) == 0) = false := by rw [beq_eq_false_iff_ne]; omega
              have f3' : ¬ (p3 : Int) = 0 := by omega
              clear NOT h3
              go_wp2
              go_quiet (fail)
              go_wp2
              go_roundw
              case rel => exact ⟨k + 1, by omega, by go_num, gb_trans HG.out (gb_drewN _ _ _)⟩
              case measure => simp [intOf]; omega
            · have f1 : ((p1 : Int) == m2) = false := by rw [beq_eq_false_iff_ne]; omega
              have f1' : ¬ (p1 : Int) = m2 := by omega
              clear NOT h1
              go_wp2
              go_quiet (fail)
              go_wp2
              go_roundw
              case rel => exact ⟨k + 1, by omega, by go_num, gb_trans HG.out (gb_drewN _ _ _)⟩
              case measure => simp [intOf]; omega
        · have hke : k = nl := by omega
          subst hke
          go_wp2
          go_roundw
          case rel => exact ⟨i + 1, by omega, by go_num, HG.out⟩
          case measure => simp [intOf]; omega
    · have hie : i = nl := by omega
      subst hie
      go_wp2
      go_loopw [6, 7] (fun s6 s7 wx => ∃ j t : Nat, j ≤ n ∧ t ≤ i ∧ s7 = .int .i64 j ∧ s6 = .int .i64 t ∧ (keptT L j).length ≤ t ∧ w1.grownBy wx none) (fun _ s7 _ => n - (intOf s7).toNat)
      case atStart => exact ⟨0, 0, Nat.zero_le _, Nat.zero_le _, rfl, rfl, Nat.le_refl _, HG.out⟩
      case round =>
        obtain ⟨j, t, hj, ht, rfl, rfl, hk, hg⟩ := hrel
        clear HG
        have HK := Lib.hid hk
        have HG := Lib.hid hg
        clear hk hg
        by_cases hgo : j < n ∧ t < i
        · obtain ⟨hj1, ht1⟩ := hgo
          obtain ⟨ld, rfl⟩ := S1.out.some (by omega)
          obtain ⟨ad, rfl⟩ := HA.out.some (by omega)
          have i1 : (j : Int) < n := by omega
          have i0 : (0 : Int) ≤ (j : Int) := by omega
          have t1 : (t : Int) < i := by omega
          have t0 : (0 : Int) ≤ (t : Int) := by omega
          obtain ⟨d0, d1⟩ := (S1.out.keep0 HG.out).cells ld rfl t ht1
          obtain ⟨x0, x1⟩ := (HA.out.keep0 (gb_trans G1.out HG.out)).cells ad rfl j hj1
          obtain ⟨y0, y1⟩ := HA.out.wfAt j hj1
          obtain ⟨y2, y3⟩ := S1.out.wfAt t ht1
          have K2 := Lib.hid (ATL.out j t (by rw [HL.out]; exact hj1) HK.out)
          have SA1 := SA0.out j t
          obtain ⟨p, hp⟩ : ∃ p, p = S.getD t (0, 0) := ⟨_, rfl⟩
          obtain ⟨q, hq⟩ : ∃ q, q = L.getD j (0, 0) := ⟨_, rfl⟩
          rw [← hp] at d0 d1 y2 y3 SA1
          rw [← hq] at x0 x1 y0 y1 SA1
          obtain ⟨pv, pm⟩ := p
          obtain ⟨qv, qm⟩ := q
          obtain ⟨z, hz, hzl, ez⟩ := bA qv qm y0 y1
          have CQ : canP (qv, qm) = (z, qm) := by rw [hz]; rfl
          rw [CQ] at SA1
          clear hp hq y0 y1 y2 y3 hz hzl CQ
          by_cases h1 : pv = z
          · by_cases h2 : pm = qm
            · subst h1
              subst h2
              rw [if_pos rfl] at SA1
              rw [SA1] at K2
              clear SA1
              go_wp2
              go_quiet (fail)
              go_wp2
              go_roundw
              case rel => exact ⟨j + 1, t + 1, by omega, by omega, by go_num, by go_num, K2.out, gb_trans HG.out (gb_drewN _ _ _)⟩
              case measure => simp [intOf]; omega
            · rw [if_neg (fun e => h2 (Prod.mk.inj e).2)] at SA1
              rw [SA1] at K2
              have f1 : ((pm : Int) == qm) = false := by rw [beq_eq_false_iff_ne]; omega
              have f2 : ¬ (pm : Int) = qm := by omega
              subst h1
              clear SA1 h2
              go_wp2
              go_quiet (fail)
              go_wp2
              go_roundw
              case rel => exact ⟨j + 1, t, by omega, by omega, by go_num, by first | rfl | go_num, K2.out, gb_trans HG.out (gb_drewN _ _ _)⟩
              case measure => simp [intOf]; omega
          · rw [if_neg (fun e => h1 (Prod.mk.inj e).1)] at SA1
            rw [SA1] at K2
            have f1 : ((pv : Int) == z) = false := by rw [beq_eq_false_iff_ne]; omega
            have f2 : ¬ (pv : Int) = z := by omega
            clear SA1 h1
            go_wp2
            go_quiet (fail)
            go_wp2
            go_roundw
            case rel => exact ⟨j + 1, t, by omega, by omega, by go_num, by first | rfl | go_num, K2.out, gb_trans HG.out (gb_drewN _ _ _)⟩
            case measure => simp [intOf]; omega
        · have hti : t = i := by
            by_cases hjn : j < n
            · have : ¬ t < i := fun h => hgo ⟨hjn, h⟩
              omega
            · have hjn : j = n := by omega
              have k2 := HK.out
              rw [hjn, ← HL.out, KN.out] at k2
              omega
          subst hti
          have S3 := Lib.hid (S1.out.keep0 HG.out)
          have SP2 := simplify_any wr la t lc S S3.out (by omega)
          rw [IDM.out] at SP2
          unfold RetC at SP2
          have O2 := Lib.hid (O1.out.keep0 HG.out)
          have HG2 := Lib.hid (gb_trans G1.out HG.out)
          have PO := Lib.hid (fun (h0 : 0 < n) => POS.out (by rw [HL.out]; exact h0))
          have SLE := Lib.hid (show S.length ≤ 20000 by rw [NL.out]; omega)
          clear S3 SA0 ATL KN HK IRR SCN
          by_cases hn0 : n = 0
          · subst hn0
            have hj0 : j = 0 := by omega
            subst hj0
            rw [show ((0 : Nat) : Int) = 0 from rfl]
            clear PO hj
            go_wp2_with fail
            refine SP2.mono ?_
            rintro e w4 ⟨V4, rfl, o4, g4⟩
            obtain ⟨ra, rc, rfl⟩ := o4.shape
            have O4 := Lib.hid o4
            have G4 := Lib.hid (gb_trans HG2.out g4)
            have O5 := Lib.hid (O2.out.keep0 g4)
            clear o4 g4 SP2
            have EQ := eqS_any w4 _ _ _ _ S O4.out O5.out SLE.out
            rw [NL.out] at EQ ⊢
            go_wp2_with fail
            refine EQ.mono ?_
            rintro e w5 ⟨rfl, g5⟩
            have G5 := Lib.hid (gb_trans G4.out g5)
            clear g5 EQ
            go_wp2_with fail
            refine (WK.out _).mono ?_
            rintro e w6 ⟨rfl, g6⟩
            have G6 := Lib.hid (gb_trans G5.out g6)
            clear g6
            go_wp2
            go_ret
            exact ⟨rfl, G6.out⟩
          · have tp := PO.out (by omega)
            have tp1 : (0 : Int) < (t : Int) := by omega
            have np1 : ¬ (n : Int) = 0 := by omega
            have np2 : ((n : Int) == 0) = false := by rw [beq_eq_false_iff_ne]; omega
            by_cases hjn : j < n
            · have hj1 : (j : Int) < n := by omega
              clear PO hjn hn0
              go_wp2_with fail
              refine SP2.mono ?_
              rintro e w4 ⟨V4, rfl, o4, g4⟩
              obtain ⟨ra, rc, rfl⟩ := o4.shape
              have O4 := Lib.hid o4
              have G4 := Lib.hid (gb_trans HG2.out g4)
              have O5 := Lib.hid (O2.out.keep0 g4)
              clear o4 g4 SP2
              have EQ := eqS_any w4 _ _ _ _ S O4.out O5.out SLE.out
              rw [NL.out] at EQ ⊢
              go_wp2_with fail
              refine EQ.mono ?_
              rintro e w5 ⟨rfl, g5⟩
              have G5 := Lib.hid (gb_trans G4.out g5)
              clear g5 EQ
              go_wp2_with fail
              refine (WK.out _).mono ?_
              rintro e w6 ⟨rfl, g6⟩
              have G6 := Lib.hid (gb_trans G5.out g6)
              clear g6
              go_wp2
              go_ret
              exact ⟨rfl, G6.out⟩
            · have hj1 : ¬ (j : Int) < n := by omega
              clear PO hjn hn0
              go_wp2_with fail
              refine SP2.mono ?_
              rintro e w4 ⟨V4, rfl, o4, g4⟩
              obtain ⟨ra, rc, rfl⟩ := o4.shape
              have O4 := Lib.hid o4
              have G4 := Lib.hid (gb_trans HG2.out g4)
              have O5 := Lib.hid (O2.out.keep0 g4)
              clear o4 g4 SP2
              have EQ := eqS_any w4 _ _ _ _ S O4.out O5.out SLE.out
              rw [NL.out] at EQ ⊢
              go_wp2_with fail
              refine EQ.mono ?_
              rintro e w5 ⟨rfl, g5⟩
              have G5 := Lib.hid (gb_trans G4.out g5)
              clear g5 EQ
              go_wp2_with fail
              refine (WK.out _).mono ?_
              rintro e w6 ⟨rfl, g6⟩
              have G6 := Lib.hid (gb_trans G5.out g6)
              clear g6
              go_wp2
              go_ret
              exact ⟨rfl, G6.out⟩
theorem simplifies_law (a : Option Addr) (n c : Nat) (L : List (Nat × Nat)) (W : World) (h : SC W a n c L) : Calls Try.prog 9 #[.slice a n c] W (fun e w' => e = .returned (.bool true) ∧ Below W.heap.size W w') := by
  refine (simplifies_walk W a n c L h).mono ?_
  rintro e w' ⟨rfl, g⟩
  exact ⟨rfl, (gr_gb g).below⟩
end Go.Proofs.Ytnilcpmnjlcpnaa
