/- The walk of the program's ShortestCycle. -/
import Derived.Test.YtaikpjnegopelaaDhJ
namespace Go.Proofs.Ytaikpjnegopelaa
open Go.RowKit
set_option linter.unusedVariables false

set_option maxRecDepth 100000 in
set_option maxHeartbeats 4000000 in
theorem cyc_any (w : World) (a : Option Addr) (c : Nat) (g : List (List Int)) (h : SlG w a g.length c g) (hn : g.length ≤ 1000) (hb : ∀ v, v < g.length → (g.getD v []).length ≤ 1000) :
    Calls Try.prog 26 #[.slice a g.length c] w (RetN w.heap.size (cycG g) w) := by
  have HH := Lib.hid h
  have HB := Lib.hid hb
  have SC := Lib.hid (soc_any w a c g h hn hb)
  clear h hb
  go_enter Try.func26, Try.ntmps26
  go_wp2_with fail
  refine SC.out.mono ?_
  rintro e w1 ⟨z, rfl, soc, g1⟩
  have G1 := Lib.hid g1
  clear g1 SC
  rcases soc with ⟨rfl, hno⟩ | ⟨v, hv, rfl, hon, hmin⟩
  · have HE := Lib.hid (cyc_none g hno)
    go_wp2
    go_ret
    exact ⟨_, rfl, by rw [HE.out]; exact NL.nil _ _, G1.out⟩
  · obtain ⟨m, B, hcy⟩ := cyc_some g v hv hon hmin
    have HE := Lib.hid hcy
    have BB := Lib.hid B
    have iv : (v : Int) < g.length := by omega
    have iv1 : ((v : Int) == -1) = false := by rw [beq_eq_false_iff_ne]; omega
    have HDR := Lib.hid (fun u => distL_range g (v : Int) u)
    have HD := Lib.hid (fun (w2 : World) (b : Nat) (q : SlG w2 (some ⟨b, 0, none⟩) g.length g.length (revG g)) => by
      have k := distances_any w2 (some ⟨b, 0, none⟩) g.length (revG g) (by rw [revG_len]; exact q) (by rw [revG_len]; omega) (v : Int) (-1) (by omega)
      rw [revG_len, pdist_full, distL_rr] at k
      exact k)
    have NB := Lib.hid (fun h => nr_best g (distL g (v : Int)) h v hv m B)
    have CD := Lib.hid (fun k hk => cyc_down g v hv m B k hk)
    have DL := Lib.hid (distL_len g (v : Int))
    obtain ⟨d, hd⟩ : ∃ d, d = distL g (v : Int) := ⟨_, rfl⟩
    rw [← hd] at HDR HD NB CD DL HE BB
    clear hcy B hd hon hmin
    go_wp2_with fail
    refine (rev_any w1 a g.length c g (HH.out.keep0 G1.out) (by omega)).mono ?_
    rintro e w2 ⟨b, hb, rfl, q1, g2⟩
    have HD1 := Lib.hid (HD.out w2 b q1)
    have G2 := Lib.hid (gb_trans G1.out g2)
    clear q1 g2 HD
    go_wp2_with fail
    refine HD1.out.mono ?_
    rintro e w3 ⟨V, rfl, o3, g3⟩
    obtain ⟨da, dc, hV⟩ := o3.shape
    rw [DL.out] at hV
    subst hV
    have O3 := Lib.hid (own_low o3 G2.out.size)
    have HC := Lib.hid (o3.slr DL.out.symm)
    have G3 := Lib.hid (gb_trans G2.out g3)
    clear o3 g3 HD1
    cases a with
    | none => exact absurd (HH.out.2.1 rfl).1 (by omega)
    | some ad =>
      cases da with
      | none => exact absurd (HC.out.2.1 rfl).1 (by omega)
      | some cd =>
        obtain ⟨A, L, c0, r0, l1⟩ := HH.out.row v hv
        have c1 := G3.out.cell c0 (by simp)
        obtain ⟨zs, hz⟩ : ∃ zs, zs = g.getD v [] := ⟨_, rfl⟩
        rw [← hz] at c1 r0 l1 NB
        have R0 := Lib.hid (r0.keep0 G3.out)
        clear r0 hz c0
        have NR0 := Lib.hid (show ([] : List Int).foldl (nrF g.length d) (-1) = -1 from rfl)
        go_wp2
        go_loopw [5, 21] (fun s i wr => ∃ j : Nat, j ≤ zs.length ∧ i = .int .i64 j ∧ s = .int .i64 ((zs.take j).foldl (nrF g.length d) (-1)) ∧ wr = w3) (fun _ i _ => zs.length - (intOf i).toNat)
        case atStart => exact ⟨0, Nat.zero_le _, rfl, rfl, rfl⟩
        case round =>
          obtain ⟨j, hj, rfl, rfl, rfl⟩ := hrel
          by_cases hjt : j < zs.length
          · have i2 : (j : Int) < zs.length := by omega
            cases A with
            | none => exact absurd (R0.out.2.1 rfl).1 (by omega)
            | some ar =>
              have c2 := R0.out.cellAt j hjt
              have TS := Lib.hid (show (zs.take (j + 1)).foldl (nrF g.length d) (-1) = nrF g.length d ((zs.take j).foldl (nrF g.length d) (-1)) (zs.getD j 0) by
                rw [List.take_add_one, List.getElem?_eq_getElem hjt, List.foldl_append]; simp [hjt])
              obtain ⟨s, hs⟩ : ∃ s, s = (zs.take j).foldl (nrF g.length d) (-1) := ⟨_, rfl⟩
              rw [← hs] at TS ⊢
              obtain ⟨x, hx⟩ : ∃ x, x = zs.getD j 0 := ⟨_, rfl⟩
              rw [← hx] at c2 TS
              clear hx hs
              have HN := Lib.hid (fun w => isNode_any w (some ad) g.length c x)
              by_cases hnode : 0 ≤ x ∧ x < (g.length : Int)
              · simp only [decide_eq_true hnode] at HN
                obtain ⟨xn, rfl⟩ : ∃ xn : Nat, x = (xn : Int) := ⟨x.toNat, by omega⟩
                have hxn : xn < g.length := by omega
                have ix : (xn : Int) < g.length := by omega
                have cr := HC.out.cellAt xn (by rw [DL.out]; omega)
                have HF := Lib.hid (show nrF g.length d s (xn : Int) = if d.getD xn 0 ≠ -1 ∧ (s = -1 ∨ d.getD xn 0 < s) then d.getD xn 0 else s by
                  unfold nrF
                  rw [Int.toNat_natCast]
                  by_cases q : d.getD xn 0 ≠ -1 ∧ (s = -1 ∨ d.getD xn 0 < s)
                  · rw [if_pos q, if_pos ⟨hnode.1, hnode.2, q.1, q.2⟩]
                  · rw [if_neg q, if_neg (fun h => q ⟨h.2.2.1, h.2.2.2⟩)])
                obtain ⟨y, hy⟩ : ∃ y, y = d.getD xn 0 := ⟨_, rfl⟩
                rw [← hy] at cr HF
                clear hy hnode
                by_cases hyw : y = -1
                · have HX := Lib.hid (show nrF g.length d s (xn : Int) = s by rw [HF.out, if_neg (fun h => h.1 hyw)])
                  have d1 : (y == -1) = true := by rw [beq_iff_eq]; exact hyw
                  have d2 : (y != -1) = false := by simp [bne, d1]
                  clear hyw
                  go_wp2_with fail
                  refine (HN.out _).mono ?_
                  rintro e w4 ⟨rfl, rfl⟩
                  go_wp2
                  go_roundw
                  case rel => exact ⟨j + 1, by omega, by go_num, by rw [TS.out, HX.out], trivial⟩
                  case measure => simp [intOf]; omega
                · have d1 : (y == -1) = false := by rw [beq_eq_false_iff_ne]; exact hyw
                  have d2 : (y != -1) = true := by simp [bne, d1]
                  by_cases hs1 : s = -1
                  · have HX := Lib.hid (show nrF g.length d s (xn : Int) = y by rw [HF.out, if_pos ⟨hyw, Or.inl hs1⟩])
                    have d3 : (s == -1) = true := by rw [beq_iff_eq]; exact hs1
                    clear hyw hs1
                    go_wp2_with fail
                    refine (HN.out _).mono ?_
                    rintro e w4 ⟨rfl, rfl⟩
                    go_wp2
                    go_roundw
                    case rel => exact ⟨j + 1, by omega, by go_num, by rw [TS.out, HX.out], trivial⟩
                    case measure => simp [intOf]; omega
                  · have d3 : (s == -1) = false := by rw [beq_eq_false_iff_ne]; exact hs1
                    by_cases hlt : y < s
                    · have HX := Lib.hid (show nrF g.length d s (xn : Int) = y by rw [HF.out, if_pos ⟨hyw, Or.inr hlt⟩])
                      clear hyw hs1
                      go_wp2_with fail
                      refine (HN.out _).mono ?_
                      rintro e w4 ⟨rfl, rfl⟩
                      go_wp2
                      go_roundw
                      case rel => exact ⟨j + 1, by omega, by go_num, by rw [TS.out, HX.out], trivial⟩
                      case measure => simp [intOf]; omega
                    · have HX := Lib.hid (show nrF g.length d s (xn : Int) = s by rw [HF.out, if_neg (fun h => by rcases h.2 with q | q; exact hs1 q; exact hlt q)])
                      clear hyw hs1
                      go_wp2_with fail
                      refine (HN.out _).mono ?_
                      rintro e w4 ⟨rfl, rfl⟩
                      go_wp2
                      go_roundw
                      case rel => exact ⟨j + 1, by omega, by go_num, by rw [TS.out, HX.out], trivial⟩
                      case measure => simp [intOf]; omega
              · simp only [decide_eq_false hnode] at HN
                have HX := Lib.hid (show nrF g.length d s x = s by unfold nrF; rw [if_neg (fun h => hnode ⟨h.1, h.2.1⟩)])
                clear hnode
                go_wp2_with fail
                refine (HN.out _).mono ?_
                rintro e w4 ⟨rfl, rfl⟩
                go_wp2
                go_roundw
                case rel => exact ⟨j + 1, by omega, by go_num, by rw [TS.out, HX.out], trivial⟩
                case measure => simp [intOf]; omega
          · have hje : j = zs.length := by omega
            have i2 : ¬ (j : Int) < zs.length := by omega
            have hr := HDR.out m
            have hcm := BB.out.2.1.2
            obtain ⟨k, hk⟩ : ∃ k : Nat, d.getD m 0 = k := ⟨(d.getD m 0).toNat, by omega⟩
            have HX := Lib.hid (show (zs.take j).foldl (nrF g.length d) (-1) = (k : Int) by
              rw [hje, List.take_length, NB.out (fun u => (HDR.out u).1), hk])
            have LD := CD.out k hk
            rw [hk] at hr
            have HDE := Lib.hid (descend_any wr (some ad) (some cd) c dc g d (v : Int) (k : Int) 1 k (HH.out.keep0 G3.out) HC.out (by omega) (by omega) (by omega) (by omega) LD.2)
            rw [LD.1, ← HE.out] at HDE
            clear LD hk CD NB
            rw [HX.out]
            subst hje
            go_wp2_with fail
            refine HDE.out.mono ?_
            rintro e w4 ⟨V4, rfl, o4, g4⟩
            obtain ⟨a4, c4, rfl⟩ := o4.shape
            have O4 := Lib.hid (own_low o4 G3.out.size)
            have G4 := Lib.hid (gb_trans G3.out g4)
            clear o4 g4 HDE
            go_wp2
            go_ret
            exact ⟨_, rfl, O4.out, G4.out⟩
end Go.Proofs.Ytaikpjnegopelaa
