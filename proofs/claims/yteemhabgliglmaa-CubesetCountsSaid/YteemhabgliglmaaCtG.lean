/- Cubeset: the program's Intersect, Complement, Subset, Equal. -/
import Derived.Test.YteemhabgliglmaaCtF
import Derived.Test.YteemhabgliglmaaCtE
import Derived.Test.YteemhabgliglmaaCsQ
import Derived.Test.YteemhabgliglmaaCsJ
namespace Go.Proofs.Yteemhabgliglmaa
open Go.RowKit
set_option linter.unusedVariables false
theorem simp_idem (L : List (Nat × Nat)) (wf : Wf L) : simpL (simpL L) = simpL L := by
  refine irr_simp (k := 64) _ (fun p hp => ?_) (simp_irr L wf)
  have w := simpL_wf' L wf p hp
  refine ⟨w.1, w.2, ?_, ?_⟩
  · obtain ⟨q, _, rfl⟩ := simp_mem L p hp
    intro i hi
    have hi : (q.1 &&& q.2).testBit i = true := hi
    rw [Nat.testBit_and, Bool.and_eq_true] at hi
    exact hi.2
  · intro j hj
    by_cases h : j < 64
    · exact h
    · rw [tb_big p.2 j w.2 (by omega)] at hj; cases hj
set_option maxRecDepth 100000 in
set_option maxHeartbeats 8000000 in
theorem pinter_any (w : World) (a b : Option Addr) (n c m d : Nat) (L M : List (Nat × Nat)) (h : SC w a n c L) (g : SC w b m d M) (hn : n ≤ 10000) (hm : m ≤ 10000) : Calls Try.prog 18 #[.slice a n c, .slice b m d] w (RetCE (intG M L []).1 (intG M L []).2 w) := by
  have HA := Lib.hid h
  have HB := Lib.hid g
  have HL := Lib.hid h.len
  have HL2 := Lib.hid g.len
  obtain ⟨R, hR⟩ : ∃ R, R = intG M L [] := ⟨_, rfl⟩
  rw [← hR]
  have HR := Lib.hid hR
  clear h g hR
  go_enter Try.func18, Try.ntmps18
  go_wp2
  go_loopw [6, 9, 10, 11, 14] (fun s6 s9 s10 s11 s14 wr => ∃ (j : Nat) (out : List (Nat × Nat)), j ≤ n ∧ s14 = .int .i64 j ∧ intG M (L.drop j) out = R ∧ out.length ≤ 1024 ∧ simpL out = out ∧ (∀ p ∈ out, B64 p.1 ∧ B64 p.2) ∧ CLs wr w.heap.size s6 out ∧ w.grownBy wr none) (fun _ _ _ _ s14 _ => n - (intOf s14).toNat)
  case atStart => exact ⟨0, [], Nat.zero_le _, rfl, HR.out.symm, by simp, rfl, by simp, CLs.nil _ _, gb_refl _ _⟩
  case round =>
    obtain ⟨j, out, hj, rfl, hi, hl, hs, hwf, ho, hg⟩ := hrel
    obtain ⟨va, vc, rfl⟩ := ho.shape
    have HI := Lib.hid hi
    have HS := Lib.hid hs
    have WF := Lib.hid hwf
    have O := Lib.hid ho
    have G := Lib.hid hg
    clear hi hs hwf ho hg HR
    by_cases hlt : j < n
    · obtain ⟨ad, rfl⟩ := HA.out.some (by omega)
      have i1 : (j : Int) < n := by omega
      have i0 : (0 : Int) ≤ (j : Int) := by omega
      obtain ⟨d0, d1⟩ := (HA.out.keep0 G.out).cells ad rfl j hlt
      obtain ⟨b0, b1⟩ := HA.out.wfAt j hlt
      have DR := Lib.hid (show L.drop j = L.getD j (0, 0) :: L.drop (j + 1) by
        rw [List.drop_eq_getElem_cons (by rw [HL.out]; exact hlt), List.getD_eq_getElem?_getD, List.getElem?_eq_getElem (by rw [HL.out]; exact hlt)]; rfl)
      obtain ⟨q, hq⟩ : ∃ q, q = L.getD j (0, 0) := ⟨_, rfl⟩
      rw [← hq] at d0 d1 b0 b1 DR
      obtain ⟨v, mk⟩ := q
      have GI := Lib.hid (show (if 1024 < (simpL (out ++ rowI (v, mk) M)).length then ([], 12) else intG M (L.drop (j + 1)) (simpL (out ++ rowI (v, mk) M))) = R by
        have := HI.out
        rw [DR.out] at this
        exact this)
      have GA := Lib.hid (gb_trans G.out (gb_alloc wr (.cells #[.int .u64 (v : Int), .int .u64 (mk : Int)] 49) none))
      have OA := Lib.hid (O.out.keep0 (gb_alloc wr (.cells #[.int .u64 (v : Int), .int .u64 (mk : Int)] 49) none))
      have IN := Lib.hid (ints_any (wr.alloc (.cells #[.int .u64 (v : Int), .int .u64 (mk : Int)] 49)) v mk b m d M (HB.out.keep0 GA.out) hm b0 b1)
      have RW := Lib.hid (rowI_wf (v, mk) M ⟨b0, b1⟩ HB.out.wf)
      have RL := Lib.hid (show (rowI (v, mk) M).length ≤ 10000 by have := rowI_len (v, mk) M; rw [HL2.out] at this; omega)
      clear hq b0 b1 HI DR
      generalize rowI (v, mk) M = RI at *
      generalize hol : out.length = ol at *
      have HOL := Lib.hid hol
      clear hol
      go_wp2_with fail
      refine IN.out.mono ?_
      rintro e w3 ⟨V3, rfl, o3, g3⟩
      obtain ⟨ra, rc, rfl⟩ := o3.shape
      have O3 := Lib.hid (OA.out.keep0 g3)
      have S3 := Lib.hid (sc_own o3 RW.out)
      have G3 := Lib.hid (gb_trans GA.out g3)
      clear o3 g3 IN OA O d0 d1
      generalize hrl : RI.length = rl at *
      by_cases hz : rl = 0
      · subst hz
        have e : RI = [] := List.length_eq_zero_iff.1 hrl
        have GI2 := Lib.hid (show intG M (L.drop (j + 1)) out = R by
          have := GI.out
          rw [e, List.append_nil, HS.out, if_neg (by rw [HOL.out]; omega)] at this
          exact this)
        clear GI e hrl
        go_wp2
        go_roundw
        case rel => exact ⟨j + 1, out, by omega, by go_num, GI2.out, by rw [HOL.out]; exact hl, HS.out, WF.out, by have := O3.out; unfold CLs at this ⊢; exact this, G3.out⟩
        case measure => simp [intOf]; omega
      · have n1 : ((rl : Int) == 0) = false := by rw [beq_eq_false_iff_ne]; omega
        have n2 : ¬ (rl : Int) = 0 := by omega
        have HRL := Lib.hid hrl
        have rl1 := RL.out
        clear hrl hz
        go_wp2_with (at_builtin; refine pushAll rfl _ _ rfl w.heap.size _ out rfl O3.out ra rl rc RI rfl S3.out (by rw [HOL.out, HRL.out]; omega) G3.out.size ?_)
        intro V9 w9 o9 g9
        have G9 := Lib.hid (gb_own G3.out O3.out (Nat.le_refl _) g9)
        have WF9 : ∀ p ∈ out ++ RI, B64 p.1 ∧ B64 p.2 := fun p hp => by
          rcases List.mem_append.1 hp with q | q
          · exact WF.out p q
          · exact RW.out p q
        have L9 : (out ++ RI).length ≤ 100000 := by rw [List.length_append, HOL.out, HRL.out]; omega
        have IDM := Lib.hid (simp_idem (out ++ RI) WF9)
        have SW := Lib.hid (simpL_wf' (out ++ RI) WF9)
        generalize out ++ RI = X at *
        obtain ⟨sa, sc, rfl⟩ := o9.shape
        have SA := settled_any w9 sa X.length sc X (sc_own o9 WF9) L9
        unfold RetCE stepL stepE at SA
        clear o9 g9 WF9
        go_wp2_with fail
        refine SA.mono ?_
        rintro e w4 ⟨V4, rfl, o4, g4⟩
        have G4 := Lib.hid (gb_trans G9.out g4)
        have o5 : CLs w4 w.heap.size V4 (if 1024 < (simpL X).length then [] else simpL X) := own_low o4 G9.out.size
        clear o4 g4 SA
        have GI2 := GI.out
        clear GI
        by_cases hbig : 1024 < (simpL X).length
        · rw [if_pos hbig] at GI2 o5
          rw [if_pos hbig]
          obtain ⟨sa4, sc4, rfl⟩ := o5.shape
          have GI3 := Lib.hid GI2
          clear o5 hbig GI2
          go_wp2
          go_ret2
          exact ⟨_, by rw [← GI3.out] <;> rfl, by rw [← GI3.out]; exact CLs.nil _ _, G4.out⟩
        · rw [if_neg hbig] at GI2 o5
          rw [if_neg hbig]
          have hb4 : (simpL X).length ≤ 1024 := by omega
          generalize simpL X = Rs at *
          obtain ⟨sa4, sc4, rfl⟩ := o5.shape
          have O5 := Lib.hid o5
          have GI3 := Lib.hid GI2
          clear o5 hbig GI2
          go_wp2
          go_roundw
          case rel => exact ⟨j + 1, Rs, by omega, by go_num, GI3.out, hb4, IDM.out, SW.out, O5.out, G4.out⟩
          case measure => simp [intOf]; omega
    · have hje : j = n := by omega
      have R2 := Lib.hid (show (out, (0 : Int)) = R by have := HI.out; rw [List.drop_of_length_le (by rw [HL.out]; omega)] at this; exact this)
      subst hje
      go_wp2
      go_ret2
      exact ⟨_, by rw [← R2.out] <;> rfl, by rw [← R2.out]; exact O.out, G.out⟩
end Go.Proofs.Yteemhabgliglmaa
