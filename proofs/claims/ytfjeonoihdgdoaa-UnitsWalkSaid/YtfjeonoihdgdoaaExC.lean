/- Expr: env.Get, whether a field exists; the walk's block, and what its leaves come to; no condition. -/
import Derived.Test.YtfjeonoihdgdoaaExB
namespace Go.Proofs.Ytfjeonoihdgdoaa
open Go.RowKit
set_option linter.unusedVariables false
set_option maxRecDepth 100000 in
set_option maxHeartbeats 4000000 in
theorem eget_any (w : World) (pl : Value) (va fa ta : Option Addr) (vn vc fn fc tn tc : Nat) (V : List Bool) (F : List (List Int)) (T : List Int) (hV : SB w va vn vc V) (hF : SR w fa fn fc F) (hT : SU w ta tn tc T) (h f : Int) :
    Calls Try.prog 133 #[.agg #[.slice va vn vc, .slice fa fn fc, .slice ta tn tc, pl], .agg #[.int .i64 h, .int .i64 f]] w (RetV (.int .u32 (getE V F T h f)) w) := by
  have EC := Lib.hid (fun (w2 : World) (k : w.grownBy w2 none) => elem_any w2 pl va fa ta vn vc fn fc tn tc F T (hF.keep0 k) (hT.keep0 k) h)
  have OC := Lib.hid (fun (w2 : World) (k : w.grownBy w2 none) => eopen_any w2 (.slice fa fn fc) (.slice ta tn tc) pl va vn vc V (hV.keep0 k) h)
  have HD := Lib.hid (show getE V F T h f = if openB V h = true ∧ isX f (vls F T h).length = true then (vls F T h).getD f.toNat 0 else 0 from rfl)
  unfold RetUs at EC
  unfold RetV at OC
  generalize getE V F T h f = r at *
  generalize vls F T h = D at *
  generalize openB V h = ob at *
  clear hV hF hT
  have G2 := Lib.hid (show w.grownBy ((w.alloc (.cells #[.slice va vn vc, .slice fa fn fc, .slice ta tn tc, pl] 38)).alloc (.cells #[.int .i64 h, .int .i64 f] 102)) none from gb_al (gb_al (gb_refl _ _)))
  obtain ⟨W2, hW2⟩ : ∃ W2, W2 = (w.alloc (.cells #[.slice va vn vc, .slice fa fn fc, .slice ta tn tc, pl] 38)).alloc (.cells #[.int .i64 h, .int .i64 f] 102) := ⟨_, rfl⟩
  have B2 : IsB W2 (w.heap.size + 1) 102 #[.int .i64 h, .int .i64 f] := by
    rw [hW2]
    have := IsB.new (w.alloc (.cells #[.slice va vn vc, .slice fa fn fc, .slice ta tn tc, pl] 38)) 102 #[.int .i64 h, .int .i64 f]
    rwa [sz_al] at this
  have A2 : IsB W2 w.heap.size 38 #[.slice va vn vc, .slice fa fn fc, .slice ta tn tc, pl] := by rw [hW2]; exact (IsB.new w _ _).alloc _
  rw [← hW2] at G2
  have BB := Lib.hid B2
  have AA := Lib.hid A2
  clear B2 A2
  obtain ⟨P, hP⟩ : ∃ P, P = w.heap.size := ⟨_, rfl⟩
  rw [← hP] at BB AA
  go_enter Try.func133, Try.ntmps133
  go_wp2_with fail
  rw [← hW2, ← hP]
  clear hW2 hP
  refine (EC.out _ G2.out).mono ?_
  rintro e w1 ⟨ga, gn, gc, rfl, su, g1⟩
  have SD := Lib.hid su
  have hcap := su.cap
  have HL := Lib.hid su.len
  have G1 := Lib.hid (gb_trans G2.out g1)
  have B1 := BB.out.keep0 g1
  have A1 := AA.out.keep0 g1
  have k0 := B1.cell 0
  have k1 := B1.cell 1
  have a0 := A1.cell 0
  have a1 := A1.cell 1
  have a2 := A1.cell 2
  have a3 := A1.cell 3
  simp at k0 k1 a0 a1 a2 a3
  have BB1 := Lib.hid B1
  have IX := Lib.hid (fun w => eisx_any w f gn)
  unfold RetS at IX
  rw [HL.out] at HD
  clear su g1 EC G2 BB B1 A1 AA
  cases ob with
  | false =>
    rw [if_neg (by simp)] at HD
    go_wp2_with fail
    refine (OC.out _ G1.out).mono ?_
    rintro e w2 ⟨rfl, g2⟩
    have G3 := Lib.hid (gb_trans G1.out g2)
    clear g2
    go_wp2
    go_ret
    exact ⟨by rw [HD.out] <;> rfl, G3.out⟩
  | true =>
    cases hx : isX f gn with
    | false =>
      rw [hx] at IX HD
      rw [if_neg (by simp)] at HD
      clear hx
      go_wp2_with fail
      refine (OC.out _ G1.out).mono ?_
      rintro e w2 ⟨rfl, g2⟩
      have G3 := Lib.hid (gb_trans G1.out g2)
      have B3 := BB1.out.keep0 g2
      have k0 := B3.cell 0
      have k1 := B3.cell 1
      simp at k0 k1
      clear g2 B3
      go_wp2_with fail
      refine (IX.out _).mono ?_
      rintro e w3 ⟨rfl, rfl⟩
      go_wp2
      go_ret
      exact ⟨by rw [HD.out] <;> rfl, G3.out⟩
    | true =>
      rw [hx] at IX HD
      rw [if_pos ⟨rfl, rfl⟩] at HD
      obtain ⟨j, rfl, hj⟩ := isx_nat hx
      obtain ⟨ad, rfl⟩ := SD.out.some (by omega)
      rw [Int.toNat_natCast] at HD
      have CJ := Lib.hid (fun (w2 : World) (k : w1.grownBy w2 none) => (SD.out.keep0 k).cells ad rfl j hj)
      generalize D.getD j 0 = b at *
      have i1 : (j : Int) < gn := by omega
      have i0 : (0 : Int) ≤ (j : Int) := by omega
      clear hx
      go_wp2_with fail
      refine (OC.out _ G1.out).mono ?_
      rintro e w2 ⟨rfl, g2⟩
      have G3 := Lib.hid (gb_trans G1.out g2)
      have B3 := BB1.out.keep0 g2
      have k0 := B3.cell 0
      have k1 := B3.cell 1
      simp at k0 k1
      have c1 := CJ.out _ g2
      clear g2 B3
      go_wp2_with fail
      refine (IX.out _).mono ?_
      rintro e w3 ⟨rfl, rfl⟩
      go_wp2
      go_ret
      exact ⟨by rw [HD.out] <;> rfl, G3.out⟩
set_option maxRecDepth 100000 in
set_option maxHeartbeats 4000000 in
theorem hasf_any (w : World) (nm v3 v4 v5 v6 v7 v8 : Value) (ha ma : Option Addr) (hn hc mn mc : Nat) (H : List (ByteArray × List Fld)) (M : List Fld) (hH : SH w ha hn hc H) (hM : SF w ma mn mc M) (h f : Int) :
    Calls Try.prog 131 #[.agg #[nm, .slice ha hn hc, .slice ma mn mc, v3, v4, v5, v6, v7, v8], .agg #[.int .i64 h, .int .i64 f]] w (RetV (.bool (isX f (dfs H M h).length)) w) := by
  have HH := Lib.hid hH
  have HM := Lib.hid hM
  have HL := Lib.hid hH.len
  have HL2 := Lib.hid hM.len
  have hcap := hH.cap
  have G2 := Lib.hid (show w.grownBy ((w.alloc (.cells #[nm, .slice ha hn hc, .slice ma mn mc, v3, v4, v5, v6, v7, v8] 31)).alloc (.cells #[.int .i64 h, .int .i64 f] 102)) none from gb_al (gb_al (gb_refl _ _)))
  obtain ⟨W2, hW2⟩ : ∃ W2, W2 = (w.alloc (.cells #[nm, .slice ha hn hc, .slice ma mn mc, v3, v4, v5, v6, v7, v8] 31)).alloc (.cells #[.int .i64 h, .int .i64 f] 102) := ⟨_, rfl⟩
  have B2 : IsB W2 (w.heap.size + 1) 102 #[.int .i64 h, .int .i64 f] := by
    rw [hW2]
    have := IsB.new (w.alloc (.cells #[nm, .slice ha hn hc, .slice ma mn mc, v3, v4, v5, v6, v7, v8] 31)) 102 #[.int .i64 h, .int .i64 f]
    rwa [sz_al] at this
  have A2 : IsB W2 w.heap.size 31 #[nm, .slice ha hn hc, .slice ma mn mc, v3, v4, v5, v6, v7, v8] := by rw [hW2]; exact (IsB.new w _ _).alloc _
  rw [← hW2] at G2
  obtain ⟨P, hP⟩ : ∃ P, P = w.heap.size := ⟨_, rfl⟩
  rw [← hP] at B2 A2
  have k0 := B2.cell 0
  have k1 := B2.cell 1
  have a1 := A2.cell 1
  have a2 := A2.cell 2
  simp at k0 k1 a1 a2
  clear hH hM B2 A2
  go_enter Try.func131, Try.ntmps131
  go_upto_region 1 with fail
  rw [← hW2, ← hP]
  clear hW2 hP
  by_cases h1 : h = -1
  · subst h1
    have HD := Lib.hid (show isX f (dfs H M (-1)).length = isX f mn by unfold dfs; rw [if_pos rfl, HL2.out])
    have IX := Lib.hid (fun w => isx_any w f mn)
    unfold RetS at IX
    generalize isX f mn = b at *
    go_wp2_with fail
    refine (IX.out _).mono ?_
    rintro e w1 ⟨rfl, rfl⟩
    go_wp2
    go_ret
    exact ⟨by rw [HD.out] <;> rfl, G2.out⟩
  · have n1 : (h == -1) = false := by rw [beq_eq_false_iff_ne]; exact h1
    have n2 : decide (h = -1) = false := decide_eq_false h1
    have HD := Lib.hid (show dfs H M h = if isX h hn = true then (H.getD h.toNat hz).2 else [] by unfold dfs; rw [if_neg h1, HL.out])
    have IX := Lib.hid (fun w => isx_any w h hn)
    unfold RetS at IX
    cases hx : isX h hn with
    | false =>
      rw [hx] at IX HD
      rw [if_neg (by decide)] at HD
      have HD2 := Lib.hid (show isX f (dfs H M h).length = false by rw [HD.out, isX_not]; simp)
      clear hx
      go_wp2_with fail
      go_quiet ((go_at_call 65; exact Calls.quiet_of_same (IX.out _)))
      go_wp2
      go_ret
      exact ⟨by rw [HD2.out] <;> rfl, gb_trans G2.out (gb_drewN _ _ _)⟩
    | true =>
      rw [hx] at IX HD
      rw [if_pos rfl] at HD
      obtain ⟨j, rfl, hj⟩ := isx_nat hx
      obtain ⟨ad, rfl⟩ := HH.out.some (by omega)
      rw [Int.toNat_natCast] at HD
      obtain ⟨c0, fa, fn, fc, c1, sf⟩ := (HH.out.keep0 G2.out).cells ad rfl j hj
      have HD2 := Lib.hid (show isX f (dfs H M (j : Int)).length = isX f fn by rw [HD.out, sf.len])
      have i1 : (j : Int) < hn := by omega
      have i0 : (0 : Int) ≤ (j : Int) := by omega
      clear sf c0 h1 IX
      go_wp2_with fail
      go_quiet ((go_at_call 65; exact Calls.quiet_of_same (isx_any _ _ _)))
      go_wp2
      go_ret
      exact ⟨by rw [HD2.out] <;> rfl, gb_trans G2.out (gb_drewN _ _ _)⟩
end Go.Proofs.Ytfjeonoihdgdoaa
