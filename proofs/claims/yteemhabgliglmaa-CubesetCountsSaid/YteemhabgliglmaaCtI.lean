/- Cubeset: the law Operations. -/
import Derived.Test.YteemhabgliglmaaCtH
import Derived.Test.YteemhabgliglmaaCsE
import Derived.Test.YteemhabgliglmaaCsF
namespace Go.Proofs.Yteemhabgliglmaa
open Go.RowKit
set_option linter.unusedVariables false
theorem stepL_len (L : List (Nat × Nat)) : (stepL L).length ≤ 20000 := by
  unfold stepL
  split
  · exact Nat.zero_le _
  · omega
theorem intG_len (M : List (Nat × Nat)) : ∀ (L out : List (Nat × Nat)), out.length ≤ 1024 → (intG M L out).1.length ≤ 1024 := by
  intro L
  induction L with
  | nil => intro out h; exact h
  | cons p L ih =>
    intro out h
    unfold intG
    split
    · exact Nat.zero_le _
    · exact ih _ (by omega)
theorem subG_len (k : Nat) : ∀ (M l : List (Nat × Nat)), l.length ≤ 1024 → (subG k M l).1.length ≤ 1024 := by
  intro M
  induction M with
  | nil => intro l h; exact h
  | cons p M ih =>
    intro l h
    unfold subG
    split
    · exact Nat.zero_le _
    · exact ih _ (by omega)
theorem subsX_len (x : Int) (L M : List (Nat × Nat)) : (subsX x L M).1.length ≤ 20000 := by
  unfold subsX
  split
  · unfold subsL
    split
    · exact Nat.zero_le _
    · have := subG_len x.toNat M (simpL (L.map (resP x.toNat))) (by omega)
      omega
  · exact Nat.zero_le _
theorem eqS_any (w : World) (b1 b2 : Nat) (V1 V2 : Value) (L : List (Nat × Nat)) (H1 : CLs w b1 V1 L) (H2 : CLs w b2 V2 L) (hl : L.length ≤ 20000) : Calls Try.prog 15 #[V1, V2] w (fun e w' => e = .returned (.bool true) ∧ w.grownBy w' none) := by
  have := eql_any w b1 b2 V1 V2 L L H1 H2 hl hl
  rw [decide_eq_true rfl] at this
  exact this
set_option maxRecDepth 100000 in
set_option maxHeartbeats 20000000 in
theorem operations_walk (w : World) (a b : Option Addr) (n c m d : Nat) (x : Int) (L M : List (Nat × Nat)) (h : SC w a n c L) (g : SC w b m d M) : Calls Try.prog 3 #[.slice a n c, .slice b m d, .int .i64 x] w (RetV (.bool true) w) := by
  have HA := Lib.hid h
  have HB := Lib.hid g
  have WK := Lib.hid (fun w => works_any w)
  unfold RetV at WK
  have SM := Lib.hid (fun w => small_any w a b n c m d)
  unfold RetS at SM
  clear h g
  go_enter Try.func3, Try.ntmps3
  by_cases hsm : n ≤ 10 ∧ m ≤ 8
  case neg =>
    rw [show (decide (n ≤ 10) && decide (m ≤ 8)) = false by
      by_cases h1 : n ≤ 10
      · rw [decide_eq_false (show ¬ m ≤ 8 from fun h2 => hsm ⟨h1, h2⟩), Bool.and_false]
      · rw [decide_eq_false h1, Bool.false_and]] at SM
    clear hsm
    go_wp2_with fail
    refine (SM.out _).mono ?_
    rintro e w1 ⟨rfl, rfl⟩
    go_wp2_with fail
    refine (WK.out _).mono ?_
    rintro e w2 ⟨rfl, g2⟩
    go_wp2
    go_ret
    exact ⟨rfl, g2⟩
  rw [show (decide (n ≤ 10) && decide (m ≤ 8)) = true by rw [decide_eq_true hsm.1, decide_eq_true hsm.2]; rfl] at SM
  have N1 := Lib.hid hsm.1
  have N2 := Lib.hid hsm.2
  clear hsm
  go_wp2_with fail
  refine (SM.out _).mono ?_
  rintro e w0 ⟨rfl, rfl⟩
  have G0 := Lib.hid (gb_refl w0 none)
  have P1 := union_any w0 a b n c m d L M (HA.out.keep0 G0.out) (HB.out.keep0 G0.out) (by have := N1.out; omega) (by have := N2.out; omega)
  unfold RetCE at P1
  go_wp2_with fail
  refine P1.mono ?_
  rintro e w1 ⟨V1, rfl, o1, g1⟩
  obtain ⟨ra1, rc1, rfl⟩ := o1.shape
  have O1 := Lib.hid o1
  have GS1 := Lib.hid g1
  have G1 := Lib.hid (gb_trans G0.out g1)
  clear o1 g1 P1
  have P2 := runion_any w1 a b n c m d L M (HA.out.keep0 G1.out) (HB.out.keep0 G1.out) (by have := N1.out; omega) (by have := N2.out; omega)
  unfold RetCE at P2
  go_wp2_with fail
  refine P2.mono ?_
  rintro e w2 ⟨V2, rfl, o2, g2⟩
  obtain ⟨ra2, rc2, rfl⟩ := o2.shape
  have O2 := Lib.hid o2
  have GS2 := Lib.hid g2
  have G2 := Lib.hid (gb_trans G1.out g2)
  clear o2 g2 P2
  have LU2 := Lib.hid (stepL_len (L ++ M))
  have P3 := eqS_any w2 _ _ _ _ (stepL (L ++ M)) (O1.out.keep0 GS2.out) O2.out LU2.out
  go_wp2_with fail
  refine P3.mono ?_
  rintro e w3 ⟨rfl, g3⟩
  have G3 := Lib.hid (gb_trans G2.out g3)
  clear g3 P3 O1 O2
  have P4 := simplify_any w3 a n c L (HA.out.keep0 G3.out) (by have := N1.out; omega)
  unfold RetC at P4
  go_wp2_with fail
  refine P4.mono ?_
  rintro e w4 ⟨V4, rfl, o4, g4⟩
  obtain ⟨ra4, rc4, rfl⟩ := o4.shape
  have O4 := Lib.hid o4
  have GS4 := Lib.hid g4
  have G4 := Lib.hid (gb_trans G3.out g4)
  clear o4 g4 P4
  have P5 := rsimp_any w4 a n c L (HA.out.keep0 G4.out) (by have := N1.out; omega)
  unfold RetC at P5
  go_wp2_with fail
  refine P5.mono ?_
  rintro e w5 ⟨V5, rfl, o5, g5⟩
  obtain ⟨ra5, rc5, rfl⟩ := o5.shape
  have O5 := Lib.hid o5
  have GS5 := Lib.hid g5
  have G5 := Lib.hid (gb_trans G4.out g5)
  clear o5 g5 P5
  have LU5 := Lib.hid (show (simpL L).length ≤ 20000 by have := keptT_len L L.length; have := HA.out.len; have := N1.out; unfold simpL; omega)
  have P6 := eqS_any w5 _ _ _ _ (simpL L) (O4.out.keep0 GS5.out) O5.out LU5.out
  go_wp2_with fail
  refine P6.mono ?_
  rintro e w6 ⟨rfl, g6⟩
  have G6 := Lib.hid (gb_trans G5.out g6)
  clear g6 P6 O4 O5
  have P7 := pinter_any w6 a b n c m d L M (HA.out.keep0 G6.out) (HB.out.keep0 G6.out) (by have := N1.out; omega) (by have := N2.out; omega)
  unfold RetCE at P7
  go_wp2_with fail
  refine P7.mono ?_
  rintro e w7 ⟨V7, rfl, o7, g7⟩
  obtain ⟨ra7, rc7, rfl⟩ := o7.shape
  have O7 := Lib.hid o7
  have GS7 := Lib.hid g7
  have G7 := Lib.hid (gb_trans G6.out g7)
  clear o7 g7 P7
  have P8 := rinter_any w7 a b n c m d L M (HA.out.keep0 G7.out) (HB.out.keep0 G7.out) (by have := N1.out; omega) (by have := N2.out; omega)
  unfold RetCE at P8
  go_wp2_with fail
  refine P8.mono ?_
  rintro e w8 ⟨V8, rfl, o8, g8⟩
  obtain ⟨ra8, rc8, rfl⟩ := o8.shape
  have O8 := Lib.hid o8
  have GS8 := Lib.hid g8
  have G8 := Lib.hid (gb_trans G7.out g8)
  clear o8 g8 P8
  have LU8 := Lib.hid ((show (intG M L []).1.length ≤ 20000 by have := intG_len M L [] (Nat.zero_le _); omega))
  have P9 := eqS_any w8 _ _ _ _ ((intG M L []).1) (O7.out.keep0 GS8.out) O8.out LU8.out
  go_wp2_with fail
  refine P9.mono ?_
  rintro e w9 ⟨rfl, g9⟩
  have G9 := Lib.hid (gb_trans G8.out g9)
  clear g9 P9 O7 O8
  have P10 := psubs_any w9 a b n c m d x L M (HA.out.keep0 G9.out) (HB.out.keep0 G9.out) (by have := N1.out; omega) (by have := N2.out; omega)
  unfold RetCE at P10
  go_wp2_with fail
  refine P10.mono ?_
  rintro e w10 ⟨V10, rfl, o10, g10⟩
  obtain ⟨ra10, rc10, rfl⟩ := o10.shape
  have O10 := Lib.hid o10
  have GS10 := Lib.hid g10
  have G10 := Lib.hid (gb_trans G9.out g10)
  clear o10 g10 P10
  have P11 := rsubX_any w10 a b n c m d x L M (HA.out.keep0 G10.out) (HB.out.keep0 G10.out) (by have := N1.out; omega) (by have := N2.out; omega)
  unfold RetCE at P11
  go_wp2_with fail
  refine P11.mono ?_
  rintro e w11 ⟨V11, rfl, o11, g11⟩
  obtain ⟨ra11, rc11, rfl⟩ := o11.shape
  have O11 := Lib.hid o11
  have GS11 := Lib.hid g11
  have G11 := Lib.hid (gb_trans G10.out g11)
  clear o11 g11 P11
  have LU11 := Lib.hid (subsX_len x L M)
  have P12 := eqS_any w11 _ _ _ _ ((subsX x L M).1) (O10.out.keep0 GS11.out) O11.out LU11.out
  go_wp2_with fail
  refine P12.mono ?_
  rintro e w12 ⟨rfl, g12⟩
  have G12 := Lib.hid (gb_trans G11.out g12)
  clear g12 P12 O10 O11
  have P13 := pcompl_any w12 b m d x M (HB.out.keep0 G12.out) (by have := N2.out; omega)
  unfold RetCE at P13
  go_wp2_with fail
  refine P13.mono ?_
  rintro e w13 ⟨V13, rfl, o13, g13⟩
  obtain ⟨ra13, rc13, rfl⟩ := o13.shape
  have O13 := Lib.hid o13
  have GS13 := Lib.hid g13
  have G13 := Lib.hid (gb_trans G12.out g13)
  clear o13 g13 P13
  have P14 := rcompl_any w13 b m d x M (HB.out.keep0 G13.out) (by have := N2.out; omega)
  unfold RetCE at P14
  go_wp2_with fail
  refine P14.mono ?_
  rintro e w14 ⟨V14, rfl, o14, g14⟩
  obtain ⟨ra14, rc14, rfl⟩ := o14.shape
  have O14 := Lib.hid o14
  have GS14 := Lib.hid g14
  have G14 := Lib.hid (gb_trans G13.out g14)
  clear o14 g14 P14
  have LU14 := Lib.hid (subsX_len x [(0, 0)] M)
  have P15 := eqS_any w14 _ _ _ _ ((subsX x [(0, 0)] M).1) (O13.out.keep0 GS14.out) O14.out LU14.out
  go_wp2_with fail
  refine P15.mono ?_
  rintro e w15 ⟨rfl, g15⟩
  have G15 := Lib.hid (gb_trans G14.out g15)
  clear g15 P15 O13 O14
  go_wp2_with fail
  refine (WK.out _).mono ?_
  rintro e w16 ⟨rfl, g16⟩
  have G16 := Lib.hid (gb_trans G15.out g16)
  go_wp2
  go_ret
  exact ⟨rfl, G16.out⟩
theorem operations_law (a b : Option Addr) (n c m d : Nat) (L M : List (Nat × Nat)) (x : Int) (W : World) (h : SC W a n c L) (g : SC W b m d M) : Calls Try.prog 3 #[.slice a n c, .slice b m d, .int .i64 x] W (fun e w' => e = .returned (.bool true) ∧ Below W.heap.size W w') := by
  refine (operations_walk W a b n c m d x L M h g).mono ?_
  rintro e w' ⟨rfl, g⟩
  exact ⟨rfl, (gr_gb g).below⟩
end Go.Proofs.Yteemhabgliglmaa
