/- Cubeset: the law Complements. -/
import Derived.Test.YteemhabgliglmaaCtQ
namespace Go.Proofs.Yteemhabgliglmaa
open Go.RowKit
set_option linter.unusedVariables false
set_option maxRecDepth 100000 in
set_option maxHeartbeats 40000000 in
theorem complements_walk (w : World) (a : Option Addr) (n c : Nat) (L : List (Nat × Nat)) (wd : Nat) (hwd : wd ≤ 255) (h : SC w a n c L) : Calls Try.prog 8 #[.slice a n c, .int .u8 wd] w (RetV (.bool true) w) := by
  have SA := Lib.hid h
  have HLa := Lib.hid h.len
  have WA := Lib.hid h.wf
  have WK := Lib.hid (fun w => works_any w)
  unfold RetV at WK
  have GZ := Lib.hid (gb_refl w none)
  clear h
  obtain ⟨k, hk⟩ : ∃ k : Nat, k = 1 + wd % 32 := ⟨_, rfl⟩
  have hk1 : 1 ≤ k := by omega
  have hk2 : k ≤ 32 := by omega
  have ek : 1 + (wd : Int) % 32 = (k : Int) := by omega
  have KE := Lib.hid ek
  have K1 := Lib.hid hk1
  have K2 := Lib.hid hk2
  clear hk hk1 hk2 ek
  go_enter Try.func8, Try.ntmps8
  by_cases hn : n ≤ 10
  case neg =>
    have hn2 : (10 : Int) < (n : Int) := by omega
    clear hn
    go_wp2_with fail
    refine (WK.out _).mono ?_
    rintro e v99 ⟨rfl, g99⟩
    have G99 := Lib.hid (gb_trans GZ.out g99)
    clear g99
    go_wp2
    go_ret
    exact ⟨rfl, G99.out⟩
  have N1 := Lib.hid hn
  have hn2 : ¬ (10 : Int) < (n : Int) := by omega
  have hn3 : (n : Int) ≤ 10 := by omega
  have hk1 := K1.out
  have hk2 := K2.out
  have hk3 : k ≤ 64 := by omega
  have hk4 : k ≤ 62 := by omega
  have LLa : L.length ≤ 10 := by rw [HLa.out]; exact N1.out
  clear hn
  obtain ⟨C, hC⟩ : ∃ q, q = (subsX (k : Int) [(0, 0)] L).1 := ⟨_, rfl⟩
  obtain ⟨eC, heC⟩ : ∃ q, q = (subsX (k : Int) [(0, 0)] L).2 := ⟨_, rfl⟩
  obtain ⟨X, hX⟩ : ∃ q, q = (subsX (k : Int) L []).1 := ⟨_, rfl⟩
  obtain ⟨I, hI⟩ : ∃ q, q = (intG X C []).1 := ⟨_, rfl⟩
  obtain ⟨eI, heI⟩ : ∃ q, q = (intG X C []).2 := ⟨_, rfl⟩
  obtain ⟨D, hD⟩ : ∃ q, q = (subsX (k : Int) [(0, 0)] C).1 := ⟨_, rfl⟩
  obtain ⟨eD, heD⟩ : ∃ q, q = (subsX (k : Int) [(0, 0)] C).2 := ⟨_, rfl⟩
  obtain ⟨qb, hqb⟩ : ∃ q, q = eqB (k : Int) D L := ⟨_, rfl⟩
  obtain ⟨qe, hqe⟩ : ∃ q, q = eqE (k : Int) D L := ⟨_, rfl⟩
  obtain ⟨n1, hn1⟩ : ∃ q, q = (pcL (k : Int) C).1 := ⟨_, rfl⟩
  obtain ⟨e1, he1⟩ : ∃ q, q = (pcL (k : Int) C).2 := ⟨_, rfl⟩
  obtain ⟨n2, hn2q⟩ : ∃ q, q = (pcL (k : Int) L).1 := ⟨_, rfl⟩
  obtain ⟨e2, he2⟩ : ∃ q, q = (pcL (k : Int) L).2 := ⟨_, rfl⟩
  have X0 := Lib.hid (subs_none hk1 hk3 L (by omega))
  have PK := Lib.hid (fun a1 a2 a3 => compl_ok hk1 hk2 L C X I D WA.out LLa hC a1 hX hI a2 hD a3)
  rw [← heC, ← heI, ← heD, ← hqb, ← hqe, ← hn1, ← he1, ← hn2q, ← he2] at PK
  have gX := subs_gd hk1 hk3 L [] WA.out wf_nil
  have gC := subs_gd hk1 hk3 [(0, 0)] L wf_all WA.out
  rw [← hX] at gX; rw [← hC] at gC
  have gD := subs_gd hk1 hk3 [(0, 0)] C wf_all (gd_wf gC.1)
  rw [← hD] at gD
  have gI := intG_gd hk3 X gX.1 C [] gC.1 (fun p hp => by cases hp)
  have lI := intG_len' X C [] (Nat.zero_le _)
  rw [← hI] at gI lI
  have WX := Lib.hid (gd_wf gX.1)
  have WC := Lib.hid (gd_wf gC.1)
  have WD := Lib.hid (gd_wf gD.1)
  have WI := Lib.hid (gd_wf gI)
  have LX := Lib.hid gX.2
  have LC := Lib.hid gC.2
  have LD := Lib.hid gD.2
  have LI := Lib.hid lI
  have eCo := Lib.hid (show eC = 0 ∨ eC = 12 by rw [heC]; exact subs_or hk1 hk3 _ L)
  have eIo := Lib.hid (show eI = 0 ∨ eI = 12 by rw [heI]; exact intG_or X C [])
  have eDo := Lib.hid (show eD = 0 ∨ eD = 12 by rw [heD]; exact subs_or hk1 hk3 _ C)
  have qeo := Lib.hid (show qe = 0 ∨ qe = 12 by rw [hqe]; exact eqE_or hk1 hk3 D L)
  have e1o := Lib.hid (show e1 = 0 ∨ e1 = 12 by rw [he1]; exact (pcL_err hk1 hk4 C WC.out).elim .inl (fun h => .inr h.2))
  have e2o := Lib.hid (show e2 = 0 ∨ e2 = 12 by rw [he2]; exact (pcL_err hk1 hk4 L WA.out).elim .inl (fun h => .inr h.2))
  have PW := Lib.hid (show (2 : Nat) ^ k ≤ 4294967296 from Nat.pow_le_pow_right (n := 2) (by decide) hk2)
  have HC := Lib.hid hC
  have HeC := Lib.hid heC
  have HX := Lib.hid hX
  have HI := Lib.hid hI
  have HeI := Lib.hid heI
  have HD := Lib.hid hD
  have HeD := Lib.hid heD
  have Hqb := Lib.hid hqb
  have Hqe := Lib.hid hqe
  have Hn1 := Lib.hid hn1
  have He1 := Lib.hid he1
  have Hn2 := Lib.hid hn2q
  have He2 := Lib.hid he2
  clear hC heC hX hI heI hD heD hqb hqe hn1 he1 hn2q he2 gX gC gD gI lI LLa hk1 hk2 hk3 hk4
  have SN := Lib.hid (fun w => sc_nil w)
  have C' := fun w2 (z : w.grownBy w2 none) => pcompl_any w2 a n c (k : Int) L (SA.out.keep0 z) (by have := N1.out; omega)
  unfold RetCE at C'
  rw [← HC.out, ← HeC.out] at C'
  have CC := Lib.hid C'
  clear C'
  have ek := KE.out
  go_wp2_with fail
  refine (CC.out _ GZ.out).mono ?_
  rintro e z ⟨V, rfl, o, g⟩
  obtain ⟨pC, cC, rfl⟩ := o.shape
  have SC' := Lib.hid (sc_own o WC.out)
  replace GZ := Lib.hid (gb_trans GZ.out g)
  replace SA := Lib.hid (SA.out.keep0 g)
  clear CC o g ek
  generalize C.length = lC at *
  rcases eCo.out with rfl | rfl
  rotate_left
  · go_wp2_with fail
    refine (WK.out _).mono ?_
    rintro e v99 ⟨rfl, g99⟩
    have G99 := Lib.hid (gb_trans GZ.out g99)
    clear g99
    go_wp2
    go_ret
    exact ⟨rfl, G99.out⟩
  have C1 := psubs_any _ a none n c 0 0 (k : Int) L [] SA.out (SN.out _) (by have := N1.out; omega) (by omega)
  unfold RetCE at C1
  rw [← HX.out, X0.out] at C1
  go_wp2_with fail
  refine C1.mono ?_
  rintro e z ⟨V, rfl, o, g⟩
  obtain ⟨pX, cX, rfl⟩ := o.shape
  have SX := Lib.hid (sc_own o WX.out)
  replace GZ := Lib.hid (gb_trans GZ.out g)
  replace SA := Lib.hid (SA.out.keep0 g)
  replace SC' := Lib.hid (SC'.out.keep0 g)
  clear C1 o g
  generalize X.length = lX at *
  rcases eIo.out with rfl | rfl
  rotate_left
  · rcases eDo.out with rfl | rfl
    rotate_left
    · have C1 := pinter_any _ pC pX lC cC lX cX C X SC'.out SX.out (by have := LC.out; omega) (by have := LX.out; omega)
      unfold RetCE at C1
      rw [← HI.out, ← HeI.out] at C1
      go_wp2_with fail
      refine C1.mono ?_
      rintro e z ⟨V, rfl, o, g⟩
      obtain ⟨pI, cI, hV⟩ := o.shape
      generalize I.length = lI at *
      subst hV
      replace GZ := Lib.hid (gb_trans GZ.out g)
      replace SA := Lib.hid (SA.out.keep0 g)
      replace SC' := Lib.hid (SC'.out.keep0 g)
      clear C1 o g
      have C1 := pcompl_any _ pC lC cC (k : Int) C SC'.out (by have := LC.out; omega)
      unfold RetCE at C1
      rw [← HD.out, ← HeD.out] at C1
      go_wp2_with fail
      refine C1.mono ?_
      rintro e z ⟨V, rfl, o, g⟩
      obtain ⟨pD, cD, rfl⟩ := o.shape
      have SD := Lib.hid (sc_own o WD.out)
      replace GZ := Lib.hid (gb_trans GZ.out g)
      replace SA := Lib.hid (SA.out.keep0 g)
      replace SC' := Lib.hid (SC'.out.keep0 g)
      clear C1 o g
      generalize D.length = lD at *
      go_wp2_with fail
      refine (WK.out _).mono ?_
      rintro e v99 ⟨rfl, g99⟩
      have G99 := Lib.hid (gb_trans GZ.out g99)
      clear g99
      go_wp2
      go_ret
      exact ⟨rfl, G99.out⟩
    have C1 := pinter_any _ pC pX lC cC lX cX C X SC'.out SX.out (by have := LC.out; omega) (by have := LX.out; omega)
    unfold RetCE at C1
    rw [← HI.out, ← HeI.out] at C1
    go_wp2_with fail
    refine C1.mono ?_
    rintro e z ⟨V, rfl, o, g⟩
    obtain ⟨pI, cI, hV⟩ := o.shape
    generalize I.length = lI at *
    subst hV
    replace GZ := Lib.hid (gb_trans GZ.out g)
    replace SA := Lib.hid (SA.out.keep0 g)
    replace SC' := Lib.hid (SC'.out.keep0 g)
    clear C1 o g
    have C1 := pcompl_any _ pC lC cC (k : Int) C SC'.out (by have := LC.out; omega)
    unfold RetCE at C1
    rw [← HD.out, ← HeD.out] at C1
    go_wp2_with fail
    refine C1.mono ?_
    rintro e z ⟨V, rfl, o, g⟩
    obtain ⟨pD, cD, rfl⟩ := o.shape
    have SD := Lib.hid (sc_own o WD.out)
    replace GZ := Lib.hid (gb_trans GZ.out g)
    replace SA := Lib.hid (SA.out.keep0 g)
    replace SC' := Lib.hid (SC'.out.keep0 g)
    clear C1 o g
    generalize D.length = lD at *
    go_wp2_with fail
    refine (WK.out _).mono ?_
    rintro e v99 ⟨rfl, g99⟩
    have G99 := Lib.hid (gb_trans GZ.out g99)
    clear g99
    go_wp2
    go_ret
    exact ⟨rfl, G99.out⟩
  rcases eDo.out with rfl | rfl
  rotate_left
  · have C1 := pinter_any _ pC pX lC cC lX cX C X SC'.out SX.out (by have := LC.out; omega) (by have := LX.out; omega)
    unfold RetCE at C1
    rw [← HI.out, ← HeI.out] at C1
    go_wp2_with fail
    refine C1.mono ?_
    rintro e z ⟨V, rfl, o, g⟩
    obtain ⟨pI, cI, hV⟩ := o.shape
    generalize I.length = lI at *
    subst hV
    replace GZ := Lib.hid (gb_trans GZ.out g)
    replace SA := Lib.hid (SA.out.keep0 g)
    replace SC' := Lib.hid (SC'.out.keep0 g)
    clear C1 o g
    have C1 := pcompl_any _ pC lC cC (k : Int) C SC'.out (by have := LC.out; omega)
    unfold RetCE at C1
    rw [← HD.out, ← HeD.out] at C1
    go_wp2_with fail
    refine C1.mono ?_
    rintro e z ⟨V, rfl, o, g⟩
    obtain ⟨pD, cD, rfl⟩ := o.shape
    have SD := Lib.hid (sc_own o WD.out)
    replace GZ := Lib.hid (gb_trans GZ.out g)
    replace SA := Lib.hid (SA.out.keep0 g)
    replace SC' := Lib.hid (SC'.out.keep0 g)
    clear C1 o g
    generalize D.length = lD at *
    go_wp2_with fail
    refine (WK.out _).mono ?_
    rintro e v99 ⟨rfl, g99⟩
    have G99 := Lib.hid (gb_trans GZ.out g99)
    clear g99
    go_wp2
    go_ret
    exact ⟨rfl, G99.out⟩
  have C1 := pinter_any _ pC pX lC cC lX cX C X SC'.out SX.out (by have := LC.out; omega) (by have := LX.out; omega)
  unfold RetCE at C1
  rw [← HI.out, ← HeI.out] at C1
  have hI0 := (PK.out (by first | rfl | trivial) (by first | rfl | trivial) (by first | rfl | trivial)).1
  rw [hI0] at C1
  go_wp2_with fail
  refine C1.mono ?_
  rintro e z ⟨V, rfl, o, g⟩
  obtain ⟨pI, cI, hV⟩ := o.shape
  have hV : V = .slice pI 0 cI := hV
  subst hV
  replace GZ := Lib.hid (gb_trans GZ.out g)
  replace SA := Lib.hid (SA.out.keep0 g)
  replace SC' := Lib.hid (SC'.out.keep0 g)
  clear C1 o g
  have C1 := pcompl_any _ pC lC cC (k : Int) C SC'.out (by have := LC.out; omega)
  unfold RetCE at C1
  rw [← HD.out, ← HeD.out] at C1
  go_wp2_with fail
  refine C1.mono ?_
  rintro e z ⟨V, rfl, o, g⟩
  obtain ⟨pD, cD, rfl⟩ := o.shape
  have SD := Lib.hid (sc_own o WD.out)
  replace GZ := Lib.hid (gb_trans GZ.out g)
  replace SA := Lib.hid (SA.out.keep0 g)
  replace SC' := Lib.hid (SC'.out.keep0 g)
  clear C1 o g
  generalize D.length = lD at *
  have C1 := peq_any _ pD a lD cD n c (k : Int) D L SD.out SA.out (by have := LD.out; omega) (by have := N1.out; omega)
  unfold RetBE at C1
  rw [← Hqb.out, ← Hqe.out] at C1
  go_wp2_with fail
  refine C1.mono ?_
  rintro e z ⟨rfl, g⟩
  replace GZ := Lib.hid (gb_trans GZ.out g)
  replace SA := Lib.hid (SA.out.keep0 g)
  replace SC' := Lib.hid (SC'.out.keep0 g)
  clear C1 g
  have C1 := pcount_any _ pC lC cC (k : Int) C SC'.out (by have := LC.out; omega)
  unfold RetCnt at C1
  rw [← Hn1.out, ← He1.out] at C1
  go_wp2_with fail
  refine C1.mono ?_
  rintro e z ⟨rfl, g⟩
  replace GZ := Lib.hid (gb_trans GZ.out g)
  replace SA := Lib.hid (SA.out.keep0 g)
  replace SC' := Lib.hid (SC'.out.keep0 g)
  clear C1 g
  have C1 := pcount_any _ a n c (k : Int) L SA.out (by have := N1.out; omega)
  unfold RetCnt at C1
  rw [← Hn2.out, ← He2.out] at C1
  go_wp2_with fail
  refine C1.mono ?_
  rintro e z ⟨rfl, g⟩
  replace GZ := Lib.hid (gb_trans GZ.out g)
  replace SA := Lib.hid (SA.out.keep0 g)
  replace SC' := Lib.hid (SC'.out.keep0 g)
  clear C1 g
  rcases qeo.out with rfl | rfl
  rotate_left
  · rcases e1o.out with rfl | rfl
    rotate_left
    · rcases e2o.out with rfl | rfl
      rotate_left
      · go_wp2_with fail
        refine (WK.out _).mono ?_
        rintro e v99 ⟨rfl, g99⟩
        have G99 := Lib.hid (gb_trans GZ.out g99)
        clear g99
        go_wp2
        go_ret
        exact ⟨rfl, G99.out⟩
      go_wp2_with fail
      refine (WK.out _).mono ?_
      rintro e v99 ⟨rfl, g99⟩
      have G99 := Lib.hid (gb_trans GZ.out g99)
      clear g99
      go_wp2
      go_ret
      exact ⟨rfl, G99.out⟩
    rcases e2o.out with rfl | rfl
    rotate_left
    · go_wp2_with fail
      refine (WK.out _).mono ?_
      rintro e v99 ⟨rfl, g99⟩
      have G99 := Lib.hid (gb_trans GZ.out g99)
      clear g99
      go_wp2
      go_ret
      exact ⟨rfl, G99.out⟩
    go_wp2_with fail
    refine (WK.out _).mono ?_
    rintro e v99 ⟨rfl, g99⟩
    have G99 := Lib.hid (gb_trans GZ.out g99)
    clear g99
    go_wp2
    go_ret
    exact ⟨rfl, G99.out⟩
  rcases e1o.out with rfl | rfl
  rotate_left
  · rcases e2o.out with rfl | rfl
    rotate_left
    · go_wp2_with fail
      refine (WK.out _).mono ?_
      rintro e v99 ⟨rfl, g99⟩
      have G99 := Lib.hid (gb_trans GZ.out g99)
      clear g99
      go_wp2
      go_ret
      exact ⟨rfl, G99.out⟩
    go_wp2_with fail
    refine (WK.out _).mono ?_
    rintro e v99 ⟨rfl, g99⟩
    have G99 := Lib.hid (gb_trans GZ.out g99)
    clear g99
    go_wp2
    go_ret
    exact ⟨rfl, G99.out⟩
  rcases e2o.out with rfl | rfl
  rotate_left
  · go_wp2_with fail
    refine (WK.out _).mono ?_
    rintro e v99 ⟨rfl, g99⟩
    have G99 := Lib.hid (gb_trans GZ.out g99)
    clear g99
    go_wp2
    go_ret
    exact ⟨rfl, G99.out⟩
  obtain ⟨r1, r2, r3⟩ := PK.out (by first | rfl | trivial) (by first | rfl | trivial) (by first | rfl | trivial)
  have r2 := r2 (by first | rfl | trivial)
  have r3 := r3 (by first | rfl | trivial) (by first | rfl | trivial)
  have b3 := PW.out
  obtain ⟨pw, hpw⟩ : ∃ q : Nat, q = 2 ^ k := ⟨_, rfl⟩
  have ep : (2 : Int) ^ k = (pw : Int) := by rw [hpw]; simp
  rw [← hpw] at r3 b3
  have ew : IntKind.u64.wrap ((n1 : Int) + (n2 : Int)) = (pw : Int) := by rw [IntKind.wrap_u64]; omega
  have ew2 : IntKind.u64.wrap (pw : Int) = (pw : Int) := by rw [IntKind.wrap_u64]; omega
  have k0 : (0 : Int) ≤ 1 + (wd : Int) % 32 := by omega
  have ek := KE.out
  have k64 : (k : Int) < 64 := by have := K2.out; omega
  clear r1 r3 b3 hpw
  subst r2
  go_wp2_with fail
  refine (WK.out _).mono ?_
  rintro e v99 ⟨rfl, g99⟩
  have G99 := Lib.hid (gb_trans GZ.out g99)
  clear g99
  go_wp2
  go_ret
  exact ⟨rfl, G99.out⟩
theorem complements_law (a : Option Addr) (n c : Nat) (L : List (Nat × Nat)) (x : Int) (W : World) (h : SC W a n c L) (wx : (Lit.int .u8 x).wf = true) : Calls Try.prog 8 #[.slice a n c, .int .u8 x] W (fun e w' => e = .returned (.bool true) ∧ Below W.heap.size W w') := by
  have h0 := u8_bd wx
  obtain ⟨y, rfl⟩ : ∃ y : Nat, x = (y : Int) := ⟨x.toNat, by omega⟩
  refine (complements_walk W a n c L y (by omega) h).mono ?_
  rintro e w' ⟨rfl, g⟩
  exact ⟨rfl, (gr_gb g).below⟩
end Go.Proofs.Yteemhabgliglmaa
