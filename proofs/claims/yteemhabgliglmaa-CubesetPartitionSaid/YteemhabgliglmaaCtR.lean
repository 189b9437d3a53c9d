/- Cubeset: the law Partition. -/
import Derived.Test.YteemhabgliglmaaCtQ
namespace Go.Proofs.Yteemhabgliglmaa
open Go.RowKit
set_option linter.unusedVariables false
set_option maxRecDepth 100000 in
set_option maxHeartbeats 40000000 in
theorem partition_walk (w : World) (a b : Option Addr) (n c m d : Nat) (L M : List (Nat × Nat)) (wd : Nat) (hwd : wd ≤ 255) (h : SC w a n c L) (g : SC w b m d M) : Calls Try.prog 7 #[.slice a n c, .slice b m d, .int .u8 wd] w (RetV (.bool true) w) := by
  have SA := Lib.hid h
  have SB := Lib.hid g
  have HLa := Lib.hid h.len
  have HLb := Lib.hid g.len
  have WA := Lib.hid h.wf
  have WB := Lib.hid g.wf
  have WK := Lib.hid (fun w => works_any w)
  unfold RetV at WK
  have SM := Lib.hid (fun w => small_any w a b n c m d)
  unfold RetS at SM
  have GZ := Lib.hid (gb_refl w none)
  clear h g
  obtain ⟨k, hk⟩ : ∃ k : Nat, k = 1 + wd % 32 := ⟨_, rfl⟩
  have hk1 : 1 ≤ k := by omega
  have hk2 : k ≤ 32 := by omega
  have ek : 1 + (wd : Int) % 32 = (k : Int) := by omega
  have KE := Lib.hid ek
  have K1 := Lib.hid hk1
  have K2 := Lib.hid hk2
  clear hk hk1 hk2 ek
  go_enter Try.func7, Try.ntmps7
  by_cases hsm : n ≤ 10 ∧ m ≤ 8
  case neg =>
    rw [show (decide (n ≤ 10) && decide (m ≤ 8)) = false by
      by_cases h1 : n ≤ 10
      · rw [decide_eq_false (show ¬ m ≤ 8 from fun h2 => hsm ⟨h1, h2⟩), Bool.and_false]
      · rw [decide_eq_false h1, Bool.false_and]] at SM
    clear hsm
    go_wp2_with fail
    refine (SM.out _).mono ?_
    rintro e w1 ⟨rfl, rfl⟩
    go_wp2_with fail
    refine (WK.out _).mono ?_
    rintro e v99 ⟨rfl, g99⟩
    have G99 := Lib.hid (gb_trans GZ.out g99)
    clear g99
    go_wp2
    go_ret
    exact ⟨rfl, G99.out⟩
  rw [show (decide (n ≤ 10) && decide (m ≤ 8)) = true by rw [decide_eq_true hsm.1, decide_eq_true hsm.2]; rfl] at SM
  have N1 := Lib.hid hsm.1
  have N2 := Lib.hid hsm.2
  clear hsm
  go_wp2_with fail
  refine (SM.out _).mono ?_
  rintro e w9 ⟨rfl, rfl⟩
  have hk1 := K1.out
  have hk2 := K2.out
  have hk3 : k ≤ 64 := by omega
  have hk4 : k ≤ 62 := by omega
  have LLa : L.length ≤ 10 := by rw [HLa.out]; exact N1.out
  have LLb : M.length ≤ 8 := by rw [HLb.out]; exact N2.out
  have WN := wf_nil
  obtain ⟨X, hX⟩ : ∃ X, X = (subsX (k : Int) L []).1 := ⟨_, rfl⟩
  obtain ⟨Y, hY⟩ : ∃ Y, Y = (subsX (k : Int) M []).1 := ⟨_, rfl⟩
  obtain ⟨S, hS⟩ : ∃ S, S = (subsX (k : Int) L M).1 := ⟨_, rfl⟩
  obtain ⟨eS, heS⟩ : ∃ e, e = (subsX (k : Int) L M).2 := ⟨_, rfl⟩
  obtain ⟨I, hI⟩ : ∃ I, I = (intG Y X []).1 := ⟨_, rfl⟩
  obtain ⟨eI, heI⟩ : ∃ e, e = (intG Y X []).2 := ⟨_, rfl⟩
  obtain ⟨U, hU⟩ : ∃ U, U = stepL (S ++ I) := ⟨_, rfl⟩
  obtain ⟨eU, heU⟩ : ∃ e, e = stepE (S ++ I) := ⟨_, rfl⟩
  obtain ⟨T, hT⟩ : ∃ T, T = (intG Y S []).1 := ⟨_, rfl⟩
  obtain ⟨eT, heT⟩ : ∃ e, e = (intG Y S []).2 := ⟨_, rfl⟩
  obtain ⟨qb, hqb⟩ : ∃ q, q = eqB (k : Int) U L := ⟨_, rfl⟩
  obtain ⟨qe, hqe⟩ : ∃ q, q = eqE (k : Int) U L := ⟨_, rfl⟩
  obtain ⟨sb, hsb⟩ : ∃ q, q = subB (k : Int) S L := ⟨_, rfl⟩
  obtain ⟨se, hse⟩ : ∃ q, q = (subsX (k : Int) S L).2 := ⟨_, rfl⟩
  obtain ⟨n1, hn1⟩ : ∃ q, q = (pcL (k : Int) S).1 := ⟨_, rfl⟩
  obtain ⟨e1, he1⟩ : ∃ q, q = (pcL (k : Int) S).2 := ⟨_, rfl⟩
  obtain ⟨n2, hn2⟩ : ∃ q, q = (pcL (k : Int) I).1 := ⟨_, rfl⟩
  obtain ⟨e2, he2⟩ : ∃ q, q = (pcL (k : Int) I).2 := ⟨_, rfl⟩
  obtain ⟨n3, hn3⟩ : ∃ q, q = (pcL (k : Int) L).1 := ⟨_, rfl⟩
  obtain ⟨e3, he3⟩ : ∃ q, q = (pcL (k : Int) L).2 := ⟨_, rfl⟩
  have X0 := Lib.hid (subs_none hk1 hk3 L (by omega))
  have Y0 := Lib.hid (subs_none hk1 hk3 M (by omega))
  have PK := Lib.hid (fun a1 a2 a3 a4 => part_ok hk1 hk2 L M X Y S I U T WA.out WB.out LLa LLb hX hY hS a1 hI a2 hU a3 hT a4)
  rw [← heS, ← heI, ← heU, ← heT, ← hqb, ← hqe, ← hsb, ← hse, ← hn1, ← he1, ← hn2, ← he2, ← hn3, ← he3] at PK
  have B3 := Lib.hid (show e3 = 0 → n3 ≤ 4294967296 from fun e => by
    rw [hn3, pcL_num hk1 hk4 L WA.out (by rw [← he3]; exact e)]
    exact Nat.le_trans (num_le _ _) (Nat.pow_le_pow_right (n := 2) (by decide) hk2))
  have gX := subs_gd hk1 hk3 L [] WA.out WN
  have gY := subs_gd hk1 hk3 M [] WB.out WN
  have gS := subs_gd hk1 hk3 L M WA.out WB.out
  rw [← hX] at gX; rw [← hY] at gY; rw [← hS] at gS
  have gI := intG_gd hk3 Y gY.1 X [] gX.1 (fun p hp => by cases hp)
  have lI := intG_len' Y X [] (Nat.zero_le _)
  rw [← hI] at gI lI
  have gU := stepL_gd (S ++ I) (fun p hp => (List.mem_append.1 hp).elim (gS.1 p) (gI p))
  have lU := stepL_len' (S ++ I)
  rw [← hU] at gU lU
  have gT := intG_gd hk3 Y gY.1 S [] gS.1 (fun p hp => by cases hp)
  have lT := intG_len' Y S [] (Nat.zero_le _)
  rw [← hT] at gT lT
  have WX := Lib.hid (gd_wf gX.1)
  have WY := Lib.hid (gd_wf gY.1)
  have WS := Lib.hid (gd_wf gS.1)
  have WI := Lib.hid (gd_wf gI)
  have WU := Lib.hid (gd_wf gU)
  have WT := Lib.hid (gd_wf gT)
  have LX := Lib.hid gX.2
  have LY := Lib.hid gY.2
  have LS := Lib.hid gS.2
  have LI := Lib.hid lI
  have LU := Lib.hid lU
  have LT := Lib.hid lT
  have eSo := Lib.hid (show eS = 0 ∨ eS = 12 by rw [heS]; exact subs_or hk1 hk3 L M)
  have eIo := Lib.hid (show eI = 0 ∨ eI = 12 by rw [heI]; exact intG_or Y X [])
  have eUo := Lib.hid (show eU = 0 ∨ eU = 12 by rw [heU]; exact stepE_or _)
  have eTo := Lib.hid (show eT = 0 ∨ eT = 12 by rw [heT]; exact intG_or Y S [])
  have qeo := Lib.hid (show qe = 0 ∨ qe = 12 by rw [hqe]; exact eqE_or hk1 hk3 U L)
  have seo := Lib.hid (show se = 0 ∨ se = 12 by rw [hse]; exact subs_or hk1 hk3 S L)
  have e1o := Lib.hid (show e1 = 0 ∨ e1 = 12 by rw [he1]; exact (pcL_err hk1 hk4 S WS.out).elim .inl (fun h => .inr h.2))
  have e2o := Lib.hid (show e2 = 0 ∨ e2 = 12 by rw [he2]; exact (pcL_err hk1 hk4 I WI.out).elim .inl (fun h => .inr h.2))
  have e3o := Lib.hid (show e3 = 0 ∨ e3 = 12 by rw [he3]; exact (pcL_err hk1 hk4 L WA.out).elim .inl (fun h => .inr h.2))
  have HX := Lib.hid hX
  have HY := Lib.hid hY
  have HS := Lib.hid hS
  have HeS := Lib.hid heS
  have HI := Lib.hid hI
  have HeI := Lib.hid heI
  have HU := Lib.hid hU
  have HeU := Lib.hid heU
  have HT := Lib.hid hT
  have HeT := Lib.hid heT
  have Hqb := Lib.hid hqb
  have Hqe := Lib.hid hqe
  have Hsb := Lib.hid hsb
  have Hse := Lib.hid hse
  have Hn1 := Lib.hid hn1
  have He1 := Lib.hid he1
  have Hn2 := Lib.hid hn2
  have He2 := Lib.hid he2
  have Hn3 := Lib.hid hn3
  have He3 := Lib.hid he3
  clear hX hY hS heS hI heI hU heU hT heT hqb hqe hsb hse hn1 he1 hn2 he2 hn3 he3 gX gY gS gI lI gU lU gT lT WN LLa LLb hk1 hk2 hk3 hk4
  have SN := Lib.hid (fun w => sc_nil w)
  have C := psubs_any _ a none n c 0 0 (k : Int) L [] SA.out (SN.out _) (by have := N1.out; omega) (by omega)
  unfold RetCE at C
  rw [← HX.out, X0.out] at C
  have ek := KE.out
  go_wp2_with fail
  refine C.mono ?_
  rintro e z ⟨V, rfl, o, g⟩
  obtain ⟨pX, cX, rfl⟩ := o.shape
  have SX := Lib.hid (sc_own o WX.out)
  replace GZ := Lib.hid (gb_trans GZ.out g)
  replace SA := Lib.hid (SA.out.keep0 g)
  replace SB := Lib.hid (SB.out.keep0 g)
  clear C o g
  generalize X.length = lX at *
  clear ek
  have C := psubs_any _ b none m d 0 0 (k : Int) M [] SB.out (SN.out _) (by have := N2.out; omega) (by omega)
  unfold RetCE at C
  rw [← HY.out, Y0.out] at C
  go_wp2_with fail
  refine C.mono ?_
  rintro e z ⟨V, rfl, o, g⟩
  obtain ⟨pY, cY, rfl⟩ := o.shape
  have SY := Lib.hid (sc_own o WY.out)
  replace GZ := Lib.hid (gb_trans GZ.out g)
  replace SA := Lib.hid (SA.out.keep0 g)
  replace SB := Lib.hid (SB.out.keep0 g)
  replace SX := Lib.hid (SX.out.keep0 g)
  clear C o g
  generalize Y.length = lY at *
  have C := psubs_any _ a b n c m d (k : Int) L M SA.out SB.out (by have := N1.out; omega) (by have := N2.out; omega)
  unfold RetCE at C
  rw [← HS.out, ← HeS.out] at C
  go_wp2_with fail
  refine C.mono ?_
  rintro e z ⟨V, rfl, o, g⟩
  obtain ⟨pS, cS, rfl⟩ := o.shape
  have SS := Lib.hid (sc_own o WS.out)
  replace GZ := Lib.hid (gb_trans GZ.out g)
  replace SA := Lib.hid (SA.out.keep0 g)
  replace SB := Lib.hid (SB.out.keep0 g)
  replace SX := Lib.hid (SX.out.keep0 g)
  replace SY := Lib.hid (SY.out.keep0 g)
  clear C o g
  generalize S.length = lS at *
  have C := pinter_any _ pX pY lX cX lY cY X Y SX.out SY.out (by have := LX.out; omega) (by have := LY.out; omega)
  unfold RetCE at C
  rw [← HI.out, ← HeI.out] at C
  go_wp2_with fail
  refine C.mono ?_
  rintro e z ⟨V, rfl, o, g⟩
  obtain ⟨pI, cI, rfl⟩ := o.shape
  have SI := Lib.hid (sc_own o WI.out)
  replace GZ := Lib.hid (gb_trans GZ.out g)
  replace SA := Lib.hid (SA.out.keep0 g)
  replace SB := Lib.hid (SB.out.keep0 g)
  replace SY := Lib.hid (SY.out.keep0 g)
  replace SS := Lib.hid (SS.out.keep0 g)
  clear C o g
  generalize I.length = lI at *
  rcases eSo.out with rfl | rfl
  rotate_left
  · rcases eIo.out with rfl | rfl
    rotate_left
    · go_wp2_with fail
      refine (WK.out _).mono ?_
      rintro e v99 ⟨rfl, g99⟩
      have G99 := Lib.hid (gb_trans GZ.out g99)
      clear g99
      go_wp2
      go_ret
      exact ⟨rfl, G99.out⟩
    go_wp2_with fail
    refine (WK.out _).mono ?_
    rintro e v99 ⟨rfl, g99⟩
    have G99 := Lib.hid (gb_trans GZ.out g99)
    clear g99
    go_wp2
    go_ret
    exact ⟨rfl, G99.out⟩
  rcases eIo.out with rfl | rfl
  rotate_left
  · go_wp2_with fail
    refine (WK.out _).mono ?_
    rintro e v99 ⟨rfl, g99⟩
    have G99 := Lib.hid (gb_trans GZ.out g99)
    clear g99
    go_wp2
    go_ret
    exact ⟨rfl, G99.out⟩
  rcases eUo.out with rfl | rfl
  rotate_left
  · rcases eTo.out with rfl | rfl
    rotate_left
    · have C := union_any _ pS pI lS cS lI cI S I SS.out SI.out (by have := LS.out; omega) (by have := LI.out; omega)
      unfold RetCE at C
      rw [← HU.out, ← HeU.out] at C
      go_wp2_with fail
      refine C.mono ?_
      rintro e z ⟨V, rfl, o, g⟩
      obtain ⟨pU, cU, rfl⟩ := o.shape
      have SU := Lib.hid (sc_own o WU.out)
      replace GZ := Lib.hid (gb_trans GZ.out g)
      replace SA := Lib.hid (SA.out.keep0 g)
      replace SS := Lib.hid (SS.out.keep0 g)
      replace SI := Lib.hid (SI.out.keep0 g)
      replace SY := Lib.hid (SY.out.keep0 g)
      clear C o g
      generalize U.length = lU at *
      have C := pinter_any _ pS pY lS cS lY cY S Y SS.out SY.out (by have := LS.out; omega) (by have := LY.out; omega)
      unfold RetCE at C
      rw [← HT.out, ← HeT.out] at C
      go_wp2_with fail
      refine C.mono ?_
      rintro e z ⟨V, rfl, o, g⟩
      obtain ⟨pT, cT, hV⟩ := o.shape
      generalize T.length = lT at *
      subst hV
      replace GZ := Lib.hid (gb_trans GZ.out g)
      replace SA := Lib.hid (SA.out.keep0 g)
      replace SS := Lib.hid (SS.out.keep0 g)
      replace SI := Lib.hid (SI.out.keep0 g)
      replace SU := Lib.hid (SU.out.keep0 g)
      clear C o g
      go_wp2_with fail
      refine (WK.out _).mono ?_
      rintro e v99 ⟨rfl, g99⟩
      have G99 := Lib.hid (gb_trans GZ.out g99)
      clear g99
      go_wp2
      go_ret
      exact ⟨rfl, G99.out⟩
    have C := union_any _ pS pI lS cS lI cI S I SS.out SI.out (by have := LS.out; omega) (by have := LI.out; omega)
    unfold RetCE at C
    rw [← HU.out, ← HeU.out] at C
    go_wp2_with fail
    refine C.mono ?_
    rintro e z ⟨V, rfl, o, g⟩
    obtain ⟨pU, cU, rfl⟩ := o.shape
    have SU := Lib.hid (sc_own o WU.out)
    replace GZ := Lib.hid (gb_trans GZ.out g)
    replace SA := Lib.hid (SA.out.keep0 g)
    replace SS := Lib.hid (SS.out.keep0 g)
    replace SI := Lib.hid (SI.out.keep0 g)
    replace SY := Lib.hid (SY.out.keep0 g)
    clear C o g
    generalize U.length = lU at *
    have C := pinter_any _ pS pY lS cS lY cY S Y SS.out SY.out (by have := LS.out; omega) (by have := LY.out; omega)
    unfold RetCE at C
    rw [← HT.out, ← HeT.out] at C
    go_wp2_with fail
    refine C.mono ?_
    rintro e z ⟨V, rfl, o, g⟩
    obtain ⟨pT, cT, hV⟩ := o.shape
    generalize T.length = lT at *
    subst hV
    replace GZ := Lib.hid (gb_trans GZ.out g)
    replace SA := Lib.hid (SA.out.keep0 g)
    replace SS := Lib.hid (SS.out.keep0 g)
    replace SI := Lib.hid (SI.out.keep0 g)
    replace SU := Lib.hid (SU.out.keep0 g)
    clear C o g
    go_wp2_with fail
    refine (WK.out _).mono ?_
    rintro e v99 ⟨rfl, g99⟩
    have G99 := Lib.hid (gb_trans GZ.out g99)
    clear g99
    go_wp2
    go_ret
    exact ⟨rfl, G99.out⟩
  rcases eTo.out with rfl | rfl
  rotate_left
  · have C := union_any _ pS pI lS cS lI cI S I SS.out SI.out (by have := LS.out; omega) (by have := LI.out; omega)
    unfold RetCE at C
    rw [← HU.out, ← HeU.out] at C
    go_wp2_with fail
    refine C.mono ?_
    rintro e z ⟨V, rfl, o, g⟩
    obtain ⟨pU, cU, rfl⟩ := o.shape
    have SU := Lib.hid (sc_own o WU.out)
    replace GZ := Lib.hid (gb_trans GZ.out g)
    replace SA := Lib.hid (SA.out.keep0 g)
    replace SS := Lib.hid (SS.out.keep0 g)
    replace SI := Lib.hid (SI.out.keep0 g)
    replace SY := Lib.hid (SY.out.keep0 g)
    clear C o g
    generalize U.length = lU at *
    have C := pinter_any _ pS pY lS cS lY cY S Y SS.out SY.out (by have := LS.out; omega) (by have := LY.out; omega)
    unfold RetCE at C
    rw [← HT.out, ← HeT.out] at C
    go_wp2_with fail
    refine C.mono ?_
    rintro e z ⟨V, rfl, o, g⟩
    obtain ⟨pT, cT, hV⟩ := o.shape
    generalize T.length = lT at *
    subst hV
    replace GZ := Lib.hid (gb_trans GZ.out g)
    replace SA := Lib.hid (SA.out.keep0 g)
    replace SS := Lib.hid (SS.out.keep0 g)
    replace SI := Lib.hid (SI.out.keep0 g)
    replace SU := Lib.hid (SU.out.keep0 g)
    clear C o g
    go_wp2_with fail
    refine (WK.out _).mono ?_
    rintro e v99 ⟨rfl, g99⟩
    have G99 := Lib.hid (gb_trans GZ.out g99)
    clear g99
    go_wp2
    go_ret
    exact ⟨rfl, G99.out⟩
  have C := union_any _ pS pI lS cS lI cI S I SS.out SI.out (by have := LS.out; omega) (by have := LI.out; omega)
  unfold RetCE at C
  rw [← HU.out, ← HeU.out] at C
  go_wp2_with fail
  refine C.mono ?_
  rintro e z ⟨V, rfl, o, g⟩
  obtain ⟨pU, cU, rfl⟩ := o.shape
  have SU := Lib.hid (sc_own o WU.out)
  replace GZ := Lib.hid (gb_trans GZ.out g)
  replace SA := Lib.hid (SA.out.keep0 g)
  replace SS := Lib.hid (SS.out.keep0 g)
  replace SI := Lib.hid (SI.out.keep0 g)
  replace SY := Lib.hid (SY.out.keep0 g)
  clear C o g
  generalize U.length = lU at *
  have C := pinter_any _ pS pY lS cS lY cY S Y SS.out SY.out (by have := LS.out; omega) (by have := LY.out; omega)
  unfold RetCE at C
  rw [← HT.out, ← HeT.out] at C
  have hT0 := (PK.out (by first | rfl | trivial) (by first | rfl | trivial) (by first | rfl | trivial) (by first | rfl | trivial)).1
  rw [hT0] at C
  go_wp2_with fail
  refine C.mono ?_
  rintro e z ⟨V, rfl, o, g⟩
  obtain ⟨pT, cT, hV⟩ := o.shape
  have hV : V = .slice pT 0 cT := hV
  subst hV
  replace GZ := Lib.hid (gb_trans GZ.out g)
  replace SA := Lib.hid (SA.out.keep0 g)
  replace SS := Lib.hid (SS.out.keep0 g)
  replace SI := Lib.hid (SI.out.keep0 g)
  replace SU := Lib.hid (SU.out.keep0 g)
  clear C o g
  have C := peq_any _ pU a lU cU n c (k : Int) U L SU.out SA.out (by have := LU.out; omega) (by have := N1.out; omega)
  unfold RetBE at C
  rw [← Hqb.out, ← Hqe.out] at C
  go_wp2_with fail
  refine C.mono ?_
  rintro e z ⟨rfl, g⟩
  replace GZ := Lib.hid (gb_trans GZ.out g)
  replace SA := Lib.hid (SA.out.keep0 g)
  replace SS := Lib.hid (SS.out.keep0 g)
  replace SI := Lib.hid (SI.out.keep0 g)
  clear C g
  have C := pssub_any _ pS a lS cS n c (k : Int) S L SS.out SA.out (by have := LS.out; omega) (by have := N1.out; omega)
  unfold RetBE at C
  rw [← Hsb.out, ← Hse.out] at C
  go_wp2_with fail
  refine C.mono ?_
  rintro e z ⟨rfl, g⟩
  replace GZ := Lib.hid (gb_trans GZ.out g)
  replace SA := Lib.hid (SA.out.keep0 g)
  replace SS := Lib.hid (SS.out.keep0 g)
  replace SI := Lib.hid (SI.out.keep0 g)
  clear C g
  have C := pcount_any _ pS lS cS (k : Int) S SS.out (by have := LS.out; omega)
  unfold RetCnt at C
  rw [← Hn1.out, ← He1.out] at C
  go_wp2_with fail
  refine C.mono ?_
  rintro e z ⟨rfl, g⟩
  replace GZ := Lib.hid (gb_trans GZ.out g)
  replace SA := Lib.hid (SA.out.keep0 g)
  replace SS := Lib.hid (SS.out.keep0 g)
  replace SI := Lib.hid (SI.out.keep0 g)
  clear C g
  have C := pcount_any _ pI lI cI (k : Int) I SI.out (by have := LI.out; omega)
  unfold RetCnt at C
  rw [← Hn2.out, ← He2.out] at C
  go_wp2_with fail
  refine C.mono ?_
  rintro e z ⟨rfl, g⟩
  replace GZ := Lib.hid (gb_trans GZ.out g)
  replace SA := Lib.hid (SA.out.keep0 g)
  replace SS := Lib.hid (SS.out.keep0 g)
  replace SI := Lib.hid (SI.out.keep0 g)
  clear C g
  have C := pcount_any _ a n c (k : Int) L SA.out (by have := N1.out; omega)
  unfold RetCnt at C
  rw [← Hn3.out, ← He3.out] at C
  go_wp2_with fail
  refine C.mono ?_
  rintro e z ⟨rfl, g⟩
  replace GZ := Lib.hid (gb_trans GZ.out g)
  replace SA := Lib.hid (SA.out.keep0 g)
  replace SS := Lib.hid (SS.out.keep0 g)
  replace SI := Lib.hid (SI.out.keep0 g)
  clear C g
  rcases qeo.out with rfl | rfl
  rotate_left
  · rcases e1o.out with rfl | rfl
    rotate_left
    · go_wp2_with fail
      refine (WK.out _).mono ?_
      rintro e v99 ⟨rfl, g99⟩
      have G99 := Lib.hid (gb_trans GZ.out g99)
      clear g99
      go_wp2
      go_ret
      exact ⟨rfl, G99.out⟩
    go_wp2_with fail
    refine (WK.out _).mono ?_
    rintro e v99 ⟨rfl, g99⟩
    have G99 := Lib.hid (gb_trans GZ.out g99)
    clear g99
    go_wp2
    go_ret
    exact ⟨rfl, G99.out⟩
  rcases seo.out with rfl | rfl
  rotate_left
  · rcases e1o.out with rfl | rfl
    rotate_left
    · go_wp2_with fail
      refine (WK.out _).mono ?_
      rintro e v99 ⟨rfl, g99⟩
      have G99 := Lib.hid (gb_trans GZ.out g99)
      clear g99
      go_wp2
      go_ret
      exact ⟨rfl, G99.out⟩
    go_wp2_with fail
    refine (WK.out _).mono ?_
    rintro e v99 ⟨rfl, g99⟩
    have G99 := Lib.hid (gb_trans GZ.out g99)
    clear g99
    go_wp2
    go_ret
    exact ⟨rfl, G99.out⟩
  rcases e1o.out with rfl | rfl
  rotate_left
  · go_wp2_with fail
    refine (WK.out _).mono ?_
    rintro e v99 ⟨rfl, g99⟩
    have G99 := Lib.hid (gb_trans GZ.out g99)
    clear g99
    go_wp2
    go_ret
    exact ⟨rfl, G99.out⟩
  rcases e2o.out with rfl | rfl
  rotate_left
  · go_wp2_with fail
    refine (WK.out _).mono ?_
    rintro e v99 ⟨rfl, g99⟩
    have G99 := Lib.hid (gb_trans GZ.out g99)
    clear g99
    go_wp2
    go_ret
    exact ⟨rfl, G99.out⟩
  rcases e3o.out with rfl | rfl
  rotate_left
  · go_wp2_with fail
    refine (WK.out _).mono ?_
    rintro e v99 ⟨rfl, g99⟩
    have G99 := Lib.hid (gb_trans GZ.out g99)
    clear g99
    go_wp2
    go_ret
    exact ⟨rfl, G99.out⟩
  obtain ⟨r1, r2, r3, r4⟩ := PK.out (by first | rfl | trivial) (by first | rfl | trivial) (by first | rfl | trivial) (by first | rfl | trivial)
  have r2 := r2 (by first | rfl | trivial)
  have r3 := r3 (by first | rfl | trivial)
  have r4 := r4 (by first | rfl | trivial) (by first | rfl | trivial) (by first | rfl | trivial)
  have b3 := B3.out (by first | rfl | trivial)
  have ew : IntKind.u64.wrap ((n1 : Int) + (n2 : Int)) = (n3 : Int) := by rw [IntKind.wrap_u64]; omega
  clear r1 r4 b3
  subst r2 r3
  go_wp2_with fail
  refine (WK.out _).mono ?_
  rintro e v99 ⟨rfl, g99⟩
  have G99 := Lib.hid (gb_trans GZ.out g99)
  clear g99
  go_wp2
  go_ret
  exact ⟨rfl, G99.out⟩
theorem partition_law (a b : Option Addr) (n c m d : Nat) (L M : List (Nat × Nat)) (x : Int) (W : World) (h : SC W a n c L) (g : SC W b m d M) (wx : (Lit.int .u8 x).wf = true) : Calls Try.prog 7 #[.slice a n c, .slice b m d, .int .u8 x] W (fun e w' => e = .returned (.bool true) ∧ Below W.heap.size W w') := by
  have h0 := u8_bd wx
  obtain ⟨y, rfl⟩ : ∃ y : Nat, x = (y : Int) := ⟨x.toNat, by omega⟩
  refine (partition_walk W a b n c m d L M y (by omega) h g).mono ?_
  rintro e w' ⟨rfl, g⟩
  exact ⟨rfl, (gr_gb g).below⟩
end Go.Proofs.Yteemhabgliglmaa
