/- The reference's check of a token: the walks of tooGreat and check; no condition but sizes and the bytes' range. -/
import Derived.Test.YtmbdpiffdiiggaaLxQ
namespace Go.Proofs.Ytmbdpiffdiiggaa
open Go.RowKit
set_option linter.unusedVariables false

set_option maxRecDepth 100000 in
set_option maxHeartbeats 1000000 in
theorem tooGreat_hex (w : World) (T : List Int) (hT : ∀ x ∈ T, 0 ≤ x ∧ x ≤ 255) (hl : T.length ≤ 1000000) (hx : 2 < T.length ∧ T.take 2 = [48, 120]) :
    Calls Try.prog 72 #[.string (strOf T)] w (RetS (.bool (decide (numErr T = 9))) w) := by
  have z := strOf_size T
  have x1 := strOf_cut T 0 2
  rw [List.drop_zero, Nat.sub_zero, hx.2, show strOf [48, 120] = ⟨#[48, 120]⟩ from rfl] at x1
  have HI := Lib.hid (fun i h => strOf_at T hT i h)
  have HB2 := Lib.hid (getD_byte hT)
  have HE := Lib.hid (show numErr T = if spanK isX (T.drop 2) < (T.drop 2).length then 5 else 9 by unfold numErr; rw [if_pos hx])
  have KY := Lib.hid (spanK_yes isX (T.drop 2))
  have KN := Lib.hid (spanK_no isX (T.drop 2))
  have hk := spanK_le isX (T.drop 2)
  have hd2 : (T.drop 2).length + 2 = T.length := by simp; omega
  have HTG := Lib.hid (show ∀ k, (T.drop 2).getD k 0 = T.getD (k + 2) 0 by intro k; simp [List.getD_eq_getElem?_getD, List.getElem?_drop, Nat.add_comm])
  obtain ⟨K0, hkk⟩ : ∃ k, k = spanK isX (T.drop 2) := ⟨_, rfl⟩
  rw [← hkk] at KY KN hk HE
  obtain ⟨m, hm⟩ : ∃ m, m = (T.drop 2).length := ⟨_, rfl⟩
  rw [← hm] at KN hk HE hd2
  have q1 : ((ByteArray.mk #[48, 120]).toList == (ByteArray.mk #[48, 120]).toList) = true := by rw [beq_iff_eq]
  obtain ⟨r, hr⟩ : ∃ r, r = strOf T := ⟨_, rfl⟩
  rw [← hr] at z x1 ⊢
  have HRr := Lib.hid hr
  have i1 : (2 : Int) < T.length := by omega
  have i2 : (2 : Int) ≤ T.length := by omega
  clear hT hr hm hkk hx
  go_enter Try.func72, Try.ntmps72
  go_wp2
  go_loopw [3] (fun i wr => ∃ j : Nat, j ≤ K0 ∧ i = .int .i64 ((j + 2 : Nat) : Int) ∧ wr = w) (fun i _ => T.length - (intOf i).toNat)
  case atStart => exact ⟨0, Nat.zero_le _, rfl, rfl⟩
  case round =>
    obtain ⟨j, hj, rfl, rfl⟩ := hrel
    by_cases hlt : j < m
    · have hi : ((j + 2 : Nat) : Int) < T.length := by omega
      have hat : ∀ (h : j + 2 < r.size), (((r[j + 2]'h).toNat : Nat) : Int) = T.getD (j + 2) 0 := by
        have q := HI.out (j + 2)
        rw [← HRr.out] at q
        exact q
      have hy := HB2.out (j + 2)
      have HY := Lib.hid (show j < K0 → isX (T.getD (j + 2) 0) = true from fun h => by have := KY.out j h; rw [HTG.out] at this; exact this)
      have HN := Lib.hid (show j = K0 → isX (T.getD (j + 2) 0) = false from fun h => by have := KN.out (by omega); rw [← h, HTG.out] at this; exact this)
      obtain ⟨y, hyy⟩ : ∃ y, y = T.getD (j + 2) 0 := ⟨_, rfl⟩
      rw [← hyy] at hat hy HY HN
      clear hyy
      have HX := Lib.hid (fun w => rhexDigit_any w y hy.1 hy.2)
      by_cases hjk : j < K0
      · have e := HY.out hjk
        rw [e] at HX
        clear e HN HY
        go_wp2_with fail
        refine (HX.out _).mono ?_
        rintro e w3 ⟨rfl, rfl⟩
        go_wp2
        go_roundw
        case rel => exact ⟨j + 1, by omega, by go_num, trivial⟩
        case measure => simp [intOf]; omega
      · have e := HN.out (by omega)
        rw [e] at HX
        have HF := Lib.hid (show decide (numErr T = 9) = false by rw [HE.out, if_pos (by omega)]; rfl)
        clear e HN HY
        go_wp2_with fail
        refine (HX.out _).mono ?_
        rintro e w3 ⟨rfl, rfl⟩
        go_wp2
        go_ret
        exact ⟨ret_b HF.out.symm, rfl⟩
    · have hi : ¬ ((j + 2 : Nat) : Int) < T.length := by omega
      have HF := Lib.hid (show decide (numErr T = 9) = true by rw [HE.out, if_neg (by omega)]; rfl)
      go_wp2
      go_ret
      exact ⟨ret_b HF.out.symm, rfl⟩
set_option maxRecDepth 100000 in
set_option maxHeartbeats 2000000 in
theorem tooGreat_dec (w : World) (T : List Int) (hT : ∀ x ∈ T, 0 ≤ x ∧ x ≤ 255) (hl : T.length ≤ 1000000) (h1 : 1 ≤ T.length) (hx : ¬ (2 < T.length ∧ T.take 2 = [48, 120])) :
    Calls Try.prog 72 #[.string (strOf T)] w (RetS (.bool (decide (numErr T = 9))) w) := by
  have z := strOf_size T
  have x1 := strOf_cut T 0 2
  rw [List.drop_zero, Nat.sub_zero] at x1
  have HI := Lib.hid (fun i h => strOf_at T hT i h)
  have HI0 := strOf_at T hT 0
  have HB2 := Lib.hid (getD_byte hT)
  have HE := Lib.hid (show numErr T = if T.getD 0 0 = 48 then 5 else if spanK isD T < T.length then 5 else 9 by unfold numErr; rw [if_neg hx])
  have KY := Lib.hid (spanK_yes isD T)
  have KN := Lib.hid (spanK_no isD T)
  have hk := spanK_le isD T
  have q : 2 < T.length → ((strOf (T.take 2)).toList == (ByteArray.mk #[48, 120]).toList) = false := by
    intro h2
    rw [show (ByteArray.mk #[48, 120]) = strOf [48, 120] from rfl]
    exact strOf_ne (fun x hx => hT x (List.mem_of_mem_take hx)) (by decide) (fun e => hx ⟨h2, e⟩)
  obtain ⟨K0, hkk⟩ : ∃ k, k = spanK isD T := ⟨_, rfl⟩
  rw [← hkk] at KY KN hk HE
  obtain ⟨x, hxx⟩ : ∃ x, x = T.getD 0 0 := ⟨_, rfl⟩
  rw [← hxx] at HI0 HE
  obtain ⟨p, hp⟩ : ∃ p, p = strOf (T.take 2) := ⟨_, rfl⟩
  rw [← hp] at q x1
  obtain ⟨r, hr⟩ : ∃ r, r = strOf T := ⟨_, rfl⟩
  rw [← hr] at z x1 HI0 ⊢
  have HRr := Lib.hid hr
  have Q2 : 2 < T.length → (p.toList == [48, 120]) = false := by
    intro h
    have k := q h
    rw [data2] at k
    exact k
  have Q := Lib.hid q
  have QQ := Lib.hid Q2
  clear hT hr hp hkk hx hxx q Q2
  by_cases h2 : 2 < T.length
  · have q2 := Q.out h2
    have q3 := QQ.out h2
    have i2 : (2 : Int) < T.length := by omega
    have i4 : (2 : Int) ≤ T.length := by omega
    go_enter Try.func72, Try.ntmps72
    go_wp2
    go_loopw [4] (fun i wr => ∃ j : Nat, j ≤ K0 ∧ i = .int .i64 j ∧ wr = w) (fun i _ => T.length - (intOf i).toNat)
    case atStart => exact ⟨0, Nat.zero_le _, rfl, rfl⟩
    case round =>
      obtain ⟨j, hj, rfl, rfl⟩ := hrel
      by_cases hlt : j < T.length
      · have hi : (j : Int) < T.length := by omega
        have hat : ∀ (h : j < r.size), (((r[j]'h).toNat : Nat) : Int) = T.getD j 0 := by
          have q := HI.out j
          rw [← HRr.out] at q
          exact q
        have hy := HB2.out j
        have HY := Lib.hid (KY.out j)
        have HN := Lib.hid (show j = K0 → isD (T.getD j 0) = false from fun h => by have := KN.out (by omega); rw [← h] at this; exact this)
        obtain ⟨y, hyy⟩ : ∃ y, y = T.getD j 0 := ⟨_, rfl⟩
        rw [← hyy] at hat hy HY HN
        clear hyy
        have HX := Lib.hid (fun w => rdigit5_any w y hy.1 hy.2)
        by_cases hjk : j < K0
        · have e := HY.out hjk
          rw [e] at HX
          clear e HN HY
          go_wp2_with fail
          refine (HX.out _).mono ?_
          rintro e w3 ⟨rfl, rfl⟩
          go_wp2
          go_roundw
          case rel => exact ⟨j + 1, by omega, by go_num, trivial⟩
          case measure => simp [intOf]; omega
        · have e := HN.out (by omega)
          rw [e] at HX
          have hkT : K0 < T.length := by omega
          have HF := Lib.hid (show decide (numErr T = 9) = false by rw [HE.out, if_pos hkT]; split <;> rfl)
          clear e HN HY
          go_wp2_with fail
          refine (HX.out _).mono ?_
          rintro e w3 ⟨rfl, rfl⟩
          go_wp2
          go_ret
          exact ⟨ret_b HF.out.symm, rfl⟩
      · have hi : ¬ (j : Int) < T.length := by omega
        by_cases hx0 : x = 48
        · have d0 : (x != 48) = false := by simp [bne, hx0]
          have HF := Lib.hid (show decide (numErr T = 9) = false by rw [HE.out, if_pos hx0]; rfl)
          go_wp2
          go_ret
          exact ⟨ret_b HF.out.symm, rfl⟩
        · have d0 : (x == 48) = false := by rw [beq_eq_false_iff_ne]; exact hx0
          have d1 : (x != 48) = true := by simp [bne, d0]
          have HF := Lib.hid (show decide (numErr T = 9) = true by rw [HE.out, if_neg hx0, if_neg (by omega)]; rfl)
          go_wp2
          go_ret
          exact ⟨ret_b HF.out.symm, rfl⟩
  · have i2 : ¬ (2 : Int) < T.length := by omega
    clear x1
    go_enter Try.func72, Try.ntmps72
    go_wp2
    go_loopw [4] (fun i wr => ∃ j : Nat, j ≤ K0 ∧ i = .int .i64 j ∧ wr = w) (fun i _ => T.length - (intOf i).toNat)
    case atStart => exact ⟨0, Nat.zero_le _, rfl, rfl⟩
    case round =>
      obtain ⟨j, hj, rfl, rfl⟩ := hrel
      by_cases hlt : j < T.length
      · have hi : (j : Int) < T.length := by omega
        have hat : ∀ (h : j < r.size), (((r[j]'h).toNat : Nat) : Int) = T.getD j 0 := by
          have q := HI.out j
          rw [← HRr.out] at q
          exact q
        have hy := HB2.out j
        have HY := Lib.hid (KY.out j)
        have HN := Lib.hid (show j = K0 → isD (T.getD j 0) = false from fun h => by have := KN.out (by omega); rw [← h] at this; exact this)
        obtain ⟨y, hyy⟩ : ∃ y, y = T.getD j 0 := ⟨_, rfl⟩
        rw [← hyy] at hat hy HY HN
        clear hyy
        have HX := Lib.hid (fun w => rdigit5_any w y hy.1 hy.2)
        by_cases hjk : j < K0
        · have e := HY.out hjk
          rw [e] at HX
          clear e HN HY
          go_wp2_with fail
          refine (HX.out _).mono ?_
          rintro e w3 ⟨rfl, rfl⟩
          go_wp2
          go_roundw
          case rel => exact ⟨j + 1, by omega, by go_num, trivial⟩
          case measure => simp [intOf]; omega
        · have e := HN.out (by omega)
          rw [e] at HX
          have hkT : K0 < T.length := by omega
          have HF := Lib.hid (show decide (numErr T = 9) = false by rw [HE.out, if_pos hkT]; split <;> rfl)
          clear e HN HY
          go_wp2_with fail
          refine (HX.out _).mono ?_
          rintro e w3 ⟨rfl, rfl⟩
          go_wp2
          go_ret
          exact ⟨ret_b HF.out.symm, rfl⟩
      · have hi : ¬ (j : Int) < T.length := by omega
        by_cases hx0 : x = 48
        · have d0 : (x != 48) = false := by simp [bne, hx0]
          have HF := Lib.hid (show decide (numErr T = 9) = false by rw [HE.out, if_pos hx0]; rfl)
          go_wp2
          go_ret
          exact ⟨ret_b HF.out.symm, rfl⟩
        · have d0 : (x == 48) = false := by rw [beq_eq_false_iff_ne]; exact hx0
          have d1 : (x != 48) = true := by simp [bne, d0]
          have HF := Lib.hid (show decide (numErr T = 9) = true by rw [HE.out, if_neg hx0, if_neg (by omega)]; rfl)
          go_wp2
          go_ret
          exact ⟨ret_b HF.out.symm, rfl⟩
theorem tooGreat_any (w : World) (T : List Int) (hT : ∀ x ∈ T, 0 ≤ x ∧ x ≤ 255) (hl : T.length ≤ 1000000) (h1 : 1 ≤ T.length) :
    Calls Try.prog 72 #[.string (strOf T)] w (RetS (.bool (decide (numErr T = 9))) w) := by
  by_cases hx : 2 < T.length ∧ T.take 2 = [48, 120]
  · exact tooGreat_hex w T hT hl hx
  · exact tooGreat_dec w T hT hl h1 hx
theorem numErr_two (T : List Int) : numErr T = 5 ∨ numErr T = 9 := by
  unfold numErr
  (repeat' split) <;> simp

set_option maxRecDepth 100000 in
theorem check_name (w : World) (T : List Int) (v : Int) (hl : T.length ≤ 1000000) : Calls Try.prog 48 #[tokV 1 T v] w (RetQ (.int .i64 (if T.length ≤ 16 then 0 else 4)) w none fun _ => True) := by
  have z := strOf_size T
  unfold tokV
  obtain ⟨r, hr⟩ : ∃ r, r = strOf T := ⟨_, rfl⟩
  rw [← hr] at z ⊢
  clear hr
  by_cases h : T.length ≤ 16
  · have i1 : ¬ (16 : Int) < T.length := by omega
    go_enter Try.func48, Try.ntmps48
    go_wp2
    go_ret
    exact ⟨ret_i (by first | rfl | rw [if_pos h]), gb_alloc _ _ _, trivial⟩
  · have i1 : (16 : Int) < T.length := by omega
    go_enter Try.func48, Try.ntmps48
    go_wp2
    go_ret
    exact ⟨ret_i (by first | rfl | rw [if_neg h]), gb_alloc _ _ _, trivial⟩
set_option maxRecDepth 100000 in
theorem check_sym (w : World) (T : List Int) (v : Int) : Calls Try.prog 48 #[tokV 3 T v] w (RetQ (.int .i64 0) w none fun _ => True) := by
  unfold tokV
  generalize strOf T = r
  go_enter Try.func48, Try.ntmps48
  go_wp2
  go_ret
  exact ⟨rfl, gb_alloc _ _ _, trivial⟩
set_option maxRecDepth 100000 in
theorem check_none (w : World) (T : List Int) (v : Int) : Calls Try.prog 48 #[tokV 0 T v] w (RetQ (.int .i64 5) w none fun _ => True) := by
  unfold tokV
  generalize strOf T = r
  go_enter Try.func48, Try.ntmps48
  go_wp2
  go_ret
  exact ⟨rfl, gb_alloc _ _ _, trivial⟩
set_option maxRecDepth 100000 in
theorem check_num (w : World) (T : List Int) (v : Int) (hT : ∀ x ∈ T, 0 ≤ x ∧ x ≤ 255) (hl : T.length ≤ 1000000) (h1 : 1 ≤ T.length) : Calls Try.prog 48 #[tokV 2 T v] w (RetQ (.int .i64 (if (prU T).2 = true then 0 else numErr T)) w none fun _ => True) := by
  have HP := Lib.hid (fun w => rparseU_any w T hl hT)
  have HG := Lib.hid (fun w => tooGreat_any w T hT hl h1)
  have HN := Lib.hid (numErr_two T)
  unfold tokV
  obtain ⟨u, ok, hvo⟩ : ∃ v ok, prU T = (v, ok) := ⟨_, _, rfl⟩
  rw [hvo] at HP ⊢
  obtain ⟨r, hr⟩ : ∃ r, r = strOf T := ⟨_, rfl⟩
  rw [← hr] at HP HG ⊢
  clear hr hvo hT
  cases ok with
  | true =>
    go_enter Try.func48, Try.ntmps48
    go_wp2_with fail
    refine (HP.out _).mono ?_
    rintro e w2 ⟨rfl, g2, _⟩
    have G2 := Lib.hid (gb_trans (gb_alloc _ _ _) g2)
    clear g2
    go_wp2
    go_ret
    exact ⟨rfl, G2.out, trivial⟩
  | false =>
    obtain ⟨q, hq⟩ : ∃ q, q = numErr T := ⟨_, rfl⟩
    rw [← hq] at HG HN ⊢
    clear hq
    rcases HN.out with rfl | rfl
    · rw [show decide ((5 : Int) = 9) = false from rfl] at HG
      go_enter Try.func48, Try.ntmps48
      go_wp2_with fail
      have B1 := IsB.new w 60 #[.int .i64 2, .string r, .int .u32 v, .int .i64 0]
      have G1 := gb_alloc w (.cells #[.int .i64 2, .string r, .int .u32 v, .int .i64 0] 60) none
      generalize w.alloc (.cells #[.int .i64 2, .string r, .int .u32 v, .int .i64 0] 60) = w1 at *
      refine (HP.out _).mono ?_
      rintro e w2 ⟨rfl, g2, _⟩
      have G2 := Lib.hid (gb_trans G1 g2)
      have B2 := B1.keep0 g2
      obtain ⟨c0, c1, c2, c3, f0, f1, f2, f3⟩ := tok_cells B2
      clear g2 B1 B2 G1
      go_wp2_with fail
      refine (HG.out _).mono ?_
      rintro e w3 ⟨rfl, rfl⟩
      go_wp2
      go_ret
      exact ⟨rfl, G2.out, trivial⟩
    · rw [show decide ((9 : Int) = 9) = true from rfl] at HG
      go_enter Try.func48, Try.ntmps48
      go_wp2_with fail
      have B1 := IsB.new w 60 #[.int .i64 2, .string r, .int .u32 v, .int .i64 0]
      have G1 := gb_alloc w (.cells #[.int .i64 2, .string r, .int .u32 v, .int .i64 0] 60) none
      generalize w.alloc (.cells #[.int .i64 2, .string r, .int .u32 v, .int .i64 0] 60) = w1 at *
      refine (HP.out _).mono ?_
      rintro e w2 ⟨rfl, g2, _⟩
      have G2 := Lib.hid (gb_trans G1 g2)
      have B2 := B1.keep0 g2
      obtain ⟨c0, c1, c2, c3, f0, f1, f2, f3⟩ := tok_cells B2
      clear g2 B1 B2 G1
      go_wp2_with fail
      refine (HG.out _).mono ?_
      rintro e w3 ⟨rfl, rfl⟩
      go_wp2
      go_ret
      exact ⟨rfl, G2.out, trivial⟩
theorem rcheck_any (w : World) (L : List Int) (hL : ∀ x ∈ L, 0 ≤ x ∧ x ≤ 255) (hl : L.length ≤ 1000000) (h1 : 1 ≤ L.length) :
    Calls Try.prog 48 #[tokV (rfT L).kind (rfT L).text (rfT L).val] w (RetQ (.int .i64 (firstT L).err) w none fun _ => True) := by
  cases hb : isL (L.getD 0 0)
  · cases hd : isD (L.getD 0 0)
    · by_cases hs : symK L = 0
      · have e1 : rfT L = ⟨0, [], 0, 0⟩ := by unfold rfT; rw [hb, hd, hs]; rfl
        have e2 : (firstT L).err = 5 := by unfold firstT symT; rw [hb, hd, hs]; rfl
        rw [e1, e2]
        exact check_none w _ _
      · have e1 : rfT L = ⟨3, L.take (symK L), 0, 0⟩ := by unfold rfT; rw [hb, hd]; exact if_neg hs
        have hne : ¬ L.take (symK L) = [] := by
          intro h
          have k := congrArg List.length h
          rw [List.length_take, List.length_nil] at k
          omega
        have e2 : (firstT L).err = 0 := by unfold firstT symT; rw [hb, hd]; simp only [Bool.false_eq_true, if_false]; rw [if_neg hne]
        rw [e1, e2]
        exact check_sym w _ _
    · have hk1 := spanK_pos (p := isA) h1 (by unfold isA; rw [hd]; simp)
      have e1 : rfT L = ⟨2, L.take (spanK isA L), (prU (L.take (spanK isA L))).1, 0⟩ := by unfold rfT; rw [hb, hd]; rfl
      have e2 : (firstT L).err = if (prU (L.take (spanK isA L))).2 = true then 0 else numErr (L.take (spanK isA L)) := by
        unfold firstT numT
        rw [hb, hd]
        simp only [Bool.false_eq_true, if_false, if_true]
        split <;> rfl
      rw [e1, e2]
      exact check_num w _ _ (take_range hL _) (by simp; omega) (by simp; omega)
  · have e1 : rfT L = ⟨1, L.take (spanK isW L), 0, 0⟩ := by unfold rfT; rw [hb]; rfl
    have e2 : (firstT L).err = if (L.take (spanK isW L)).length ≤ 16 then 0 else 4 := by
      unfold firstT nameT
      rw [hb]
      simp only [if_true]
      split <;> rfl
    rw [e1, e2]
    exact check_name w _ _ (by simp; omega)
theorem rfT_eq (L : List Int) (h : (firstT L).err = 0) : (rfT L).kind = (firstT L).kind ∧ (rfT L).text = (firstT L).text ∧ (rfT L).val = (firstT L).val := by
  cases hb : isL (L.getD 0 0)
  · cases hd : isD (L.getD 0 0)
    · by_cases hs : symK L = 0
      · have e2 : (firstT L).err = 5 := by unfold firstT symT; rw [hb, hd, hs]; rfl
        rw [e2] at h; exact absurd h (by decide)
      · have e1 : rfT L = ⟨3, L.take (symK L), 0, 0⟩ := by unfold rfT; rw [hb, hd]; exact if_neg hs
        have h0 : firstT L = symT (L.take (symK L)) := by unfold firstT; rw [hb, hd]; rfl
        rw [h0] at h ⊢
        unfold symT at h ⊢
        rw [e1]
        split
        · rename_i hh; rw [if_pos hh] at h; exact absurd h (by decide)
        · exact ⟨rfl, rfl, rfl⟩
    · have e1 : rfT L = ⟨2, L.take (spanK isA L), (prU (L.take (spanK isA L))).1, 0⟩ := by unfold rfT; rw [hb, hd]; rfl
      have h0 : firstT L = numT (L.take (spanK isA L)) := by unfold firstT; rw [hb, hd]; rfl
      rw [h0] at h ⊢
      unfold numT at h ⊢
      rw [e1]
      split
      · exact ⟨rfl, rfl, rfl⟩
      · rename_i hh
        rw [if_neg hh] at h
        have := numErr_two (L.take (spanK isA L))
        have e : (noTk (numErr (L.take (spanK isA L)))).err = numErr (L.take (spanK isA L)) := rfl
        rw [e] at h; omega
  · have e1 : rfT L = ⟨1, L.take (spanK isW L), 0, 0⟩ := by unfold rfT; rw [hb]; rfl
    have h0 : firstT L = nameT (L.take (spanK isW L)) := by unfold firstT; rw [hb]; rfl
    rw [h0] at h ⊢
    unfold nameT at h ⊢
    rw [e1]
    split
    · exact ⟨rfl, rfl, rfl⟩
    · rename_i hh; rw [if_neg hh] at h; exact absurd h (by decide)
end Go.Proofs.Ytmbdpiffdiiggaa
