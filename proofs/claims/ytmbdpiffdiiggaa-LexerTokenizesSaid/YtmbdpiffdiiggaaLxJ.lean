/- IsIdentifier and its reference: the walks; what a text of one name answers; no condition but sizes and the bytes' range. -/
import Derived.Test.YtmbdpiffdiiggaaLxI
namespace Go.Proofs.Ytmbdpiffdiiggaa
open Go.RowKit
set_option linter.unusedVariables false

def isId (L : List Int) : Bool := decide (L ≠ [] ∧ L.length ≤ 16 ∧ isL (L.getD 0 0) = true ∧ spanK isW L = L.length)
set_option maxRecDepth 100000 in
theorem isIdent_any (w : World) (L : List Int) (hL : ∀ x ∈ L, 0 ≤ x ∧ x ≤ 255) (hl : L.length ≤ 1000000) :
    Calls Try.prog 19 #[.string (strOf L)] w (RetS (.bool (isId L)) w) := by
  cases L with
  | nil =>
    rw [show strOf [] = ⟨#[]⟩ from rfl]
    have q1 := empty_list
    have HE := Lib.hid (show isId [] = false by decide)
    go_enter Try.func19, Try.ntmps19
    go_wp2
    go_ret
    exact ⟨ret_b HE.out.symm, rfl⟩
  | cons x T =>
    have n1 := strOf_full x T
    have z := strOf_size (x :: T)
    have HI := strOf_at (x :: T) hL 0
    have hx : 0 ≤ x ∧ x ≤ 255 := hL x (by simp)
    have HL := Lib.hid (fun w => isLetter_any w x hx.1 hx.2)
    have HK := Lib.hid (fun w => nameExtent_any w (x :: T) hL hl)
    have HE := Lib.hid (show isId (x :: T) = decide ((x :: T).length ≤ 16 ∧ isL x = true ∧ spanK isW (x :: T) = (x :: T).length) by unfold isId; simp)
    rw [List.getD_cons_zero] at HI
    obtain ⟨m, hm⟩ : ∃ m, m = (x :: T).length := ⟨_, rfl⟩
    rw [← hm] at z HE
    obtain ⟨k, hk⟩ : ∃ k, k = spanK isW (x :: T) := ⟨_, rfl⟩
    rw [← hk] at HK HE
    obtain ⟨r, hr⟩ : ∃ r, r = strOf (x :: T) := ⟨_, rfl⟩
    rw [← hr] at n1 z HI HK ⊢
    have hm1 : 1 ≤ m := by rw [hm]; simp
    have hm2 : m ≤ 1000000 := by rw [hm]; exact hl
    have n2 : (r.toList == ([] : List UInt8)) = false := by rw [beq_eq_false_iff_ne]; exact n1
    have n3 : r.toList.isEmpty = false := by rw [List.isEmpty_eq_false_iff]; exact n1
    clear hL hr hm hk hl
    by_cases h16 : m ≤ 16
    · have i1 : (m : Int) ≤ 16 := by omega
      cases hb : isL x
      · have HB := Lib.hid hb
        rw [hb] at HL
        clear hb
        go_enter Try.func19, Try.ntmps19
        go_wp2_with fail
        refine (HL.out _).mono ?_
        rintro e w2 ⟨rfl, rfl⟩
        go_wp2
        go_ret
        exact ⟨ret_b (by rw [HE.out, HB.out]; simp), rfl⟩
      · have HB := Lib.hid hb
        rw [hb] at HL
        clear hb
        by_cases hkm : k = m
        · have i2 : ((k : Int) == (m : Int)) = true := by rw [beq_iff_eq]; omega
          subst hkm
          go_enter Try.func19, Try.ntmps19
          go_wp2_with fail
          refine (HL.out _).mono ?_
          rintro e w2 ⟨rfl, rfl⟩
          go_wp2_with fail
          refine (HK.out _).mono ?_
          rintro e w2 ⟨rfl, rfl⟩
          go_wp2
          go_ret
          exact ⟨ret_b (by rw [HE.out, HB.out]; simp [h16]), rfl⟩
        · have i2 : ((k : Int) == (m : Int)) = false := by rw [beq_eq_false_iff_ne]; omega
          go_enter Try.func19, Try.ntmps19
          go_wp2_with fail
          refine (HL.out _).mono ?_
          rintro e w2 ⟨rfl, rfl⟩
          go_wp2_with fail
          refine (HK.out _).mono ?_
          rintro e w2 ⟨rfl, rfl⟩
          go_wp2
          go_ret
          exact ⟨ret_b (by rw [HE.out]; simp [hkm]), rfl⟩
    · have i1 : ¬ (m : Int) ≤ 16 := by omega
      go_enter Try.func19, Try.ntmps19
      go_wp2
      go_ret
      exact ⟨ret_b (by rw [HE.out]; simp [h16]), rfl⟩

theorem spanK_all {p : Int → Bool} {L : List Int} : spanK p L = L.length ↔ ∀ x ∈ L, p x = true := by
  induction L with
  | nil => simp [spanK]
  | cons x t ih =>
    unfold spanK
    split
    · rename_i h; simp [h, ih]
    · rename_i h; simp [h]
theorem isW_of (c : Int) : isW c = (isL c || isD c || decide (c = 95)) := rfl
set_option maxRecDepth 100000 in
theorem risIdent_any (w : World) (L : List Int) (hL : ∀ x ∈ L, 0 ≤ x ∧ x ≤ 255) (hl : L.length ≤ 1000000) :
    Calls Try.prog 20 #[.string (strOf L)] w (RetS (.bool (isId L)) w) := by
  cases L with
  | nil =>
    rw [show strOf [] = ⟨#[]⟩ from rfl]
    have q1 := empty_list
    have HE := Lib.hid (show isId [] = false by decide)
    go_enter Try.func20, Try.ntmps20
    go_wp2
    go_ret
    exact ⟨ret_b HE.out.symm, rfl⟩
  | cons x T =>
    have n1 := strOf_full x T
    have z := strOf_size (x :: T)
    have HI0 := strOf_at (x :: T) hL 0
    have HI := Lib.hid (fun i h => strOf_at (x :: T) hL i h)
    have hx : 0 ≤ x ∧ x ≤ 255 := hL x (by simp)
    have HL := Lib.hid (fun w => rletter_any w x hx.1 hx.2)
    have HB2 := Lib.hid (getD_byte hL)
    have HE := Lib.hid (show isId (x :: T) = decide ((x :: T).length ≤ 16 ∧ isL x = true ∧ spanK isW (x :: T) = (x :: T).length) by unfold isId; simp)
    rw [List.getD_cons_zero] at HI0
    obtain ⟨M, hM⟩ : ∃ M, M = x :: T := ⟨_, rfl⟩
    rw [← hM] at n1 z HE HI HI0 HB2 hl ⊢
    obtain ⟨r, hr⟩ : ∃ r, r = strOf M := ⟨_, rfl⟩
    rw [← hr] at n1 z HI0 ⊢
    have HRr := Lib.hid hr
    have hm1 : 1 ≤ M.length := by rw [hM]; simp
    have n2 : (r.toList == ([] : List UInt8)) = false := by rw [beq_eq_false_iff_ne]; exact n1
    have n3 : r.toList.isEmpty = false := by rw [List.isEmpty_eq_false_iff]; exact n1
    clear hL hr hM
    by_cases h16 : M.length ≤ 16
    · have i1 : ¬ (16 : Int) < M.length := by omega
      cases hb : isL x
      · have HB := Lib.hid hb
        rw [hb] at HL
        clear hb
        go_enter Try.func20, Try.ntmps20
        go_wp2_with fail
        refine (HL.out _).mono ?_
        rintro e w2 ⟨rfl, rfl⟩
        go_wp2
        go_ret
        exact ⟨ret_b (by rw [HE.out, HB.out]; simp), rfl⟩
      · have HB := Lib.hid hb
        rw [hb] at HL
        clear hb
        go_enter Try.func20, Try.ntmps20
        go_wp2_with fail
        refine (HL.out _).mono ?_
        rintro e w2 ⟨rfl, rfl⟩
        go_wp2
        go_loopw [3] (fun i wr => ∃ k : Nat, k ≤ M.length ∧ i = .int .i64 k ∧ (∀ j, j < k → isW (M.getD j 0) = true) ∧ wr = w2) (fun i _ => M.length - (intOf i).toNat)
        case atStart => exact ⟨0, Nat.zero_le _, rfl, fun j hj => absurd hj (Nat.not_lt_zero _), rfl⟩
        case round =>
          obtain ⟨k, hk, rfl, hall, rfl⟩ := hrel
          have HA := Lib.hid hall
          clear hall
          by_cases hlt : k < M.length
          · have hi : (k : Int) < M.length := by omega
            have hat : ∀ (h : k < r.size), (((r[k]'h).toNat : Nat) : Int) = M.getD k 0 := by
              have q := HI.out k
              rw [← HRr.out] at q
              exact q
            have hy := HB2.out k
            have HN := Lib.hid (show isW (M.getD k 0) = true → ∀ j, j < k + 1 → isW (M.getD j 0) = true from fun h j hj => by
              rcases (show j < k ∨ j = k by omega) with q | rfl
              · exact HA.out j q
              · exact h)
            have HF := Lib.hid (show isW (M.getD k 0) = false → isId M = false from fun h => by
              rw [HE.out]
              apply decide_eq_false
              intro hh
              have q := spanK_all.1 hh.2.2 (M.getD k 0) (by simp [hlt])
              rw [h] at q; cases q)
            obtain ⟨y, hyy⟩ : ∃ y, y = M.getD k 0 := ⟨_, rfl⟩
            rw [← hyy] at hat hy HN HF
            clear hyy
            have HLy := Lib.hid (fun w => rletter_any w y hy.1 hy.2)
            have HDy := Lib.hid (fun w => rdigit5_any w y hy.1 hy.2)
            rw [isW_of] at HN HF
            cases c1 : isL y
            · rw [c1] at HLy HN HF
              clear c1
              cases c2 : isD y
              · rw [c2] at HDy HN HF
                clear c2
                by_cases c3 : y = 95
                · subst c3
                  have HX := Lib.hid (HN.out (by simp))
                  clear HF
                  go_wp2_with fail
                  refine (HLy.out _).mono ?_
                  rintro e w3 ⟨rfl, rfl⟩
                  go_wp2_with fail
                  refine (HDy.out _).mono ?_
                  rintro e w3 ⟨rfl, rfl⟩
                  go_wp2
                  go_roundw
                  case rel => exact ⟨k + 1, by omega, by go_num, HX.out, trivial⟩
                  case measure => simp [intOf]; omega
                · have d3 : (y != 95) = true := by simpa using c3
                  have d4 : (y == 95) = false := by rw [beq_eq_false_iff_ne]; exact c3
                  have HX := Lib.hid (HF.out (by simp [c3]))
                  go_wp2_with fail
                  refine (HLy.out _).mono ?_
                  rintro e w3 ⟨rfl, rfl⟩
                  go_wp2_with fail
                  refine (HDy.out _).mono ?_
                  rintro e w3 ⟨rfl, rfl⟩
                  go_wp2
                  go_ret
                  exact ⟨ret_b HX.out.symm, rfl⟩
              · rw [c2] at HDy HN
                clear c2 HF
                have HX := Lib.hid (HN.out (by simp))
                go_wp2_with fail
                refine (HLy.out _).mono ?_
                rintro e w3 ⟨rfl, rfl⟩
                go_wp2_with fail
                refine (HDy.out _).mono ?_
                rintro e w3 ⟨rfl, rfl⟩
                go_wp2
                go_roundw
                case rel => exact ⟨k + 1, by omega, by go_num, HX.out, trivial⟩
                case measure => simp [intOf]; omega
            · rw [c1] at HLy HN
              clear c1 HF
              have HX := Lib.hid (HN.out (by simp))
              go_wp2_with fail
              refine (HLy.out _).mono ?_
              rintro e w3 ⟨rfl, rfl⟩
              go_wp2
              go_roundw
              case rel => exact ⟨k + 1, by omega, by go_num, HX.out, trivial⟩
              case measure => simp [intOf]; omega
          · have hke : k = M.length := by omega
            have HX := Lib.hid (show isId M = true by
              rw [HE.out]
              apply decide_eq_true
              refine ⟨h16, HB.out, spanK_all.2 ?_⟩
              intro x hx
              obtain ⟨j, hj, rfl⟩ := List.mem_iff_getElem.1 hx
              have q := HA.out j (by omega)
              simpa [hj] using q)
            subst hke
            go_wp2
            go_ret
            exact ⟨ret_b HX.out.symm, rfl⟩
    · have i1 : (16 : Int) < M.length := by omega
      go_enter Try.func20, Try.ntmps20
      go_wp2
      go_ret
      exact ⟨ret_b (by rw [HE.out]; simp [h16]), rfl⟩
end Go.Proofs.Ytmbdpiffdiiggaa
