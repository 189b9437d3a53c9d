/- Identifiers on both sides: IsIdentifier and its reference are walked; strings as lists of bytes; no condition but sizes. -/
import Derived.Test.YtjhknmklejkknaaExA
import Derived.Laws.IdiomStrings
namespace Go.Proofs.Ytjhknmklejkknaa.Lx
open Go.RowKit
set_option linter.unusedVariables false

theorem getD_byte {bs : List Int} (hb : ∀ x ∈ bs, 0 ≤ x ∧ x ≤ 255) (k : Nat) : 0 ≤ bs.getD k 0 ∧ bs.getD k 0 ≤ 255 := by
  by_cases h : k < bs.length
  · have := hb bs[k] (List.getElem_mem h)
    simpa [h] using this
  · simp [h]
theorem push_data (b : ByteArray) (x : UInt8) : (b.push x).data = b.data.push x := rfl
theorem strOf_data (bs : List Int) : (strOf bs).data.toList = bs.map fun n => UInt8.ofNat n.toNat := by
  have k : ∀ (bs : List Int) (r : ByteArray), (bs.foldl (fun r n => r.push (UInt8.ofNat n.toNat)) r).data.toList = r.data.toList ++ bs.map fun n => UInt8.ofNat n.toNat := by
    intro bs
    induction bs with
    | nil => intro r; simp
    | cons b t ih =>
      intro r
      rw [List.foldl_cons, ih, push_data]
      simp
  have := k bs ByteArray.empty
  simpa [strOf] using this
theorem byte_inj {L M : List Int} (hl : ∀ x ∈ L, 0 ≤ x ∧ x ≤ 255) (hm : ∀ x ∈ M, 0 ≤ x ∧ x ≤ 255) (h : (L.map fun n => UInt8.ofNat n.toNat) = M.map fun n => UInt8.ofNat n.toNat) : L = M := by
  induction L generalizing M with
  | nil => cases M with
    | nil => rfl
    | cons b t => simp at h
  | cons a s ih => cases M with
    | nil => simp at h
    | cons b t =>
      simp only [List.map_cons, List.cons.injEq] at h
      have h1 := congrArg UInt8.toNat h.1
      have ha := hl a (by simp)
      have hb := hm b (by simp)
      simp only [UInt8.toNat_ofNat'] at h1
      have e1 : a = b := by omega
      rw [e1, ih (fun x hx => hl x (by simp [hx])) (fun x hx => hm x (by simp [hx])) h.2]
theorem strOf_size (L : List Int) : (strOf L).size = L.length := by
  have k := congrArg List.length (strOf_data L)
  simpa using k
theorem str_ext {a b : ByteArray} (h : a.data.toList = b.data.toList) : a = b := by
  apply ByteArray.ext
  exact Array.ext' h
theorem strOf_ne {L M : List Int} (hl : ∀ x ∈ L, 0 ≤ x ∧ x ≤ 255) (hm : ∀ x ∈ M, 0 ≤ x ∧ x ≤ 255) (h : ¬ L = M) : ((strOf L).toList == (strOf M).toList) = false := by
  rw [beq_eq_false_iff_ne]
  intro e
  rw [ByteArray.toList_eq, ByteArray.toList_eq, strOf_data, strOf_data] at e
  exact h (byte_inj hl hm e)
theorem strOf_eq {L M : List Int} (h : L = M) : ((strOf L).toList == (strOf M).toList) = true := by rw [h, beq_iff_eq]
theorem strOf_at (L : List Int) (hL : ∀ x ∈ L, 0 ≤ x ∧ x ≤ 255) (i : Nat) (h : i < (strOf L).size) : ((((strOf L)[i]'h).toNat : Nat) : Int) = L.getD i 0 := by
  have hi : i < L.length := by rw [strOf_size] at h; exact h
  have e : (strOf L)[i]'h = (strOf L).data.toList[i]'(by rw [strOf_data]; simpa using hi) := rfl
  rw [e]
  have k := hL L[i] (List.getElem_mem hi)
  simp only [strOf_data, List.getElem_map]
  rw [UInt8.toNat_ofNat']
  simp [hi]
  omega
theorem strOf_full (x : Int) (T : List Int) : ¬ (strOf (x :: T)).toList = [] := by
  rw [ByteArray.toList_eq, strOf_data]; simp
/-- The bytes of a string. -/
def bytesI (s : ByteArray) : List Int := s.data.toList.map fun b => (b.toNat : Int)
theorem bytesI_str (s : ByteArray) : strOf (bytesI s) = s := by
  apply str_ext
  rw [strOf_data]
  unfold bytesI
  rw [List.map_map]
  have e : ((fun n : Int => UInt8.ofNat n.toNat) ∘ fun b : UInt8 => ((b.toNat : Nat) : Int)) = id := by
    funext b
    simp
  rw [e, List.map_id]
theorem bytesI_range (s : ByteArray) : ∀ x ∈ bytesI s, 0 ≤ x ∧ x ≤ 255 := by
  intro x hx
  unfold bytesI at hx
  obtain ⟨b, _, rfl⟩ := List.mem_map.1 hx
  have := b.toNat_lt
  omega
theorem bytesI_len (s : ByteArray) : (bytesI s).length = s.size := by unfold bytesI; simp
def isL (c : Int) : Bool := decide ((97 ≤ c ∧ c ≤ 122) ∨ (65 ≤ c ∧ c ≤ 90))
def isD (c : Int) : Bool := decide (48 ≤ c ∧ c ≤ 57)
def isW (c : Int) : Bool := isL c || isD c || decide (c = 95)
theorem isLetter_any (w : World) (c : Int) (h0 : 0 ≤ c) (h1 : c ≤ 255) : Calls Try.prog 101 #[.int .u8 c] w (RetS (.bool (isL c)) w) := by
  rcases (show (c < 65 ∧ c < 97) ∨ (65 ≤ c ∧ c ≤ 90) ∨ (90 < c ∧ c < 97) ∨ (97 ≤ c ∧ c ≤ 122) ∨ (122 < c ∧ 90 < c) by omega) with ⟨h, k⟩ | ⟨h, k⟩ | ⟨h, k⟩ | ⟨h, k⟩ | ⟨h, k⟩
  all_goals
    go_enter Try.func101, Try.ntmps101
    go_wp2
    go_ret
    exact ⟨ret_b (by unfold isL; first | exact (decide_eq_true (by omega)).symm | exact (decide_eq_false (by omega)).symm | (rw [Bool.eq_iff_iff]; simp only [Bool.or_eq_true, decide_eq_true_eq]; omega)), rfl⟩
theorem rletter_any (w : World) (c : Int) (h0 : 0 ≤ c) (h1 : c ≤ 255) : Calls Try.prog 86 #[.int .u8 c] w (RetS (.bool (isL c)) w) := by
  rcases (show (c < 65 ∧ c < 97) ∨ (65 ≤ c ∧ c ≤ 90) ∨ (90 < c ∧ c < 97) ∨ (97 ≤ c ∧ c ≤ 122) ∨ (122 < c ∧ 90 < c) by omega) with ⟨h, k⟩ | ⟨h, k⟩ | ⟨h, k⟩ | ⟨h, k⟩ | ⟨h, k⟩
  all_goals
    go_enter Try.func86, Try.ntmps86
    go_wp2
    go_ret
    exact ⟨ret_b (by unfold isL; first | exact (decide_eq_true (by omega)).symm | exact (decide_eq_false (by omega)).symm | (rw [Bool.eq_iff_iff]; simp only [Bool.or_eq_true, decide_eq_true_eq]; omega)), rfl⟩
theorem isDigit_any (w : World) (c : Int) (h0 : 0 ≤ c) (h1 : c ≤ 255) : Calls Try.prog 127 #[.int .u8 c] w (RetS (.bool (isD c)) w) := by
  rcases (show (c < 48) ∨ (48 ≤ c ∧ c ≤ 57) ∨ (57 < c) by omega) with h | ⟨h, k⟩ | h
  all_goals
    go_enter Try.func127, Try.ntmps127
    go_wp2
    go_ret
    exact ⟨ret_b (by unfold isD; simp; omega), rfl⟩
theorem rdigit5_any (w : World) (c : Int) (h0 : 0 ≤ c) (h1 : c ≤ 255) : Calls Try.prog 87 #[.int .u8 c] w (RetS (.bool (isD c)) w) := by
  rcases (show (c < 48) ∨ (48 ≤ c ∧ c ≤ 57) ∨ (57 < c) by omega) with h | ⟨h, k⟩ | h
  all_goals
    go_enter Try.func87, Try.ntmps87
    go_wp2
    go_ret
    exact ⟨ret_b (by unfold isD; simp; omega), rfl⟩
theorem nameIs_any (w : World) (c : Int) (h0 : 0 ≤ c) (h1 : c ≤ 255) : Calls Try.prog 126 #[.int .u8 c] w (RetS (.bool (isW c)) w) := by
  have HC := Lib.hid (isLetter_any w c h0 h1)
  have HD := Lib.hid (isDigit_any w c h0 h1)
  have HW := Lib.hid (show isW c = (isL c || isD c || decide (c = 95)) from rfl)
  cases hl : isL c
  · cases hd : isD c
    · have hr : decide (c = 95) = (c == 95) := by rw [Bool.eq_iff_iff]; simp
      rw [hl] at HC HW
      rw [hd] at HD HW
      have HR := Lib.hid hr
      clear hl hd hr
      go_enter Try.func126, Try.ntmps126
      go_wp2_with fail
      refine HC.out.mono ?_
      rintro e w' ⟨rfl, rfl⟩
      go_wp2_with fail
      refine HD.out.mono ?_
      rintro e w' ⟨rfl, rfl⟩
      go_wp2
      go_ret
      exact ⟨ret_b (by rw [HW.out, HR.out]; simp), rfl⟩
    · rw [hl] at HC HW
      rw [hd] at HD HW
      clear hl hd
      go_enter Try.func126, Try.ntmps126
      go_wp2_with fail
      refine HC.out.mono ?_
      rintro e w' ⟨rfl, rfl⟩
      go_wp2_with fail
      refine HD.out.mono ?_
      rintro e w' ⟨rfl, rfl⟩
      go_wp2
      go_ret
      exact ⟨ret_b (by rw [HW.out]; simp), rfl⟩
  · rw [hl] at HC HW
    clear hl
    go_enter Try.func126, Try.ntmps126
    go_wp2_with fail
    refine HC.out.mono ?_
    rintro e w' ⟨rfl, rfl⟩
    go_wp2
    go_ret
    exact ⟨ret_b (by rw [HW.out]; simp), rfl⟩
theorem extent_any (f : Nat) (cp : Array Value) (w : World) (L : List Int) (k0 : Nat) (P : Nat → Bool) (J : Nat → World → Prop) (hL : ∀ x ∈ L, 0 ≤ x ∧ x ≤ 255) (hl : L.length ≤ 1000000) (hk : k0 ≤ L.length)
    (hyes : ∀ j, j < k0 → P j = true) (hno : k0 < L.length → P k0 = false) (hJ : J 0 w)
    (hcf : ∀ (args : Array Value) (w : World), (callFunc f args).run Try.prog w = .ok (.enter f args) w)
    (hstep : ∀ i w', i < L.length → J i w' → Calls Try.prog f (#[.int .u8 (L.getD i 0)] ++ cp) w' fun e w2 => e = .returned (.bool (P i)) ∧ J (i + 1) w2) :
    Calls Try.prog 125 #[.string (strOf L), .func (.func f) #[] cp] w fun e w' => e = .returned (.int .i64 k0) ∧ J (if k0 < L.length then k0 + 1 else k0) w' := by
  have HJ := Lib.hid hJ
  have HT := Lib.hid hstep
  have HY := Lib.hid hyes
  have HN := Lib.hid hno
  have z := strOf_size L
  have HI := Lib.hid (fun i h => strOf_at L hL i h)
  obtain ⟨r, hr⟩ : ∃ r, r = strOf L := ⟨_, rfl⟩
  rw [← hr] at z ⊢
  have HRr := Lib.hid hr
  clear hJ hstep hyes hno hL hr
  go_enter Try.func125, Try.ntmps125
  go_wp2
  go_loopw [8] (fun i wr => ∃ k : Nat, k ≤ k0 ∧ i = .int .i64 k ∧ J k wr) (fun i _ => L.length - (intOf i).toNat)
  case atStart => exact ⟨0, Nat.zero_le _, rfl, HJ.out⟩
  case round =>
    obtain ⟨k, hkk, rfl, hg⟩ := hrel
    have HG := Lib.hid hg
    clear hg
    by_cases hlt : k < L.length
    · have hi : (k : Int) < L.length := by omega
      have hat : ∀ (h : k < r.size), (((r[k]'h).toNat : Nat) : Int) = L.getD k 0 := by
        have q := HI.out k
        rw [← HRr.out] at q
        exact q
      have HC := Lib.hid (HT.out k wr hlt HG.out)
      obtain ⟨x, hx⟩ : ∃ x, x = L.getD k 0 := ⟨_, rfl⟩
      rw [← hx] at hat HC
      clear hx
      by_cases hke : k < k0
      · have HP := Lib.hid (HY.out k hke)
        rw [HP.out] at HC
        go_wp2_with fail
        refine HC.out.mono ?_
        rintro e w2 ⟨rfl, hj2⟩
        have HJ2 := Lib.hid hj2
        clear hj2
        go_wp2
        go_roundw
        case rel => exact ⟨k + 1, by omega, by go_num, HJ2.out⟩
        case measure => simp [intOf]; omega
      · have hk2 : k = k0 := by omega
        subst hk2
        have HP := Lib.hid (HN.out hlt)
        rw [HP.out] at HC
        have HE := Lib.hid (show (if k < L.length then k + 1 else k) = k + 1 from if_pos hlt)
        go_wp2_with fail
        refine HC.out.mono ?_
        rintro e w2 ⟨rfl, hj2⟩
        have HJ2 := Lib.hid hj2
        clear hj2
        go_wp2
        go_ret
        exact ⟨rfl, HJ2.out⟩
    · have hk2 : k = k0 := by omega
      have hk3 : L.length = k0 := by omega
      subst hk2
      have HE := Lib.hid (show (if k < L.length then k + 1 else k) = k from if_neg hlt)
      rw [hk3] at z
      go_wp2
      go_ret
      first | exact ⟨rfl, HG.out⟩ | (rw [HE.out]; exact ⟨rfl, HG.out⟩)
def spanK (p : Int → Bool) : List Int → Nat
  | [] => 0
  | x :: t => if p x = true then spanK p t + 1 else 0
theorem spanK_le (p : Int → Bool) (L : List Int) : spanK p L ≤ L.length := by
  induction L with
  | nil => exact Nat.le_refl _
  | cons x t ih => unfold spanK; split <;> simp <;> omega
theorem spanK_yes (p : Int → Bool) (L : List Int) : ∀ j, j < spanK p L → p (L.getD j 0) = true := by
  induction L with
  | nil => intro j h; exact absurd h (Nat.not_lt_zero _)
  | cons x t ih =>
    intro j h
    unfold spanK at h
    split at h
    · rename_i ha
      cases j with
      | zero => simpa using ha
      | succ j => simpa using ih j (by omega)
    · exact absurd h (Nat.not_lt_zero _)
theorem spanK_no (p : Int → Bool) (L : List Int) (h : spanK p L < L.length) : p (L.getD (spanK p L) 0) = false := by
  induction L with
  | nil => exact absurd h (Nat.not_lt_zero _)
  | cons x t ih =>
    by_cases ha : p x = true
    · have e : spanK p (x :: t) = spanK p t + 1 := by show (if _ then _ else _) = _; rw [if_pos ha]
      rw [e] at h ⊢
      simpa using ih (by simpa using h)
    · have e : spanK p (x :: t) = 0 := by show (if _ then _ else _) = _; rw [if_neg ha]
      rw [e]
      simpa using ha
/-- A closure that only asks a byte. -/
theorem span_any (f : Nat) (p : Int → Bool) (w : World) (L : List Int) (hL : ∀ x ∈ L, 0 ≤ x ∧ x ≤ 255) (hl : L.length ≤ 1000000)
    (hcf : ∀ (args : Array Value) (w : World), (callFunc f args).run Try.prog w = .ok (.enter f args) w)
    (hp : ∀ (w : World) (c : Int), 0 ≤ c → c ≤ 255 → Calls Try.prog f #[.int .u8 c] w (RetS (.bool (p c)) w)) :
    Calls Try.prog 125 #[.string (strOf L), .func (.func f) #[] #[]] w (RetS (.int .i64 (spanK p L)) w) := by
  refine (extent_any f #[] w L (spanK p L) (fun i => p (L.getD i 0)) (fun _ w' => w' = w) hL hl (spanK_le p L) (spanK_yes p L) (spanK_no p L) rfl hcf ?_).mono ?_
  · intro i w' hi hw
    subst hw
    have hx := getD_byte hL i
    refine (hp w' _ hx.1 hx.2).mono ?_
    rintro e w2 ⟨rfl, rfl⟩
    exact ⟨rfl, rfl⟩
  · rintro e w2 ⟨rfl, rfl⟩
    exact ⟨rfl, rfl⟩
set_option maxRecDepth 100000 in
theorem nameExtent_any (w : World) (L : List Int) (hL : ∀ x ∈ L, 0 ≤ x ∧ x ≤ 255) (hl : L.length ≤ 1000000) :
    Calls Try.prog 102 #[.string (strOf L)] w (RetS (.int .i64 (spanK isW L)) w) := by
  have H := Lib.hid (span_any 126 isW w L hL hl (fun _ _ => by rfl) (fun w c h0 h1 => nameIs_any w c h0 h1))
  go_enter Try.func102, Try.ntmps102
  go_wp2_with fail
  refine H.out.mono ?_
  rintro e w2 ⟨rfl, rfl⟩
  go_wp2
  go_ret
  exact ⟨rfl, rfl⟩
theorem empty_list : (ByteArray.mk #[]).toList = [] := ByteArray.toList_mk []
def isId (L : List Int) : Bool := decide (L ≠ [] ∧ L.length ≤ 16 ∧ isL (L.getD 0 0) = true ∧ spanK isW L = L.length)
set_option maxRecDepth 100000 in
theorem isIdent_any (w : World) (L : List Int) (hL : ∀ x ∈ L, 0 ≤ x ∧ x ≤ 255) (hl : L.length ≤ 9223372036854775807) :
    Calls Try.prog 69 #[.string (strOf L)] w (RetS (.bool (isId L)) w) := by
  cases L with
  | nil =>
    rw [show strOf [] = ⟨#[]⟩ from rfl]
    have q1 := empty_list
    have HE := Lib.hid (show isId [] = false by decide)
    go_enter Try.func69, Try.ntmps69
    go_wp2
    go_ret
    exact ⟨ret_b HE.out.symm, rfl⟩
  | cons x T =>
    have n1 := strOf_full x T
    have z := strOf_size (x :: T)
    have HI := strOf_at (x :: T) hL 0
    have hx : 0 ≤ x ∧ x ≤ 255 := hL x (by simp)
    have HL := Lib.hid (fun w => isLetter_any w x hx.1 hx.2)
    have HK := Lib.hid (fun (q : (x :: T).length ≤ 1000000) w => nameExtent_any w (x :: T) hL q)
    have HQ := Lib.hid (fun (q : (x :: T).length ≤ 16) => show (x :: T).length ≤ 1000000 by omega)
    have HE := Lib.hid (show isId (x :: T) = decide ((x :: T).length ≤ 16 ∧ isL x = true ∧ spanK isW (x :: T) = (x :: T).length) by unfold isId; simp)
    rw [List.getD_cons_zero] at HI
    obtain ⟨m, hm⟩ : ∃ m, m = (x :: T).length := ⟨_, rfl⟩
    rw [← hm] at z HE HK HQ
    obtain ⟨k, hk⟩ : ∃ k, k = spanK isW (x :: T) := ⟨_, rfl⟩
    rw [← hk] at HK HE
    obtain ⟨r, hr⟩ : ∃ r, r = strOf (x :: T) := ⟨_, rfl⟩
    rw [← hr] at n1 z HI HK ⊢
    have hm1 : 1 ≤ m := by rw [hm]; simp
    have hm2 : m ≤ 9223372036854775807 := by rw [hm]; exact hl
    have n2 : (r.toList == ([] : List UInt8)) = false := by rw [beq_eq_false_iff_ne]; exact n1
    have n3 : r.toList.isEmpty = false := by rw [List.isEmpty_eq_false_iff]; exact n1
    clear hL hr hm hk hl
    by_cases h16 : m ≤ 16
    · have i1 : (m : Int) ≤ 16 := by omega
      replace HK := Lib.hid (HK.out (HQ.out h16))
      clear HQ
      cases hb : isL x
      · have HB := Lib.hid hb
        rw [hb] at HL
        clear hb
        go_enter Try.func69, Try.ntmps69
        go_wp2_with fail
        refine (HL.out _).mono ?_
        rintro e w2 ⟨rfl, rfl⟩
        go_wp2
        go_ret
        exact ⟨ret_b (by rw [HE.out, HB.out]; simp), rfl⟩
      · have HB := Lib.hid hb
        rw [hb] at HL
        clear hb
        by_cases hkm : k = m
        · have i2 : ((k : Int) == (m : Int)) = true := by rw [beq_iff_eq]; omega
          subst hkm
          go_enter Try.func69, Try.ntmps69
          go_wp2_with fail
          refine (HL.out _).mono ?_
          rintro e w2 ⟨rfl, rfl⟩
          go_wp2_with fail
          refine (HK.out _).mono ?_
          rintro e w2 ⟨rfl, rfl⟩
          go_wp2
          go_ret
          exact ⟨ret_b (by rw [HE.out, HB.out]; simp [h16]), rfl⟩
        · have i2 : ((k : Int) == (m : Int)) = false := by rw [beq_eq_false_iff_ne]; omega
          go_enter Try.func69, Try.ntmps69
          go_wp2_with fail
          refine (HL.out _).mono ?_
          rintro e w2 ⟨rfl, rfl⟩
          go_wp2_with fail
          refine (HK.out _).mono ?_
          rintro e w2 ⟨rfl, rfl⟩
          go_wp2
          go_ret
          exact ⟨ret_b (by rw [HE.out]; simp [hkm]), rfl⟩
    · have i1 : ¬ (m : Int) ≤ 16 := by omega
      go_enter Try.func69, Try.ntmps69
      go_wp2
      go_ret
      exact ⟨ret_b (by rw [HE.out]; simp [h16]), rfl⟩
theorem spanK_all {p : Int → Bool} {L : List Int} : spanK p L = L.length ↔ ∀ x ∈ L, p x = true := by
  induction L with
  | nil => simp [spanK]
  | cons x t ih =>
    unfold spanK
    split
    · rename_i h; simp [h, ih]
    · rename_i h; simp [h]
theorem isW_of (c : Int) : isW c = (isL c || isD c || decide (c = 95)) := rfl
set_option maxRecDepth 100000 in
theorem risIdent_any (w : World) (L : List Int) (hL : ∀ x ∈ L, 0 ≤ x ∧ x ≤ 255) (hl : L.length ≤ 9223372036854775807) :
    Calls Try.prog 55 #[.string (strOf L)] w (RetS (.bool (isId L)) w) := by
  cases L with
  | nil =>
    rw [show strOf [] = ⟨#[]⟩ from rfl]
    have q1 := empty_list
    have HE := Lib.hid (show isId [] = false by decide)
    go_enter Try.func55, Try.ntmps55
    go_wp2
    go_ret
    exact ⟨ret_b HE.out.symm, rfl⟩
  | cons x T =>
    have n1 := strOf_full x T
    have z := strOf_size (x :: T)
    have HI0 := strOf_at (x :: T) hL 0
    have HI := Lib.hid (fun i h => strOf_at (x :: T) hL i h)
    have hx : 0 ≤ x ∧ x ≤ 255 := hL x (by simp)
    have HL := Lib.hid (fun w => rletter_any w x hx.1 hx.2)
    have HB2 := Lib.hid (getD_byte hL)
    have HE := Lib.hid (show isId (x :: T) = decide ((x :: T).length ≤ 16 ∧ isL x = true ∧ spanK isW (x :: T) = (x :: T).length) by unfold isId; simp)
    rw [List.getD_cons_zero] at HI0
    obtain ⟨M, hM⟩ : ∃ M, M = x :: T := ⟨_, rfl⟩
    rw [← hM] at n1 z HE HI HI0 HB2 hl ⊢
    obtain ⟨r, hr⟩ : ∃ r, r = strOf M := ⟨_, rfl⟩
    rw [← hr] at n1 z HI0 ⊢
    have HRr := Lib.hid hr
    have hm1 : 1 ≤ M.length := by rw [hM]; simp
    have n2 : (r.toList == ([] : List UInt8)) = false := by rw [beq_eq_false_iff_ne]; exact n1
    have n3 : r.toList.isEmpty = false := by rw [List.isEmpty_eq_false_iff]; exact n1
    clear hL hr hM
    by_cases h16 : M.length ≤ 16
    · have i1 : ¬ (16 : Int) < M.length := by omega
      cases hb : isL x
      · have HB := Lib.hid hb
        rw [hb] at HL
        clear hb
        go_enter Try.func55, Try.ntmps55
        go_wp2_with fail
        refine (HL.out _).mono ?_
        rintro e w2 ⟨rfl, rfl⟩
        go_wp2
        go_ret
        exact ⟨ret_b (by rw [HE.out, HB.out]; simp), rfl⟩
      · have HB := Lib.hid hb
        rw [hb] at HL
        clear hb
        go_enter Try.func55, Try.ntmps55
        go_wp2_with fail
        refine (HL.out _).mono ?_
        rintro e w2 ⟨rfl, rfl⟩
        go_wp2
        go_loopw [3] (fun i wr => ∃ k : Nat, k ≤ M.length ∧ i = .int .i64 k ∧ (∀ j, j < k → isW (M.getD j 0) = true) ∧ wr = w2) (fun i _ => M.length - (intOf i).toNat)
        case atStart => exact ⟨0, Nat.zero_le _, rfl, fun j hj => absurd hj (Nat.not_lt_zero _), rfl⟩
        case round =>
          obtain ⟨k, hk, rfl, hall, rfl⟩ := hrel
          have HA := Lib.hid hall
          clear hall
          by_cases hlt : k < M.length
          · have hi : (k : Int) < M.length := by omega
            have hat : ∀ (h : k < r.size), (((r[k]'h).toNat : Nat) : Int) = M.getD k 0 := by
              have q := HI.out k
              rw [← HRr.out] at q
              exact q
            have hy := HB2.out k
            have HN := Lib.hid (show isW (M.getD k 0) = true → ∀ j, j < k + 1 → isW (M.getD j 0) = true from fun h j hj => by
              rcases (show j < k ∨ j = k by omega) with q | rfl
              · exact HA.out j q
              · exact h)
            have HF := Lib.hid (show isW (M.getD k 0) = false → isId M = false from fun h => by
              rw [HE.out]
              apply decide_eq_false
              intro hh
              have q := spanK_all.1 hh.2.2 (M.getD k 0) (by simp [hlt])
              rw [h] at q; cases q)
            obtain ⟨y, hyy⟩ : ∃ y, y = M.getD k 0 := ⟨_, rfl⟩
            rw [← hyy] at hat hy HN HF
            clear hyy
            have HLy := Lib.hid (fun w => rletter_any w y hy.1 hy.2)
            have HDy := Lib.hid (fun w => rdigit5_any w y hy.1 hy.2)
            rw [isW_of] at HN HF
            cases c1 : isL y
            · rw [c1] at HLy HN HF
              clear c1
              cases c2 : isD y
              · rw [c2] at HDy HN HF
                clear c2
                by_cases c3 : y = 95
                · subst c3
                  have HX := Lib.hid (HN.out (by simp))
                  clear HF
                  go_wp2_with fail
                  refine (HLy.out _).mono ?_
                  rintro e w3 ⟨rfl, rfl⟩
                  go_wp2_with fail
                  refine (HDy.out _).mono ?_
                  rintro e w3 ⟨rfl, rfl⟩
                  go_wp2
                  go_roundw
                  case rel => exact ⟨k + 1, by omega, by go_num, HX.out, trivial⟩
                  case measure => simp [intOf]; omega
                · have d3 : (y != 95) = true := by simpa using c3
                  have d4 : (y == 95) = false := by rw [beq_eq_false_iff_ne]; exact c3
                  have HX := Lib.hid (HF.out (by simp [c3]))
                  go_wp2_with fail
                  refine (HLy.out _).mono ?_
                  rintro e w3 ⟨rfl, rfl⟩
                  go_wp2_with fail
                  refine (HDy.out _).mono ?_
                  rintro e w3 ⟨rfl, rfl⟩
                  go_wp2
                  go_ret
                  exact ⟨ret_b HX.out.symm, rfl⟩
              · rw [c2] at HDy HN
                clear c2 HF
                have HX := Lib.hid (HN.out (by simp))
                go_wp2_with fail
                refine (HLy.out _).mono ?_
                rintro e w3 ⟨rfl, rfl⟩
                go_wp2_with fail
                refine (HDy.out _).mono ?_
                rintro e w3 ⟨rfl, rfl⟩
                go_wp2
                go_roundw
                case rel => exact ⟨k + 1, by omega, by go_num, HX.out, trivial⟩
                case measure => simp [intOf]; omega
            · rw [c1] at HLy HN
              clear c1 HF
              have HX := Lib.hid (HN.out (by simp))
              go_wp2_with fail
              refine (HLy.out _).mono ?_
              rintro e w3 ⟨rfl, rfl⟩
              go_wp2
              go_roundw
              case rel => exact ⟨k + 1, by omega, by go_num, HX.out, trivial⟩
              case measure => simp [intOf]; omega
          · have hke : k = M.length := by omega
            have HX := Lib.hid (show isId M = true by
              rw [HE.out]
              apply decide_eq_true
              refine ⟨h16, HB.out, spanK_all.2 ?_⟩
              intro x hx
              obtain ⟨j, hj, rfl⟩ := List.mem_iff_getElem.1 hx
              have q := HA.out j (by omega)
              simpa [hj] using q)
            subst hke
            go_wp2
            go_ret
            exact ⟨ret_b HX.out.symm, rfl⟩
    · have i1 : (16 : Int) < M.length := by omega
      go_enter Try.func55, Try.ntmps55
      go_wp2
      go_ret
      exact ⟨ret_b (by rw [HE.out]; simp [h16]), rfl⟩
end Go.Proofs.Ytjhknmklejkknaa.Lx
