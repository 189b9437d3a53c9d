/- Numbers and bytes as text: what the walks' answers have to do with each other; no walk. -/
import Derived.Test.YtmbdpiffdiiggaaNtG
namespace Go.Proofs.Ytmbdpiffdiiggaa
open Go.RowKit
set_option linter.unusedVariables false

theorem dv_digit (d : Int) (h0 : 0 ≤ d) (h1 : d ≤ 9) : dv (48 + d) = d := by unfold dv; rw [if_pos (by omega)]; omega
theorem valF_dec (f : Nat) : ∀ v : Int, 0 ≤ v → v < tenTo (f + 1) → valF 10 0 (decF f v) = v := by
  induction f with
  | zero =>
    intro v h0 h
    have h10 : v < 10 := by simpa [tenTo] using h
    rw [decF_small 0 v h0 h10]
    simp only [valF, List.foldl_cons, List.foldl_nil]
    rw [dv_digit v h0 (by omega)]
    omega
  | succ f ih =>
    intro v h0 h
    by_cases h10 : v < 10
    · rw [decF_small _ v h0 h10]
      simp only [valF, List.foldl_cons, List.foldl_nil]
      rw [dv_digit v h0 (by omega)]
      omega
    · have e1 : tenTo (f + 1 + 1) = 10 * tenTo (f + 1) := rfl
      unfold decF
      rw [if_neg h10, valF_snoc, ih (v / 10) (by omega) (by omega), dv_digit (v % 10) (by omega) (by omega)]
      omega
theorem okD_of (base : Int) (hb : 10 ≤ base) (L : List Int) (h : ∀ x ∈ L, 48 ≤ x ∧ x ≤ 57) : okD base L = true := by
  unfold okD
  rw [List.all_eq_true]
  intro x hx
  have k := h x hx
  have e : dv x = x - 48 := by unfold dv; rw [if_pos k]
  simp only [decide_eq_true_eq]
  omega
theorem decF_lenIff (f : Nat) : ∀ (v : Int) (k : Nat), 1 ≤ k → 0 ≤ v → v < tenTo (f + 1) → ((decF f v).length ≤ k ↔ v < tenTo k) := by
  have small : ∀ (g : Nat) (v : Int) (k : Nat), 1 ≤ k → 0 ≤ v → v < 10 → ((decF g v).length ≤ k ↔ v < tenTo k) := by
    intro g v k hk h0 h10
    rw [decF_small g v h0 h10]
    obtain ⟨j, rfl⟩ : ∃ j, k = j + 1 := ⟨k - 1, by omega⟩
    have e : tenTo (j + 1) = 10 * tenTo j := rfl
    have p := tenTo_pos j
    constructor
    · intro _; omega
    · intro _; simp
  induction f with
  | zero =>
    intro v k hk h0 h
    exact small 0 v k hk h0 (by simpa [tenTo] using h)
  | succ f ih =>
    intro v k hk h0 h
    by_cases h10 : v < 10
    · exact small _ v k hk h0 h10
    · have e1 : tenTo (f + 1 + 1) = 10 * tenTo (f + 1) := rfl
      have e2 : (decF (f + 1) v).length = (decF f (v / 10)).length + 1 := by
        show (if v < 10 then [48 + v] else decF f (v / 10) ++ [48 + v % 10]).length = _
        rw [if_neg h10]; simp
      rw [e2]
      obtain ⟨j, rfl⟩ : ∃ j, k = j + 1 := ⟨k - 1, by omega⟩
      have e3 : tenTo (j + 1) = 10 * tenTo j := rfl
      by_cases hj : j = 0
      · subst hj
        have := (decF_len f (v / 10)).1
        have e4 : tenTo 0 = 1 := rfl
        constructor
        · intro _; omega
        · intro _; omega
      · have k2 := ih (v / 10) j (by omega) (by omega) (by omega)
        constructor
        · intro hh
          have := k2.1 (by omega)
          omega
        · intro hh
          have := k2.2 (by omega)
          omega
theorem toE_dec (lim : Nat) (hl : 1 ≤ lim) (v : Int) (h0 : 0 ≤ v) (h : v < 18446744073709551616) : toE 10 lim (dec v) = if v < tenTo lim then (v, true) else (0, false) := by
  have hok := okD_of 10 (by decide) (dec v) (decF_range 19 v h0)
  have hv := valF_dec 19 v h0 (dec_lt v h)
  have hlen := decF_lenIff 19 v lim hl h0 (dec_lt v h)
  have h1 := (decF_len 19 v).1
  unfold toE
  by_cases hh : v < tenTo lim
  · rw [if_pos hh, if_pos ⟨h1, hlen.2 hh, hok⟩]
    show (valF 10 0 (decF 19 v), true) = _
    rw [hv]
  · rw [if_neg hh, if_neg]
    intro k
    exact hh (hlen.1 k.2.1)
theorem fmtI_chars (n : Int) : ∀ x ∈ fmtI n, x = 45 ∨ (48 ≤ x ∧ x ≤ 57) := by
  intro x hx
  rw [fmtI_def] at hx
  split at hx
  · rcases List.mem_cons.1 hx with h | h
    · exact .inl h
    · exact .inr (decF_range 19 (-n) (by omega) x h)
  · exact .inr (decF_range 19 n (by omega) x hx)
theorem dec_head (v : Int) (h0 : 0 ≤ v) : ∃ d t, dec v = d :: t ∧ 48 ≤ d ∧ d ≤ 57 := by
  have h1 := (decF_len 19 v).1
  have hr := decF_range 19 v h0
  have e : dec v = decF 19 v := rfl
  rw [← e] at h1 hr
  cases hd : dec v with
  | nil => rw [hd] at h1; simp at h1
  | cons d t => exact ⟨d, t, rfl, hr d (by rw [hd]; simp)⟩
theorem prI_fmt (n : Int) (h0 : -9223372036854775808 ≤ n) (h1 : n ≤ 9223372036854775807) : prI (fmtI n) = if -999999999 ≤ n ∧ n ≤ 999999999 then (n, true) else (0, false) := by
  have e9 : tenTo 9 = 1000000000 := by decide +kernel
  by_cases hn : n < 0
  · have e : fmtI n = 45 :: dec (-n) := by rw [fmtI_def, if_pos hn]
    have et := toE_dec 9 (by decide) (-n) (by omega) (by omega)
    rw [e9] at et
    unfold prI
    rw [if_pos (by rw [e]; rfl)]
    have ed : (fmtI n).drop 1 = dec (-n) := by rw [e]; rfl
    rw [ed]
    unfold prIn
    rw [et]
    by_cases hh : -n < 1000000000
    · rw [if_pos hh]
      have es : signed true (-n) = n := by unfold signed; simp
      simp only [es]
      rw [if_pos ⟨trivial, trivial⟩, if_pos (by omega)]
    · rw [if_neg hh, if_neg (by simp), if_neg (by omega)]
  · have e : fmtI n = dec n := by rw [fmtI_def, if_neg hn]
    have et := toE_dec 9 (by decide) n (by omega) (by omega)
    rw [e9] at et
    obtain ⟨d, t, hd, hd1, hd2⟩ := dec_head n (by omega)
    unfold prI
    rw [if_neg (by rw [e, hd]; simp; omega)]
    unfold prIn
    rw [e, et]
    by_cases hh : n < 1000000000
    · rw [if_pos hh]
      have es : signed false n = n := by unfold signed; simp
      simp only [es]
      rw [if_pos ⟨trivial, e⟩, if_pos (by omega)]
    · rw [if_neg hh, if_neg (by simp), if_neg (by omega)]
theorem prI_yes {L : List Int} (h : (prI L).2 = true) : fmtI (prI L).1 = L := by
  unfold prI at h ⊢
  by_cases hn : L.take 1 = [45]
  · rw [if_pos hn] at h ⊢
    unfold prIn at h ⊢
    by_cases hk : (toE 10 9 (L.drop 1)).2 = true ∧ fmtI (signed true (toE 10 9 (L.drop 1)).1) = L
    · rw [if_pos hk]; exact hk.2
    · rw [if_neg hk] at h; cases h
  · rw [if_neg hn] at h ⊢
    unfold prIn at h ⊢
    by_cases hk : (toE 10 9 L).2 = true ∧ fmtI (signed false (toE 10 9 L).1) = L
    · rw [if_pos hk]; exact hk.2
    · rw [if_neg hk] at h; cases h
theorem prI_bound (L : List Int) : -1099511627776 < (prI L).1 ∧ (prI L).1 < 1099511627776 := by
  unfold prI prIn signed
  have r1 := toE_range 10 (Or.inl rfl) 9 (by decide) (L.drop 1)
  have r2 := toE_range 10 (Or.inl rfl) 9 (by decide) L
  (repeat' split) <;> (simp only; omega)
theorem prI_plus (n : Int) : (prI (43 :: fmtI n)).2 = false := by
  cases h : (prI (43 :: fmtI n)).2 with
  | false => rfl
  | true =>
    have k := prI_yes h
    have c := fmtI_chars (prI (43 :: fmtI n)).1 43 (by rw [k]; simp)
    omega
theorem prI_blank (n : Int) : (prI (fmtI n ++ [32])).2 = false := by
  cases h : (prI (fmtI n ++ [32])).2 with
  | false => rfl
  | true =>
    have k := prI_yes h
    have c := fmtI_chars (prI (fmtI n ++ [32])).1 32 (by rw [k]; simp)
    omega
theorem valF_zero (base : Int) (T : List Int) : valF base 0 (48 :: T) = valF base 0 T := by
  have e : dv 48 = 0 := by decide
  simp only [valF, List.foldl_cons, e]
  rw [show (0 : Int) * base + 0 = 0 by omega]
theorem prI_zero (n : Int) (h0 : -9223372036854775808 ≤ n) (h1 : n ≤ 9223372036854775807) : (prI (48 :: fmtI n)).2 = false := by
  cases h : (prI (48 :: fmtI n)).2 with
  | false => rfl
  | true =>
    have k := prI_yes h
    have hb := prI_bound (48 :: fmtI n)
    generalize (prI (48 :: fmtI n)).1 = m at *
    by_cases hm : m < 0
    · rw [fmtI_def, if_pos hm] at k
      have := (List.cons.injEq _ _ _ _).mp k
      omega
    · rw [fmtI_def (n := m), if_neg hm] at k
      by_cases hn : n < 0
      · have c := decF_range 19 m (by omega) 45 (by
          show (45 : Int) ∈ dec m
          rw [k, fmtI_def, if_pos hn]; simp)
        omega
      · rw [fmtI_def, if_neg hn] at k
        have v1 := valF_dec 19 m (by omega) (dec_lt m (by omega))
        have v2 := valF_dec 19 n (by omega) (dec_lt n (by omega))
        have v3 : valF 10 0 (dec m) = valF 10 0 (dec n) := by rw [k, valF_zero]
        have e : m = n := by rw [← v1, ← v2]; exact v3
        rw [e] at k
        have l := congrArg List.length k
        simp at l

theorem prU_dec (v : Int) (h0 : 0 ≤ v) (h1 : v < 4294967296) : prU (dec v) = (v, true) := by
  have e10 : tenTo 10 = 10000000000 := by decide +kernel
  unfold prU
  rw [if_neg]
  · unfold prUd
    have et := toE_dec 10 (by decide) v h0 (by omega)
    rw [e10, if_pos (show v < 10000000000 by omega)] at et
    rw [et]
    have em : v % 4294967296 = v := by omega
    simp only [em]
    rw [if_pos ⟨trivial, trivial⟩]
  · intro hh
    have c := decF_range 19 v h0 120 (by
      show (120 : Int) ∈ dec v
      exact List.mem_of_mem_take (i := 2) (by rw [hh.2]; simp))
    omega
theorem prU_hex (T : List Int) : prU ([48, 120] ++ T) = ((toE 16 8 T).1 % 4294967296, (toE 16 8 T).2) := by
  unfold prU
  rw [if_pos ⟨by simp, by simp⟩]
  rfl
theorem dv_hexd (x : Int) (h0 : 0 ≤ x) (h1 : x < 16) : dv (hexd x) = x := by unfold dv hexd; (repeat' split) <;> omega
theorem hexd_dv (a : Int) (h0 : 0 ≤ a) (h1 : dv a < 16) : hexd (dv a) = a := by
  unfold dv at h1
  unfold hexd dv
  (repeat' split) <;> (repeat' split at h1) <;> omega
theorem hexd_range (x : Int) (h0 : 0 ≤ x) (h1 : x < 16) : 0 ≤ hexd x ∧ hexd x ≤ 255 := by unfold hexd; split <;> omega
theorem encL_range (bs : List Int) (hb : ∀ x ∈ bs, 0 ≤ x ∧ x ≤ 255) : ∀ y ∈ encL bs, 0 ≤ y ∧ y ≤ 255 := by
  intro y hy
  unfold encL at hy
  rw [List.mem_flatMap] at hy
  obtain ⟨x, hx, hy⟩ := hy
  have k := hb x hx
  have k1 := hexd_range (x / 16) (by omega) (by omega)
  have k2 := hexd_range (x % 16) (by omega) (by omega)
  simp at hy
  omega
theorem decX_enc : ∀ bs : List Int, (∀ x ∈ bs, 0 ≤ x ∧ x ≤ 255) → decX (encL bs) = some bs
  | [], _ => rfl
  | x :: t, hb => by
    have k := hb x (by simp)
    have e : encL (x :: t) = hexd (x / 16) :: hexd (x % 16) :: encL t := rfl
    rw [e]
    show (if dv (hexd (x / 16)) < 16 ∧ dv (hexd (x % 16)) < 16 then _ else _) = _
    rw [dv_hexd _ (by omega) (by omega), dv_hexd _ (by omega) (by omega), if_pos ⟨by omega, by omega⟩, decX_enc t (fun y hy => hb y (by simp [hy]))]
    show some ((x / 16 * 16 + x % 16) :: t) = _
    rw [show x / 16 * 16 + x % 16 = x by omega]
theorem decX_len : ∀ (L M : List Int), decX L = some M → L.length = 2 * M.length
  | [], M, h => by simp [decX] at h; subst h; rfl
  | [_], M, h => by simp [decX] at h
  | a :: b :: t, M, h => by
    unfold decX at h
    split at h
    · rw [Option.map_eq_some_iff] at h
      obtain ⟨N, hN, rfl⟩ := h
      have := decX_len t N hN
      simp; omega
    · cases h
theorem decX_odd (L : List Int) (h : L.length % 2 = 1) : decX L = none := by
  cases e : decX L with
  | none => rfl
  | some M =>
    have := decX_len L M e
    omega
theorem decX_back : ∀ (L M : List Int), (∀ x ∈ L, 0 ≤ x ∧ x ≤ 255) → decX L = some M → encL M = L
  | [], M, _, h => by simp [decX] at h; subst h; rfl
  | [_], M, _, h => by simp [decX] at h
  | a :: b :: t, M, hL, h => by
    have ha := hL a (by simp)
    have hb := hL b (by simp)
    have ra := dv_range a
    have rb := dv_range b
    unfold decX at h
    split at h
    · rename_i hd
      rw [Option.map_eq_some_iff] at h
      obtain ⟨N, hN, rfl⟩ := h
      have e : encL ((dv a * 16 + dv b) :: N) = hexd ((dv a * 16 + dv b) / 16) :: hexd ((dv a * 16 + dv b) % 16) :: encL N := rfl
      rw [e, decX_back t N (fun x hx => hL x (by simp [hx])) hN]
      rw [show (dv a * 16 + dv b) / 16 = dv a by omega, show (dv a * 16 + dv b) % 16 = dv b by omega, hexd_dv a ha.1 hd.1, hexd_dv b hb.1 hd.2]
    · cases h
/-- The hexadecimal digits of a number of 32 bits, leading zeros left off or not. -/
def HexOf (v : Int) (T : List Int) : Prop := 1 ≤ T.length ∧ T.length ≤ 8 ∧ okD 16 T = true ∧ valF 16 0 T = v
theorem hexOf_toE {v : Int} {T : List Int} (h : HexOf v T) : toE 16 8 T = (v, true) := by
  unfold toE
  rw [if_pos ⟨h.1, h.2.1, h.2.2.1⟩, h.2.2.2]
theorem okD_enc (bs : List Int) (hb : ∀ x ∈ bs, 0 ≤ x ∧ x ≤ 255) : okD 16 (encL bs) = true := by
  unfold okD
  rw [List.all_eq_true]
  intro y hy
  unfold encL at hy
  rw [List.mem_flatMap] at hy
  obtain ⟨x, hx, hy⟩ := hy
  have k := hb x hx
  have k1 := dv_hexd (x / 16) (by omega) (by omega)
  have k2 := dv_hexd (x % 16) (by omega) (by omega)
  simp at hy
  simp only [decide_eq_true_eq]
  rcases hy with rfl | rfl <;> omega
theorem hexOf_enc (v : Int) (h0 : 0 ≤ v) (h1 : v < 4294967296) : HexOf v (encL (be4 v)) := by
  refine ⟨by simp [encL_len, be4], by simp [encL_len, be4], okD_enc _ (be4_range v), ?_⟩
  have e : encL (be4 v) = [hexd (v / 16777216 % 256 / 16), hexd (v / 16777216 % 256 % 16), hexd (v / 65536 % 256 / 16), hexd (v / 65536 % 256 % 16), hexd (v / 256 % 256 / 16), hexd (v / 256 % 256 % 16), hexd (v % 256 / 16), hexd (v % 256 % 16)] := rfl
  rw [e]
  simp only [valF, List.foldl_cons, List.foldl_nil]
  rw [dv_hexd _ (by omega) (by omega), dv_hexd _ (by omega) (by omega), dv_hexd _ (by omega) (by omega), dv_hexd _ (by omega) (by omega), dv_hexd _ (by omega) (by omega), dv_hexd _ (by omega) (by omega), dv_hexd _ (by omega) (by omega), dv_hexd _ (by omega) (by omega)]
  omega
theorem hexOf_trim {v : Int} {T : List Int} (h : HexOf v (48 :: T)) (hT : 1 ≤ T.length) : HexOf v T := by
  obtain ⟨h1, h2, h3, h4⟩ := h
  rw [valF_zero] at h4
  simp only [okD, List.all_cons, Bool.and_eq_true] at h3
  simp at h2
  exact ⟨hT, by omega, h3.2, h4⟩
end Go.Proofs.Ytmbdpiffdiiggaa
