/- The tokens of two texts on separate lines: theory; no condition. -/
import Derived.Test.YtmbdpiffdiiggaaLxL
namespace Go.Proofs.Ytmbdpiffdiiggaa
open Go.RowKit
set_option linter.unusedVariables false

def glue (T : List Tok) (r : List Tok × Int × Int) : List Tok × Int × Int := if r.2.2 = 0 then (T ++ r.1, r.2.1, r.2.2) else r
def lineOn (d : Int) (t : Tok) : Tok := ⟨t.kind, t.text, t.val, t.line + d⟩
def shift (d : Int) (r : List Tok × Int × Int) : List Tok × Int × Int := (r.1.map (lineOn d), if r.2.2 = 0 then r.2.1 else r.2.1 + d, r.2.2)
theorem glue_nil (r : List Tok × Int × Int) : glue [] r = r := by unfold glue; split <;> simp
theorem glue_glue (S T : List Tok) (r : List Tok × Int × Int) : glue S (glue T r) = glue (S ++ T) r := by
  unfold glue
  by_cases h : r.2.2 = 0 <;> simp [h]
theorem glue_err (T : List Tok) (r : List Tok × Int × Int) : (glue T r).2 = r.2 := by unfold glue; split <;> simp
theorem shift_glue (d : Int) (t : Tok) (r : List Tok × Int × Int) : shift d (glue [t] r) = glue [lineOn d t] (shift d r) := by
  unfold glue shift
  by_cases h : r.2.2 = 0 <;> simp [h]
/-- The tokens from a line on. -/
def tks : Nat → Int → List Int → List Tok × Int × Int
  | 0, _, _ => ([], 0, 0)
  | f + 1, line, L =>
    if L.drop (skipK false L) = [] then ([], 0, 0)
    else if (firstT (L.drop (skipK false L))).err ≠ 0 then ([], line + nl (L.take (skipK false L)), (firstT (L.drop (skipK false L))).err)
    else glue [⟨(firstT (L.drop (skipK false L))).kind, (firstT (L.drop (skipK false L))).text, (firstT (L.drop (skipK false L))).val, line + nl (L.take (skipK false L))⟩]
      (tks f (line + nl (L.take (skipK false L))) ((L.drop (skipK false L)).drop (firstT (L.drop (skipK false L))).text.length))
theorem tks_step (f : Nat) (line : Int) (L : List Int) : tks (f + 1) line L =
    if L.drop (skipK false L) = [] then ([], 0, 0)
    else if (firstT (L.drop (skipK false L))).err ≠ 0 then ([], line + nl (L.take (skipK false L)), (firstT (L.drop (skipK false L))).err)
    else glue [⟨(firstT (L.drop (skipK false L))).kind, (firstT (L.drop (skipK false L))).text, (firstT (L.drop (skipK false L))).val, line + nl (L.take (skipK false L))⟩]
      (tks f (line + nl (L.take (skipK false L))) ((L.drop (skipK false L)).drop (firstT (L.drop (skipK false L))).text.length)) := rfl
theorem rest_lt {L : List Int} {n : Nat} (c1 : L.drop (skipK false L) ≠ []) (h : 1 ≤ n) : ((L.drop (skipK false L)).drop n).length < L.length := by
  have q := List.length_pos_iff.2 c1
  simp only [List.length_drop] at q ⊢
  omega
theorem tks_fuel (f : Nat) : ∀ (g : Nat) (line : Int) (L : List Int), L.length < f → L.length < g → tks f line L = tks g line L := by
  induction f with
  | zero => intro g line L h; omega
  | succ f ih =>
    intro g line L hf hg
    obtain ⟨g, rfl⟩ : ∃ k, g = k + 1 := ⟨g - 1, by omega⟩
    rw [tks_step, tks_step]
    by_cases c1 : L.drop (skipK false L) = []
    · rw [if_pos c1, if_pos c1]
    · rw [if_neg c1, if_neg c1]
      by_cases c3 : (firstT (L.drop (skipK false L))).err = 0
      · rw [if_neg (by simpa using c3), if_neg (by simpa using c3)]
        have p := first_ok _ c1 c3
        have q := rest_lt c1 p.1
        rw [ih g _ _ (by omega) (by omega)]
      · rw [if_pos (by simpa using c3), if_pos (by simpa using c3)]
theorem tokF_tks (f : Nat) : ∀ (line : Int) (acc : List Tok) (L : List Int), L.length < f → acc.length + L.length < 4096 → tokF f line acc L = glue acc (tks f line L) := by
  induction f with
  | zero => intro line acc L h; omega
  | succ f ih =>
    intro line acc L hf hb
    rw [tokF_step, tks_step]
    by_cases c1 : L.drop (skipK false L) = []
    · rw [if_pos c1, if_pos c1]; simp [glue]
    · rw [if_neg c1, if_neg c1, if_neg (by omega)]
      by_cases c3 : (firstT (L.drop (skipK false L))).err = 0
      · rw [if_neg (by simpa using c3), if_neg (by simpa using c3)]
        have p := first_ok _ c1 c3
        have q := rest_lt c1 p.1
        rw [ih _ _ _ (by omega) (by rw [List.length_append, List.length_singleton]; omega), glue_glue]
      · rw [if_pos (by simpa using c3), if_pos (by simpa using c3)]
        unfold glue
        rw [if_neg c3]
theorem tokR_tks (L : List Int) (hl : L.length < 4096) : tokR L = tks (L.length + 1) 1 L := by
  unfold tokR
  rw [if_neg (by omega), tokF_tks _ _ _ _ (Nat.lt_succ_self _) (by simpa using hl), glue_nil]
theorem tks_shift (f : Nat) : ∀ (line d : Int) (L : List Int), tks f (line + d) L = shift d (tks f line L) := by
  induction f with
  | zero => intro line d L; simp [tks, shift]
  | succ f ih =>
    intro line d L
    have e : line + d + (nl (L.take (skipK false L)) : Int) = line + nl (L.take (skipK false L)) + d := by omega
    rw [tks_step, tks_step, e]
    by_cases c1 : L.drop (skipK false L) = []
    · rw [if_pos c1, if_pos c1]; simp [shift]
    · rw [if_neg c1, if_neg c1]
      by_cases c3 : (firstT (L.drop (skipK false L))).err = 0
      · rw [if_neg (by simpa using c3), if_neg (by simpa using c3), shift_glue, ih]
        rfl
      · rw [if_pos (by simpa using c3), if_pos (by simpa using c3)]
        unfold shift
        rw [if_neg c3]
        simp
theorem tks_err (f : Nat) : ∀ (line : Int) (L : List Int), (tks f line L).2.2 ≠ 0 → (tks f line L).1 = [] := by
  induction f with
  | zero => intro line L h; exact absurd rfl h
  | succ f ih =>
    intro line L h
    rw [tks_step] at h ⊢
    by_cases c1 : L.drop (skipK false L) = []
    · rw [if_pos c1]
    · rw [if_neg c1] at h ⊢
      by_cases c3 : (firstT (L.drop (skipK false L))).err = 0
      · rw [if_neg (by simpa using c3)] at h ⊢
        rw [glue_err] at h
        unfold glue
        rw [if_neg h]
        exact ih _ _ h
      · rw [if_pos (by simpa using c3)]
theorem tks_bound (f : Nat) : ∀ (line : Int) (L : List Int), L.length < f → ∀ t ∈ (tks f line L).1, line ≤ t.line ∧ t.line ≤ line + L.length := by
  induction f with
  | zero => intro line L h; omega
  | succ f ih =>
    intro line L hf t
    rw [tks_step]
    by_cases c1 : L.drop (skipK false L) = []
    · rw [if_pos c1]; intro h; simp at h
    · rw [if_neg c1]
      by_cases c3 : (firstT (L.drop (skipK false L))).err = 0
      · rw [if_neg (by simpa using c3)]
        have p := first_ok _ c1 c3
        have q := rest_lt c1 p.1
        have q2 := List.length_pos_iff.2 c1
        have n1 := nl_le (L.take (skipK false L))
        have r := ih (line + nl (L.take (skipK false L))) ((L.drop (skipK false L)).drop (firstT (L.drop (skipK false L))).text.length) (by omega) t
        simp only [List.length_drop, List.length_take] at q q2 n1 r
        intro h
        unfold glue at h
        split at h
        · simp only [List.singleton_append, List.mem_cons] at h
          rcases h with rfl | h
          · simp only; omega
          · have := r h; omega
        · have := r h; omega
      · rw [if_pos (by simpa using c3)]; intro h; simp at h

theorem skipK_all (a c : List Int) : ∀ b, skipK b a = a.length → skipK b (a ++ 10 :: c) = a.length + 1 + skipK false c := by
  induction a with
  | nil =>
    intro b _
    show (if ans b 10 = true then skipK (cst b 10) c + 1 else 0) = _
    rw [if_pos (by simp [ans])]
    have e : cst b 10 = false := by simp [cst]
    rw [e]; simp; omega
  | cons x t ih =>
    intro b h
    by_cases ha : ans b x = true
    · have e : skipK b (x :: t) = skipK (cst b x) t + 1 := by show (if _ then _ else _) = _; rw [if_pos ha]
      rw [e] at h
      show (if ans b x = true then skipK (cst b x) (t ++ 10 :: c) + 1 else 0) = _
      rw [if_pos ha, ih _ (by simpa using h)]
      simp; omega
    · have e : skipK b (x :: t) = 0 := by show (if _ then _ else _) = _; rw [if_neg ha]
      rw [e] at h; simp at h
theorem skipK_some (a c : List Int) : ∀ b, skipK b a < a.length → skipK b (a ++ c) = skipK b a := by
  induction a with
  | nil => intro b h; simp at h
  | cons x t ih =>
    intro b h
    by_cases ha : ans b x = true
    · have e : skipK b (x :: t) = skipK (cst b x) t + 1 := by show (if _ then _ else _) = _; rw [if_pos ha]
      rw [e] at h ⊢
      show (if ans b x = true then skipK (cst b x) (t ++ c) + 1 else 0) = _
      rw [if_pos ha, ih _ (by simpa using h)]
    · have e : skipK b (x :: t) = 0 := by show (if _ then _ else _) = _; rw [if_neg ha]
      rw [e]
      show (if ans b x = true then skipK (cst b x) (t ++ c) + 1 else 0) = _
      rw [if_neg ha]
theorem spanK_app (p : Int → Bool) (hp : p 10 = false) (R c : List Int) : spanK p (R ++ 10 :: c) = spanK p R := by
  induction R with
  | nil => simp [spanK, hp]
  | cons x t ih => simp [spanK, ih]
theorem symK_app (R c : List Int) (hR : R ≠ []) : symK (R ++ 10 :: c) = symK R := by
  match R, hR with
  | [x], _ =>
    unfold symK
    have e : ¬ (1 < ([x] ++ 10 :: c).length ∧ ([x] ++ 10 :: c).take 2 ∈ twoS) := by
      intro h
      have k : ∀ p ∈ twoS, p.getD 1 0 ≠ 10 := by decide
      exact k _ h.2 (by simp)
    have e2 : ¬ (1 < [x].length ∧ [x].take 2 ∈ twoS) := by simp
    rw [if_neg e, if_neg e2]
    rfl
  | x :: y :: t, _ => simp [symK]
theorem first_app (R c : List Int) (hR : R ≠ []) : firstT (R ++ 10 :: c) = firstT R := by
  have h0 : (R ++ 10 :: c).getD 0 0 = R.getD 0 0 := by
    cases R with
    | nil => exact absurd rfl hR
    | cons x t => simp
  have cut : ∀ k, k ≤ R.length → (R ++ 10 :: c).take k = R.take k := fun k hk => List.take_append_of_le_length hk
  have h1 : 1 ≤ R.length := List.length_pos_iff.2 hR
  unfold firstT
  rw [h0, spanK_app isW (by decide), spanK_app isA (by decide), symK_app R c hR, cut _ (spanK_le _ _), cut _ (spanK_le _ _), cut _ (symK_le R h1)]
theorem nl_app (a b : List Int) : nl (a ++ b) = nl a + nl b := by unfold nl; rw [List.count_append]
theorem nl_word (T : List Int) (h : ∀ x ∈ T, ans false x = false) : nl T = 0 := by
  unfold nl
  rw [List.count_eq_zero]
  intro hm
  have := h 10 hm
  simp [ans] at this
theorem tks_app (f : Nat) : ∀ (g h : Nat) (line : Int) (a b : List Int), a.length < f → (a ++ 10 :: b).length < g → b.length < h →
    tks g line (a ++ 10 :: b) = if (tks f line a).2.2 ≠ 0 then tks f line a else glue (tks f line a).1 (tks h (line + nl a + 1) b) := by
  induction f with
  | zero => intro g h line a b hf; omega
  | succ f ih =>
    intro g h line a b hf hg hh
    obtain ⟨g, rfl⟩ : ∃ k, g = k + 1 := ⟨g - 1, by omega⟩
    by_cases c1 : a.drop (skipK false a) = []
    · have e1 : tks (f + 1) line a = ([], 0, 0) := by rw [tks_step, if_pos c1]
      have hk : skipK false a = a.length := by
        have := skipK_le a false
        have q := congrArg List.length c1
        simp only [List.length_drop, List.length_nil] at q
        omega
      have hs := skipK_all a b false hk
      have hd : (a ++ 10 :: b).drop (skipK false (a ++ 10 :: b)) = b.drop (skipK false b) := by
        rw [hs, List.drop_append, List.drop_of_length_le (by omega)]
        have e : a.length + 1 + skipK false b - a.length = skipK false b + 1 := by omega
        rw [e]; simp
      have ht : (nl ((a ++ 10 :: b).take (skipK false (a ++ 10 :: b))) : Int) = nl a + 1 + nl (b.take (skipK false b)) := by
        rw [hs, List.take_append, List.take_of_length_le (by omega)]
        have e : a.length + 1 + skipK false b - a.length = skipK false b + 1 := by omega
        rw [e, nl_app, List.take_succ_cons]
        have e2 : nl (10 :: b.take (skipK false b)) = nl (b.take (skipK false b)) + 1 := by unfold nl; rw [List.count_cons_self]
        rw [e2]; omega
      have e2 : tks (g + 1) line (a ++ 10 :: b) = tks (g + 1) (line + nl a + 1) b := by
        rw [tks_step, tks_step, hd, ht]
        have e : line + ((nl a : Int) + 1 + nl (b.take (skipK false b))) = line + nl a + 1 + nl (b.take (skipK false b)) := by omega
        rw [e]
      rw [e1, if_neg (by simp), glue_nil, e2]
      exact tks_fuel _ _ _ _ (by simp at hg; omega) hh
    · have hk : skipK false a < a.length := by
        have q := List.length_pos_iff.2 c1
        simp only [List.length_drop] at q
        omega
      have hs := skipK_some a (10 :: b) false hk
      have hd : (a ++ 10 :: b).drop (skipK false a) = a.drop (skipK false a) ++ 10 :: b := List.drop_append_of_le_length (by omega)
      have ht : (a ++ 10 :: b).take (skipK false a) = a.take (skipK false a) := List.take_append_of_le_length (by omega)
      rw [tks_step g, hs, hd, ht, first_app _ _ c1, if_neg (by simp), tks_step f, if_neg c1]
      by_cases c3 : (firstT (a.drop (skipK false a))).err = 0
      · have p := first_ok _ c1 c3
        have q := rest_lt c1 p.1
        have w := first_bytes _ c1 c3
        have pl : (firstT (a.drop (skipK false a))).text.length ≤ (a.drop (skipK false a)).length := by
          have := congrArg List.length p.2
          rw [List.length_take] at this; omega
        have n3 : ¬ (firstT (a.drop (skipK false a))).err ≠ 0 := by simpa using c3
        rw [if_neg n3, if_neg n3, List.drop_append_of_le_length pl]
        have hn : (nl a : Int) = nl (a.take (skipK false a)) + nl ((a.drop (skipK false a)).drop (firstT (a.drop (skipK false a))).text.length) := by
          have e1 : nl a = nl (a.take (skipK false a)) + nl (a.drop (skipK false a)) := by rw [← nl_app, List.take_append_drop]
          have e2 := take_app p.2
          have e3 : nl (a.drop (skipK false a)) = nl ((a.drop (skipK false a)).drop (firstT (a.drop (skipK false a))).text.length) := by
            conv => lhs; rw [← e2]
            rw [nl_app, nl_word _ w]; omega
          rw [e1, e3]; omega
        have hlen : ((a.drop (skipK false a)).drop (firstT (a.drop (skipK false a))).text.length ++ 10 :: b).length < g := by
          rw [List.length_append] at hg ⊢; omega
        rw [ih g h _ _ b (by omega) hlen hh]
        have hl : line + (nl (a.take (skipK false a)) : Int) + nl ((a.drop (skipK false a)).drop (firstT (a.drop (skipK false a))).text.length) + 1 = line + nl a + 1 := by omega
        rw [hl]
        obtain ⟨r, hr⟩ : ∃ r, r = tks f (line + nl (a.take (skipK false a))) ((a.drop (skipK false a)).drop (firstT (a.drop (skipK false a))).text.length) := ⟨_, rfl⟩
        rw [← hr]
        by_cases h0 : r.2.2 = 0
        · rw [if_neg (by simpa using h0), glue_err, if_neg (by simpa using h0), glue_glue]
          congr 1
          unfold glue
          rw [if_pos h0]
        · rw [if_pos h0, glue_err, if_pos h0]
      · have n3 : (firstT (a.drop (skipK false a))).err ≠ 0 := c3
        rw [if_pos n3, if_pos n3, if_pos (by simpa using n3)]
/-- The tokens of two texts on separate lines. -/
theorem tokR_lines (a b : List Int) (ha : a.length ≤ 600) (hb : b.length ≤ 600) :
    tokR (a ++ [10] ++ b) = if (tokR a).2.2 ≠ 0 then tokR a else glue (tokR a).1 (shift (nl a + 1) (tokR b)) := by
  have e0 : a ++ [10] ++ b = a ++ 10 :: b := by simp
  have hl : (a ++ 10 :: b).length < 4096 := by simp; omega
  rw [e0, tokR_tks _ hl, tokR_tks a (by omega), tokR_tks b (by omega), tks_app (a.length + 1) _ (b.length + 1) 1 a b (by omega) (Nat.lt_succ_self _) (by omega)]
  have e : (1 : Int) + nl a + 1 = 1 + (nl a + 1) := by omega
  rw [e, tks_shift]
end Go.Proofs.Ytmbdpiffdiiggaa
