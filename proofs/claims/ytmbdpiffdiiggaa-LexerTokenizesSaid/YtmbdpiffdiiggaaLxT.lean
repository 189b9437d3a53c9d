/- What the tokens of a text cover: theory; no condition. -/
import Derived.Test.YtmbdpiffdiiggaaLxK
namespace Go.Proofs.Ytmbdpiffdiiggaa
open Go.RowKit
set_option linter.unusedVariables false

/-- The bytes that separate nothing. -/
def kept : Bool → List Int → List Int
  | _, [] => []
  | b, x :: t => if ans b x = true then kept (cst b x) t else x :: kept (cst b x) t
theorem kept_snoc (P : List Int) (x : Int) : ∀ b, kept b (P ++ [x]) = kept b P ++ if ans (sepC b P) x = true then [] else [x] := by
  induction P with
  | nil => intro b; by_cases h : ans b x = true <;> simp [kept, sepC, h]
  | cons y t ih =>
    intro b
    simp only [List.cons_append, kept]
    have e : sepC b (y :: t) = sepC (cst b y) t := rfl
    rw [ih, e]
    split <;> simp
theorem kept_step (L : List Int) (b : Bool) (k : Nat) (h : k < L.length) : kept b (L.take (k + 1)) = kept b (L.take k) ++ if ans (sepC b (L.take k)) (L.getD k 0) = true then [] else [L.getD k 0] := by
  rw [take_snoc' L k h, kept_snoc]
theorem kept_len (L : List Int) : ∀ b, (kept b L).length ≤ L.length := by
  induction L with
  | nil => intro b; exact Nat.le_refl _
  | cons x t ih =>
    intro b
    unfold kept
    have := ih (cst b x)
    split <;> simp <;> omega
theorem ans_no {b : Bool} {x : Int} (h : ans b x = false) : b = false ∧ cst b x = false ∧ ans false x = false := by
  unfold ans cst at *
  by_cases h1 : x = 35
  · rw [if_pos h1] at h; simp at h
  · rw [if_neg h1] at h ⊢
    by_cases h2 : x = 10
    · rw [if_pos h2] at h; simp [h2] at h
    · rw [if_neg h2] at h ⊢
      simp at h
      rw [if_neg h1, if_neg h2]
      simp [h]
theorem kept_skip (L : List Int) : ∀ b, kept b L = kept false (L.drop (skipK b L)) := by
  induction L with
  | nil => intro b; rfl
  | cons x t ih =>
    intro b
    by_cases ha : ans b x = true
    · have e : skipK b (x :: t) = skipK (cst b x) t + 1 := by show (if _ then _ else _) = _; rw [if_pos ha]
      rw [e, List.drop_succ_cons, ← ih]
      show (if _ then _ else _) = _
      rw [if_pos ha]
    · have e : skipK b (x :: t) = 0 := by show (if _ then _ else _) = _; rw [if_neg ha]
      rw [e, List.drop_zero]
      have k := ans_no (by simpa using ha)
      rw [k.1]
theorem kept_word (T R : List Int) (h : ∀ x ∈ T, ans false x = false) : kept false (T ++ R) = T ++ kept false R := by
  induction T with
  | nil => rfl
  | cons x t ih =>
    have k := h x (by simp)
    show (if _ then _ else _) = _
    rw [if_neg (by rw [k]; simp), (ans_no k).2.1]
    show x :: kept false (t ++ R) = _
    rw [ih (fun y hy => h y (by simp [hy]))]
    rfl
theorem isW_ans (x : Int) (h : isW x = true) : ans false x = false := by
  rw [isW_of] at h
  unfold isL isD at h
  simp only [Bool.or_eq_true, decide_eq_true_eq] at h
  unfold ans cst
  rw [if_neg (by omega), if_neg (by omega)]
  simp
  omega
theorem isA_ans (x : Int) (h : isA x = true) : ans false x = false := isW_ans x (by rw [isW_of]; unfold isA at h; rw [h]; rfl)
theorem two_ans : ∀ p ∈ twoS, ∀ x ∈ p, ans false x = false := by decide
theorem one_ans : ∀ x ∈ oneS, ans false x = false := by decide
theorem span_ans (p : Int → Bool) (hp : ∀ x, p x = true → ans false x = false) (R : List Int) : ∀ x ∈ R.take (spanK p R), ans false x = false := by
  intro x hx
  obtain ⟨j, hj, rfl⟩ := List.mem_iff_getElem.1 hx
  simp only [List.length_take] at hj
  have q := spanK_yes p R j (by omega)
  rw [List.getElem_take]
  refine hp _ ?_
  have e : R.getD j 0 = R[j]'(by omega) := by simp [show j < R.length by omega]
  rw [← e]; exact q
theorem first_bytes (R : List Int) (hR : R ≠ []) (h : (firstT R).err = 0) : ∀ x ∈ (firstT R).text, ans false x = false := by
  unfold firstT at h ⊢
  by_cases c1 : isL (R.getD 0 0) = true
  · rw [if_pos c1] at h ⊢
    unfold nameT at h ⊢
    split
    · exact span_ans isW isW_ans R
    · intro x hx; simp [noTk] at hx
  · rw [if_neg c1] at h ⊢
    by_cases c2 : isD (R.getD 0 0) = true
    · rw [if_pos c2] at h ⊢
      unfold numT at h ⊢
      split
      · exact span_ans isA isA_ans R
      · intro x hx; simp [noTk] at hx
    · rw [if_neg c2] at h ⊢
      unfold symT at h ⊢
      split
      · intro x hx; simp [noTk] at hx
      · show ∀ x ∈ R.take (symK R), _
        unfold symK
        split
        · rename_i hh; exact two_ans _ hh.2
        · split
          · rename_i hh
            cases R with
            | nil => exact absurd rfl hR
            | cons y t =>
              intro x hx
              simp at hx
              subst hx
              exact one_ans _ hh
          · intro x hx; simp at hx
theorem take_app {T R : List Int} (h : T = R.take T.length) : T ++ R.drop T.length = R := by
  have k := List.take_append_drop T.length R
  rw [← h] at k
  exact k
def okLines : Int → List Tok → Prop
  | _, [] => True
  | p, t :: s => p ≤ t.line ∧ t.text ≠ [] ∧ okLines t.line s
def texts (M : List Tok) : List Int := M.flatMap Tok.text
theorem tokF_covers (f : Nat) : ∀ (line : Int) (acc : List Tok) (L : List Int), L.length < f → (tokF f line acc L).2.2 = 0 →
    ∃ s, (tokF f line acc L).1 = acc ++ s ∧ okLines line s ∧ texts s = kept false L ∧ (tokF f line acc L).2.1 = 0 := by
  induction f with
  | zero => intro line acc L h; omega
  | succ f ih =>
    intro line acc L hf he
    have hk := kept_skip L false
    rw [tokF_step] at he ⊢
    by_cases c1 : L.drop (skipK false L) = []
    · rw [if_pos c1]
      rw [c1] at hk
      exact ⟨[], by simp, trivial, by rw [hk]; rfl, rfl⟩
    · rw [if_neg c1] at he ⊢
      by_cases c2 : acc.length = 4096
      · rw [if_pos c2] at he; exact absurd he (by simp)
      · rw [if_neg c2] at he ⊢
        by_cases c3 : (firstT (L.drop (skipK false L))).err = 0
        · rw [if_neg (by simpa using c3)] at he ⊢
          have p := first_ok _ c1 c3
          have b := first_bytes _ c1 c3
          have q := List.length_pos_iff.2 c1
          simp only [List.length_drop] at q
          obtain ⟨s, h1, h2, h3, h4⟩ := ih _ _ _ (by simp only [List.length_drop]; omega) he
          refine ⟨_, h1.trans (List.append_assoc _ _ _), ?_, ?_, h4⟩
          · refine ⟨by simp only; omega, ?_, h2⟩
            simp only
            intro e
            rw [e] at p
            exact absurd p.1 (by simp)
          · show (firstT (L.drop (skipK false L))).text ++ texts s = _
            rw [h3, hk, ← kept_word _ _ b]
            rw [take_app p.2]
        · rw [if_pos (by simpa using c3)] at he
          exact absurd he c3
theorem tokR_covers (L : List Int) (hl : L.length ≤ 16384) (he : (tokR L).2.2 = 0) : okLines 1 (tokR L).1 ∧ texts (tokR L).1 = kept false L ∧ (tokR L).2.1 = 0 := by
  have e : tokR L = tokF (L.length + 1) 1 [] L := if_neg (by omega)
  rw [e] at he ⊢
  obtain ⟨s, h1, h2, h3, h4⟩ := tokF_covers _ 1 [] L (Nat.lt_succ_self _) he
  rw [h1, List.nil_append]
  exact ⟨h2, h3, h4⟩
def lineAt (M : List Tok) : Nat → Int
  | 0 => 1
  | k + 1 => (M.getD k noTok).line
theorem okLines_at (M : List Tok) : ∀ (p : Int), okLines p M → ∀ k, k < M.length → (if k = 0 then p else (M.getD (k - 1) noTok).line) ≤ (M.getD k noTok).line ∧ (M.getD k noTok).text ≠ [] := by
  induction M with
  | nil => intro p _ k h; simp at h
  | cons t s ih =>
    intro p h k hk
    cases k with
    | zero => simpa using ⟨h.1, h.2.1⟩
    | succ k =>
      have q := ih t.line h.2.2 k (by simpa using hk)
      cases k with
      | zero => simpa using q
      | succ k => simpa using q
theorem lineAt_le (M : List Tok) (h : okLines 1 M) (k : Nat) (hk : k < M.length) : lineAt M k ≤ (M.getD k noTok).line ∧ (M.getD k noTok).text ≠ [] := by
  have q := okLines_at M 1 h k hk
  cases k with
  | zero => simpa [lineAt] using q
  | succ k => simpa [lineAt] using q
theorem takeT_snoc (M : List Tok) (k : Nat) (h : k < M.length) : M.take (k + 1) = M.take k ++ [M.getD k noTok] := by
  rw [List.take_add_one, List.getElem?_eq_getElem h]; simp [h]
theorem texts_step (M : List Tok) (k : Nat) (h : k < M.length) : texts (M.take (k + 1)) = texts (M.take k) ++ (M.getD k noTok).text := by
  rw [takeT_snoc M k h]; unfold texts; rw [List.flatMap_append]; simp
theorem texts_le (M : List Tok) (k : Nat) : (texts (M.take k)).length ≤ (texts M).length := by
  have e : texts M = texts (M.take k) ++ texts (M.drop k) := by unfold texts; rw [← List.flatMap_append, List.take_append_drop]
  rw [e, List.length_append]; omega
end Go.Proofs.Ytmbdpiffdiiggaa
