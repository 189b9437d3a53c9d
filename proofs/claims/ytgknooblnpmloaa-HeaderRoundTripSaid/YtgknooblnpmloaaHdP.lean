/- Header: fields as lists; Check, Bits, Read and Write as functions of lists; plain facts; no condition. -/
import Derived.Test.YtgknooblnpmloaaHdI
import Derived.Test.YtgknooblnpmloaaIoRt
namespace Go.Proofs.Ytgknooblnpmloaa
open Go.RowKit
set_option linter.unusedVariables false

/-- A field: its name and its width. -/
abbrev Fld := ByteArray × Int
def eqS (s t : ByteArray) : Bool := s.toList == t.toList
def isI (s : ByteArray) : Bool := Lx.isId (Lx.bytesI s)
def fz : Fld := (⟨#[]⟩, 0)
def hasNm (L : List Fld) (s : ByteArray) : Bool := L.any fun p => eqS p.1 s
def fIdx (L : List Fld) (s : ByteArray) : Nat := if hasNm L s = true then L.findIdx (fun p => eqS p.1 s) else 0
/-- The error of field i. -/
def chkF (L : List Fld) (i : Nat) : Int :=
  if isI (L.getD i fz).1 = false then 6 else if ¬ (1 ≤ (L.getD i fz).2 ∧ (L.getD i fz).2 ≤ 32) then 10 else if hasNm (L.take i) (L.getD i fz).1 = true then 7 else 0
/-- The first error of the first fields. -/
def errs (L : List Fld) : Nat → Int
  | 0 => 0
  | k + 1 => if errs L k = 0 then chkF L k else errs L k
def wsL (L : List Fld) : List Int := L.map (·.2)
def isum : List Int → Int
  | [] => 0
  | n :: t => n + isum t
def chkH (s : ByteArray) (L : List Fld) : Int :=
  if isI s = false then 6 else if L.length = 0 then 8 else if 12 < L.length then 12 else if errs L L.length = 0 then (if isum (wsL L) % 8 = 0 then 0 else 10) else errs L L.length
def bitsH (s : ByteArray) (L : List Fld) : Int := if chkH s L = 0 then isum (wsL L) else 0
theorem isum_app (l m : List Int) : isum (l ++ m) = isum l + isum m := by
  induction l with
  | nil => simp [isum]
  | cons n t ih => simp only [List.cons_append, isum, ih]; omega
theorem isum_step (l : List Int) (k : Nat) (h : k < l.length) : isum (l.take (k + 1)) = isum (l.take k) + l.getD k 0 := by
  rw [List.take_add_one, isum_app]
  simp [h, isum]
theorem isum_good (l : List Int) (h : goodL l) : isum l = (sumL l : Int) ∧ 0 ≤ isum l ∧ isum l ≤ 32 * l.length := by
  induction l with
  | nil => simp [isum, sumL]
  | cons n t ih =>
    obtain ⟨hn, ht⟩ := goodL_tail h
    obtain ⟨h1, h2, h3⟩ := ih ht
    simp only [isum, sumL, List.length_cons]
    omega
theorem goodL_take (l : List Int) (k : Nat) (h : goodL l) : goodL (l.take k) := fun n hn => h n (List.mem_of_mem_take hn)
theorem wsL_len (L : List Fld) : (wsL L).length = L.length := by simp [wsL]
theorem wsL_get (L : List Fld) (i : Nat) (h : i < L.length) : (wsL L).getD i 0 = (L.getD i fz).2 := by simp [wsL, h]
theorem errs_zero (L : List Fld) (n : Nat) (h : errs L n = 0) : ∀ i, i < n → chkF L i = 0 := by
  induction n with
  | zero => intro i hi; omega
  | succ n ih =>
    intro i hi
    unfold errs at h
    by_cases e : errs L n = 0
    · rw [if_pos e] at h
      rcases (show i < n ∨ i = n by omega) with q | rfl
      · exact ih e i q
      · exact h
    · rw [if_neg e] at h; exact absurd h e
theorem errs_keep (L : List Fld) (k : Nat) (h : ¬ errs L k = 0) : ∀ n, k ≤ n → errs L n = errs L k := by
  intro n
  induction n with
  | zero => intro hn; obtain rfl : k = 0 := by omega
            rfl
  | succ n ih =>
    intro hn
    rcases (show k ≤ n ∨ k = n + 1 by omega) with q | rfl
    · show (if errs L n = 0 then _ else _) = _
      rw [ih q, if_neg h]
    · rfl
theorem errs_first (L : List Fld) (k n : Nat) (hk : k < n) (h : errs L k = 0) (e : ¬ chkF L k = 0) : errs L n = chkF L k := by
  have h1 : errs L (k + 1) = chkF L k := by show (if errs L k = 0 then _ else _) = _; rw [if_pos h]
  rw [errs_keep L (k + 1) (by rw [h1]; exact e) n (by omega), h1]
theorem errs_next (L : List Fld) (k : Nat) (h : errs L k = 0) (e : chkF L k = 0) : errs L (k + 1) = 0 := by
  show (if errs L k = 0 then _ else _) = _; rw [if_pos h]; exact e
theorem chkF_wid (L : List Fld) (i : Nat) (h : chkF L i = 0) : 1 ≤ (L.getD i fz).2 ∧ (L.getD i fz).2 ≤ 32 := by
  unfold chkF at h
  split at h
  · cases h
  · split at h
    · cases h
    · rename_i q; exact Classical.not_not.1 q
theorem good_errs (L : List Fld) (h : errs L L.length = 0) : goodL (wsL L) := by
  intro n hn
  obtain ⟨j, hj, rfl⟩ := List.mem_iff_getElem.1 hn
  have hj2 : j < L.length := by rw [← wsL_len]; exact hj
  have k := chkF_wid L j (errs_zero L _ h j hj2)
  rw [← wsL_get L j hj2] at k
  simpa [hj] using k
theorem chk_ok (s : ByteArray) (L : List Fld) (h : chkH s L = 0) : 0 < L.length ∧ L.length ≤ 12 ∧ errs L L.length = 0 ∧ isum (wsL L) % 8 = 0 ∧ goodL (wsL L) := by
  unfold chkH at h
  split at h
  · cases h
  · split at h
    · cases h
    · split at h
      · cases h
      · split at h
        · split at h
          · rename_i a b c d e
            exact ⟨by omega, by omega, d, e, good_errs L d⟩
          · cases h
        · rename_i q; exact absurd h q
theorem find_at (L : List Fld) (s : ByteArray) (j : Nat) (hj : j < L.length) (h0 : hasNm (L.take j) s = false) (h1 : eqS (L.getD j fz).1 s = true) : hasNm L s = true ∧ fIdx L s = j := by
  have e : L.getD j fz = L[j] := by simp [hj]
  have hb : hasNm L s = true := by
    unfold hasNm
    rw [List.any_eq_true]
    exact ⟨L[j], List.getElem_mem hj, by rw [← e]; exact h1⟩
  refine ⟨hb, ?_⟩
  unfold fIdx
  rw [if_pos hb, List.findIdx_eq hj]
  refine ⟨by rw [← e]; exact h1, ?_⟩
  intro k hk
  unfold hasNm at h0
  rw [List.any_eq_false] at h0
  have := h0 L[k] (List.mem_take_iff_getElem.2 ⟨k, by omega, rfl⟩)
  simpa using this
theorem find_no (L : List Fld) (s : ByteArray) (h : hasNm L s = false) : fIdx L s = 0 := by unfold fIdx; rw [h]; simp
theorem find_lt (L : List Fld) (s : ByteArray) (h : hasNm L s = true) : fIdx L s < L.length := by
  unfold fIdx
  rw [if_pos h]
  unfold hasNm at h
  rw [List.any_eq_true] at h
  obtain ⟨x, hx, hp⟩ := h
  exact List.findIdx_lt_length_of_exists ⟨x, hx, hp⟩
theorem nm_take (L : List Fld) (s : ByteArray) (j : Nat) (h : j < L.length) : hasNm (L.take (j + 1)) s = (hasNm (L.take j) s || eqS (L.getD j fz).1 s) := by
  unfold hasNm
  rw [List.take_add_one, List.any_append]
  simp [h]
/-- Field i's name stands at an earlier place just if the first place of it is before i. -/
theorem find_dup (L : List Fld) (i : Nat) (hi : i < L.length) : (hasNm (L.take i) (L.getD i fz).1 = true ↔ fIdx L (L.getD i fz).1 < i) := by
  have e : L.getD i fz = L[i] := by simp [hi]
  have hb : hasNm L (L.getD i fz).1 = true := by
    unfold hasNm
    rw [List.any_eq_true]
    exact ⟨L[i], List.getElem_mem hi, by rw [e]; unfold eqS; exact beq_self_eq_true _⟩
  constructor
  · intro h
    unfold hasNm at h
    rw [List.any_eq_true] at h
    obtain ⟨x, hx, hp⟩ := h
    obtain ⟨k, hk, rfl⟩ := List.mem_iff_getElem.1 hx
    rw [List.length_take] at hk
    unfold fIdx
    rw [if_pos hb]
    refine Nat.lt_of_le_of_lt (m := k) ?_ (by omega)
    refine Classical.byContradiction fun hn => ?_
    have := List.not_of_lt_findIdx (p := fun p : Fld => eqS p.1 (L.getD i fz).1) (xs := L) (i := k) (by omega)
    rw [List.getElem_take] at hp
    rw [hp] at this
    cases this
  · intro h
    have hl := find_lt L _ hb
    unfold fIdx at h hl
    rw [if_pos hb] at h hl
    unfold hasNm
    rw [List.any_eq_true]
    refine ⟨L[L.findIdx fun p => eqS p.1 (L.getD i fz).1], List.mem_take_iff_getElem.2 ⟨_, by omega, rfl⟩, ?_⟩
    exact List.findIdx_getElem (w := hl)
/-- The bits of bytes, one byte after the other. -/
def bytesBits : List Int → List Bool
  | [] => []
  | b :: t => bitsOf b 8 ++ bytesBits t
theorem bytesBits_len (l : List Int) : (bytesBits l).length = 8 * l.length := by
  induction l with
  | nil => rfl
  | cons b t ih => simp only [bytesBits, List.length_append, bitsOf_len, ih, List.length_cons]; omega
theorem bytesBits_app (l m : List Int) : bytesBits (l ++ m) = bytesBits l ++ bytesBits m := by
  induction l with
  | nil => rfl
  | cons b t ih => simp only [List.cons_append, bytesBits, ih, List.append_assoc]
theorem wrStep_app (B L : List Bool) (v n : Int) : wrStep (B ++ L) v n = ((wrStep L v n).1, if (wrStep L v n).1 = 0 then B ++ (wrStep L v n).2 else B ++ L) := by
  unfold wrStep
  split
  · split
    · simp
    · simp
  · simp
theorem wrStep_err (L : List Bool) (v n : Int) (h : ¬ (wrStep L v n).1 = 0) : (wrStep L v n).2 = L := by
  unfold wrStep at *
  split
  · rename_i a
    rw [if_pos a] at h
    split
    · rename_i b; rw [if_pos b] at h; exact absurd rfl h
    · rfl
  · rfl
theorem pkRun_app (B : List Bool) (ps : List (Int × Int)) : ∀ L, (pkRun (B ++ L) ps).1 = (pkRun L ps).1 ∧ ((pkRun L ps).1 = 0 → (pkRun (B ++ L) ps).2 = B ++ (pkRun L ps).2) := by
  induction ps with
  | nil => intro L; simp [pkRun]
  | cons p t ih =>
    intro L
    obtain ⟨v, n⟩ := p
    unfold pkRun
    rw [wrStep_app]
    by_cases h : (wrStep L v n).1 = 0
    · simp only [h, if_true]
      exact ih _
    · simp only [h, if_false]
      simp
theorem pkRun_good_len (l : List Int) (hg : goodL l) : ∀ (vals : List Int) (L : List Bool), vals.length = l.length → (pkRun L (vals.zip l)).1 = 0 → (pkRun L (vals.zip l)).2.length = L.length + sumL l := by
  induction l with
  | nil => intro vals L hl _; simp [pkRun, sumL]
  | cons n t ih =>
    intro vals L hl h
    obtain ⟨hn, ht⟩ := goodL_tail hg
    cases vals with
    | nil => simp at hl
    | cons v vt =>
      simp only [List.zip_cons_cons] at h ⊢
      unfold pkRun at h ⊢
      by_cases e : (wrStep L v n).1 = 0
      · rw [if_pos e] at h ⊢
        rw [ih ht vt _ (by simpa using hl) h]
        have : (wrStep L v n).2.length = L.length + n.toNat := by
          unfold wrStep at *
          rw [if_pos (show okW n = true from decide_eq_true hn)] at *
          split
          · simp [bitsOf_len]
          · rename_i q; rw [if_neg q] at e; cases e
        rw [this]; simp only [sumL]; omega
      · rw [if_neg e] at h; exact absurd h e
theorem list_bits (L : List Bool) (q : Nat) (h : L.length = 8 * q) : bytesBits (packB L) = L := by
  have hb := packB_range L
  have hl : (packB L).length = q := by rw [packB_len]; omega
  have h1 : bitsTo (packB L) (8 * q) = L := by
    apply List.ext_getElem
    · rw [bitsTo_len, h]
    · intro i h2 h3
      have k := bit_pack L i h3
      simp only [bitsTo, List.getElem_map, List.getElem_range]
      rw [k]
      unfold bv
      simp [h3]
  have h2 : ∀ (bs : List Int), (∀ b ∈ bs, 0 ≤ b ∧ b ≤ 255) → ∀ m, m ≤ bs.length → bytesBits (bs.take m) = bitsTo bs (8 * m) := by
    intro bs hbs m
    induction m with
    | zero => intro _; rfl
    | succ m ih =>
      intro hm
      have ht : bs.take (m + 1) = bs.take m ++ [bs.getD m 0] := by rw [List.take_add_one]; simp [show m < bs.length by omega]
      rw [ht, bytesBits_app, ih (by omega), show 8 * (m + 1) = 8 * m + 8 by omega, bitsTo_add]
      congr 1
      have hx := hbs (bs.getD m 0) (by simp [show m < bs.length by omega])
      have e : accB bs (8 * m) 8 = bs.getD m 0 := by
        refine acc_of _ _ _ _ hx.1 (by have := hx.2; omega) ?_
        intro i hi
        unfold bitAt
        rw [show (8 * m + i) / 8 = m by omega, show (8 * m + i) % 8 = i by omega, show 8 - 1 - i = 7 - i by omega]
      rw [e]
      simp [bytesBits]
  have h3 := h2 (packB L) hb q (by omega)
  rw [List.take_of_length_le (by omega)] at h3
  rw [h3, h1]
end Go.Proofs.Ytgknooblnpmloaa
