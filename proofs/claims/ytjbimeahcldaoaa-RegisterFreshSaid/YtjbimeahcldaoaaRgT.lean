/- Register: what a sequence of writes leaves; no condition. -/
import Derived.Test.YtjbimeahcldaoaaRgS
namespace Go.Proofs.Ytjbimeahcldaoaa
open Go.RowKit
set_option linter.unusedVariables false
def runN (L : List Rg) (l : List Ac) : Nat → List (List Int)
  | 0 => newL L
  | k + 1 => writeL L (runN L l k) (l.getD k az).1 (l.getD k az).2.1 (l.getD k az).2.2
def wantN (l : List Ac) (x : Ac) : Nat → Int
  | 0 => 0
  | k + 1 => if (l.getD k az).1 = x.1 ∧ (l.getD k az).2.1 = x.2.1 then (l.getD k az).2.2 else wantN l x k
/-- All registers are as Check wants them. -/
def OkL (L : List Rg) : Prop := ∀ j, j < L.length → okW (L.getD j rz).2.1 = true ∧ okS (L.getD j rz).2.2 = true
/-- Contents of the declared sizes, of values that fit. -/
structure Good (L : List Rg) (R : List (List Int)) : Prop where
  len : R.length = L.length
  size : ∀ j, j < L.length → ((R.getD j []).length : Int) = (L.getD j rz).2.2
  fit : ∀ j, j < L.length → ∀ i, 0 ≤ (R.getD j []).getD i 0 ∧ (R.getD j []).getD i 0 ≤ mkB (L.getD j rz).2.1
theorem good_cont {L : List Rg} {R : List (List Int)} (h : Good L R) : contZ L R = 0 := by
  unfold contZ
  rw [if_pos h.len.symm, if_pos ((same_iff L R).2 h.size), if_pos]
  rw [fit_iff]
  intro j hj
  have e : L.getD j rz = ((L.getD j rz).1, (L.getD j rz).2.1, (L.getD j rz).2.2) := rfl
  rw [e, fitR_iff]
  intro i hi
  exact (h.fit j hj i).2
theorem rep_zero (n t : Nat) : (List.replicate n (0 : Int)).getD t 0 = 0 := by
  rw [List.getD_eq_getElem?_getD, List.getElem?_replicate]
  split <;> rfl
theorem good_new {L : List Rg} (h : OkL L) : Good L (newL L) := by
  refine ⟨newL_len L, fun j hj => ?_, fun j hj i => ?_⟩
  · rw [newL_at L j hj, List.length_replicate]
    exact (szN_yes (h j hj).2).1
  · rw [newL_at L j hj]
    rw [rep_zero]
    exact ⟨Int.le_refl _, (mkB_range _).1⟩
theorem red_le (v wd : Int) (h : okW wd = true) : redB v wd ≤ mkB wd := by
  have k := of_decide_eq_true h
  have := redB_lt v wd k
  rw [mkB_in wd k]
  omega
theorem getD_set_row (l : List Int) (i k : Nat) (v : Int) : (l.set i v).getD k 0 = if k = i ∧ i < l.length then v else l.getD k 0 := by
  by_cases e : k = i
  · subst e
    by_cases h : k < l.length
    · rw [if_pos ⟨rfl, h⟩, List.getD_eq_getElem?_getD, List.getElem?_set]; simp [h]
    · rw [if_neg (fun q => h q.2)]
      rw [List.getD_eq_getElem?_getD, List.getD_eq_getElem?_getD, List.getElem?_eq_none (by rw [List.length_set]; omega), List.getElem?_eq_none (by omega)]
  · rw [if_neg (fun q => e q.1), List.getD_eq_getElem?_getD, List.getD_eq_getElem?_getD, List.getElem?_set_ne (Ne.symm e)]
theorem good_write {L : List Rg} {R : List (List Int)} (h : Good L R) (ok : OkL L) (r i v : Int) (i0 : 0 ≤ i) : Good L (writeL L R r i v) := by
  cases hc : cellB L R r i
  · rw [write_no L R r i v hc]; exact h
  · have c := of_decide_eq_true (show decide _ = true from hc)
    obtain ⟨q, rfl⟩ : ∃ q : Nat, r = q := ⟨r.toNat, by omega⟩
    obtain ⟨t, rfl⟩ : ∃ t : Nat, i = t := ⟨i.toNat, by omega⟩
    have hq : q < L.length := by omega
    rw [write_yes L R q t v hc (ok q hq).1]
    refine ⟨by rw [List.length_set]; exact h.len, fun j hj => ?_, fun j hj k => ?_⟩
    · by_cases e : j = q
      · subst e
        rw [getD_set_at _ _ _ _ (by rw [h.len]; exact hj), List.length_set]; exact h.size j hj
      · rw [getD_set_off _ _ _ _ _ e]; exact h.size j hj
    · by_cases e : j = q
      · subst e
        rw [getD_set_at _ _ _ _ (by rw [h.len]; exact hj), getD_set_row]
        split
        · exact ⟨(redB_range v _).1, red_le v _ (ok j hj).1⟩
        · exact h.fit j hj k
      · rw [getD_set_off _ _ _ _ _ e]; exact h.fit j hj k
theorem good_run {L : List Rg} (ok : OkL L) (l : List Ac) (hl : ∀ x ∈ l, AcOk x) : ∀ k, k ≤ l.length → Good L (runN L l k) := by
  intro k
  induction k with
  | zero => intro _; exact good_new ok
  | succ k ih =>
    intro hk
    have hx : AcOk (l.getD k az) := by
      rw [List.getD_eq_getElem?_getD, List.getElem?_eq_getElem (by omega)]; exact hl _ (List.getElem_mem _)
    exact good_write (ih (by omega)) ok _ _ _ hx.2.1.1
theorem run_len (L : List Rg) (l : List Ac) : ∀ k, (runN L l k).length = L.length := by
  intro k
  induction k with
  | zero => exact newL_len L
  | succ k ih => unfold runN; rw [keep_rows]; exact ih
theorem run_row (L : List Rg) (l : List Ac) : ∀ k j, ((runN L l k).getD j []).length ≤ 64 := by
  intro k
  induction k with
  | zero =>
    intro j
    by_cases hj : j < L.length
    · show ((newL L).getD j []).length ≤ 64
      rw [newL_at L j hj, List.length_replicate]; exact szN_le _
    · show ((newL L).getD j []).length ≤ 64
      rw [List.getD_eq_getElem?_getD, List.getElem?_eq_none (by rw [newL_len]; omega)]; exact Nat.zero_le _
  | succ k ih => exact wr_rows L _ _ _ _ 64 ih
/-- The cell of x holds what was written to it last, reduced. -/
theorem run_cell {L : List Rg} (ok : OkL L) (l : List Ac) (hl : ∀ x ∈ l, AcOk x) (q t : Nat) (x : Ac) (h1 : x.1 = q) (h2 : x.2.1 = t) (hq : q < L.length) (ht : (t : Int) < (L.getD q rz).2.2) :
    ∀ k, k ≤ l.length → ((runN L l k).getD q []).getD t 0 = redB (wantN l x k) (L.getD q rz).2.1 := by
  intro k
  induction k with
  | zero =>
    intro _
    show ((newL L).getD q []).getD t 0 = redB 0 (L.getD q rz).2.1
    rw [newL_at L q hq]
    rw [rep_zero, redB_in 0 _ (of_decide_eq_true (ok q hq).1)]
    simp
  | succ k ih =>
    intro hk
    have IH := ih (by omega)
    have gd := good_run ok l hl k (by omega)
    have hx : AcOk (l.getD k az) := by
      rw [List.getD_eq_getElem?_getD, List.getElem?_eq_getElem (by omega)]; exact hl _ (List.getElem_mem _)
    show ((writeL L (runN L l k) (l.getD k az).1 (l.getD k az).2.1 (l.getD k az).2.2).getD q []).getD t 0 = redB (if (l.getD k az).1 = x.1 ∧ (l.getD k az).2.1 = x.2.1 then (l.getD k az).2.2 else wantN l x k) (L.getD q rz).2.1
    obtain ⟨y, hy⟩ : ∃ y, y = l.getD k az := ⟨_, rfl⟩
    rw [← hy] at hx ⊢
    clear hy
    cases hc : cellB L (runN L l k) y.1 y.2.1
    · rw [write_no _ _ _ _ _ hc, if_neg, IH]
      rintro ⟨e1, e2⟩
      rw [e1, e2, h1, h2, cell_iff] at hc
      have gs := gd.size q hq
      exact of_decide_eq_false hc ⟨hq, by rw [gd.len]; exact hq, ht, by omega⟩
    · have c := of_decide_eq_true (show decide _ = true from hc)
      obtain ⟨p, hp⟩ : ∃ p : Nat, y.1 = p := ⟨y.1.toNat, by omega⟩
      obtain ⟨s, hs⟩ : ∃ s : Nat, y.2.1 = s := ⟨y.2.1.toNat, by have := hx.2.1.1; omega⟩
      rw [hp, hs] at hc c ⊢
      have hpl : p < L.length := by omega
      rw [write_yes L _ p s _ hc (ok p hpl).1, h1, h2]
      by_cases e : q = p
      · subst e
        rw [getD_set_at _ _ _ _ (by rw [gd.len]; exact hq), getD_set_row]
        by_cases e2 : t = s
        · subst e2
          rw [if_pos ⟨rfl, by have := c.2.2.2.2; simp at this; exact this⟩, if_pos ⟨rfl, rfl⟩]
        · rw [if_neg (fun q => e2 q.1), if_neg (fun q => e2 (by have := q.2; omega)), IH]
      · rw [getD_set_off _ _ _ _ _ e, if_neg (fun k => e (by have := k.1; omega)), IH]
theorem read_in {L : List Rg} {R : List (List Int)} (h : Good L R) (q t : Nat) (hq : q < L.length) (ht : (t : Int) < (L.getD q rz).2.2) : readL L R q t = (R.getD q []).getD t 0 := by
  refine read_yes L R q t ?_
  rw [cell_iff]
  have := h.size q hq
  exact decide_eq_true ⟨hq, by rw [h.len]; exact hq, ht, by omega⟩
theorem xor_red (v wd : Int) (v0 : 0 ≤ v) (v1 : v < 4294967296) (h : 1 ≤ wd ∧ wd ≤ 32) : bits .and .u32 (bits .xor .u32 (redB v wd) v) (mkB wd) = 0 := by
  obtain ⟨n, rfl⟩ := Int.eq_ofNat_of_zero_le v0
  have hn : n < 4294967296 := by omega
  obtain ⟨k, hk⟩ : ∃ k, k = wd.toNat := ⟨_, rfl⟩
  have e1 : redB (n : Int) wd = ((n % 2 ^ k : Nat) : Int) := by
    rw [redB_in _ wd h, ← hk]
    simp
  have hm : n % 2 ^ k < 4294967296 := Nat.lt_of_le_of_lt (Nat.mod_le _ _) hn
  have e2 := u32_xor_nat (n % 2 ^ k) n hm hn
  have hx : (n % 2 ^ k) ^^^ n < 4294967296 := Nat.xor_lt_two_pow (n := 32) hm hn
  rw [e1, e2, and_mask _ wd (by omega) (by omega), redB_in _ wd h, ← hk]
  have e3 : ((n % 2 ^ k) ^^^ n) % 2 ^ k = 0 := by
    rw [Nat.xor_mod_two_pow, Nat.mod_mod, Nat.xor_self]
  have e4 : (((n % 2 ^ k) ^^^ n : Nat) : Int) % 2 ^ k = ((((n % 2 ^ k) ^^^ n) % 2 ^ k : Nat) : Int) := by simp
  rw [e4, e3]
  rfl
end Go.Proofs.Ytjbimeahcldaoaa
