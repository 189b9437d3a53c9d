/- Parser: what a run keeps: sizes, states; no condition. -/
import Derived.Test.YtngobkghcogahaaPsX
namespace Go.Proofs.Ytngobkghcogahaa
open Go.RowKit
set_option linter.unusedVariables false
/-- What a parse keeps. -/
theorem pGo_keeps {H : List (ByteArray × List Fld)} {bs : List Int} {S : List Pst} (hz9 : HZ H) : ∀ (f i : Nat) (st : List Int) (L : EL) (p : Nat), p ≤ 8 * bs.length → p % 8 = 0 → (∀ j, (L.F.getD j []).length ≤ 1000) →
    (pGo H bs S f i st L p).2.2.1.V.length = L.V.length ∧ (pGo H bs S f i st L p).2.2.1.F.length = L.F.length ∧ (pGo H bs S f i st L p).2.2.1.T = L.T ∧ (pGo H bs S f i st L p).2.2.1.P = L.P ∧ (∀ j, ((pGo H bs S f i st L p).2.2.1.F.getD j []).length ≤ 1000) ∧ (pGo H bs S f i st L p).2.2.2 ≤ 8 * bs.length ∧ (pGo H bs S f i st L p).2.2.2 % 8 = 0 := by
  intro f
  induction f with
  | zero => intro i st L p hp h8 hr; exact ⟨rfl, rfl, rfl, rfl, hr, hp, h8⟩
  | succ f ih =>
    intro i st L p hp h8 hr
    obtain ⟨a, b, c, d, e, g⟩ := pExs_keeps (H := H) (bs := bs) (S.getD i psz).ex (L := L) (pos := p) hp h8
    have r := pExs_rows (H := H) (bs := bs) hz9 (S.getD i psz).ex (L := L) (pos := p) hp h8 hr
    rw [pGo_step _ rfl _ rfl]
    split
    · split
      · exact ⟨c, d, e, g, r, a, b⟩
      · split
        · exact ⟨c, d, e, g, r, a, b⟩
        · obtain ⟨a2, b2, c2, d2, e2, g2, h2⟩ := ih _ (st ++ [_]) _ _ a b r
          exact ⟨a2.trans c, b2.trans d, c2.trans e, d2.trans g, e2, g2, h2⟩
    · exact ⟨c, d, e, g, r, a, b⟩
theorem newE_rows {H : List (ByteArray × List Fld)} {M : List Fld} (hz9 : HZ H) (j : Nat) : ((newE H M).F.getD j []).length ≤ 1000 := by
  by_cases hj : j < H.length
  · rw [newE_row H M j hj, List.length_replicate, List.getD_eq_getElem?_getD, List.getElem?_eq_getElem hj]; exact hz9.fl _ (List.getElem_mem hj)
  · rw [List.getD_eq_getElem?_getD, List.getElem?_eq_none (by simp [newE]; omega)]; simp
theorem pRun_size {H : List (ByteArray × List Fld)} {M : List Fld} {S : List Pst} {bs : List Int} (hz9 : HZ H) (e0 : Int) : (pRun H M S bs e0).1.V.length = H.length ∧ (pRun H M S bs e0).1.F.length = H.length ∧ (pRun H M S bs e0).1.T = List.replicate M.length 0 ∧ (∀ j, ((pRun H M S bs e0).1.F.getD j []).length ≤ 1000) ∧ (pRun H M S bs e0).1.P.length ≤ bs.length := by
  have n1 : (newE H M).V.length = H.length := by simp [newE]
  have n2 : (newE H M).F.length = H.length := by simp [newE]
  obtain ⟨a, b, c, d, e, g, h⟩ := pGo_keeps (bs := bs) (S := S) hz9 12 0 [0] (newE H M) 0 (Nat.zero_le _) rfl (newE_rows hz9)
  unfold pRun
  split
  · exact ⟨n1, n2, rfl, newE_rows hz9, Nat.zero_le _⟩
  split
  · exact ⟨n1, n2, rfl, newE_rows hz9, Nat.zero_le _⟩
  · refine ⟨a.trans n1, b.trans n2, c, e, ?_⟩
    show (restR bs _).2.length ≤ bs.length
    unfold restR
    split
    · rw [List.length_drop]; omega
    · simp
/-- States in ascending order, the first one first. -/
structure Asc (n : Nat) (l : List Int) : Prop where
  rng : ∀ x ∈ l, 0 ≤ x ∧ x < n
  asc : l.Pairwise (· < ·)
  ne : 0 < l.length
  fst : l.getD 0 0 = 0
theorem pGo_asc {H : List (ByteArray × List Fld)} {M : List Fld} {bs : List Int} {S : List Pst} (ok : statesOk H M S) : ∀ (f i : Nat) (st : List Int) (L : EL) (p : Nat), i < S.length → Asc S.length st → (∀ x ∈ st, x ≤ (i : Int)) → Asc S.length (pGo H bs S f i st L p).2.1 := by
  intro f
  induction f with
  | zero => intro i st L p hi h _; exact h
  | succ f ih =>
    intro i st L p hi h hl
    rw [pGo_step _ rfl _ rfl]
    split
    · split
      · exact h
      · split
        · exact h
        · rename_i h2 h1
          have xr := (nxB_iff _ _ _).1 (next_ok (ok.2.2 i hi) (getE (pExs H bs (S.getD i psz).ex L p).2.1.V (pExs H bs (S.getD i psz).ex L p).2.1.F (pExs H bs (S.getD i psz).ex L p).2.1.T (S.getD i psz).h (S.getD i psz).f))
          generalize pNext (S.getD i psz).cs (S.getD i psz).df (getE (pExs H bs (S.getD i psz).ex L p).2.1.V (pExs H bs (S.getD i psz).ex L p).2.1.F (pExs H bs (S.getD i psz).ex L p).2.1.T (S.getD i psz).h (S.getD i psz).f) = x at *
          have xb : (i : Int) < x ∧ x < S.length := by omega
          refine ih x.toNat (st ++ [x]) _ _ (by omega) ⟨fun y hy => ?_, ?_, by simp, ?_⟩ (fun y hy => ?_)
          · rcases List.mem_append.1 hy with q | q
            · exact h.rng y q
            · simp at q; subst q; omega
          · rw [List.pairwise_append]
            refine ⟨h.asc, by simp, fun a ha b hb => ?_⟩
            simp at hb
            subst hb
            have := hl a ha
            omega
          · have := h.ne
            rw [List.getD_eq_getElem?_getD, List.getElem?_append_left this, ← List.getD_eq_getElem?_getD]
            exact h.fst
          · rcases List.mem_append.1 hy with q | q
            · have := hl y q; omega
            · simp at q; subst q; omega
    · exact h
theorem pRun_states {H : List (ByteArray × List Fld)} {M : List Fld} {S : List Pst} {bs : List Int} {e0 : Int} (h : e0 = 0 → statesOk H M S) : (e0 ≠ 0 ∧ (pRun H M S bs e0).2.1 = [] ∧ (pRun H M S bs e0).2.2 = e0) ∨ (e0 = 0 ∧ Asc S.length (pRun H M S bs e0).2.1) := by
  by_cases h0 : e0 = 0
  · have ok := h h0
    have q := pGo_asc (bs := bs) ok 12 0 [0] (newE H M) 0 ok.1 ⟨fun x hx => by simp at hx; subst hx; have := ok.1; omega, by simp, by simp, rfl⟩ (fun x hx => by simp at hx; subst hx; simp)
    refine .inr ⟨h0, ?_⟩
    unfold pRun
    rw [if_neg (by simp [h0])]
    split
    · exact q
    · exact q
  · refine .inl ⟨h0, ?_⟩
    unfold pRun
    rw [if_pos h0]
    exact ⟨rfl, rfl⟩
theorem pRun_rng {H : List (ByteArray × List Fld)} {M : List Fld} {S : List Pst} {bs : List Int} {e0 : Int} (h : e0 = 0 → statesOk H M S) (hs : S.length ≤ 1000000) : ∀ x ∈ (pRun H M S bs e0).2.1, -9223372036854775808 ≤ x ∧ x ≤ 9223372036854775807 := by
  intro x hx
  rcases pRun_states (bs := bs) h with ⟨_, q, _⟩ | ⟨_, q⟩
  · rw [q] at hx; cases hx
  · have := q.rng x hx; omega
theorem asc_len {n : Nat} : ∀ (l : List Int) (k : Nat), (∀ x ∈ l, (k : Int) ≤ x ∧ x < n) → l.Pairwise (· < ·) → l.length + k ≤ n ∨ l = [] := by
  intro l
  induction l with
  | nil => intro k _ _; exact .inr rfl
  | cons a t ih =>
    intro k h p
    have ha := h a (by simp)
    obtain ⟨p1, p2⟩ := List.pairwise_cons.1 p
    rcases ih (a.toNat + 1) (fun x hx => ⟨by have := p1 x hx; omega, (h x (by simp [hx])).2⟩) p2 with q | q
    · left; simp only [List.length_cons]; omega
    · subst q; left; simp only [List.length_cons, List.length_nil]; omega
theorem pRun_len {H : List (ByteArray × List Fld)} {M : List Fld} {S : List Pst} {bs : List Int} {e0 : Int} (h : e0 = 0 → statesOk H M S) (hs : S.length ≤ 100000) : (pRun H M S bs e0).2.1.length ≤ 100000 := by
  rcases pRun_states (bs := bs) h with ⟨_, q, _⟩ | ⟨_, q⟩
  · rw [q]; simp
  · rcases asc_len (n := S.length) _ 0 (fun x hx => by have := q.rng x hx; omega) q.asc with z | z
    · omega
    · rw [z]; simp
/-- What a program that is not too large gives. -/
theorem tlz_hz {hn mn sn : Nat} {H : List (ByteArray × List Fld)} {S : List Pst} (t : TLz hn mn sn H S) : HZ H :=
  ⟨fun x hx => by
    obtain ⟨j, hj, rfl⟩ := List.mem_iff_getElem.1 hx
    have q := t.n j
    rw [List.getD_eq_getElem?_getD, List.getElem?_eq_getElem hj] at q
    exact ⟨Nat.le_trans q.1 (by decide), fun p hp => Nat.le_trans (q.2 p hp) (by decide)⟩,
   fun x hx => by
    obtain ⟨j, hj, rfl⟩ := List.mem_iff_getElem.1 hx
    have q := t.f j
    rw [List.getD_eq_getElem?_getD, List.getElem?_eq_getElem hj] at q
    exact Nat.le_trans q (by decide)⟩
theorem tlz_nz {hn mn sn : Nat} {H : List (ByteArray × List Fld)} {S : List Pst} (t : TLz hn mn sn H S) (i : Nat) : (S.getD i psz).nm.size ≤ 9223372036854775807 := Nat.le_trans (t.z i) (by decide)
end Go.Proofs.Ytngobkghcogahaa
