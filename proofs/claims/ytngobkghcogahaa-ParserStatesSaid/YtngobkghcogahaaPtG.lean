/- Parser: which headers a run makes valid, and that its packet is valid; no condition. -/
import Derived.Test.YtngobkghcogahaaPtF
import Derived.Test.YtngobkghcogahaaEvQ
namespace Go.Proofs.Ytngobkghcogahaa
open Go.RowKit
set_option linter.unusedVariables false
/-- The headers that are extracted. -/
def mark (V : List Bool) (ex : List Int) : List Bool := ex.foldl (fun V h => V.set h.toNat true) V
def markS (S : List Pst) (V : List Bool) (l : List Int) : List Bool := l.foldl (fun V s => mark V (S.getD s.toNat psz).ex) V
theorem mark_len : ∀ (ex : List Int) (V : List Bool), (mark V ex).length = V.length := by
  intro ex
  induction ex with
  | nil => intro V; rfl
  | cons h t ih => intro V; show (mark (V.set h.toNat true) t).length = _; rw [ih, List.length_set]
theorem markS_len {S : List Pst} : ∀ (l : List Int) (V : List Bool), (markS S V l).length = V.length := by
  intro l
  induction l with
  | nil => intro V; rfl
  | cons s t ih => intro V; show (markS S (mark V _) t).length = _; rw [ih, mark_len]
theorem mark_snoc (V : List Bool) (ex : List Int) (h : Int) : mark V (ex ++ [h]) = (mark V ex).set h.toNat true := by simp [mark, List.foldl_append]
theorem markS_snoc (S : List Pst) (V : List Bool) (l : List Int) (s : Int) : markS S V (l ++ [s]) = mark (markS S V l) (S.getD s.toNat psz).ex := by simp [markS, List.foldl_append]
theorem pEx_zero {H : List (ByteArray × List Fld)} {bs : List Int} {L : EL} {pos h : Nat} (q : (pEx H bs L pos h).1 = 0) : (rdH (H.getD h hz).1 (H.getD h hz).2 bs pos).1 = 0 ∧ (pEx H bs L pos h).2.1 = ⟨L.V.set h true, L.F.set h (rdH (H.getD h hz).1 (H.getD h hz).2 bs pos).2.1, L.T, L.P⟩ := by
  unfold pEx at q ⊢
  by_cases c : (rdH (H.getD h hz).1 (H.getD h hz).2 bs pos).1 = 0
  · rw [if_pos c]; exact ⟨c, rfl⟩
  · rw [if_neg c] at q; exact absurd q c
theorem pExs_mark {H : List (ByteArray × List Fld)} {bs : List Int} : ∀ (ex : List Int) (L : EL) (p : Nat), (pExs H bs ex L p).1 = 0 → (pExs H bs ex L p).2.1.V = mark L.V ex := by
  intro ex
  induction ex with
  | nil => intro L p _; rfl
  | cons h t ih =>
    intro L p q
    unfold pExs at q ⊢
    by_cases c : (pEx H bs L p h.toNat).1 = 0
    · rw [if_pos c] at q ⊢
      rw [ih _ _ q, (pEx_zero c).2]; rfl
    · rw [if_neg c] at q; exact absurd q c
theorem pGo_mark {H : List (ByteArray × List Fld)} {M : List Fld} {bs : List Int} {S : List Pst} (ok : statesOk H M S) : ∀ (f i : Nat) (st : List Int) (L : EL) (p : Nat), i < S.length → S.length ≤ i + f → (pGo H bs S f i st L p).1 = 0 →
    ∃ rest, (pGo H bs S f i st L p).2.1 = st ++ rest ∧ (pGo H bs S f i st L p).2.2.1.V = markS S (mark L.V (S.getD i psz).ex) rest := by
  intro f
  induction f with
  | zero => intro i st L p hi hf _; omega
  | succ f ih =>
    intro i st L p hi hf q
    rw [pGo_step _ rfl _ rfl] at q ⊢
    by_cases c : (pExs H bs (S.getD i psz).ex L p).1 = 0
    · have xr := (nxB_iff _ _ _).1 (next_ok (ok.2.2 i hi) (getE (pExs H bs (S.getD i psz).ex L p).2.1.V (pExs H bs (S.getD i psz).ex L p).2.1.F (pExs H bs (S.getD i psz).ex L p).2.1.T (S.getD i psz).h (S.getD i psz).f))
      have mk := pExs_mark _ _ _ c
      generalize pNext (S.getD i psz).cs (S.getD i psz).df (getE (pExs H bs (S.getD i psz).ex L p).2.1.V (pExs H bs (S.getD i psz).ex L p).2.1.F (pExs H bs (S.getD i psz).ex L p).2.1.T (S.getD i psz).h (S.getD i psz).f) = x at *
      rw [if_pos c] at q ⊢
      by_cases h2 : x = -2
      · rw [if_pos h2] at q; exact absurd (show (15 : Int) = 0 from q) (by decide)
      rw [if_neg h2] at q ⊢
      by_cases h1 : x = -1
      · rw [if_pos h1]; exact ⟨[], by simp, mk⟩
      rw [if_neg h1] at q ⊢
      have xb : (i : Int) < x ∧ x < S.length := by omega
      obtain ⟨rest, e1, e2⟩ := ih x.toNat (st ++ [x]) _ _ (by omega) (by omega) q
      refine ⟨x :: rest, by rw [e1]; simp, ?_⟩
      rw [e2, mk]
      rfl
    · rw [if_neg c] at q; exact absurd q c
theorem pRun_mark {H : List (ByteArray × List Fld)} {M : List Fld} {bs : List Int} {S : List Pst} (ok : statesOk H M S) (q : (pRun H M S bs 0).2.2 = 0) : (pRun H M S bs 0).1.V = markS S (List.replicate H.length false) (pRun H M S bs 0).2.1 := by
  have z : ¬ ((0 : Int) ≠ 0) := by simp
  unfold pRun at q ⊢
  rw [if_neg z] at q ⊢
  by_cases h : (pGo H bs S 12 0 [0] (newE H M) 0).1 = 0
  · have h2 : ¬ (pGo H bs S 12 0 [0] (newE H M) 0).1 ≠ 0 := fun x => x h
    obtain ⟨rest, e1, e2⟩ := pGo_mark (bs := bs) ok 12 0 [0] (newE H M) 0 ok.1 (by have := ok.2.1; omega) h
    rw [if_neg h2]
    show (pGo H bs S 12 0 [0] (newE H M) 0).2.2.1.V = markS S _ (pGo H bs S 12 0 [0] (newE H M) 0).2.1
    rw [e1, e2]
    rfl
  · rw [if_pos h] at q; exact absurd q h
/-- The error codes. -/
theorem pExs_code {H : List (ByteArray × List Fld)} {bs : List Int} (ho : hdsOk H) : ∀ (ex : List Int) (L : EL) (p : Nat), (∀ x ∈ ex, ∃ k : Nat, x = (k : Int) ∧ k < H.length) → (pExs H bs ex L p).1 = 0 ∨ (pExs H bs ex L p).1 = 3 := by
  intro ex
  induction ex with
  | nil => intro L p _; exact .inl rfl
  | cons h t ih =>
    intro L p hx
    unfold pExs
    split
    · exact ih _ _ (fun x hx2 => hx x (by simp [hx2]))
    · rename_i c
      right
      obtain ⟨k, rfl, hk⟩ := hx h (by simp)
      rw [Int.toNat_natCast] at c ⊢
      have c0 : chkH (H.getD k hz).1 (H.getD k hz).2 = 0 := ho _ (by rw [List.getD_eq_getElem?_getD, List.getElem?_eq_getElem hk]; exact List.getElem_mem _)
      unfold pEx at c ⊢
      by_cases r : (rdH (H.getD k hz).1 (H.getD k hz).2 bs p).1 = 0
      · rw [if_pos r] at c; exact absurd rfl c
      · rw [if_neg r]
        show (rdH (H.getD k hz).1 (H.getD k hz).2 bs p).1 = 3
        unfold rdH at r ⊢
        have c2 : ¬ ¬ chkH (H.getD k hz).1 (H.getD k hz).2 = 0 := fun x => x c0
        rw [if_neg c2] at r ⊢
        split
        · rfl
        · rename_i q; rw [if_neg q] at r; exact absurd rfl r
theorem pGo_code {H : List (ByteArray × List Fld)} {M : List Fld} {bs : List Int} {S : List Pst} (ok : statesOk H M S) (ho : hdsOk H) : ∀ (f i : Nat) (st : List Int) (L : EL) (p : Nat), i < S.length → (pGo H bs S f i st L p).1 = 0 ∨ (pGo H bs S f i st L p).1 = 3 ∨ (pGo H bs S f i st L p).1 = 15 := by
  intro f
  induction f with
  | zero => intro i st L p _; exact .inl rfl
  | succ f ih =>
    intro i st L p hi
    have e := pExs_code (bs := bs) ho _ L p (decl_ok (ok.2.2 i hi).1).1
    have xr := (nxB_iff _ _ _).1 (next_ok (ok.2.2 i hi) (getE (pExs H bs (S.getD i psz).ex L p).2.1.V (pExs H bs (S.getD i psz).ex L p).2.1.F (pExs H bs (S.getD i psz).ex L p).2.1.T (S.getD i psz).h (S.getD i psz).f))
    rw [pGo_step _ rfl _ rfl]
    split
    · split
      · exact .inr (.inr rfl)
      · split
        · exact .inl rfl
        · rename_i h2 h1
          exact ih _ _ _ _ (by omega)
    · rename_i c
      rcases e with q | q
      · exact absurd q c
      · exact .inr (.inl q)
theorem pRun_code {H : List (ByteArray × List Fld)} {M : List Fld} {bs : List Int} {S : List Pst} (ok : statesOk H M S) (ho : hdsOk H) : (pRun H M S bs 0).2.2 = 0 ∨ (pRun H M S bs 0).2.2 = 3 ∨ (pRun H M S bs 0).2.2 = 15 := by
  have z : ¬ ((0 : Int) ≠ 0) := by simp
  unfold pRun
  rw [if_neg z]
  split
  · exact pGo_code ok ho 12 0 [0] (newE H M) 0 ok.1
  · exact .inl rfl
/-- The packet is that of New where the run fails. -/
theorem pRun_new {H : List (ByteArray × List Fld)} {M : List Fld} {bs : List Int} {S : List Pst} {e0 : Int} (q : (pRun H M S bs e0).2.2 ≠ 0) : (pRun H M S bs e0).1 = newE H M := by
  unfold pRun at q ⊢
  split
  · rfl
  · rename_i h
    rw [if_neg h] at q
    split
    · rfl
    · rename_i c; rw [if_neg c] at q; exact absurd rfl q
/-- A packet of a parse is valid. -/
def envV (H : List (ByteArray × List Fld)) (M : List Fld) (L : EL) : Prop := shP H M L ∧ ftP (dclL H M) (L.T :: L.F) ∧ zrP L
theorem env_take {H : List (ByteArray × List Fld)} {M : List Fld} {L : EL} (he : envV H M L) {k : Nat} (hk : k < H.length) (us : List Int) (hl : us.length = (H.getD k hz).2.length) (hu : ∀ j, j < (H.getD k hz).2.length → us.getD j 0 ≤ mkB ((H.getD k hz).2.getD j fz).2) :
    envV H M ⟨L.V.set k true, L.F.set k us, L.T, L.P⟩ := by
  obtain ⟨s1, s2, s3, s4⟩ := (shP_iff H M L).1 he.1
  have hkF : k < L.F.length := by omega
  refine ⟨(shP_iff H M _).2 ⟨by rw [List.length_set]; exact s1, by rw [List.length_set]; exact s2, s3, fun i hi => ?_⟩, fun i hi j hj => ?_, fun h hh => ?_⟩
  · by_cases e : i = k
    · subst e; rw [getD_set_at _ _ _ _ hkF]; exact hl
    · rw [getD_set_off _ _ _ _ _ e]; exact s4 i hi
  · rw [dcl_len] at hi
    cases i with
    | zero => exact he.2.1 0 (by rw [dcl_len]; omega) j hj
    | succ i =>
      have e1 : (dclL H M).getD (i + 1) [] = (H.getD i hz).2 := by simp [dclL, show i < H.length by omega]
      have e2 : (L.T :: L.F.set k us).getD (i + 1) [] = (L.F.set k us).getD i [] := by simp
      have e3 : (L.T :: L.F).getD (i + 1) [] = L.F.getD i [] := by simp
      have old := he.2.1 (i + 1) (by rw [dcl_len]; omega) j hj
      show ((L.T :: L.F.set k us).getD (i + 1) []).getD j 0 ≤ _
      rw [e2]
      by_cases e : i = k
      · subst e
        rw [getD_set_at _ _ _ _ hkF, e1]
        rw [e1] at hj
        exact hu j hj
      · rw [getD_set_off _ _ _ _ _ e]
        rw [e3] at old
        exact old
  · rw [List.length_set] at hh
    by_cases e : h = k
    · subst e; left; exact getD_set_at _ _ _ _ (by omega)
    · rw [getD_set_off _ _ _ _ _ e, getD_set_off _ _ _ _ _ e]; exact he.2.2 h hh
theorem mkB_pos (w : Int) : 0 ≤ mkB w := by
  unfold mkB
  split
  · have : (0 : Int) < 2 ^ w.toNat := Int.pow_pos (by decide)
    omega
  · omega
theorem env_new (H : List (ByteArray × List Fld)) (M : List Fld) : envV H M (newE H M) := by
  have rz : ∀ (n j : Nat), (List.replicate n (0 : Int)).getD j 0 = 0 := fun n j => by
    by_cases h : j < n
    · simp [h]
    · rw [List.getD_eq_getElem?_getD, List.getElem?_eq_none (by simp; omega)]; rfl
  refine ⟨(shP_iff H M _).2 ⟨by simp [newE], by simp [newE], by simp [newE], fun i hi => by rw [newE_row H M i hi, List.length_replicate]⟩, fun i hi j hj => ?_, fun h hh => ?_⟩
  · rw [dcl_len] at hi
    cases i with
    | zero => show (List.replicate M.length (0 : Int)).getD j 0 ≤ _; rw [rz]; exact mkB_pos _
    | succ i =>
      have e2 : ((newE H M).T :: (newE H M).F).getD (i + 1) [] = (newE H M).F.getD i [] := by simp
      rw [e2, newE_row H M i (by omega), rz]; exact mkB_pos _
  · right
    rw [newE_row H M h (by simpa [newE] using hh)]
    simp
theorem rd_fits {hs : ByteArray} {l : List Fld} {bs : List Int} {pos : Nat} (h : (rdH hs l bs pos).1 = 0) : (rdH hs l bs pos).2.1.length = l.length ∧ ∀ j, j < l.length → (rdH hs l bs pos).2.1.getD j 0 ≤ mkB (l.getD j fz).2 := by
  unfold rdH at h ⊢
  by_cases c : chkH hs l = 0
  · have c2 : ¬ ¬ chkH hs l = 0 := fun x => x c
    rw [if_neg c2] at h ⊢
    split
    · rename_i q; rw [if_pos q] at h; cases h
    · obtain ⟨_, _, _, _, g⟩ := chk_ok hs l c
      refine ⟨by rw [numsB_len, wsL_len], fun j hj => ?_⟩
      show (numsB bs pos (wsL l)).getD j 0 ≤ _
      rw [nums_at bs _ _ _ (by rw [wsL_len]; exact hj), wsL_get l j hj]
      have w1 : 1 ≤ (l.getD j fz).2 ∧ (l.getD j fz).2 ≤ 32 := by
        rw [← wsL_get l j hj, List.getD_eq_getElem?_getD, List.getElem?_eq_getElem (by rw [wsL_len]; exact hj)]
        exact g _ (List.getElem_mem _)
      rw [mkB_in _ w1]
      have := (accB_range bs (pos + sumL ((wsL l).take j)) ((l.getD j fz).2).toNat).2
      omega
  · rw [if_pos c] at h; exact absurd h c
theorem pExs_env {H : List (ByteArray × List Fld)} {M : List Fld} {bs : List Int} : ∀ (ex : List Int) (L : EL) (p : Nat), (∀ x ∈ ex, ∃ k : Nat, x = (k : Int) ∧ k < H.length) → envV H M L → envV H M (pExs H bs ex L p).2.1 := by
  intro ex
  induction ex with
  | nil => intro L p _ h; exact h
  | cons h t ih =>
    intro L p hx he
    unfold pExs
    obtain ⟨k, rfl, hk⟩ := hx h (by simp)
    rw [Int.toNat_natCast]
    by_cases c : (pEx H bs L p k).1 = 0
    · rw [if_pos c]
      obtain ⟨r, e⟩ := pEx_zero c
      obtain ⟨l1, l2⟩ := rd_fits r
      refine ih _ _ (fun x hx2 => hx x (by simp [hx2])) ?_
      rw [e]
      exact env_take he hk _ l1 l2
    · rw [if_neg c]
      unfold pEx at c ⊢
      by_cases r : (rdH (H.getD k hz).1 (H.getD k hz).2 bs p).1 = 0
      · rw [if_pos r] at c; exact absurd rfl c
      · rw [if_neg r]; exact he
theorem pGo_env {H : List (ByteArray × List Fld)} {M : List Fld} {bs : List Int} {S : List Pst} (ok : statesOk H M S) : ∀ (f i : Nat) (st : List Int) (L : EL) (p : Nat), i < S.length → envV H M L → envV H M (pGo H bs S f i st L p).2.2.1 := by
  intro f
  induction f with
  | zero => intro i st L p _ h; exact h
  | succ f ih =>
    intro i st L p hi he
    have e := pExs_env (bs := bs) _ L p (decl_ok (ok.2.2 i hi).1).1 he
    have xr := (nxB_iff _ _ _).1 (next_ok (ok.2.2 i hi) (getE (pExs H bs (S.getD i psz).ex L p).2.1.V (pExs H bs (S.getD i psz).ex L p).2.1.F (pExs H bs (S.getD i psz).ex L p).2.1.T (S.getD i psz).h (S.getD i psz).f))
    rw [pGo_step _ rfl _ rfl]
    split
    · split
      · exact e
      · split
        · exact e
        · rename_i h2 h1
          exact ih _ _ _ _ (by omega) e
    · exact e
theorem pRun_env {H : List (ByteArray × List Fld)} {M : List Fld} {bs : List Int} {S : List Pst} {e0 : Int} (ok : e0 = 0 → statesOk H M S) : chkE H M (pRun H M S bs e0).1 0 := by
  have q : envV H M (pRun H M S bs e0).1 := by
    unfold pRun
    split
    · exact env_new H M
    · rename_i h
      have h0 : e0 = 0 := by
        rcases Int.decEq e0 0 with x | x
        · exact absurd x h
        · exact x
      have ok := ok h0
      split
      · exact env_new H M
      · have e := pGo_env (bs := bs) ok 12 0 [0] (newE H M) 0 ok.1 (env_new H M)
        exact ⟨(shP_iff H M _).2 ((shP_iff H M _).1 e.1), e.2.1, e.2.2⟩
  exact .inr (.inr (.inr ⟨q.1, q.2.1, q.2.2, rfl⟩))
end Go.Proofs.Ytngobkghcogahaa
