/- Parser: what a run keeps: sizes, states; no condition. -/
import Derived.Test.YtjhknmklejkknaaPsX
namespace Go.Proofs.Ytjhknmklejkknaa
open Go.RowKit
set_option linter.unusedVariables false
/-- What a parse keeps. -/
theorem pGo_keeps {H : List (ByteArray × List Fld)} {bs : List Int} {S : List Pst} (hz9 : HZ H) : ∀ (f i : Nat) (st : List Int) (L : EL) (p : Nat), p ≤ 8 * bs.length → p % 8 = 0 → (∀ j, (L.F.getD j []).length ≤ 1000) →
    (pGo H bs S f i st L p).2.2.1.V.length = L.V.length ∧ (pGo H bs S f i st L p).2.2.1.F.length = L.F.length ∧ (pGo H bs S f i st L p).2.2.1.T = L.T ∧ (pGo H bs S f i st L p).2.2.1.P = L.P ∧ (∀ j, ((pGo H bs S f i st L p).2.2.1.F.getD j []).length ≤ 1000) ∧ (pGo H bs S f i st L p).2.2.2 ≤ 8 * bs.length ∧ (pGo H bs S f i st L p).2.2.2 % 8 = 0 := by
  intro f
  induction f with
  | zero => intro i st L p hp h8 hr; exact ⟨rfl, rfl, rfl, rfl, hr, hp, h8⟩
  | succ f ih =>
    intro i st L p hp h8 hr
    obtain ⟨a, b, c, d, e, g⟩ := pExs_keeps (H := H) (bs := bs) (S.getD i psz).ex (L := L) (pos := p) hp h8
    have r := pExs_rows (H := H) (bs := bs) hz9 (S.getD i psz).ex (L := L) (pos := p) hp h8 hr
    rw [pGo_step _ rfl _ rfl]
    split
    · split
      · exact ⟨c, d, e, g, r, a, b⟩
      · split
        · exact ⟨c, d, e, g, r, a, b⟩
        · obtain ⟨a2, b2, c2, d2, e2, g2, h2⟩ := ih _ (st ++ [_]) _ _ a b r
          exact ⟨a2.trans c, b2.trans d, c2.trans e, d2.trans g, e2, g2, h2⟩
    · exact ⟨c, d, e, g, r, a, b⟩
theorem newE_rows {H : List (ByteArray × List Fld)} {M : List Fld} (hz9 : HZ H) (j : Nat) : ((newE H M).F.getD j []).length ≤ 1000 := by
  by_cases hj : j < H.length
  · rw [newE_row H M j hj, List.length_replicate, List.getD_eq_getElem?_getD, List.getElem?_eq_getElem hj]; exact hz9.fl _ (List.getElem_mem hj)
  · rw [List.getD_eq_getElem?_getD, List.getElem?_eq_none (by simp [newE]; omega)]; simp
theorem pRun_size {H : List (ByteArray × List Fld)} {M : List Fld} {S : List Pst} {bs : List Int} (hz9 : HZ H) (e0 : Int) : (pRun H M S bs e0).1.V.length = H.length ∧ (pRun H M S bs e0).1.F.length = H.length ∧ (pRun H M S bs e0).1.T = List.replicate M.length 0 ∧ (∀ j, ((pRun H M S bs e0).1.F.getD j []).length ≤ 1000) ∧ (pRun H M S bs e0).1.P.length ≤ bs.length := by
  have n1 : (newE H M).V.length = H.length := by simp [newE]
  have n2 : (newE H M).F.length = H.length := by simp [newE]
  obtain ⟨a, b, c, d, e, g, h⟩ := pGo_keeps (bs := bs) (S := S) hz9 12 0 [0] (newE H M) 0 (Nat.zero_le _) rfl (newE_rows hz9)
  unfold pRun
  split
  · exact ⟨n1, n2, rfl, newE_rows hz9, Nat.zero_le _⟩
  split
  · exact ⟨n1, n2, rfl, newE_rows hz9, Nat.zero_le _⟩
  · refine ⟨a.trans n1, b.trans n2, c, e, ?_⟩
    show (restR bs _).2.length ≤ bs.length
    unfold restR
    split
    · rw [List.length_drop]; omega
    · simp
/-- What a program that is not too large gives. -/
theorem tlz_hz {hn mn sn : Nat} {H : List (ByteArray × List Fld)} {S : List Pst} (t : TLz hn mn sn H S) : HZ H :=
  ⟨fun x hx => by
    obtain ⟨j, hj, rfl⟩ := List.mem_iff_getElem.1 hx
    have q := t.n j
    rw [List.getD_eq_getElem?_getD, List.getElem?_eq_getElem hj] at q
    exact ⟨Nat.le_trans q.1 (by decide), fun p hp => Nat.le_trans (q.2 p hp) (by decide)⟩,
   fun x hx => by
    obtain ⟨j, hj, rfl⟩ := List.mem_iff_getElem.1 hx
    have q := t.f j
    rw [List.getD_eq_getElem?_getD, List.getElem?_eq_getElem hj] at q
    exact Nat.le_trans q (by decide)⟩
end Go.Proofs.Ytjhknmklejkknaa
