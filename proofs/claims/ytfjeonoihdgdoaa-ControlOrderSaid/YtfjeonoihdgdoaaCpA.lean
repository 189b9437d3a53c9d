/- Control: what an execution applies is a part of all tables in their order; where a node's branches lie in the order of nodes; theory; no condition. -/
import Derived.Test.YtfjeonoihdgdoaaMgc
namespace Go.Proofs.Ytfjeonoihdgdoaa
open Go.RowKit
set_option linter.unusedVariables false
theorem tabL_cons (x : CV) (l : List CV) : tabL (x :: l) = if appl x then x.t :: tabL l else tabL l := by
  unfold tabL
  cases h : appl x <;> simp [h]
/-- The tables of an execution are the tables so far and a part of the tree's, in order. -/
theorem runT_tabs (A : List Bool) : ∀ (T : CT) (st : WS), ∃ L : List Int, (runT (CW A) T st).tb = st.tb ++ L ∧ L.Sublist (tabL T.pre) := by
  intro T
  induction T with
  | nil => intro st; exact ⟨[], by simp [runT], List.nil_sublist _⟩
  | cons k t c N s th u el r i1 i2 i3 =>
    intro st
    have hp : tabL (CT.cons k t c N s th u el r).pre = if appl ⟨k, t, c, N, s, th, u, el⟩ then t :: (tabL th.pre ++ (tabL el.pre ++ tabL r.pre)) else tabL th.pre ++ (tabL el.pre ++ tabL r.pre) := by
      show tabL (⟨k, t, c, N, s, th, u, el⟩ :: (th.pre ++ (el.pre ++ r.pre))) = _
      rw [tabL_cons, tabL_app, tabL_app]
    rw [hp, runT]
    by_cases k1 : k = 1
    · subst k1
      rw [if_pos rfl]
      obtain ⟨L, e, hs⟩ := i3 ((CW A).ap t st).2
      refine ⟨t :: L, ?_, ?_⟩
      · rw [e]; show (st.tb ++ [t]) ++ L = _; simp
      · rw [if_pos (show appl ⟨1, t, c, N, s, th, u, el⟩ = true from rfl)]
        exact List.Sublist.cons_cons t (List.Sublist.trans hs (List.Sublist.trans (List.sublist_append_right _ _) (List.sublist_append_right _ _)))
    · rw [if_neg k1]
      by_cases k3 : k = 3
      · subst k3
        rw [if_pos rfl, if_pos (show appl ⟨3, t, c, N, s, th, u, el⟩ = true from rfl)]
        have hx : ((CW A).ap t st).2.tb = st.tb ++ [t] := rfl
        cases hb : ((CW A).ap t st).1
        · rw [if_neg (by decide)]
          obtain ⟨L1, e1, s1⟩ := i2 ((CW A).ap t st).2
          obtain ⟨L2, e2, s2⟩ := i3 (runT (CW A) el ((CW A).ap t st).2)
          refine ⟨t :: (L1 ++ L2), ?_, ?_⟩
          · rw [e2, e1, hx]; simp
          · exact List.Sublist.cons_cons t (List.Sublist.trans (List.Sublist.append s1 s2) (List.sublist_append_right _ _))
        · rw [if_pos rfl]
          obtain ⟨L1, e1, s1⟩ := i1 ((CW A).ap t st).2
          obtain ⟨L2, e2, s2⟩ := i3 (runT (CW A) th ((CW A).ap t st).2)
          refine ⟨t :: (L1 ++ L2), ?_, ?_⟩
          · rw [e2, e1, hx]; simp
          · exact List.Sublist.cons_cons t (List.Sublist.append s1 (List.Sublist.trans s2 (List.sublist_append_right _ _)))
      · rw [if_neg k3]
        have hna : appl ⟨k, t, c, N, s, th, u, el⟩ = false := by unfold appl; simp [k1, k3]
        rw [hna, if_neg (show ¬ (false = true) from by decide)]
        by_cases k2 : k = 2
        · subst k2
          rw [if_pos rfl]
          have hx : ((CW A).ts N.length st).2.tb = st.tb := rfl
          cases hb : ((CW A).ts N.length st).1
          · rw [if_neg (by decide)]
            obtain ⟨L1, e1, s1⟩ := i2 ((CW A).ts N.length st).2
            obtain ⟨L2, e2, s2⟩ := i3 (runT (CW A) el ((CW A).ts N.length st).2)
            refine ⟨L1 ++ L2, ?_, ?_⟩
            · rw [e2, e1, hx]; simp
            · exact List.Sublist.trans (List.Sublist.append s1 s2) (List.sublist_append_right _ _)
          · rw [if_pos rfl]
            obtain ⟨L1, e1, s1⟩ := i1 ((CW A).ts N.length st).2
            obtain ⟨L2, e2, s2⟩ := i3 (runT (CW A) th ((CW A).ts N.length st).2)
            refine ⟨L1 ++ L2, ?_, ?_⟩
            · rw [e2, e1, hx]; simp
            · exact List.Sublist.append s1 (List.Sublist.trans s2 (List.sublist_append_right _ _))
        · rw [if_neg k2]
          obtain ⟨L, e, hs⟩ := i3 st
          exact ⟨L, e, List.Sublist.trans hs (List.Sublist.trans (List.sublist_append_right _ _) (List.sublist_append_right _ _))⟩
theorem sub_start (A : List Bool) (T : CT) : (runT (CW A) T ⟨0, [], []⟩).tb.Sublist (tabL T.pre) := by
  obtain ⟨L, e, h⟩ := runT_tabs A T ⟨0, [], []⟩
  rw [e]; simpa using h
theorem sub_hit {P Q : List Int} {i a : Nat} (hi : i < Q.length) (ha : a < P.length) (h : (P.drop a).Sublist (Q.drop i)) (e : Q.getD i 0 = P.getD a 0) : (P.drop (a + 1)).Sublist (Q.drop (i + 1)) := by
  rw [List.drop_eq_getElem_cons hi, List.drop_eq_getElem_cons ha] at h
  have e2 : Q[i] = P[a] := by simpa [hi, ha] using e
  rw [e2] at h
  exact List.cons_sublist_cons.1 h
theorem sub_miss {P Q : List Int} {i a : Nat} (hi : i < Q.length) (ha : a < P.length) (h : (P.drop a).Sublist (Q.drop i)) (e : ¬ Q.getD i 0 = P.getD a 0) : (P.drop a).Sublist (Q.drop (i + 1)) := by
  rw [List.drop_eq_getElem_cons hi] at h
  rcases List.sublist_cons_iff.1 h with q | ⟨r, q, _⟩
  · exact q
  · exfalso
    apply e
    rw [List.drop_eq_getElem_cons ha] at q
    injection q with q1 q2
    simp [hi, ha, q1]
theorem sub_end {P Q : List Int} {i a : Nat} (hi : Q.length ≤ i) (h : (P.drop a).Sublist (Q.drop i)) : P.length ≤ a := by
  rw [List.drop_of_length_le hi] at h
  have := List.sublist_nil.1 h
  have l := congrArg List.length this
  simp at l
  omega
/-- What follows a node in the order of nodes: its branches. -/
theorem pre_drop : ∀ (T : CT) (i : Nat), i < T.cnt → ∃ rest, T.pre.drop i = T.pre.getD i cz :: ((T.pre.getD i cz).th.pre ++ ((T.pre.getD i cz).el.pre ++ rest)) := by
  intro T
  induction T with
  | nil => intro i h; exact absurd h (Nat.not_lt_zero _)
  | cons k t c N s th u el r i1 i2 i3 =>
    intro i h
    have hc : (CT.cons k t c N s th u el r).cnt = 1 + th.cnt + el.cnt + r.cnt := CV.cnt_ct ⟨k, t, c, N, s, th, u, el⟩ r
    have hp : (CT.cons k t c N s th u el r).pre = ⟨k, t, c, N, s, th, u, el⟩ :: (th.pre ++ (el.pre ++ r.pre)) := rfl
    rw [hp]
    cases i with
    | zero => exact ⟨r.pre, rfl⟩
    | succ i =>
      rw [List.drop_succ_cons, List.getD_cons_succ]
      have l1 : th.pre.length = th.cnt := rfl
      have l2 : el.pre.length = el.cnt := rfl
      have l3 : r.pre.length = r.cnt := rfl
      by_cases q1 : i < th.cnt
      · obtain ⟨rest, e⟩ := i1 i q1
        refine ⟨rest ++ (el.pre ++ r.pre), ?_⟩
        have g : (th.pre ++ (el.pre ++ r.pre)).getD i cz = th.pre.getD i cz := by
          simp only [List.getD_eq_getElem?_getD]
          rw [List.getElem?_append_left (by omega)]
        rw [g, List.drop_append_of_le_length (by omega), e]
        simp
      · have g : (th.pre ++ (el.pre ++ r.pre)).getD i cz = (el.pre ++ r.pre).getD (i - th.cnt) cz := by
          simp only [List.getD_eq_getElem?_getD]
          rw [List.getElem?_append_right (by omega), l1]
        have d : (th.pre ++ (el.pre ++ r.pre)).drop i = (el.pre ++ r.pre).drop (i - th.cnt) := by
          rw [List.drop_append, List.drop_of_length_le (l := th.pre) (by omega), l1, List.nil_append]
        rw [g, d]
        by_cases q2 : i - th.cnt < el.cnt
        · obtain ⟨rest, e⟩ := i2 (i - th.cnt) q2
          refine ⟨rest ++ r.pre, ?_⟩
          have g2 : (el.pre ++ r.pre).getD (i - th.cnt) cz = el.pre.getD (i - th.cnt) cz := by
            simp only [List.getD_eq_getElem?_getD]
            rw [List.getElem?_append_left (by omega)]
          rw [g2, List.drop_append_of_le_length (by omega), e]
          simp
        · obtain ⟨rest, e⟩ := i3 (i - th.cnt - el.cnt) (by omega)
          refine ⟨rest, ?_⟩
          have g2 : (el.pre ++ r.pre).getD (i - th.cnt) cz = r.pre.getD (i - th.cnt - el.cnt) cz := by
            simp only [List.getD_eq_getElem?_getD]
            rw [List.getElem?_append_right (by omega), l2]
          have d2 : (el.pre ++ r.pre).drop (i - th.cnt) = r.pre.drop (i - th.cnt - el.cnt) := by
            rw [List.drop_append, List.drop_of_length_le (l := el.pre) (by omega), l2, List.nil_append]
          rw [g2, d2, e]
theorem below_lt {T : CT} {i : Nat} (h : i < T.cnt) : i + ((T.pre.getD i cz).th.cnt + (T.pre.getD i cz).el.cnt) < T.cnt := by
  obtain ⟨rest, e⟩ := pre_drop T i h
  have l := congrArg List.length e
  rw [List.length_drop, List.length_cons, List.length_append, List.length_append] at l
  have l0 : T.pre.length = T.cnt := rfl
  have l1 : (T.pre.getD i cz).th.pre.length = (T.pre.getD i cz).th.cnt := rfl
  have l2 : (T.pre.getD i cz).el.pre.length = (T.pre.getD i cz).el.cnt := rfl
  omega
theorem next_th {T : CT} {i : Nat} (h : i < T.cnt) {y : CV} {r : CT} (e : (T.pre.getD i cz).th = y.ct r) : T.pre.getD (i + 1) cz = y := by
  obtain ⟨rest, q⟩ := pre_drop T i h
  have q2 : T.pre.drop (i + 1) = y :: ((y.th.pre ++ (y.el.pre ++ r.pre)) ++ ((T.pre.getD i cz).el.pre ++ rest)) := by
    have a : T.pre.drop (i + 1) = (T.pre.drop i).drop 1 := by rw [List.drop_drop]
    rw [a, q, List.drop_succ_cons, List.drop_zero, e]
    rfl
  have a : (T.pre.drop (i + 1)).getD 0 cz = y := by rw [q2]; rfl
  simpa [List.getD_eq_getElem?_getD] using a
/-- The tables of the first i nodes, one node more. -/
theorem tab_step {T : CT} {i : Nat} (h : i < T.cnt) : tabL (T.pre.take (i + 1)) = if appl (T.pre.getD i cz) then tabL (T.pre.take i) ++ [(T.pre.getD i cz).t] else tabL (T.pre.take i) := by
  have hl : i < T.pre.length := h
  have e : T.pre.take (i + 1) = T.pre.take i ++ [T.pre.getD i cz] := by
    rw [List.take_add_one, List.getElem?_eq_getElem hl]
    simp [List.getD_eq_getElem?_getD, List.getElem?_eq_getElem hl]
  rw [e]
  cases ha : appl (T.pre.getD i cz)
  · rw [tabL_no _ _ ha, if_neg (by decide)]
  · rw [tabL_yes _ _ ha, if_pos rfl]
theorem tab_here {T : CT} {i : Nat} (h : i < T.cnt) (ha : appl (T.pre.getD i cz) = true) : (tabL (T.pre.take i)).length < (tabL T.pre).length ∧ (tabL T.pre).getD (tabL (T.pre.take i)).length 0 = (T.pre.getD i cz).t := by
  have hl : i < T.pre.length := h
  have e : T.pre = T.pre.take i ++ (T.pre.getD i cz :: T.pre.drop (i + 1)) := by
    have q := List.take_append_drop i T.pre
    rw [List.drop_eq_getElem_cons hl] at q
    have g : T.pre.getD i cz = T.pre[i] := by simp [List.getD_eq_getElem?_getD, List.getElem?_eq_getElem hl]
    rw [g]; exact q.symm
  have e2 : tabL T.pre = tabL (T.pre.take i) ++ ((T.pre.getD i cz).t :: tabL (T.pre.drop (i + 1))) := by
    conv => lhs; rw [e]
    rw [tabL_app, tabL_cons, if_pos ha]
  rw [e2]
  refine ⟨by simp, ?_⟩
  rw [List.getD_eq_getElem?_getD, List.getElem?_append_right (Nat.le_refl _)]
  simp
theorem eqv_ct2 {x : CV} {r U : CT} (h : (x.ct r).eqv U) : ∃ (z : CV) (q : CT), U = z.ct q ∧ x.k = z.k ∧ x.t = z.t := by
  cases U with
  | nil => exact h.elim
  | cons k t c N s th u el r2 => exact ⟨⟨k, t, c, N, s, th, u, el⟩, r2, rfl, h.1, h.2.1⟩
theorem eqv_nil' {U : CT} (h : CT.nil.eqv U) : U = .nil := by
  cases U with
  | nil => rfl
  | cons => exact h.elim
theorem ct_inj {x y : CV} {r q : CT} (h : x.ct r = y.ct q) : x.k = y.k ∧ x.t = y.t := by
  injection h with a b
  exact ⟨a, b⟩
end Go.Proofs.Ytfjeonoihdgdoaa
