/- Expr: two contexts that agree on what the nodes read give the same value: plain facts. -/
import Derived.Test.YtdbjeihbfooipaaSqK
import Derived.Test.YtdbjeihbfooipaaSqD
import Derived.Test.YtdbjeihbfooipaaExQ
namespace Go.Proofs.Ytdbjeihbfooipaa
open Go.RowKit
set_option linter.unusedVariables false
/-- The two contexts agree on a node: on its field, on its header. -/
def AgrN (C D : Cx) (x : Nd) : Prop := (x.1 = 2 → getE C.V C.F C.T x.2.1 x.2.2 = getE D.V D.F D.T x.2.1 x.2.2) ∧ (x.1 = 4 → validB C.V x.2.1 = validB D.V x.2.1)
theorem dep_leaf {C D : Cx} (h : Same C D) (hA : C.A = D.A) {x : Nd} (hx : AgrN C D x) (hb : arB x.1 = true) (h0 : arN x.1 = 0) : leafT C x = leafT D x := by
  obtain ⟨h1, h2, h3⟩ := h
  unfold leafT
  by_cases a1 : x.1 = 1
  · rw [if_pos a1, if_pos a1]
  · rw [if_neg a1, if_neg a1]
    by_cases a2 : x.1 = 2
    · rw [if_pos a2, if_pos a2]
      unfold fieldT
      rw [← h1, ← h2, hx.1 a2]
    · rw [if_neg a2, if_neg a2]
      by_cases a3 : x.1 = 3
      · rw [if_pos a3, if_pos a3]
        unfold paramT
        rw [← h3, ← hA]
      · rw [if_neg a3, if_neg a3]
        have a4 : x.1 = 4 := by
          unfold arB at hb
          have hb := of_decide_eq_true hb
          unfold arN at h0
          rw [if_pos hb] at h0
          by_cases q : x.1 ≤ 4
          · omega
          · rw [if_neg q] at h0
            split at h0
            · omega
            · split at h0 <;> omega
        unfold validT
        rw [← h1, hx.2 a4]
theorem dep_node {C D : Cx} (h : Same C D) (hA : C.A = D.A) {x : Nd} (hx : AgrN C D x) (hb : arB x.1 = true) (ts : List Tm) : nodeT C x ts = nodeT D x ts := by
  unfold nodeT
  by_cases a0 : arN x.1 = 0
  · rw [if_pos a0, if_pos a0]; exact dep_leaf h hA hx hb a0
  · rw [if_neg a0, if_neg a0]
theorem dep_many {P : Nd → Prop} {g1 g2 : List Nd → Except Int (Tm × List Nd)} (hg : ∀ l, (∀ x ∈ l, P x) → g1 l = g2 l) (hs : ∀ l t l', g1 l = .ok (t, l') → ∃ p, l = p ++ l') :
    ∀ k l, (∀ x ∈ l, P x) → manyT g1 k l = manyT g2 k l ∧ ∀ ts l', manyT g1 k l = .ok (ts, l') → ∃ p, l = p ++ l' := by
  intro k
  induction k with
  | zero =>
    intro l _
    refine ⟨rfl, fun ts l' h => ?_⟩
    unfold manyT at h
    cases h
    exact ⟨[], rfl⟩
  | succ k ih =>
    intro l hl
    obtain ⟨i1, i2⟩ := ih l hl
    unfold manyT
    rw [← i1]
    cases h1 : manyT g1 k l with
    | error e => exact ⟨rfl, fun ts l' h => by cases h⟩
    | ok r =>
      obtain ⟨ts, l1⟩ := r
      obtain ⟨p, hp⟩ := i2 ts l1 h1
      have hl1 : ∀ x ∈ l1, P x := fun x hx => hl x (by rw [hp]; exact List.mem_append_right _ hx)
      dsimp only
      rw [← hg l1 hl1]
      refine ⟨rfl, fun ts2 l' h => ?_⟩
      cases h3 : g1 l1 with
      | error e => rw [h3] at h; cases h
      | ok r2 =>
        obtain ⟨t, l2⟩ := r2
        rw [h3] at h
        cases h
        obtain ⟨q, hq⟩ := hs _ _ _ h3
        exact ⟨p ++ q, by rw [hp, hq, List.append_assoc]⟩
theorem dep_sub {C D : Cx} (h : Same C D) (hA : C.A = D.A) : ∀ f l, (∀ x ∈ l, AgrN C D x) → subT C f l = subT D f l := by
  intro f
  induction f with
  | zero => intro l _; rfl
  | succ f ih =>
    intro l hl
    cases l with
    | nil => rfl
    | cons x l =>
      have hl2 : ∀ y ∈ l, AgrN C D y := fun y hy => hl y (List.mem_cons_of_mem _ hy)
      have i := (dep_many ih (fun l t l' h => (sub_ok C f l t l' h).2.2) (arN x.1) l hl2).1
      unfold subT
      by_cases hb : arB x.1 = true
      · rw [if_pos hb, if_pos hb, ← i]
        cases h1 : manyT (subT C f) (arN x.1) l with
        | error e => rfl
        | ok r =>
          obtain ⟨ts, l1⟩ := r
          dsimp only
          rw [dep_node h hA (hl x (List.mem_cons_self ..)) hb ts]
      · rw [if_neg hb, if_neg hb]
theorem dep_whole {C D : Cx} (h : Same C D) (hA : C.A = D.A) (N : List Nd) (hN : ∀ x ∈ N, AgrN C D x) : wholeT C N = wholeT D N := by
  unfold wholeT
  rw [dep_sub h hA _ N hN]
theorem aF_mem (N : List Nd) (x : Nd) (hx : x ∈ N) (h : x.1 = 2) : x.2 ∈ aF N := by
  unfold aF
  rw [(allA_ok toR (refsL N)).2]
  unfold refsL
  exact List.mem_map.2 ⟨x, List.mem_filter.2 ⟨hx, by simp [h]⟩, rfl⟩
theorem aHs_mem (N : List Nd) (x : Nd) (hx : x ∈ N) (h : x.1 = 4) : x.2.1 ∈ aHs N := by
  unfold aHs
  rw [(allA_ok toI (vH N)).2]
  unfold vH
  exact List.mem_filterMap.2 ⟨x, hx, by simp [h]⟩
/-- Agreement on the fields and the headers that are read. -/
theorem dep_lists {C D : Cx} (h : Same C D) (hA : C.A = D.A) (N : List Nd) (hF : ∀ j, j < (aF N).length → getE C.V C.F C.T ((aF N).getD j rz).1 ((aF N).getD j rz).2 = getE D.V D.F D.T ((aF N).getD j rz).1 ((aF N).getD j rz).2)
    (hH : ∀ j, j < (aHs N).length → validB C.V ((aHs N).getD j 0) = validB D.V ((aHs N).getD j 0)) : wholeT C N = wholeT D N := by
  refine dep_whole h hA N (fun x hx => ⟨fun h2 => ?_, fun h4 => ?_⟩)
  · obtain ⟨j, hj, e⟩ := List.getElem_of_mem (aF_mem N x hx h2)
    have q := hF j hj
    rw [List.getD_eq_getElem?_getD, List.getElem?_eq_getElem hj, Option.getD_some, e] at q
    exact q
  · obtain ⟨j, hj, e⟩ := List.getElem_of_mem (aHs_mem N x hx h4)
    have q := hH j hj
    rw [List.getD_eq_getElem?_getD, List.getElem?_eq_getElem hj, Option.getD_some, e] at q
    exact q
end Go.Proofs.Ytdbjeihbfooipaa
