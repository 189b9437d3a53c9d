/- Expr: a subexpression stands on its own, and a constant may stand for it: plain facts. -/
import Derived.Test.YtlbigajhkcnemaaExO
namespace Go.Proofs.Ytlbigajhkcnemaa
open Go.RowKit
set_option linter.unusedVariables false
/-- The subexpression at the head, with fuel enough. -/
def sT (C : Cx) (l : List Nd) : Except Int (Tm × List Nd) := subT C (l.length + 1) l
theorem sT_cons (C : Cx) (x : Nd) (l : List Nd) : sT C (x :: l) = if arB x.1 = true then (match manyT (sT C) (arN x.1) l with
      | .error e => .error e
      | .ok (ts, l1) => match nodeT C x ts with
        | .error e => .error e
        | .ok t => .ok (t, l1)) else .error 11 := by
  have h := (many_same (g1 := subT C (l.length + 1)) (g2 := sT C) l.length (fun l2 h2 => sub_fuel C _ _ l2 (by omega) (by omega)) (fun l2 t l' h => (sub_ok C _ l2 t l' h).2.1) (arN x.1) l (Nat.le_refl _)).1
  show subT C (l.length + 1 + 1) (x :: l) = _
  unfold subT
  rw [h]
  rfl
theorem sT_ok {C : Cx} {l l' : List Nd} {t : Tm} (h : sT C l = .ok (t, l')) : GT t ∧ l'.length < l.length ∧ ∃ p, l = p ++ l' := sub_ok C _ _ _ _ h
/-- What stands behind a subexpression does not count. -/
def Tail (g : List Nd → Except Int (Tm × List Nd)) (n : Nat) : Prop := ∀ l t l', l.length ≤ n → g l = .ok (t, l') → ∃ p, l = p ++ l' ∧ ∀ r, g (p ++ r) = .ok (t, r)
theorem many_tail {g : List Nd → Except Int (Tm × List Nd)} {n : Nat} (hg : Tail g n) : ∀ k l ts l', l.length ≤ n → manyT g k l = .ok (ts, l') → ∃ p, l = p ++ l' ∧ ∀ r, manyT g k (p ++ r) = .ok (ts, r) := by
  intro k
  induction k with
  | zero => intro l ts l' _ h; unfold manyT at h; cases h; exact ⟨[], rfl, fun r => rfl⟩
  | succ k ih =>
    intro l ts l' hl h
    unfold manyT at h
    split at h
    · cases h
    · rename_i ts1 l1 h1
      split at h
      · cases h
      · rename_i t l2 h2
        cases h
        obtain ⟨p, hp, hr⟩ := ih l ts1 l1 hl h1
        have hl1 : l1.length ≤ n := by rw [hp, List.length_append] at hl; omega
        obtain ⟨q, hq, hs⟩ := hg l1 t _ hl1 h2
        refine ⟨p ++ q, by rw [hp, hq, List.append_assoc], fun r => ?_⟩
        rw [List.append_assoc]
        exact many_step (hr (q ++ r)) (hs r)
theorem sT_tail (C : Cx) : ∀ n, Tail (sT C) n := by
  intro n
  induction n with
  | zero =>
    intro l t l' hl h
    have := (sT_ok h).2.1
    omega
  | succ n ih =>
    intro l t l' hl h
    cases l with
    | nil => cases h
    | cons x l =>
      rw [sT_cons] at h
      rw [List.length_cons] at hl
      split at h
      · rename_i hx
        split at h
        · cases h
        · rename_i ts l1 h1
          split at h
          · cases h
          · rename_i t2 h2
            cases h
            obtain ⟨p, hp, hr⟩ := many_tail ih (arN x.1) l ts _ (by omega) h1
            refine ⟨x :: p, by rw [hp]; rfl, fun r => ?_⟩
            rw [List.cons_append, sT_cons, if_pos hx, hr r]
            dsimp only
            rw [h2]
      · cases h
/-- A constant that comes to t. -/
def kN (t : Tm) : Nd := (1, t.2, t.1)
theorem sT_const {C : Cx} {t : Tm} (h : GT t) (r : List Nd) : sT C (kN t :: r) = .ok (t, r) := by
  rw [sT_cons, if_pos (show arB (kN t).1 = true from (by decide : arB 1 = true))]
  have e : nodeT C (kN t) [] = .ok t := by
    unfold nodeT
    rw [if_pos (show arN (kN t).1 = 0 from (by decide : arN 1 = 0))]
    show constT t.2 t.1 = _
    unfold constT
    have := mkB_in t.1 h.1
    have h2 := h.2
    rw [if_pos h.1, if_pos ⟨h2.1, by omega⟩]
  rw [show manyT (sT C) (arN (kN t).1) r = .ok ([], r) from rfl]
  dsimp only
  rw [e]
def Repl (C : Cx) (n : Nat) : Prop := ∀ l t l', l.length ≤ n → sT C l = .ok (t, l') → ∀ A B, l = A ++ B → l'.length < B.length → ∃ u B', sT C B = .ok (u, B') ∧ l'.length ≤ B'.length ∧ sT C (A ++ kN u :: B') = .ok (t, l')
theorem many_repl {C : Cx} {n : Nat} (hg : Repl C n) : ∀ k l ts l', l.length ≤ n → manyT (sT C) k l = .ok (ts, l') → ∀ A B, l = A ++ B → l'.length < B.length → ∃ u B', sT C B = .ok (u, B') ∧ l'.length ≤ B'.length ∧ manyT (sT C) k (A ++ kN u :: B') = .ok (ts, l') := by
  intro k
  induction k with
  | zero =>
    intro l ts l' _ h A B e hb
    unfold manyT at h
    cases h
    rw [e, List.length_append] at hb
    omega
  | succ k ih =>
    intro l ts l' hl h A B e hb
    unfold manyT at h
    split at h
    · cases h
    · rename_i ts1 l1 h1
      split at h
      · cases h
      · rename_i t l2 h2
        cases h
        obtain ⟨p, hp, hr⟩ := many_tail (sT_tail C n) k l ts1 l1 hl h1
        have hl1 : l1.length ≤ n := by rw [hp, List.length_append] at hl; omega
        have s2 := (sT_ok h2).2.1
        by_cases hc : l1.length < B.length
        · obtain ⟨u, B', i1, i2, i3⟩ := ih l ts1 l1 hl h1 A B e hc
          exact ⟨u, B', i1, by omega, many_step i3 h2⟩
        · have e2 : p ++ l1 = A ++ B := by rw [← hp]; exact e
          have e3 : ∃ A2, A = p ++ A2 ∧ l1 = A2 ++ B := by
            rcases List.append_eq_append_iff.1 e2 with ⟨a, ha, hb2⟩ | ⟨c, hc1, hc2⟩
            · exact ⟨a, ha, hb2⟩
            · have : c = [] := by
                have := congrArg List.length hc2
                rw [List.length_append] at this
                exact List.length_eq_zero_iff.1 (by omega)
              subst this
              exact ⟨[], by rw [List.append_nil]; simpa using hc1.symm, by simpa using hc2.symm⟩
          obtain ⟨A2, rfl, e4⟩ := e3
          obtain ⟨u, B', j1, j2, j3⟩ := hg l1 t _ hl1 h2 A2 B e4 hb
          refine ⟨u, B', j1, j2, ?_⟩
          rw [List.append_assoc]
          exact many_step (hr _) j3
theorem sT_repl (C : Cx) : ∀ n, Repl C n := by
  intro n
  induction n with
  | zero =>
    intro l t l' hl h
    have := (sT_ok h).2.1
    omega
  | succ n ih =>
    intro l t l' hl h A B e hb
    cases A with
    | nil =>
      rw [List.nil_append] at e
      subst e
      exact ⟨t, l', h, Nat.le_refl _, sT_const (sT_ok h).1 l'⟩
    | cons x A =>
      rw [List.cons_append] at e
      subst e
      rw [sT_cons] at h
      rw [List.length_cons] at hl
      split at h
      · rename_i hx
        split at h
        · cases h
        · rename_i ts l1 h1
          split at h
          · cases h
          · rename_i t2 h2
            cases h
            obtain ⟨u, B', i1, i2, i3⟩ := many_repl ih (arN x.1) (A ++ B) ts _ (by omega) h1 A B rfl hb
            refine ⟨u, B', i1, i2, ?_⟩
            rw [List.cons_append, sT_cons, if_pos hx, i3]
            dsimp only
            rw [h2]
      · cases h
theorem whole_sT (C : Cx) (N : List Nd) (t : Tm) : wholeT C N = .ok t ↔ N.length ≤ 24 ∧ sT C N = .ok (t, []) := by
  rw [whole_iff]
  constructor
  · rintro ⟨h1, h2⟩
    refine ⟨h1, ?_⟩
    rw [← h2]
    exact sub_fuel C _ _ N (by omega) (by omega)
  · rintro ⟨h1, h2⟩
    refine ⟨h1, ?_⟩
    rw [← h2]
    exact sub_fuel C _ _ N (by omega) (by omega)
/-- What the law asks: the end, the part on its own, and the whole with a constant in its place. -/
theorem repl_whole {C : Cx} {N : List Nd} {t : Tm} (h : wholeT C N = .ok t) (at_ : Nat) (ha : at_ < N.length) :
    ∃ (u : Tm) (to : Nat), endT N (at_ : Int) = (to : Int) ∧ at_ < to ∧ to ≤ N.length ∧ GT u ∧ wholeT C ((N.drop at_).take (to - at_)) = .ok u ∧ wholeT C (N.take at_ ++ ([kN u] ++ N.drop to)) = .ok t := by
  obtain ⟨hn, hs⟩ := (whole_sT C N t).1 h
  have hd : 0 < (N.drop at_).length := by rw [List.length_drop]; omega
  obtain ⟨u, B', h1, h2, h3⟩ := sT_repl C N.length N t [] (Nat.le_refl _) hs (N.take at_) (N.drop at_) (List.take_append_drop _ _).symm hd
  obtain ⟨gu, hb, p, hp⟩ := sT_ok h1
  have lb : (N.drop at_).length = N.length - at_ := List.length_drop
  have lp : p.length + B'.length = N.length - at_ := by rw [← lb, hp, List.length_append]
  have p0 : 0 < p.length := by omega
  have sc := scan_sub C _ _ _ _ h1 1 (at_ : Int) (by decide)
  rw [if_pos rfl] at sc
  have pt : (N.drop at_).take p.length = p := by rw [hp]; simp
  have pd : N.drop (at_ + p.length) = B' := by rw [← List.drop_drop, hp]; simp
  refine ⟨u, at_ + p.length, ?_, by omega, by omega, gu, ?_, ?_⟩
  · unfold endT
    have hx : isX (at_ : Int) N.length = true := by unfold isX; exact decide_eq_true ⟨by omega, by omega⟩
    rw [if_pos hx, Int.toNat_natCast, sc]
    omega
  · rw [show at_ + p.length - at_ = p.length by omega, pt]
    obtain ⟨q, hq, hr⟩ := sT_tail C _ _ _ _ (Nat.le_refl _) h1
    have qp : q = p := List.append_cancel_right (hq.symm.trans hp)
    subst qp
    rw [whole_sT]
    refine ⟨by omega, ?_⟩
    have := hr []
    rwa [List.append_nil] at this
  · rw [pd, whole_sT]
    refine ⟨?_, h3⟩
    rw [List.length_append, List.length_append, List.length_take]
    simp only [List.length_cons, List.length_nil]
    omega
end Go.Proofs.Ytlbigajhkcnemaa
