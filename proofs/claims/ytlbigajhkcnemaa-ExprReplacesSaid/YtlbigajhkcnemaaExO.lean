/- Expr: expressions put together: complement, difference, slices: plain facts. -/
import Derived.Test.YtlbigajhkcnemaaExQ
namespace Go.Proofs.Ytlbigajhkcnemaa
open Go.RowKit
set_option linter.unusedVariables false
theorem many_app {g : List Nd → Except Int (Tm × List Nd)} (r : List Nd) (hg : ∀ l t l', g l = .ok (t, l') → g (l ++ r) = .ok (t, l' ++ r)) : ∀ k l ts l', manyT g k l = .ok (ts, l') → manyT g k (l ++ r) = .ok (ts, l' ++ r) := by
  intro k
  induction k with
  | zero => intro l ts l' h; unfold manyT at h ⊢; cases h; rfl
  | succ k ih =>
    intro l ts l' h
    unfold manyT at h
    split at h
    · cases h
    · rename_i ts1 l1 h1
      split at h
      · cases h
      · rename_i t l2 h2
        cases h
        exact many_step (ih l ts1 l1 h1) (hg l1 t _ h2)
theorem sub_app (C : Cx) (r : List Nd) : ∀ f l t l', subT C f l = .ok (t, l') → subT C f (l ++ r) = .ok (t, l' ++ r) := by
  intro f
  induction f with
  | zero => intro l t l' h; unfold subT at h; cases h
  | succ f ih =>
    intro l t l' h
    cases l with
    | nil => unfold subT at h; cases h
    | cons x l =>
      unfold subT at h
      rw [List.cons_append]
      unfold subT
      split at h
      · rename_i hb
        rw [if_pos hb]
        split at h
        · cases h
        · rename_i ts l1 h1
          rw [many_app r ih _ _ _ _ h1]
          split at h
          · cases h
          · rename_i t2 h2
            cases h
            dsimp only
            rw [h2]
      · cases h
theorem whole_iff (C : Cx) (N : List Nd) (t : Tm) : wholeT C N = .ok t ↔ N.length ≤ 24 ∧ subT C 25 N = .ok (t, []) := by
  unfold wholeT
  constructor
  · intro h
    split at h
    · cases h
    · rename_i hn
      have hf := sub_fuel C (N.length + 1) 25 N (by omega) (by omega)
      split at h
      · cases h
      · rename_i u l h2
        split at h
        · rename_i hl
          cases h
          subst hl
          exact ⟨by omega, by rw [← hf]; exact h2⟩
        · cases h
  · rintro ⟨hn, h⟩
    rw [if_neg (by omega), sub_fuel C (N.length + 1) 25 N (by omega) (by omega), h]
    rfl
theorem cons1 {C : Cx} {x : Nd} {l l' : List Nd} {a t : Tm} (hx : arB x.1 = true) (h1 : arN x.1 = 1) (hl : l.length ≤ 23) (ha : subT C 25 l = .ok (a, l')) (hu : unT x a = .ok t) : subT C 25 (x :: l) = .ok (t, l') := by
  have ha' : subT C 24 l = .ok (a, l') := by rw [sub_fuel C 24 25 l (by omega) (by omega)]; exact ha
  have hm : manyT (subT C 24) 1 l = .ok ([a], l') := many_step (ts := []) rfl ha'
  show (if arB x.1 = true then _ else _) = _
  rw [if_pos hx, h1, hm]
  have hn : nodeT C x [a] = .ok t := by
    unfold nodeT
    rw [if_neg (by omega), if_pos h1]
    exact hu
  show (match nodeT C x [a] with | .error e => _ | .ok t => _) = _
  rw [hn]
theorem cons2 {C : Cx} {x : Nd} {l l1 l2 : List Nd} {a b t : Tm} (hx : arB x.1 = true) (h1 : arN x.1 = 2) (hl : l.length ≤ 23) (ha : subT C 25 l = .ok (a, l1)) (hb : subT C 25 l1 = .ok (b, l2)) (hu : binT x.1 a b = .ok t) : subT C 25 (x :: l) = .ok (t, l2) := by
  have ha' : subT C 24 l = .ok (a, l1) := by rw [sub_fuel C 24 25 l (by omega) (by omega)]; exact ha
  have ll := (sub_ok C _ _ _ _ ha').2.1
  have hb' : subT C 24 l1 = .ok (b, l2) := by rw [sub_fuel C 24 25 l1 (by omega) (by omega)]; exact hb
  have hm : manyT (subT C 24) 2 l = .ok ([a, b], l2) := many_step (ts := [a]) (many_step (ts := []) rfl ha') hb'
  show (if arB x.1 = true then _ else _) = _
  rw [if_pos hx, h1, hm]
  have hn : nodeT C x [a, b] = .ok t := by
    unfold nodeT
    rw [if_neg (by omega), if_neg (by omega), if_pos h1]
    exact hu
  show (match nodeT C x [a, b] with | .error e => _ | .ok t => _) = _
  rw [hn]
theorem not_not {t : Tm} (h : GT t) : notB (notB t.2 t.1) t.1 = t.2 := by
  unfold notB
  rw [redB_sub_right, show -1 - (-1 - t.2) = t.2 by omega]
  exact redB_small _ _ h.1 h.2.1 h.2.2
theorem alg_not {C : Cx} {N : List Nd} {t : Tm} (h : wholeT C N = .ok t) (hl : N.length ≤ 20) : wholeT C ([(5, 0, 0), (5, 0, 0)] ++ N) = .ok t := by
  have ht := whole_ok h
  obtain ⟨_, hs⟩ := (whole_iff C N t).1 h
  rw [whole_iff]
  refine ⟨by simp; omega, ?_⟩
  have h1 : subT C 25 ((5, 0, 0) :: N) = .ok ((t.1, notB t.2 t.1), []) := cons1 (by decide) (by decide) (by omega) hs rfl
  have h2 := cons1 (x := (5, 0, 0)) (by decide) (by decide) (by simp; omega) h1 rfl
  rw [not_not ht] at h2
  exact h2
theorem alg_sub {C : Cx} {N M : List Nd} {t u : Tm} (h : wholeT C N = .ok t) (k : wholeT C M = .ok u) (hw : t.1 = u.1) (hl : N.length + M.length + M.length ≤ 22) : wholeT C ([(10, 0, 0), (9, 0, 0)] ++ (N ++ M ++ []) ++ M) = .ok t := by
  have ht := whole_ok h
  have hu := whole_ok k
  obtain ⟨_, hs⟩ := (whole_iff C N t).1 h
  obtain ⟨_, ks⟩ := (whole_iff C M u).1 k
  rw [whole_iff]
  refine ⟨by simp; omega, ?_⟩
  obtain ⟨tw, tv⟩ := t
  obtain ⟨uw, uv⟩ := u
  dsimp only at hw
  subst hw
  have a1 := sub_app C (M ++ M) 25 N _ _ hs
  have a2 := sub_app C M 25 M _ _ ks
  rw [List.nil_append] at a1 a2
  have a3 := cons2 (x := (9, 0, 0)) (by decide) (by decide) (by simp; omega) a1 a2 (t := (tw, addB tv uv tw)) (by unfold binT; rw [if_neg (by decide), if_pos rfl]; rfl)
  have a4 := cons2 (x := (10, 0, 0)) (by decide) (by decide) (by simp; omega) a3 ks (t := (tw, tv)) (by
    unfold binT
    rw [if_neg (by decide), if_pos rfl]
    show Except.ok (tw, subB (addB tv uv tw) uv tw) = _
    unfold subB addB
    rw [redB_sub_left, show tv + uv - uv = tv by omega, redB_small _ _ ht.1 ht.2.1 ht.2.2])
  simpa using a4
theorem cat_eq {wa a wb b : Int} (ha : GT (wa, a)) (hb : GT (wb, b)) (hs : wa + wb ≤ 32) : catB a wa b wb = a * 2 ^ wb.toNat + b := by
  unfold catB
  rw [if_pos ⟨ha.1, hb.1, hs⟩, redB_small _ _ ha.1 ha.2.1 ha.2.2, redB_small _ _ hb.1 hb.2.1 hb.2.2]
theorem conc_ok {wa a wb b : Int} (ha : GT (wa, a)) (hb : GT (wb, b)) (hs : wa + wb ≤ 32) : binT 14 (wa, a) (wb, b) = .ok (wa + wb, catB a wa b wb) := by
  unfold binT concT
  rw [if_pos rfl, if_pos (catOk_in wa wb ha.1.1 ha.1.2 hb.1.1 hb.1.2 hs).symm]
theorem alg_cat {C : Cx} {N M : List Nd} {t u : Tm} (h : wholeT C N = .ok t) (k : wholeT C M = .ok u) (hs : t.1 + u.1 ≤ 32) (hl : N.length + M.length ≤ 22) :
    wholeT C ([(8, u.1, t.1), (14, 0, 0)] ++ N ++ M) = .ok t ∧ wholeT C ([(8, 0, u.1), (14, 0, 0)] ++ N ++ M) = .ok u := by
  have ht := whole_ok h
  have hu := whole_ok k
  obtain ⟨_, hs1⟩ := (whole_iff C N t).1 h
  obtain ⟨_, ks⟩ := (whole_iff C M u).1 k
  obtain ⟨tw, tv⟩ := t
  obtain ⟨uw, uv⟩ := u
  dsimp only at hs ⊢
  have a1 := sub_app C M 25 N _ _ hs1
  rw [List.nil_append] at a1
  have a3 := cons2 (x := (14, 0, 0)) (by decide) (by decide) (by simp; omega) a1 ks (conc_ok ht hu hs)
  have t1 : 1 ≤ tw ∧ tw ≤ 32 := ht.1
  have u1 : 1 ≤ uw ∧ uw ≤ 32 := hu.1
  have v0 : 0 ≤ uv ∧ uv < 2 ^ uw.toNat := hu.2
  have p := pow_pos' uw.toNat
  have e := cat_eq ht hu hs
  constructor
  · rw [whole_iff]
    refine ⟨by simp; omega, ?_⟩
    refine cons1 (x := (8, uw, tw)) (show arB 8 = true from by decide) (show arN 8 = 1 from by decide) (by simp; omega) a3 ?_
    show sliceT (tw + uw, catB tv tw uv uw) uw tw = _
    unfold sliceT
    rw [if_neg (by omega), if_pos ⟨(okW_iff _).2 t1, by show uw ≤ tw + uw - tw; omega⟩]
    congr 2
    show sliceB (catB tv tw uv uw) uw tw = tv
    unfold sliceB
    rw [if_pos ⟨t1, by omega, by omega⟩, e, Int.add_comm, Int.add_mul_ediv_right _ _ (by omega), Int.ediv_eq_zero_of_lt v0.1 v0.2, Int.zero_add]
    exact redB_small _ _ ht.1 ht.2.1 ht.2.2
  · rw [whole_iff]
    refine ⟨by simp; omega, ?_⟩
    refine cons1 (x := (8, 0, uw)) (show arB 8 = true from by decide) (show arN 8 = 1 from by decide) (by simp; omega) a3 ?_
    show sliceT (tw + uw, catB tv tw uv uw) 0 uw = _
    unfold sliceT
    rw [if_neg (by omega), if_pos ⟨(okW_iff _).2 u1, by show 0 ≤ tw + uw - uw; omega⟩]
    congr 2
    show sliceB (catB tv tw uv uw) 0 uw = uv
    unfold sliceB
    rw [if_pos ⟨u1, by omega, by omega⟩, e]
    simp only [Int.toNat_zero, Int.pow_zero, Int.ediv_one]
    rw [redB_in _ _ u1, Int.add_comm, Int.add_mul_emod_self_right]
    exact Int.emod_eq_of_lt v0.1 v0.2
end Go.Proofs.Ytlbigajhkcnemaa
