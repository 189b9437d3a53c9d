/- Cubeset: the program's Subtract is the reference's: plain facts. -/
import Derived.Test.YteemhabgliglmaaCtB
namespace Go.Proofs.Yteemhabgliglmaa
open Go.RowKit
set_option linter.unusedVariables false
/-- Canonical, and of k bits. -/
def Gd (k : Nat) (p : Nat × Nat) : Prop := B64 p.1 ∧ B64 p.2 ∧ Canon p.1 p.2 ∧ ∀ j, p.2.testBit j = true → j < k
theorem gd_can {k : Nat} {p : Nat × Nat} (h : Gd k p) : canP p = p := by
  obtain ⟨_, _, hc, _⟩ := h
  refine Prod.ext ?_ rfl
  show p.1 &&& p.2 = p.1
  apply Nat.eq_of_testBit_eq
  intro i
  rw [Nat.testBit_and]
  cases hb : p.1.testBit i with
  | false => rfl
  | true => rw [hc i hb]; rfl
theorem gd_cut {k : Nat} {p : Nat × Nat} (hk : k ≤ 64) (h : Gd k p) : cutM p.2 k = p.2 ∧ cutV p.1 p.2 k = p.1 := by
  obtain ⟨_, _, hc, hb⟩ := h
  have e : cutM p.2 k = p.2 := by
    show p.2 &&& lowN k = p.2
    apply Nat.eq_of_testBit_eq
    intro i
    rw [Nat.testBit_and]
    cases hi : p.2.testBit i with
    | false => rfl
    | true =>
      have := hb i hi
      unfold lowN
      rw [Nat.testBit_two_pow_sub_one, decide_eq_true this]; rfl
  refine ⟨e, ?_⟩
  show p.1 &&& cutM p.2 k = p.1
  rw [e]
  apply Nat.eq_of_testBit_eq
  intro i
  rw [Nat.testBit_and]
  cases hb : p.1.testBit i with
  | false => rfl
  | true => rw [hc i hb]; rfl
/-- A cube of k bits meets another just if it meets what that has in k bits. -/
theorem gd_meet {k : Nat} {p : Nat × Nat} (hk : k ≤ 64) (h : Gd k p) (v m : Nat) : meetN p.1 p.2 (cutV v m k) (cutM m k) = meetN p.1 p.2 v m := by
  rw [Bool.eq_iff_iff, meetN_iff, meetN_iff]
  have hl : ∀ i, i < k → (cutM m k).testBit i = m.testBit i := by
    intro i hi
    show (m &&& lowN k).testBit i = _
    unfold lowN
    rw [Nat.testBit_and, Nat.testBit_two_pow_sub_one, decide_eq_true hi, Bool.and_true]
  have hv : ∀ i, i < k → m.testBit i = true → (cutV v m k).testBit i = v.testBit i := by
    intro i hi hm
    show (v &&& cutM m k).testBit i = _
    rw [Nat.testBit_and, hl i hi, hm, Bool.and_true]
  constructor
  · intro g i h1 h2
    have hi := h.2.2.2 i h1
    have := g i h1 (by rw [hl i hi]; exact h2)
    rwa [hv i hi h2] at this
  · intro g i h1 h2
    have hi := h.2.2.2 i h1
    rw [hl i hi] at h2
    rw [hv i hi h2]
    exact g i h1 h2
theorem gd_part {k : Nat} {p : Nat × Nat} (h1 : 1 ≤ k) (hk : k ≤ 64) (h : Gd k p) (x : Nat × Nat) : wPart k x p = subL p.1 p.2 x.1 x.2 (k : Int) := by
  unfold wPart
  split
  · rfl
  · rename_i hm
    unfold subL
    rw [if_pos (by omega), Int.toNat_natCast, (gd_cut hk h).1, (gd_cut hk h).2]
    unfold subC
    rw [gd_meet hk h, if_neg hm]
theorem gd_subL {k : Nat} {p x : Nat × Nat} (h1 : 1 ≤ k) (hk : k ≤ 64) (h : Gd k p) (hx : B64 x.1 ∧ B64 x.2) : ∀ q ∈ subL p.1 p.2 x.1 x.2 (k : Int), Gd k q := by
  intro q hq
  have c := subL_chk p.1 p.2 x.1 x.2 k h1 hk h.1 h.2.1 hx.1 hx.2 q hq
  unfold subL at hq
  rw [if_pos (by omega), Int.toNat_natCast] at hq
  obtain ⟨ly1, ly2⟩ := cut_lt x.1 x.2 k hx.1 hx.2
  have g := subC_canon _ _ _ _ k hk ly1 (canon_cut p.1 p.2 k).1 (canon_cut p.1 p.2 k).2 q hq
  exact ⟨c.1, c.2.1, g.1, g.2⟩
theorem wRow_eq {k : Nat} (h1 : 1 ≤ k) (hk : k ≤ 64) (x : Nat × Nat) : ∀ l : List (Nat × Nat), (∀ p ∈ l, Gd k p) → wRow k x l = rowS k x l := by
  intro l
  induction l with
  | nil => intro _; rfl
  | cons p l ih =>
    intro h
    have := ih (fun q hq => h q (by simp [hq]))
    unfold wRow rowS at this ⊢
    rw [List.flatMap_cons, List.flatMap_cons, this, gd_part h1 hk (h p (by simp)) x]
theorem wRow_gd {k : Nat} (h1 : 1 ≤ k) (hk : k ≤ 64) (x : Nat × Nat) (hx : B64 x.1 ∧ B64 x.2) (l : List (Nat × Nat)) (h : ∀ p ∈ l, Gd k p) : ∀ q ∈ wRow k x l, Gd k q := by
  intro q hq
  obtain ⟨p, hp, hq⟩ := List.mem_flatMap.1 hq
  rw [gd_part h1 hk (h p hp) x] at hq
  exact gd_subL h1 hk (h p hp) hx q hq
def Irr (l : List (Nat × Nat)) : Prop := l.Pairwise fun p q => subP p q = false ∧ subP q p = false
def Dis (l : List (Nat × Nat)) : Prop := l.Pairwise fun p q => meetN p.1 p.2 q.1 q.2 = false
theorem irr_simp {k : Nat} (l : List (Nat × Nat)) (hg : ∀ p ∈ l, Gd k p) (h : Irr l) : simpL l = l := by
  have hr : ∀ i, i < l.length → redN l i = false := by
    intro i hi
    cases hh : redN l i with
    | false => rfl
    | true =>
      unfold redN redT at hh
      rw [List.any_eq_true] at hh
      obtain ⟨t, ht, hh⟩ := hh
      have ht := List.mem_range.1 ht
      unfold redAt at hh
      simp only [Bool.and_eq_true, decide_eq_true_eq] at hh
      have gi : l.getD i (0, 0) = l[i] := by rw [List.getD_eq_getElem?_getD, List.getElem?_eq_getElem hi]; rfl
      have gt : l.getD t (0, 0) = l[t] := by rw [List.getD_eq_getElem?_getD, List.getElem?_eq_getElem ht]; rfl
      have hp := List.pairwise_iff_getElem.1 h
      rw [gi, gt] at hh
      rcases Nat.lt_or_gt_of_ne hh.1 with q | q
      · have := (hp t i ht hi q).2
        rw [hh.2.1] at this; cases this
      · have := (hp i t hi ht q).1
        rw [hh.2.1] at this; cases this
  unfold simpL keptT
  rw [List.filter_eq_self.2 (fun i hi => by rw [hr i (List.mem_range.1 hi)]; rfl)]
  apply List.ext_getElem?
  intro t
  by_cases ht : t < l.length
  · rw [List.getElem?_map, List.getElem?_range ht, List.getElem?_eq_getElem ht]
    have gt : l.getD t (0, 0) = l[t] := by rw [List.getD_eq_getElem?_getD, List.getElem?_eq_getElem ht]; rfl
    show some (canP (l.getD t (0, 0))) = _
    rw [gt, gd_can (hg _ (List.getElem_mem _))]
  · rw [List.getElem?_eq_none (by simp; omega), List.getElem?_eq_none (by omega)]
theorem kept_sub (L : List (Nat × Nat)) (wf : Wf L) (i j : Nat) (hi : i < L.length) (hj : j < L.length) (hne : i ≠ j) (h1 : redN L i = false) (h2 : redN L j = false) : subP (L.getD i (0, 0)) (L.getD j (0, 0)) = false := by
  cases hs : subP (L.getD i (0, 0)) (L.getD j (0, 0)) with
  | false => rfl
  | true =>
    obtain ⟨f1, f2⟩ := sub_free _ _ (wf.at_ i hi).2 (wf.at_ j hj).2 hs
    exfalso
    rcases Nat.lt_or_eq_of_le f1 with q | q
    · have := (redN_iff L wf i hi).2 ⟨j, hj, hs, (bef_iff L j i).2 (.inl q)⟩
      rw [h1] at this; cases this
    · rcases Nat.lt_or_gt_of_ne hne with r | r
      · have := (redN_iff L wf j hj).2 ⟨i, hi, f2 q, (bef_iff L i j).2 (.inr ⟨q.symm, r⟩)⟩
        rw [h2] at this; cases this
      · have := (redN_iff L wf i hi).2 ⟨j, hj, hs, (bef_iff L j i).2 (.inr ⟨q, r⟩)⟩
        rw [h1] at this; cases this
theorem simp_irr (L : List (Nat × Nat)) (wf : Wf L) : Irr (simpL L) := by
  unfold simpL keptT Irr
  rw [List.pairwise_map]
  have hp : ((List.range L.length).filter fun i => !redN L i).Pairwise (· < ·) := List.Pairwise.filter _ List.pairwise_lt_range
  refine List.Pairwise.imp_of_mem ?_ hp
  intro i j hi hj hlt
  have mi := List.mem_filter.1 hi
  have mj := List.mem_filter.1 hj
  have li := List.mem_range.1 mi.1
  have lj := List.mem_range.1 mj.1
  have ri : redN L i = false := by have := mi.2; simpa using this
  have rj : redN L j = false := by have := mj.2; simpa using this
  rw [can_sub _ _ (wf.at_ i li).2 (wf.at_ j lj).2, can_sub _ _ (wf.at_ j lj).2 (wf.at_ i li).2]
  exact ⟨kept_sub L wf i j li lj (by omega) ri rj, kept_sub L wf j i lj li (by omega) rj ri⟩
theorem simp_mem (L : List (Nat × Nat)) (p : Nat × Nat) (h : p ∈ simpL L) : ∃ q ∈ L, p = canP q := by
  unfold simpL keptT at h
  obtain ⟨i, hi, rfl⟩ := List.mem_map.1 h
  have hi := List.mem_range.1 (List.mem_filter.1 hi).1
  exact ⟨_, by rw [List.getD_eq_getElem?_getD, List.getElem?_eq_getElem hi]; exact List.getElem_mem _, rfl⟩
theorem simp_gd {k : Nat} (L : List (Nat × Nat)) (h : ∀ p ∈ L, Gd k p) : ∀ p ∈ simpL L, Gd k p := by
  intro p hp
  obtain ⟨q, hq, rfl⟩ := simp_mem L p hp
  rw [gd_can (h q hq)]
  exact h q hq
theorem res_gd {k : Nat} (hk : k ≤ 64) (L : List (Nat × Nat)) (wf : ∀ p ∈ L, B64 p.1 ∧ B64 p.2) : ∀ p ∈ simpL (L.map (resP k)), Gd k p := by
  intro p hp
  have w := simpL_wf' _ (resP_wf k L wf) p hp
  obtain ⟨q, hq, rfl⟩ := simp_mem _ p hp
  obtain ⟨r, hr, rfl⟩ := List.mem_map.1 hq
  refine ⟨w.1, w.2, ?_, ?_⟩
  · intro i hi
    have hi : (r.1 &&& (r.2 &&& lowN k)).testBit i = true := hi
    rw [Nat.testBit_and, Bool.and_eq_true] at hi
    exact hi.2
  · intro j hj
    have hj : (r.2 &&& lowN k).testBit j = true := hj
    unfold lowN at hj
    rw [Nat.testBit_and, Bool.and_eq_true, Nat.testBit_two_pow_sub_one, decide_eq_true_eq] at hj
    exact hj.2
/-- Where nothing is split, what is left is a part of the list. -/
theorem wRow_sub {k : Nat} (x : Nat × Nat) : ∀ l : List (Nat × Nat), wSplit k x l = false → (wRow k x l).Sublist l := by
  intro l
  induction l with
  | nil => intro _; exact List.Sublist.slnil
  | cons p l ih =>
    intro h
    unfold wSplit at h
    rw [List.any_cons, Bool.or_eq_false_iff] at h
    have := ih h.2
    unfold wRow at this ⊢
    rw [List.flatMap_cons]
    unfold wPart
    by_cases hm : meetN p.1 p.2 x.1 x.2 = true
    · have h0 := h.1
      unfold wCut at h0
      rw [hm, Bool.true_and, decide_eq_false_iff_not] at h0
      have e : subL p.1 p.2 x.1 x.2 (k : Int) = [] := List.length_eq_zero_iff.1 (by omega)
      rw [if_pos hm, e, List.nil_append]
      exact List.Sublist.cons _ this
    · rw [if_neg hm]
      exact List.Sublist.cons_cons _ this
theorem part_in {k : Nat} {p x : Nat × Nat} (h1 : 1 ≤ k) (hk : k ≤ 64) (h : Gd k p) (hx : B64 x.1 ∧ B64 x.2) : ∀ a ∈ wPart k x p, ∀ j, p.2.testBit j = true → a.2.testBit j = true ∧ a.1.testBit j = p.1.testBit j := by
  intro a ha j hj
  rw [gd_part h1 hk h x] at ha
  unfold subL at ha
  rw [if_pos (by omega), Int.toNat_natCast, (gd_cut hk h).1, (gd_cut hk h).2] at ha
  obtain ⟨ly1, ly2⟩ := cut_lt x.1 x.2 k hx.1 hx.2
  unfold subC at ha
  split at ha
  · exact subR_keeps _ _ k p.1 p.2 (fun t _ ht => by
      rw [tb_andN _ _ _ ly2 h.2.1, Bool.and_eq_true] at ht
      simpa using ht.2) a ha j hj ly1 hk
  · rw [List.mem_singleton.1 ha]; exact ⟨hj, rfl⟩
theorem dis_irr (l : List (Nat × Nat)) (wf : ∀ p ∈ l, B64 p.2) (h : Dis l) : Irr l := by
  refine List.Pairwise.imp_of_mem ?_ h
  intro p q hp hq hm
  have key : ∀ a b : Nat × Nat, B64 a.2 → B64 b.2 → subP a b = true → ∀ i, a.2.testBit i = true → b.2.testBit i = true → a.1.testBit i = b.1.testBit i := by
    intro a b ha hb hs i _ hi
    exact ((sub_bits a b ha hb).1 hs).2 i hi
  constructor
  · cases hs : subP p q with
    | false => rfl
    | true =>
      have := (meetN_iff p.1 p.2 q.1 q.2).2 (key p q (wf p hp) (wf q hq) hs)
      rw [hm] at this; cases this
  · cases hs : subP q p with
    | false => rfl
    | true =>
      have := (meetN_iff p.1 p.2 q.1 q.2).2 (fun i a b => (key q p (wf q hq) (wf p hp) hs i b a).symm)
      rw [hm] at this; cases this
theorem wRow_dis {k : Nat} (h1 : 1 ≤ k) (hk : k ≤ 64) (x : Nat × Nat) (hx : B64 x.1 ∧ B64 x.2) : ∀ l : List (Nat × Nat), (∀ p ∈ l, Gd k p) → Dis l → Dis (wRow k x l) := by
  intro l
  induction l with
  | nil => intro _ _; exact List.Pairwise.nil
  | cons p l ih =>
    intro hg h
    have h' := List.pairwise_cons.1 h
    have r := ih (fun q hq => hg q (by simp [hq])) h'.2
    unfold Dis wRow at r ⊢
    rw [List.flatMap_cons, List.pairwise_append]
    refine ⟨?_, r, ?_⟩
    · unfold wPart
      split
      · exact subL_apart _ _ _ _ _ (hg p (by simp)).1 (hg p (by simp)).2.1 hx.1 hx.2
      · exact List.pairwise_singleton _ _
    · intro a ha b hb
      obtain ⟨q, hq, hb⟩ := List.mem_flatMap.1 hb
      have d := h'.1 q hq
      have ia := part_in h1 hk (hg p (by simp)) hx a ha
      have ib := part_in h1 hk (hg q (by simp [hq])) hx b hb
      cases hm : meetN a.1 a.2 b.1 b.2 with
      | false => rfl
      | true =>
        have g := (meetN_iff _ _ _ _).1 hm
        have : meetN p.1 p.2 q.1 q.2 = true := (meetN_iff _ _ _ _).2 fun i e1 e2 => by
          have u := ia i e1
          have v := ib i e2
          rw [← u.2, ← v.2]
          exact g i u.1 v.1
        rw [d] at this; cases this
/-- What holds of the list between two cubes of the second one. -/
def Iv (k : Nat) (one : Bool) (l : List (Nat × Nat)) : Prop := (∀ p ∈ l, Gd k p) ∧ (if one = true then Dis l else Irr l)
theorem Iv.simp {k : Nat} {one : Bool} {l : List (Nat × Nat)} (h : Iv k one l) : simpL l = l := by
  obtain ⟨h1, h2⟩ := h
  refine irr_simp l h1 ?_
  split at h2
  · exact dis_irr l (fun p hp => (h1 p hp).2.1) h2
  · exact h2
theorem psG_eq {k : Nat} (h1 : 1 ≤ k) (hk : k ≤ 64) (one : Bool) : ∀ (M l : List (Nat × Nat)), (∀ p ∈ M, B64 p.1 ∧ B64 p.2) → Iv k one l → psG k one M l = subG k M l := by
  intro M
  induction M with
  | nil => intro l _ _; rfl
  | cons x M ih =>
    intro l hM hl
    have hx := hM x (by simp)
    have hM' : ∀ p ∈ M, B64 p.1 ∧ B64 p.2 := fun p hp => hM p (by simp [hp])
    have hg := wRow_gd h1 hk x hx l hl.1
    have e := wRow_eq h1 hk x l hl.1
    unfold psG subG
    rw [← e]
    split
    · rename_i hs
      have ho : one = false := by cases one <;> simp_all
      split
      · rfl
      · refine ih _ hM' ⟨simp_gd _ hg, ?_⟩
        rw [ho, if_neg (by decide)]
        exact simp_irr _ (fun p hp => ⟨(hg p hp).1, (hg p hp).2.1⟩)
    · rename_i hs
      have iv : Iv k one (wRow k x l) := by
        refine ⟨hg, ?_⟩
        cases one with
        | true =>
          rw [if_pos rfl]
          have := hl.2
          rw [if_pos rfl] at this
          exact wRow_dis h1 hk x hx l hl.1 this
        | false =>
          rw [if_neg (by decide)]
          have := hl.2
          rw [if_neg (by decide)] at this
          have sp : wSplit k x l = false := by
            cases hh : wSplit k x l with
            | false => rfl
            | true => rw [hh] at hs; exact absurd rfl hs
          exact List.Pairwise.sublist (wRow_sub x l sp) this
      rw [iv.simp]
      split
      · rfl
      · exact ih _ hM' iv
theorem psL_eq {k : Nat} (h1 : 1 ≤ k) (hk : k ≤ 64) (L M : List (Nat × Nat)) (hL : ∀ p ∈ L, B64 p.1 ∧ B64 p.2) (hM : ∀ p ∈ M, B64 p.1 ∧ B64 p.2) : psL k L M = subsL k L M := by
  unfold psL subsL
  split
  · rfl
  · refine psG_eq h1 hk _ M _ hM ⟨res_gd hk L hL, ?_⟩
    have wf := resP_wf k L hL
    split
    · rename_i hone
      rw [decide_eq_true_eq] at hone
      unfold Dis
      generalize simpL (L.map (resP k)) = l at *
      match l, hone with
      | [p], _ => exact List.pairwise_singleton _ _
    · exact simp_irr _ wf
theorem psX_eq (x : Int) (L M : List (Nat × Nat)) (hL : ∀ p ∈ L, B64 p.1 ∧ B64 p.2) (hM : ∀ p ∈ M, B64 p.1 ∧ B64 p.2) : psX x L M = subsX x L M := by
  unfold psX subsX
  split
  · exact psL_eq (by omega) (by omega) L M hL hM
  · rfl
end Go.Proofs.Yteemhabgliglmaa
