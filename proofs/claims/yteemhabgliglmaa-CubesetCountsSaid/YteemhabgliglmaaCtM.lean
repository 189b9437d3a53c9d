/- Cubeset: what belongs to a union, an intersection, a difference: plain facts. -/
import Derived.Test.YteemhabgliglmaaCtI
namespace Go.Proofs.Yteemhabgliglmaa
open Go.RowKit
set_option linter.unusedVariables false
theorem any_iff (L : List (Nat × Nat)) (x : Nat) : anyN L x = true ↔ ∃ p ∈ L, Has p.1 p.2 x := by
  unfold anyN hasP
  rw [List.any_eq_true]
  constructor
  · rintro ⟨p, hp, h⟩; exact ⟨p, hp, (hasN_iff _ _ _).1 h⟩
  · rintro ⟨p, hp, h⟩; exact ⟨p, hp, (hasN_iff _ _ _).2 h⟩
theorem has_can (p : Nat × Nat) (x : Nat) : Has (canP p).1 (canP p).2 x ↔ Has p.1 p.2 x := by
  unfold Has canP
  refine forall_congr' fun i => ?_
  constructor
  · intro h hi
    have hi' : p.2.testBit i = true := hi
    have := h hi
    rw [Nat.testBit_and, hi', Bool.and_true] at this
    exact this
  · intro h hi
    have hi' : p.2.testBit i = true := hi
    show (p.1 &&& p.2).testBit i = _
    rw [Nat.testBit_and, hi', Bool.and_true]
    exact h hi
theorem has_sub (p q : Nat × Nat) (hp : B64 p.2) (hq : B64 q.2) (h : subP p q = true) (x : Nat) (hx : Has p.1 p.2 x) : Has q.1 q.2 x := by
  have h' := (sub_bits p q hp hq).1 h
  intro i hi
  have := hx i (h'.1 i hi)
  rw [← h'.2 i hi]
  exact this
theorem any_app (L M : List (Nat × Nat)) (x : Nat) : anyN (L ++ M) x = (anyN L x || anyN M x) := by
  unfold anyN; rw [List.any_append]
theorem any_simp (L : List (Nat × Nat)) (wf : Wf L) (x : Nat) : anyN (simpL L) x = anyN L x := by
  rw [Bool.eq_iff_iff, any_iff, any_iff]
  constructor
  · rintro ⟨p, hp, h⟩
    obtain ⟨q, hq, rfl⟩ := simp_mem L p hp
    exact ⟨q, hq, (has_can q x).1 h⟩
  · rintro ⟨p, hp, h⟩
    obtain ⟨i, hi, rfl⟩ := List.mem_iff_getElem.1 hp
    have gi : L.getD i (0, 0) = L[i] := by rw [List.getD_eq_getElem?_getD, List.getElem?_eq_getElem hi]; rfl
    have put : ∀ k, k < L.length → redN L k = false → canP (L.getD k (0, 0)) ∈ simpL L := fun k hk hr => by
      unfold simpL keptT
      exact List.mem_map.2 ⟨k, List.mem_filter.2 ⟨List.mem_range.2 hk, by rw [hr]; rfl⟩, rfl⟩
    cases hr : redN L i with
    | false => exact ⟨_, put i hi hr, (has_can _ x).2 (by rw [gi]; exact h)⟩
    | true =>
      obtain ⟨k, hk, _, h2, h3⟩ := (kept_iff L wf i hi).1 hr
      exact ⟨_, put k hk h2, (has_can _ x).2 (has_sub _ _ (wf.at_ i hi).2 (wf.at_ k hk).2 h3 x (by rw [gi]; exact h))⟩
theorem any_union (L M : List (Nat × Nat)) (hL : Wf L) (hM : Wf M) (x : Nat) (he : stepE (L ++ M) = 0) : anyN (stepL (L ++ M)) x = (anyN L x || anyN M x) := by
  have hn : ¬ 1024 < (simpL (L ++ M)).length := by
    intro h
    unfold stepE at he
    rw [if_pos h] at he
    exact absurd he (by decide)
  unfold stepL
  rw [if_neg hn, any_simp _ (fun p hp => (List.mem_append.1 hp).elim (hL p) (hM p)), any_app]
theorem has_int (p q : Nat × Nat) (hm : meetN p.1 p.2 q.1 q.2 = true) (x : Nat) : Has (intV p.1 p.2 q.1 q.2) (intM p.1 p.2 q.1 q.2) x ↔ Has p.1 p.2 x ∧ Has q.1 q.2 x := by
  have h := (meetN_iff _ _ _ _).1 hm
  unfold intV intM
  rw [if_pos hm, if_pos hm]
  unfold Has
  simp only [Nat.testBit_or, Nat.testBit_and]
  constructor
  · intro g
    constructor
    · intro i hi
      have := g i (by rw [hi]; rfl)
      rw [hi, Bool.and_true] at this
      cases h2 : q.2.testBit i with
      | false => rw [h2, Bool.and_false, Bool.or_false] at this; exact this
      | true => rw [h2, Bool.and_true, ← h i hi h2, Bool.or_self] at this; exact this
    · intro i hi
      have := g i (by rw [hi]; simp)
      rw [hi, Bool.and_true] at this
      cases h2 : p.2.testBit i with
      | false => rw [h2, Bool.and_false, Bool.false_or] at this; exact this
      | true => rw [h2, Bool.and_true, h i h2 hi, Bool.or_self] at this; exact this
  · rintro ⟨g1, g2⟩ i hi
    cases h1 : p.2.testBit i with
    | false =>
      rw [h1, Bool.false_or] at hi
      rw [hi, Bool.and_false, Bool.false_or, Bool.and_true]
      exact g2 i hi
    | true =>
      cases h2 : q.2.testBit i with
      | false => rw [Bool.and_true, Bool.and_false, Bool.or_false]; exact g1 i h1
      | true => rw [Bool.and_true, Bool.and_true, h i h1 h2, Bool.or_self]; exact g2 i h2
theorem has_meet (p q : Nat × Nat) (x : Nat) (h1 : Has p.1 p.2 x) (h2 : Has q.1 q.2 x) : meetN p.1 p.2 q.1 q.2 = true :=
  (meetN_iff _ _ _ _).2 fun i a b => by rw [h1 i a, h2 i b]
theorem any_rowI (p : Nat × Nat) (M : List (Nat × Nat)) (x : Nat) : anyN (rowI p M) x = (hasP p x && anyN M x) := by
  rw [Bool.eq_iff_iff, any_iff, Bool.and_eq_true, any_iff]
  have hp : hasP p x = true ↔ Has p.1 p.2 x := hasN_iff _ _ _
  rw [hp]
  constructor
  · rintro ⟨r, hr, h⟩
    obtain ⟨q, hq, hr⟩ := List.mem_flatMap.1 hr
    unfold interN at hr
    split at hr
    · rename_i hm
      rw [List.mem_singleton.1 hr] at h
      have := (has_int p q hm x).1 h
      exact ⟨this.1, q, hq, this.2⟩
    · cases hr
  · rintro ⟨h1, q, hq, h2⟩
    have hm := has_meet p q x h1 h2
    exact ⟨_, List.mem_flatMap.2 ⟨q, hq, by unfold interN; rw [if_pos hm]; exact List.mem_singleton.2 rfl⟩, (has_int p q hm x).2 ⟨h1, h2⟩⟩
theorem any_intG (M : List (Nat × Nat)) (hM : Wf M) (x : Nat) : ∀ (L out : List (Nat × Nat)), Wf L → Wf out → (intG M L out).2 = 0 → anyN (intG M L out).1 x = (anyN out x || (anyN L x && anyN M x)) := by
  intro L
  induction L with
  | nil => intro out _ _ _; unfold intG; show anyN out x = (anyN out x || (false && anyN M x)); simp
  | cons p L ih =>
    intro out hL ho he
    have wr : Wf (out ++ rowI p M) := fun q hq => (List.mem_append.1 hq).elim (ho q) (rowI_wf p M (hL p (by simp)) hM q)
    unfold intG at he ⊢
    by_cases hb : 1024 < (simpL (out ++ rowI p M)).length
    · rw [if_pos hb] at he; exact absurd he (by decide)
    · rw [if_neg hb] at he ⊢
      rw [ih _ (fun q hq => hL q (by simp [hq])) (simpL_wf' _ wr) he, any_simp _ wr, any_app, any_rowI]
      have : anyN (p :: L) x = (hasP p x || anyN L x) := by unfold anyN; rw [List.any_cons]
      rw [this]
      cases anyN out x <;> cases hasP p x <;> cases anyN L x <;> cases anyN M x <;> rfl
/-- Some cube holds the number, its mask cut to k bits. -/
def rstN (k : Nat) (L : List (Nat × Nat)) (x : Nat) : Bool := L.any fun p => hasN p.1 (p.2 &&& lowN k) x
theorem gd_low {k : Nat} {p : Nat × Nat} (hk : k ≤ 64) (h : Gd k p) : p.2 &&& lowN k = p.2 := (gd_cut hk h).1
theorem cnt_pos (L : List (Nat × Nat)) (x : Nat) : anyN L x = decide (0 < cntN L x) := by
  unfold anyN cntN hasP
  rw [Bool.eq_iff_iff, List.any_eq_true, decide_eq_true_eq, List.countP_pos_iff]
theorem any_rowS {k : Nat} (h1 : 1 ≤ k) (hk : k ≤ 64) (q : Nat × Nat) (hq : B64 q.1 ∧ B64 q.2) (x : Nat) : ∀ l : List (Nat × Nat), (∀ p ∈ l, Gd k p) → anyN (rowS k q l) x = (anyN l x && !hasN q.1 (q.2 &&& lowN k) x) := by
  intro l
  induction l with
  | nil => intro _; rfl
  | cons p l ih =>
    intro hg
    have gp := hg p (by simp)
    have := ih (fun r hr => hg r (by simp [hr]))
    have e1 : rowS k q (p :: l) = subL p.1 p.2 q.1 q.2 (k : Int) ++ rowS k q l := by unfold rowS; rw [List.flatMap_cons]
    have e2 : anyN (p :: l) x = (hasP p x || anyN l x) := by unfold anyN; rw [List.any_cons]
    have c := subL_cnt p.1 p.2 q.1 q.2 k x h1 hk gp.1 gp.2.1 hq.1 hq.2
    rw [gd_low hk gp] at c
    rw [e1, any_app, this, e2, cnt_pos, c]
    have hpx : hasP p x = hasN p.1 p.2 x := rfl
    rw [hpx]
    cases hasN p.1 p.2 x <;> cases hasN q.1 (q.2 &&& lowN k) x <;> cases anyN l x <;> simp
theorem any_subG {k : Nat} (h1 : 1 ≤ k) (hk : k ≤ 64) (x : Nat) : ∀ (M l : List (Nat × Nat)), Wf M → (∀ p ∈ l, Gd k p) → (subG k M l).2 = 0 → anyN (subG k M l).1 x = (anyN l x && !rstN k M x) := by
  intro M
  induction M with
  | nil => intro l _ _ _; unfold subG rstN; simp
  | cons q M ih =>
    intro l hM hg he
    have hq := hM q (by simp)
    have gr : ∀ p ∈ rowS k q l, Gd k p := by
      intro p hp
      obtain ⟨r, hr, hp⟩ := List.mem_flatMap.1 hp
      exact gd_subL h1 hk (hg r hr) hq p hp
    unfold subG at he ⊢
    by_cases hb : 1024 < (simpL (rowS k q l)).length
    · rw [if_pos hb] at he; exact absurd he (by decide)
    · rw [if_neg hb] at he ⊢
      rw [ih _ (fun p hp => hM p (by simp [hp])) (simp_gd _ gr) he, any_simp _ (fun p hp => ⟨(gr p hp).1, (gr p hp).2.1⟩), any_rowS h1 hk q hq x l hg]
      have : rstN k (q :: M) x = (hasN q.1 (q.2 &&& lowN k) x || rstN k M x) := by unfold rstN; rw [List.any_cons]
      rw [this]
      cases anyN l x <;> cases hasN q.1 (q.2 &&& lowN k) x <;> cases rstN k M x <;> rfl
theorem any_subs {k : Nat} (h1 : 1 ≤ k) (hk : k ≤ 64) (L M : List (Nat × Nat)) (hL : Wf L) (hM : Wf M) (x : Nat) (he : (subsX (k : Int) L M).2 = 0) : anyN (subsX (k : Int) L M).1 x = (rstN k L x && !rstN k M x) := by
  have e : subsX (k : Int) L M = subsL k L M := by unfold subsX; rw [if_pos (by omega), Int.toNat_natCast]
  rw [e] at he ⊢
  unfold subsL at he ⊢
  by_cases hb : 1024 < (simpL (L.map (resP k))).length
  · rw [if_pos hb] at he; exact absurd he (by decide)
  · rw [if_neg hb] at he ⊢
    rw [any_subG h1 hk x M _ hM (res_gd hk L hL) he, any_simp _ (resP_wf k L hL)]
    congr 1
    unfold anyN rstN
    rw [List.any_map]
    rfl
theorem any_compl {k : Nat} (h1 : 1 ≤ k) (hk : k ≤ 64) (M : List (Nat × Nat)) (hM : Wf M) (x : Nat) (he : (subsX (k : Int) [(0, 0)] M).2 = 0) : anyN (subsX (k : Int) [(0, 0)] M).1 x = !rstN k M x := by
  rw [any_subs h1 hk [(0, 0)] M (fun p hp => by rw [List.mem_singleton.1 hp]; exact ⟨by show (0 : Nat) < 18446744073709551616; decide, by show (0 : Nat) < 18446744073709551616; decide⟩) hM x he]
  have : rstN k [(0, 0)] x = true := by
    unfold rstN
    rw [List.any_cons]
    have : hasN 0 (0 &&& lowN k) x = true := by
      rw [hasN_iff]
      intro i hi
      rw [Nat.zero_and, Nat.zero_testBit] at hi; cases hi
    rw [show hasN ((0 : Nat), (0 : Nat)).1 (((0 : Nat), (0 : Nat)).2 &&& lowN k) x = true from this]
    rfl
  rw [this, Bool.true_and]
end Go.Proofs.Yteemhabgliglmaa
