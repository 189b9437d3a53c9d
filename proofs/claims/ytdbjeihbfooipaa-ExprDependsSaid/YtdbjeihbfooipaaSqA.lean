/- Lists without doubles, ascending: plain facts; no condition. -/
import Derived.Test.YtdbjeihbfooipaaExP
namespace Go.Proofs.Ytdbjeihbfooipaa
open Go.RowKit
set_option linter.unusedVariables false
section
variable {α : Type}
/-- A strict order that parts any two. -/
structure TO (lt : α → α → Prop) : Prop where
  irr : ∀ x, ¬ lt x x
  tra : ∀ x y z, lt x y → lt y z → lt x z
  tot : ∀ x y, lt x y ∨ x = y ∨ lt y x
/-- Two ascending lists of the same members are one. -/
theorem asc_eq {lt : α → α → Prop} (o : TO lt) : ∀ (l m : List α), l.Pairwise lt → m.Pairwise lt → (∀ x, x ∈ l ↔ x ∈ m) → l = m := by
  intro l
  induction l with
  | nil =>
    intro m _ _ h
    cases m with
    | nil => rfl
    | cons b m => exact absurd ((h b).2 (by simp)) (by simp)
  | cons a l ih =>
    intro m hl hm h
    cases m with
    | nil => exact absurd ((h a).1 (by simp)) (by simp)
    | cons b m =>
      rw [List.pairwise_cons] at hl hm
      have e : a = b := by
        rcases List.mem_cons.1 ((h a).1 (by simp)) with q | q
        · exact q
        · rcases List.mem_cons.1 ((h b).2 (by simp)) with r | r
          · exact r.symm
          · exact absurd (o.tra _ _ _ (hm.1 a q) (hl.1 b r)) (o.irr b)
      subst e
      rw [ih m hl.2 hm.2 (fun x => by
        constructor
        · intro hx
          rcases List.mem_cons.1 ((h x).1 (by simp [hx])) with q | q
          · exact absurd (q ▸ hl.1 x hx) (o.irr _)
          · exact q
        · intro hx
          rcases List.mem_cons.1 ((h x).2 (by simp [hx])) with q | q
          · exact absurd (q ▸ hm.1 x hx) (o.irr _)
          · exact q)]
/-- What slices.Compact keeps of the first n elements: each that is not the one ahead of it. -/
def squP [DecidableEq α] (z : α) (L : List α) : Nat → List α
  | 0 => []
  | n + 1 => squP z L n ++ (if n = 0 then [L.getD n z] else if L.getD n z = L.getD (n - 1) z then [] else [L.getD n z])
theorem squP_len [DecidableEq α] (z : α) (L : List α) (n : Nat) : (squP z L n).length ≤ n := by
  induction n with
  | zero => exact Nat.le_refl _
  | succ n ih =>
    unfold squP
    rw [List.length_append]
    split
    · simp; omega
    · split
      · simp; omega
      · simp; omega
theorem squP_mem [DecidableEq α] (z : α) (L : List α) (n : Nat) : ∀ x, x ∈ squP z L n ↔ ∃ j, j < n ∧ L.getD j z = x := by
  induction n with
  | zero => intro x; exact ⟨fun h => absurd h (by simp [squP]), fun ⟨j, h, _⟩ => absurd h (by omega)⟩
  | succ n ih =>
    intro x
    unfold squP
    rw [List.mem_append, ih x]
    constructor
    · rintro (⟨j, h, e⟩ | h)
      · exact ⟨j, by omega, e⟩
      · split at h
        · exact ⟨n, by omega, (List.mem_singleton.1 h).symm⟩
        · split at h
          · cases h
          · exact ⟨n, by omega, (List.mem_singleton.1 h).symm⟩
    · rintro ⟨j, h, e⟩
      by_cases hj : j < n
      · exact .inl ⟨j, hj, e⟩
      · obtain rfl : j = n := by omega
        by_cases h0 : j = 0
        · right; rw [if_pos h0, e]; simp
        · by_cases h1 : L.getD j z = L.getD (j - 1) z
          · left; exact ⟨j - 1, by omega, by rw [← h1, e]⟩
          · right; rw [if_neg h0, if_neg h1, e]; simp
theorem squP_asc [DecidableEq α] {lt : α → α → Prop} (o : TO lt) (z : α) (L : List α) (hs : ∀ i j, i < j → j < L.length → ¬ lt (L.getD j z) (L.getD i z)) (n : Nat) (hn : n ≤ L.length) : (squP z L n).Pairwise lt := by
  induction n with
  | zero => exact List.Pairwise.nil
  | succ n ih =>
    unfold squP
    rw [List.pairwise_append]
    refine ⟨ih (by omega), ?_, ?_⟩
    · split
      · simp
      · split <;> simp
    · intro x hx y hy
      obtain ⟨j, hj, rfl⟩ := (squP_mem z L n x).1 hx
      split at hy
      · omega
      · split at hy
        · cases hy
        · rename_i h0 h1
          obtain rfl := List.mem_singleton.1 hy
          have q := hs j n hj (by omega)
          rcases o.tot (L.getD j z) (L.getD n z) with r | r | r
          · exact r
          · exfalso
            by_cases hjn : j = n - 1
            · rw [hjn] at r; exact h1 r.symm
            · have a := hs j (n - 1) (by omega) (by omega)
              have b := hs (n - 1) n (by omega) (by omega)
              rcases o.tot (L.getD (n - 1) z) (L.getD n z) with c | c | c
              · rw [← r] at c; exact a c
              · exact h1 c.symm
              · exact b c
          · exact absurd r q
/-- One more, at its place, if it is new. -/
def addA [DecidableEq α] (lt : α → α → Prop) [DecidableRel lt] (x : α) : List α → List α
  | [] => [x]
  | y :: l => if lt y x then y :: addA lt x l else if y = x then y :: l else x :: y :: l
theorem addA_mem [DecidableEq α] (lt : α → α → Prop) [DecidableRel lt] (x : α) (l : List α) : ∀ y, y ∈ addA lt x l ↔ y = x ∨ y ∈ l := by
  induction l with
  | nil => intro y; simp [addA]
  | cons a l ih =>
    intro y
    unfold addA
    split
    · rw [List.mem_cons, ih y, List.mem_cons]
      constructor
      · rintro (h | h | h)
        · exact .inr (.inl h)
        · exact .inl h
        · exact .inr (.inr h)
      · rintro (h | h | h)
        · exact .inr (.inl h)
        · exact .inl h
        · exact .inr (.inr h)
    · split
      · rename_i h
        subst h
        constructor
        · intro h; exact .inr h
        · rintro (h | h)
          · subst h; simp
          · exact h
      · rw [List.mem_cons]
theorem addA_asc [DecidableEq α] {lt : α → α → Prop} [DecidableRel lt] (o : TO lt) (x : α) (l : List α) (h : l.Pairwise lt) : (addA lt x l).Pairwise lt := by
  induction l with
  | nil => simp [addA]
  | cons a l ih =>
    rw [List.pairwise_cons] at h
    unfold addA
    split
    · rename_i hl
      rw [List.pairwise_cons]
      refine ⟨fun y hy => ?_, ih h.2⟩
      rcases (addA_mem lt x l y).1 hy with rfl | q
      · exact hl
      · exact h.1 y q
    · split
      · rw [List.pairwise_cons]; exact h
      · rename_i h1 h2
        have hx : lt x a := by rcases o.tot x a with r | r | r
                               · exact r
                               · exact absurd r.symm h2
                               · exact absurd r h1
        rw [List.pairwise_cons, List.pairwise_cons]
        refine ⟨fun y hy => ?_, h⟩
        rcases List.mem_cons.1 hy with rfl | q
        · exact hx
        · exact o.tra _ _ _ hx (h.1 y q)
/-- All of them, one by one. -/
def allA [DecidableEq α] (lt : α → α → Prop) [DecidableRel lt] (M : List α) : List α := M.foldl (fun l x => addA lt x l) []
theorem allA_snoc [DecidableEq α] (lt : α → α → Prop) [DecidableRel lt] (M : List α) (x : α) : allA lt (M ++ [x]) = addA lt x (allA lt M) := by unfold allA; rw [List.foldl_append]; rfl
theorem allA_ok [DecidableEq α] {lt : α → α → Prop} [DecidableRel lt] (o : TO lt) (M : List α) : (allA lt M).Pairwise lt ∧ ∀ x, x ∈ allA lt M ↔ x ∈ M := by
  suffices h : ∀ (R M : List α), R.Pairwise lt → ((M.foldl (fun l x => addA lt x l) R).Pairwise lt ∧ ∀ x, x ∈ M.foldl (fun l x => addA lt x l) R ↔ x ∈ R ∨ x ∈ M) by
    obtain ⟨a, b⟩ := h [] M List.Pairwise.nil
    exact ⟨a, fun x => by have q := b x; rw [show (x ∈ ([] : List α) ∨ x ∈ M) ↔ x ∈ M from by simp] at q; exact q⟩
  intro R M
  induction M generalizing R with
  | nil => intro h; exact ⟨h, fun x => by simp⟩
  | cons y M ih =>
    intro h
    obtain ⟨a, b⟩ := ih (addA lt y R) (addA_asc o y R h)
    refine ⟨a, fun x => ?_⟩
    rw [List.foldl_cons, b x, addA_mem, List.mem_cons]
    constructor
    · rintro ((h | h) | h)
      · exact .inr (.inl h)
      · exact .inl h
      · exact .inr (.inr h)
    · rintro (h | h | h)
      · exact .inl (.inr h)
      · exact .inl (.inl h)
      · exact .inr h
/-- A sorted row of the same members, compacted, is what the reference adds up. -/
theorem squ_all [DecidableEq α] {lt : α → α → Prop} [DecidableRel lt] (o : TO lt) (z : α) (M L : List α) (hp : ∀ x, x ∈ L ↔ x ∈ M) (hs : ∀ i j, i < j → j < L.length → ¬ lt (L.getD j z) (L.getD i z)) : squP z L L.length = allA lt M := by
  obtain ⟨a, b⟩ := allA_ok o M
  refine asc_eq o _ _ (squP_asc o z L hs L.length (Nat.le_refl _)) a (fun x => ?_)
  rw [b x, ← hp x, squP_mem]
  constructor
  · rintro ⟨j, h, rfl⟩
    rw [List.getD_eq_getElem?_getD, List.getElem?_eq_getElem h]
    exact List.getElem_mem _
  · intro h
    obtain ⟨j, hj, e⟩ := List.mem_iff_getElem.1 h
    exact ⟨j, hj, by rw [List.getD_eq_getElem?_getD, List.getElem?_eq_getElem hj]; exact e⟩
end
/-- Fields in their order. -/
def ltR (a b : Int × Int) : Prop := a.1 < b.1 ∨ a.1 = b.1 ∧ a.2 < b.2
instance : DecidableRel ltR := fun a b => by unfold ltR; exact inferInstance
theorem toR : TO ltR := ⟨fun x h => by unfold ltR at h; omega, fun x y z h1 h2 => by unfold ltR at *; omega, fun x y => by
  unfold ltR
  by_cases h : x.1 = y.1 ∧ x.2 = y.2
  · exact .inr (.inl (Prod.ext h.1 h.2))
  · rcases (show (x.1 < y.1 ∨ x.1 = y.1 ∧ x.2 < y.2) ∨ (y.1 < x.1 ∨ y.1 = x.1 ∧ y.2 < x.2) by omega) with q | q
    · exact .inl q
    · exact .inr (.inr q)⟩
theorem toI : TO (fun a b : Int => a < b) := ⟨fun x h => by omega, fun x y z h1 h2 => by omega, fun x y => by omega⟩
end Go.Proofs.Ytdbjeihbfooipaa
