/- Components: why the search in the reversed graph finds one. -/
import Derived.Test.YtaikpjnegopelaaDhB
namespace Go.Proofs.Ytaikpjnegopelaa
set_option linter.unusedVariables false

/-- What postorder's list is: a x is how many nodes had been left when x was entered. -/
structure PO (g : List (List Int)) (O : List Nat) (a : Nat → Nat) : Prop where
  node : ∀ x, x ∈ O → x < g.length
  all : ∀ x, x < g.length → x ∈ O
  nd : O.Nodup
  f2 : ∀ (j r : Nat), O[j]? = some r → a r ≤ j ∧ ∀ (i y : Nat), O[i]? = some y → a r ≤ i → i ≤ j → Rch g r y ∧ a r ≤ a y
  f3 : ∀ (i y : Nat), O[i]? = some y → ∀ z : Nat, z < g.length → gEdge g y z = true → a z ≤ i
/-- What the components are while the roots from j on are done. -/
structure KO (g : List (List Int)) (O : List Nat) (j : Nat) (C : List Int) : Prop where
  len : C.length = g.length
  done : ∀ (i x : Nat), j ≤ i → O[i]? = some x → C.getD x 0 ≠ -1
  c1 : ∀ x : Nat, x < g.length → C.getD x 0 ≠ -1 → ∃ y : Nat, y < g.length ∧ C.getD x 0 = (y : Int) ∧ Rch g x y ∧ Rch g y x
  c2 : ∀ x y : Nat, x < g.length → y < g.length → C.getD x 0 ≠ -1 → Rch g x y → Rch g y x → C.getD y 0 = C.getD x 0
theorem KO.start (g : List (List Int)) (O : List Nat) : KO g O O.length (tab g.length fun _ => -1) := by
  have e : ∀ x, x < g.length → (tab g.length fun _ => (-1 : Int)).getD x 0 = -1 := fun x hx => tab_at _ _ _ hx
  refine ⟨tab_len _ _, fun i x hi hx => ?_, fun x hx h => absurd (e x hx) h, fun x y hx _ h => absurd (e x hx) h⟩
  rw [List.getElem?_eq_none hi] at hx
  cases hx
theorem KO.skip {g : List (List Int)} {O : List Nat} {j : Nat} {C : List Int} (h : KO g O (j + 1) C) {r : Nat} (hr : O[j]? = some r) (hc : C.getD r 0 ≠ -1) : KO g O j C := by
  refine ⟨h.len, fun i x hi hx => ?_, h.c1, h.c2⟩
  by_cases e : i = j
  · subst e; rw [hr] at hx; injection hx with hx; subst hx; exact hc
  · exact h.done i x (by omega) hx
theorem KO.step {g : List (List Int)} {O : List Nat} {a : Nat → Nat} {j : Nat} {C : List Int} (p : PO g O a) (h : KO g O (j + 1) C) {r : Nat} (hr : O[j]? = some r) (hc : C.getD r 0 = -1) :
    KO g O j (outerB (revG g) (-1) (fun _ _ => (r : Int)) ((revG g).length + 1) 0 (C.set r (r : Int)) [(r : Int)]) := by
  have hrn : r < g.length := p.node r (List.mem_of_getElem? hr)
  have hrl : r < C.length := by rw [h.len]; exact hrn
  have hS0r : (C.set r (r : Int)).getD r 0 = r := getD_set_on _ _ _ hrl
  have hcnt := cnt_set C r (r : Int) hrl hc (by omega)
  have hcl := List.count_le_length (a := (-1 : Int)) (l := C)
  rw [h.len] at hcl
  -- what is marked lies below r
  have hP : ∀ y x : Nat, y < (revG g).length → x < (revG g).length → (∃ k, k ≤ j ∧ O[k]? = some y ∧ a r ≤ k ∧ Rch g y r) → gEdge (revG g) y x = true → (C.set r (r : Int)).getD x 0 = -1 → ∃ k, k ≤ j ∧ O[k]? = some x ∧ a r ≤ k ∧ Rch g x r := by
    intro y x hy hx hq he h0
    obtain ⟨k, h1, h2, h3, h4⟩ := hq
    rw [revG_len] at hy hx
    rw [gEdge_rev] at he
    have hxr : x ≠ r := fun e => by subst e; rw [hS0r] at h0; omega
    rw [getD_set_ne _ _ _ _ hxr] at h0
    obtain ⟨i, hi⟩ := List.getElem?_of_mem (p.all x hx)
    have hij : i ≤ j := by
      rcases Nat.lt_or_ge j i with q | q
      · exact absurd h0 (h.done i x (by omega) hi)
      · exact q
    have ha1 := p.f3 i x hi y hy he
    have ha2 := ((p.f2 j r hr).2 k y h2 h3 h1).2
    exact ⟨i, hij, hi, by omega, h4.step hx he⟩
  have hci : CI (revG g).length r (C.set r (r : Int)) (fun x => ∃ k, k ≤ j ∧ O[k]? = some x ∧ a r ≤ k ∧ Rch g x r) (C.set r (r : Int)) [(r : Int)] := by
    rw [revG_len]
    refine ⟨⟨by simp [h.len], fun x hx => ?_, by simp; omega⟩, fun x hx => .inl rfl, fun q hq => ?_⟩
    · simp at hx; subst hx
      rw [Int.toNat_natCast, hS0r]
      exact ⟨by omega, by omega, by omega⟩
    · simp at hq; subst hq
      rw [Int.toNat_natCast]
      exact ⟨j, Nat.le_refl _, hr, (p.f2 j r hr).1, Rch.refl g r hrn⟩
  obtain ⟨Q2, b1, ⟨T, b2⟩, b3⟩ := CI.outer hP ((revG g).length + 1) 0 _ _ hci (Nat.zero_le _) (by omega) (fun a ha => by omega)
  obtain ⟨S, hS⟩ : ∃ S, S = outerB (revG g) (-1) (fun _ _ => (r : Int)) ((revG g).length + 1) 0 (C.set r (r : Int)) [(r : Int)] := ⟨_, rfl⟩
  rw [← hS] at b1 b3 ⊢
  clear hS hP hci
  rw [revG_len] at b1 b3
  have hSr : S.getD r 0 = r := by
    rcases b1.old r hrn with e | e
    · rw [e, hS0r]
    · rw [hS0r] at e; omega
  -- a mark is old, or r's
  have two : ∀ x, x < g.length → (C.getD x 0 ≠ -1 → S.getD x 0 = C.getD x 0) ∧ (C.getD x 0 = -1 → S.getD x 0 ≠ -1 → S.getD x 0 = (r : Int) ∧ (x : Int) ∈ Q2 ∧ Rch g x r ∧ Rch g r x) := by
    intro x hx
    by_cases e : x = r
    · subst e
      refine ⟨fun k => absurd hc k, fun _ _ => ⟨hSr, by rw [b2]; simp, Rch.refl g x hx, Rch.refl g x hx⟩⟩
    · have q := b1.old x hx
      rw [getD_set_ne _ _ _ _ e] at q
      refine ⟨fun k => ?_, fun k1 k2 => ?_⟩
      · rcases q with q | q
        · exact q
        · exact absurd q.1 k
      · rcases q with q | q
        · rw [q] at k2; exact absurd k1 k2
        · obtain ⟨k, h1, h2, h3, h4⟩ := b1.pq _ q.2.2
          rw [Int.toNat_natCast] at h2 h4
          exact ⟨q.2.1, q.2.2, h4, ((p.f2 j r hr).2 k x h2 h3 h1).1⟩
  have old : ∀ x, x < g.length → C.getD x 0 ≠ -1 → S.getD x 0 ≠ -1 := fun x hx k => by rw [(two x hx).1 k]; exact k
  have fresh : ∀ x, x < g.length → Rch g x r → Rch g r x → C.getD x 0 = -1 := by
    intro x hx h1 h2
    by_cases k : C.getD x 0 = -1
    · exact k
    · have := h.c2 x r hx hrn k h1 h2
      rw [hc] at this
      exact absurd this.symm k
  have reach : ∀ x, Rch g x r → Rch g r x → S.getD x 0 ≠ -1 := by
    intro x hx
    refine rch_ind (fun x => Rch g r x → S.getD x 0 ≠ -1) (fun _ => by rw [hSr]; omega) ?_ x hx
    intro u y hu hy he hyr ih hru
    have hry : Rch g r y := hru.trans (Rch.edge hu hy he)
    have k := (two y hy).2 (fresh y hy hyr hry) (ih hry)
    obtain ⟨a1, ha1⟩ := List.getElem?_of_mem k.2.1
    obtain ⟨hlt, _⟩ := List.getElem?_eq_some_iff.1 ha1
    have e1 : Q2.getD a1 0 = (y : Int) := by rw [List.getD_eq_getElem?_getD, ha1]; rfl
    refine b3 a1 hlt u hu ?_
    rw [e1, Int.toNat_natCast, gEdge_rev]
    exact he
  refine ⟨b1.sq.len, fun i x hi hx => ?_, fun x hx k => ?_, fun x y hx hy k h1 h2 => ?_⟩
  · by_cases e : i = j
    · subst e; rw [hr] at hx; injection hx with hx; subst hx; rw [hSr]; omega
    · exact old x (p.node x (List.mem_of_getElem? hx)) (h.done i x (by omega) hx)
  · by_cases q : C.getD x 0 = -1
    · have t := (two x hx).2 q k
      exact ⟨r, hrn, t.1, t.2.2.1, t.2.2.2⟩
    · rw [(two x hx).1 q]
      exact h.c1 x hx q
  · by_cases q : C.getD x 0 = -1
    · have t := (two x hx).2 q k
      have hyr : Rch g y r := h2.trans t.2.2.1
      have hry : Rch g r y := t.2.2.2.trans h1
      have s := (two y hy).2 (fresh y hy hyr hry) (reach y hyr hry)
      rw [t.1, s.1]
    · have e := h.c2 x y hx hy q h1 h2
      rw [(two x hx).1 q, (two y hy).1 (by rw [e]; exact q), e]
/-- At the end two nodes are of one component exactly if paths lead there and back. -/
theorem KO.same {g : List (List Int)} {O : List Nat} {a : Nat → Nat} {C : List Int} (p : PO g O a) (h : KO g O 0 C) (x y : Nat) (hx : x < g.length) (hy : y < g.length) : C.getD x 0 = C.getD y 0 ↔ Rch g x y ∧ Rch g y x := by
  have al : ∀ x, x < g.length → C.getD x 0 ≠ -1 := fun x hx => by
    obtain ⟨i, hi⟩ := List.getElem?_of_mem (p.all x hx)
    exact h.done i x (Nat.zero_le _) hi
  constructor
  · intro e
    obtain ⟨u, _, h2, h3, h4⟩ := h.c1 x hx (al x hx)
    obtain ⟨v, _, k2, k3, k4⟩ := h.c1 y hy (al y hy)
    have e2 : u = v := by omega
    subst e2
    exact ⟨h3.trans k4, k3.trans h4⟩
  · intro e
    exact (h.c2 x y hx hy (al x hx) e.1 e.2).symm
end Go.Proofs.Ytaikpjnegopelaa
