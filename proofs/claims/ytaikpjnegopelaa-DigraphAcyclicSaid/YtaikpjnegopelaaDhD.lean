/- The deep search: what holds between its steps. -/
import Derived.Test.YtaikpjnegopelaaDhC
namespace Go.Proofs.Ytaikpjnegopelaa
set_option linter.unusedVariables false

/-- O: the nodes left; K: the open ones, the deepest last; F: how many successors have been looked at; E: who has been entered. -/
structure DF (g : List (List Int)) (O K : List Nat) (F : List Int) (E : List Bool) (a : Nat → Nat) : Prop where
  el : E.length = g.length
  fl : F.length = g.length
  ent : ∀ x : Nat, x < g.length → (E.getD x false = true ↔ x ∈ O ∨ x ∈ K)
  node : ∀ x : Nat, x ∈ O ∨ x ∈ K → x < g.length
  nd : (O ++ K).Nodup
  al : ∀ x : Nat, x ∈ O ∨ x ∈ K → a x ≤ O.length
  f2 : ∀ (j r : Nat), O[j]? = some r → a r ≤ j ∧ ∀ (i y : Nat), O[i]? = some y → a r ≤ i → i ≤ j → Rch g r y ∧ a r ≤ a y
  f3 : ∀ (i y : Nat), O[i]? = some y → ∀ z : Nat, z < g.length → gEdge g y z = true → (z ∈ O ∨ z ∈ K) ∧ a z ≤ i
  k2 : ∀ v : Nat, v ∈ K → ∀ (i y : Nat), O[i]? = some y → a v ≤ i → Rch g v y ∧ a v ≤ a y
  kk : ∀ (s v : Nat), K[s]? = some v → ∀ (t u : Nat), s ≤ t → K[t]? = some u → Rch g v u ∧ a v ≤ a u
  fw : ∀ v : Nat, v ∈ K → ∀ i : Nat, (i : Int) < F.getD v 0 → ∀ z : Nat, z < g.length → (g.getD v []).getD i (-1) = (z : Int) → z ∈ O ∨ z ∈ K
  fr : ∀ v : Nat, v < g.length → 0 ≤ F.getD v 0 ∧ F.getD v 0 ≤ ((g.getD v []).length : Int)
  f0 : ∀ v : Nat, v < g.length → ¬ (v ∈ O ∨ v ∈ K) → F.getD v 0 = 0
theorem DF.start (g : List (List Int)) : DF g [] [] (tab g.length fun _ => 0) (tabB g.length fun _ => false) (fun _ => 0) := by
  have e : ∀ x, x < g.length → (tab g.length fun _ => (0 : Int)).getD x 0 = 0 := fun x hx => tab_at _ _ _ hx
  refine ⟨by simp [tabB], tab_len _ _, fun x hx => ?_, fun x h => by simp at h, by simp, fun x h => by simp at h, fun j r h => by simp at h, fun i y h => by simp at h, fun v h => by simp at h, fun s v h => by simp at h, fun v h => by simp at h, fun v hv => by rw [e v hv]; omega, fun v hv _ => e v hv⟩
  simp [tabB, hx]
/-- A node is entered, from the deepest open one or from nowhere. -/
theorem DF.enter {g : List (List Int)} {O K : List Nat} {F : List Int} {E : List Bool} {a : Nat → Nat} (h : DF g O K F E a) {w : Nat} (hw : w < g.length) (hn : ¬ (w ∈ O ∨ w ∈ K)) (hp : ∀ v, v ∈ K → Rch g v w) :
    DF g O (K ++ [w]) F (E.set w true) (fun x => if x = w then O.length else a x) := by
  have hwO : w ∉ O := fun k => hn (.inl k)
  have hwK : w ∉ K := fun k => hn (.inr k)
  have hwl : w < E.length := by rw [h.el]; exact hw
  have nO : ∀ (i y : Nat), O[i]? = some y → y ≠ w := fun i y k e => by subst e; exact hwO (List.mem_of_getElem? k)
  have lO : ∀ (i y : Nat), O[i]? = some y → i < O.length := fun i y k => (List.getElem?_eq_some_iff.1 k).1
  refine ⟨by simp [h.el], h.fl, fun x hx => ?_, fun x hx => ?_, ?_, fun x hx => ?_, fun j r hj => ?_, fun i y hi z hz he => ?_, fun v hv i y hi ha => ?_, fun s v hs t u hst ht => ?_, fun v hv i hi z hz e => ?_, h.fr, fun v hv k => ?_⟩
  · by_cases e : x = w
    · subst e; simp [hwl]
    · have e2 : (E.set w true).getD x false = E.getD x false := by simp [List.getD_eq_getElem?_getD, List.getElem?_set_ne (Ne.symm e)]
      rw [e2, h.ent x hx]
      simp [e]
  · rcases hx with k | k
    · exact h.node x (.inl k)
    · rcases List.mem_append.1 k with k | k
      · exact h.node x (.inr k)
      · simp at k; subst k; exact hw
  · rw [← List.append_assoc, List.nodup_append]
    refine ⟨h.nd, by simp, fun x hx y hy e => ?_⟩
    simp at hy; subst hy; subst e
    exact hn (List.mem_append.1 hx)
  · by_cases e : x = w
    · subst e; simp
    · show (if x = w then O.length else a x) ≤ _
      rw [if_neg e]
      refine h.al x ?_
      rcases hx with k | k
      · exact .inl k
      · rcases List.mem_append.1 k with k | k
        · exact .inr k
        · simp at k; exact absurd k e
  · obtain ⟨h1, h2⟩ := h.f2 j r hj
    show (if r = w then O.length else a r) ≤ j ∧ _
    rw [if_neg (nO j r hj)]
    refine ⟨h1, fun i y hi k1 k2 => ?_⟩
    have q := h2 i y hi k1 k2
    refine ⟨q.1, ?_⟩
    show a r ≤ (if y = w then O.length else a y)
    rw [if_neg (nO i y hi)]
    exact q.2
  · obtain ⟨q1, q2⟩ := h.f3 i y hi z hz he
    have hzw : z ≠ w := fun e => by subst e; exact hn q1
    refine ⟨?_, ?_⟩
    · rcases q1 with k | k
      · exact .inl k
      · exact .inr (List.mem_append.2 (.inl k))
    · show (if z = w then O.length else a z) ≤ i
      rw [if_neg hzw]; exact q2
  · have hil := lO i y hi
    by_cases e : v = w
    · subst e
      simp at ha
      omega
    · have hvK : v ∈ K := by
        rcases List.mem_append.1 hv with k | k
        · exact k
        · simp at k; exact absurd k e
      simp only [if_neg e] at ha
      have q := h.k2 v hvK i y hi ha
      refine ⟨q.1, ?_⟩
      show (if v = w then O.length else a v) ≤ (if y = w then O.length else a y)
      rw [if_neg e, if_neg (nO i y hi)]
      exact q.2
  · have hsl := (List.getElem?_eq_some_iff.1 hs).1
    have htl := (List.getElem?_eq_some_iff.1 ht).1
    rw [List.length_append, List.length_singleton] at hsl htl
    by_cases ht2 : t < K.length
    · rw [List.getElem?_append_left (by omega)] at hs ht
      have q := h.kk s v hs t u hst ht
      have hv : v ≠ w := fun e => by subst e; exact hwK (List.mem_of_getElem? hs)
      have hu : u ≠ w := fun e => by subst e; exact hwK (List.mem_of_getElem? ht)
      refine ⟨q.1, ?_⟩
      show (if v = w then O.length else a v) ≤ (if u = w then O.length else a u)
      rw [if_neg hv, if_neg hu]
      exact q.2
    · have et : t = K.length := by omega
      subst et
      have hu : u = w := by
        rw [List.getElem?_append_right (Nat.le_refl _)] at ht
        simp at ht
        exact ht.symm
      subst hu
      by_cases hs2 : s < K.length
      · rw [List.getElem?_append_left hs2] at hs
        have hvK := List.mem_of_getElem? hs
        have hv : v ≠ u := fun e => by subst e; exact hwK hvK
        refine ⟨hp v hvK, ?_⟩
        show (if v = u then O.length else a v) ≤ (if u = u then O.length else a u)
        rw [if_neg hv, if_pos rfl]
        exact h.al v (.inr hvK)
      · have es : s = K.length := by omega
        subst es
        have hv : v = u := by
          rw [List.getElem?_append_right (Nat.le_refl _)] at hs
          simp at hs
          exact hs.symm
        subst hv
        exact ⟨Rch.refl g v hw, Nat.le_refl _⟩
  · by_cases e2 : v = w
    · subst e2
      have := h.f0 v hw hn
      omega
    · have hvK : v ∈ K := by
        rcases List.mem_append.1 hv with k | k
        · exact k
        · simp at k; exact absurd k e2
      rcases h.fw v hvK i hi z hz e with k | k
      · exact .inl k
      · exact .inr (List.mem_append.2 (.inl k))
  · refine h.f0 v hv fun k2 => k ?_
    rcases k2 with k2 | k2
    · exact .inl k2
    · exact .inr (List.mem_append.2 (.inl k2))
/-- One more successor of an open node has been looked at: it is no node, or has been entered. -/
theorem DF.follow {g : List (List Int)} {O K : List Nat} {F : List Int} {E : List Bool} {a : Nat → Nat} (h : DF g O K F E a) {v f : Nat} (hv : v < g.length) (hvi : v ∈ O ∨ v ∈ K) (hf : F.getD v 0 = (f : Int)) (hfl : f < (g.getD v []).length)
    (hx : ∀ z : Nat, z < g.length → (g.getD v []).getD f (-1) = (z : Int) → z ∈ O ∨ z ∈ K) : DF g O K (F.set v ((f : Int) + 1)) E a := by
  have hvl : v < F.length := by rw [h.fl]; exact hv
  refine ⟨h.el, by simp [h.fl], h.ent, h.node, h.nd, h.al, h.f2, h.f3, h.k2, h.kk, fun u hu i hi z hz e => ?_, fun u hu => ?_, fun u hu k => ?_⟩
  · by_cases eu : u = v
    · subst eu
      rw [getD_set_on _ _ _ hvl] at hi
      by_cases ei : i = f
      · subst ei; exact hx z hz e
      · exact h.fw u hu i (by omega) z hz e
    · rw [getD_set_ne _ _ _ _ eu] at hi
      exact h.fw u hu i hi z hz e
  · by_cases eu : u = v
    · subst eu; rw [getD_set_on _ _ _ hvl]; omega
    · rw [getD_set_ne _ _ _ _ eu]; exact h.fr u hu
  · by_cases eu : u = v
    · subst eu; exact absurd hvi k
    · rw [getD_set_ne _ _ _ _ eu]; exact h.f0 u hu k
/-- The deepest open node is left. -/
theorem DF.leave {g : List (List Int)} {O K : List Nat} {F : List Int} {E : List Bool} {a : Nat → Nat} {v : Nat} (h : DF g O (K ++ [v]) F E a) (hf : F.getD v 0 = ((g.getD v []).length : Int)) : DF g (O ++ [v]) K F E a := by
  have hvK : v ∈ K ++ [v] := by simp
  have hv := h.node v (.inr hvK)
  have mem : ∀ x : Nat, (x ∈ O ++ [v] ∨ x ∈ K) ↔ (x ∈ O ∨ x ∈ K ++ [v]) := fun x => by
    simp only [List.mem_append, List.mem_singleton]
    constructor
    · rintro ((k | k) | k)
      · exact .inl k
      · exact .inr (.inr k)
      · exact .inr (.inl k)
    · rintro (k | k | k)
      · exact .inl (.inl k)
      · exact .inr k
      · exact .inl (.inr k)
  have get : ∀ (i y : Nat), (O ++ [v])[i]? = some y → (i < O.length ∧ O[i]? = some y) ∨ (i = O.length ∧ y = v) := fun i y k => by
    have hl := (List.getElem?_eq_some_iff.1 k).1
    rw [List.length_append, List.length_singleton] at hl
    by_cases q : i < O.length
    · rw [List.getElem?_append_left q] at k; exact .inl ⟨q, k⟩
    · have e : i = O.length := by omega
      subst e
      rw [List.getElem?_append_right (Nat.le_refl _)] at k
      simp at k
      exact .inr ⟨rfl, k.symm⟩
  have top : ∀ u : Nat, u ∈ K → Rch g u v ∧ a u ≤ a v := fun u hu => by
    obtain ⟨s, hs⟩ := List.getElem?_of_mem hu
    have hsl := (List.getElem?_eq_some_iff.1 hs).1
    exact h.kk s u (by rw [List.getElem?_append_left hsl]; exact hs) K.length v (by omega) (by rw [List.getElem?_append_right (Nat.le_refl _)]; simp)
  refine ⟨h.el, h.fl, fun x hx => ?_, fun x hx => h.node x ((mem x).1 hx), ?_, fun x hx => ?_, fun j r hj => ?_, fun i y hi z hz he => ?_, fun u hu i y hi ha => ?_, fun s u hs t x hst ht => ?_, fun u hu i hi z hz e => ?_, h.fr, fun u hu k => h.f0 u hu fun q => k ((mem u).2 q)⟩
  · rw [h.ent x hx]; exact (mem x).symm
  · have p : (O ++ (K ++ [v])).Perm (O ++ [v] ++ K) := by
      rw [List.append_assoc]
      exact List.Perm.append_left _ List.perm_append_comm
    exact p.nodup h.nd
  · have := h.al x ((mem x).1 hx)
    rw [List.length_append, List.length_singleton]; omega
  · rcases get j r hj with ⟨hjl, hj2⟩ | ⟨hjl, hj2⟩
    · obtain ⟨h1, h2⟩ := h.f2 j r hj2
      refine ⟨h1, fun i y hi k1 k2 => ?_⟩
      rcases get i y hi with ⟨hil, hi⟩ | ⟨hil, hi⟩
      · exact h2 i y hi k1 k2
      · omega
    · subst hjl; subst hj2
      refine ⟨h.al r (.inr hvK), fun i y hi k1 k2 => ?_⟩
      rcases get i y hi with ⟨hil, hi⟩ | ⟨hil, hi⟩
      · exact h.k2 r hvK i y hi k1
      · subst hi; exact ⟨Rch.refl g y hv, Nat.le_refl _⟩
  · rcases get i y hi with ⟨hil, hi2⟩ | ⟨hil, hi2⟩
    · obtain ⟨q1, q2⟩ := h.f3 i y hi2 z hz he
      exact ⟨(mem z).2 q1, q2⟩
    · subst hil; subst hi2
      have hm := (gEdge_mem g y z hv hz).1 he
      obtain ⟨k, hk⟩ := List.getElem?_of_mem hm
      have hkl := (List.getElem?_eq_some_iff.1 hk).1
      have q := h.fw y hvK k (by rw [hf]; omega) z hz (by rw [List.getD_eq_getElem?_getD, hk]; rfl)
      exact ⟨(mem z).2 q, h.al z q⟩
  · have huK : u ∈ K ++ [v] := List.mem_append.2 (.inl hu)
    rcases get i y hi with ⟨hil, hi⟩ | ⟨hil, hi⟩
    · exact h.k2 u huK i y hi ha
    · subst hi; exact top u hu
  · have hsl := (List.getElem?_eq_some_iff.1 hs).1
    have htl := (List.getElem?_eq_some_iff.1 ht).1
    exact h.kk s u (by rw [List.getElem?_append_left hsl]; exact hs) t x hst (by rw [List.getElem?_append_left htl]; exact ht)
  · exact (mem z).2 (h.fw u (List.mem_append.2 (.inl hu)) i hi z hz e)
theorem DF.done {g : List (List Int)} {O : List Nat} {F : List Int} {E : List Bool} {a : Nat → Nat} (h : DF g O [] F E a) (hE : ∀ x : Nat, x < g.length → E.getD x false = true) : PO g O a := by
  refine ⟨fun x hx => h.node x (.inl hx), fun x hx => ?_, by have := h.nd; simpa using this, h.f2, fun i y hi z hz he => (h.f3 i y hi z hz he).2⟩
  rcases (h.ent x hx).1 (hE x hx) with k | k
  · exact k
  · simp at k
end Go.Proofs.Ytaikpjnegopelaa
