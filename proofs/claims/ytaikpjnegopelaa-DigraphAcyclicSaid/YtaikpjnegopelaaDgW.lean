/- Levels: two good ones agree. -/
import Derived.Test.YtaikpjnegopelaaDgV
namespace Go.Proofs.Ytaikpjnegopelaa
set_option linter.unusedVariables false

theorem count_one (y : Int) : ∀ L : List Int, (∀ i, i < L.length → ∀ k, k < i → L.getD k 0 ≠ L.getD i 0) → L.count y ≤ 1 := by
  intro L
  induction L with
  | nil => intro _; simp
  | cons a T ih =>
    intro h
    have i := ih fun i hi k hk => by
      have := h (i + 1) (by simp; omega) (k + 1) (by omega)
      exact this
    by_cases e : a = y
    · subst e
      have z : T.count a = 0 := List.count_eq_zero.2 fun hm => by
        obtain ⟨j, hj, q⟩ := List.mem_iff_getElem.1 hm
        have := h (j + 1) (by simp; omega) 0 (by omega)
        refine this ?_
        show a = T.getD j 0
        rw [← q]; simp [hj]
      rw [List.count_cons, z]; simp
    · rw [List.count_cons]; simp [e]; exact i
/-- Each node stands in the order. -/
theorem topG_all (g : List (List Int)) (L : List Int) (h : topG g = some L) (x : Nat) (hx : x < g.length) : ∃ i, i < L.length ∧ L.getD i 0 = (x : Int) := by
  by_cases q : (x : Int) ∈ L
  · obtain ⟨i, hi, e⟩ := List.mem_iff_getElem.1 q
    exact ⟨i, hi, by rw [← e]; simp [hi]⟩
  · have hl := (topG_mem g L h).1
    have hd : ∀ i, i < L.length → ∀ k, k < i → L.getD k 0 ≠ L.getD i 0 := fun i hi k hk => by
      obtain ⟨y, h1, h2, h3, _⟩ := topG_before g L h i hi
      rw [h1]; exact h3 k hk
    have hf := few g.length ((x : Int) :: L) (fun y hy => by
      rcases List.mem_cons.1 hy with e | e
      · exact ⟨x, e, hx⟩
      · obtain ⟨i, hi, e2⟩ := List.mem_iff_getElem.1 e
        obtain ⟨z, h1, h2, _⟩ := topG_before g L h i hi
        exact ⟨z, by rw [← h1, ← e2]; simp [hi], h2⟩) (fun y hy => by
      have c := count_one (y : Int) L hd
      rw [List.count_cons]
      by_cases e : (x : Int) = (y : Int)
      · rw [← e, List.count_eq_zero.2 q]; simp
      · simp [e]; exact c)
    simp at hf
    omega
/-- The levels of a graph. -/
def Good (g : List (List Int)) (F : List Int) : Prop := ∀ x, x < g.length → 0 ≤ F.getD x 0 ∧ (∀ v, v < g.length → gEdge g v x = true → F.getD v 0 + 1 ≤ F.getD x 0) ∧ (F.getD x 0 = 0 ∨ ∃ v, v < g.length ∧ gEdge g v x = true ∧ F.getD x 0 = F.getD v 0 + 1)
theorem Good.at_ {g : List (List Int)} {L F E : List Int} (ht : topG g = some L) (h : Good g F) (k : Good g E) : ∀ i, i < L.length → ∀ x : Nat, L.getD i 0 = x → F.getD x 0 = E.getD x 0 := by
  intro i
  induction i using Nat.strongRecOn with
  | ind i ih =>
    intro hi x hx
    obtain ⟨y, h1, h2, _, h4⟩ := topG_before g L ht i hi
    have e : y = x := by rw [hx] at h1; omega
    subst e
    have a := h y h2
    have b := k y h2
    have s : ∀ v, v < g.length → gEdge g v y = true → F.getD v 0 = E.getD v 0 := fun v hv he => by
      obtain ⟨j, hj, q⟩ := h4 v hv he
      exact ih j hj (by omega) v q
    rcases a.2.2 with p | ⟨v, hv, he, p⟩
    · rcases b.2.2 with q | ⟨u, hu, hf, q⟩
      · omega
      · have := a.2.1 u hu hf
        have := s u hu hf
        have := b.1
        omega
    · have l1 := b.2.1 v hv he
      have l2 := s v hv he
      rcases b.2.2 with q | ⟨u, hu, hf, q⟩
      · have := a.1; omega
      · have := a.2.1 u hu hf
        have := s u hu hf
        omega
theorem Good.same {g : List (List Int)} {L F E : List Int} (ht : topG g = some L) (h : Good g F) (k : Good g E) (hF : F.length = g.length) (hE : E.length = g.length) : F = E := by
  apply List.ext_getElem (by omega)
  intro x h1 h2
  obtain ⟨i, hi, q⟩ := topG_all g L ht x (by omega)
  have := Good.at_ ht h k i hi x q
  simpa [h1, h2] using this
end Go.Proofs.Ytaikpjnegopelaa
