/- The heap: its order and what it holds. -/
import Derived.Test.YtmldoeigemippaaPqD
namespace Go.Proofs.Ytmldoeigemippaa
set_option linter.unusedVariables false

theorem swapL_count (H : List Int) (i j : Nat) (x : Int) (hi : i < H.length) (hj : j < H.length) : (swapL H i j).count x = H.count x := by
  have gi : H.getD i 0 = H[i] := by simp [hi]
  have gj : H.getD j 0 = H[j] := by simp [hj]
  unfold swapL
  rw [gi, gj]
  have hj2 : j < (H.set i H[j]).length := by simpa using hj
  rw [List.count_set hj2, List.count_set hi, List.getElem_set]
  have p1 : H[i] = x → 0 < H.count x := fun e => List.count_pos_iff.2 (e ▸ List.getElem_mem hi)
  by_cases e : i = j
  · subst e
    simp only [if_true]
    by_cases h1 : H[i] = x
    · have := p1 h1; simp [h1]; omega
    · simp [h1]
  · rw [if_neg e]
    by_cases h1 : H[i] = x <;> by_cases h2 : H[j] = x
    · have := p1 h1; simp [h1, h2]; omega
    · have := p1 h1; simp [h1, h2]; omega
    · simp [h1, h2]
    · simp [h1, h2]
/-- Each place holds at most what the places below it hold. -/
def Ordd (H : List Int) : Prop := ∀ j, 0 < j → j < H.length → H.getD ((j - 1) / 2) 0 ≤ H.getD j 0
theorem Ordd.root {H : List Int} (h : Ordd H) : ∀ j, j < H.length → H.getD 0 0 ≤ H.getD j 0 := by
  intro j
  induction j using Nat.strongRecOn with
  | ind j ih =>
    intro hj
    by_cases h0 : j = 0
    · subst h0; exact Int.le_refl _
    · have a := h j (by omega) hj
      have b := ih ((j - 1) / 2) (by omega) (by omega)
      omega
theorem Ordd.least {H : List Int} (h : Ordd H) (x : Int) (hx : x ∈ H) : H.getD 0 0 ≤ x := by
  obtain ⟨j, hj, rfl⟩ := List.mem_iff_getElem.1 hx
  have := h.root j hj
  rwa [show H.getD j 0 = H[j] by simp [hj]] at this

/-- In order but for what lies below i. -/
def OrdS (H : List Int) (i : Nat) : Prop :=
  (∀ j, 0 < j → j < H.length → (j - 1) / 2 ≠ i → H.getD ((j - 1) / 2) 0 ≤ H.getD j 0) ∧
  (∀ j, 0 < j → j < H.length → (j - 1) / 2 = i → 0 < i → H.getD ((i - 1) / 2) 0 ≤ H.getD j 0)
theorem lower_or (H : List Int) (i : Nat) : lower H i = 2 * i + 1 ∨ (lower H i = 2 * i + 2 ∧ 2 * i + 2 < H.length) := by
  unfold lower
  by_cases h : 2 * i + 2 < H.length ∧ H.getD (2 * i + 2) 0 < H.getD (2 * i + 1) 0
  · rw [if_pos h]; exact .inr ⟨rfl, h.1⟩
  · rw [if_neg h]; exact .inl rfl
theorem lower_le (H : List Int) (i j : Nat) (h0 : 0 < j) (hj : j < H.length) (hp : (j - 1) / 2 = i) : H.getD (lower H i) 0 ≤ H.getD j 0 := by
  have hj2 : j = 2 * i + 1 ∨ j = 2 * i + 2 := by omega
  unfold lower
  by_cases h : 2 * i + 2 < H.length ∧ H.getD (2 * i + 2) 0 < H.getD (2 * i + 1) 0
  · rw [if_pos h]
    rcases hj2 with rfl | rfl
    · omega
    · exact Int.le_refl _
  · rw [if_neg h]
    rcases hj2 with rfl | rfl
    · exact Int.le_refl _
    · have : ¬ H.getD (2 * i + 2) 0 < H.getD (2 * i + 1) 0 := fun q => h ⟨hj, q⟩
      omega
theorem sinkF_ord (f : Nat) : ∀ (i : Nat) (H : List Int), H.length ≤ f + i → OrdS H i → Ordd (sinkF f i H) := by
  induction f with
  | zero =>
    intro i H hf h j h0 hj
    exact h.1 j h0 hj (by have : j < H.length := hj; omega)
  | succ f ih =>
    intro i H hf h
    unfold sinkF
    by_cases h1 : 2 * i + 1 < H.length
    · rw [if_pos h1]
      have hl := lower_or H i
      have hlt : lower H i < H.length := by omega
      by_cases h2 : H.getD i 0 ≤ H.getD (lower H i) 0
      · rw [if_pos h2]
        intro j h0 hj
        by_cases hp : (j - 1) / 2 = i
        · have := lower_le H i j h0 hj hp
          rw [hp]; omega
        · exact h.1 j h0 hj hp
      · rw [if_neg h2]
        have hle := lower_le H i
        obtain ⟨l, hlq⟩ : ∃ l, l = lower H i := ⟨_, rfl⟩
        rw [← hlq] at hl hlt h2 hle ⊢
        have hi : i < H.length := by omega
        have hil : i < l := by omega
        have hpl : (l - 1) / 2 = i := by omega
        refine ih l _ (by rw [swapL_len]; omega) ⟨?_, ?_⟩
        · intro j h0 hj hp
          rw [swapL_len] at hj
          rw [swapL_get _ _ _ _ hi hlt, swapL_get _ _ _ _ hi hlt, if_neg hp]
          by_cases hpi : (j - 1) / 2 = i
          · rw [if_pos hpi]
            have := hle j h0 hj hpi
            by_cases hjl : j = l
            · rw [if_pos hjl]; omega
            · rw [if_neg hjl, if_neg (by omega)]; exact this
          · rw [if_neg hpi]
            by_cases hjl : j = l
            · exact absurd (hjl ▸ hpl) hpi
            · rw [if_neg hjl]
              by_cases hji : j = i
              · rw [if_pos hji, hji]
                exact h.2 l (by omega) hlt hpl (by omega)
              · rw [if_neg hji]; exact h.1 j h0 hj hpi
        · intro j h0 hj hp hl0
          rw [swapL_len] at hj
          rw [swapL_get _ _ _ _ hi hlt, swapL_get _ _ _ _ hi hlt, hpl, if_neg (by omega), if_pos rfl, if_neg (by omega), if_neg (by omega)]
          have := h.1 j h0 hj (by omega)
          rwa [hp] at this
    · rw [if_neg h1]
      intro j h0 hj
      exact h.1 j h0 hj (by omega)
theorem sinkF_count (x : Int) (f : Nat) : ∀ (i : Nat) (H : List Int), (sinkF f i H).count x = H.count x ∧ (sinkF f i H).length = H.length := by
  induction f with
  | zero => intro i H; exact ⟨rfl, rfl⟩
  | succ f ih =>
    intro i H
    unfold sinkF
    by_cases h1 : 2 * i + 1 < H.length
    · rw [if_pos h1]
      have hl := lower_or H i
      by_cases h2 : H.getD i 0 ≤ H.getD (lower H i) 0
      · rw [if_pos h2]; exact ⟨rfl, rfl⟩
      · rw [if_neg h2, (ih _ _).1, (ih _ _).2, swapL_count _ _ _ _ (by omega) (by omega), swapL_len]
        exact ⟨rfl, rfl⟩
    · rw [if_neg h1]; exact ⟨rfl, rfl⟩
/-- In order but for i and the place above it. -/
def OrdU (H : List Int) (i : Nat) : Prop :=
  (∀ j, 0 < j → j < H.length → j ≠ i → H.getD ((j - 1) / 2) 0 ≤ H.getD j 0) ∧
  (∀ j, 0 < j → j < H.length → (j - 1) / 2 = i → 0 < i → H.getD ((i - 1) / 2) 0 ≤ H.getD j 0)
theorem upF_ord (f : Nat) : ∀ (i : Nat) (H : List Int), i < f → i < H.length → OrdU H i → Ordd (upF f i H) := by
  induction f with
  | zero => intro i H hf; omega
  | succ f ih =>
    intro i H hf hi h
    unfold upF
    by_cases h1 : 0 < i ∧ H.getD i 0 < H.getD ((i - 1) / 2) 0
    · rw [if_pos h1]
      obtain ⟨h0i, h2⟩ := h1
      obtain ⟨q, hq⟩ : ∃ q, q = (i - 1) / 2 := ⟨_, rfl⟩
      have hh2 := h.2
      rw [← hq] at h2 hh2 ⊢
      have hqn : q < H.length := by omega
      have hqi : q < i := by omega
      refine ih q _ (by omega) (by rw [swapL_len]; exact hqn) ⟨?_, ?_⟩
      · intro j h0 hj hjq
        rw [swapL_len] at hj
        rw [swapL_get _ _ _ _ hi hqn, swapL_get _ _ _ _ hi hqn, if_neg hjq]
        by_cases hji : j = i
        · rw [if_pos hji, if_pos (by omega)]; omega
        · rw [if_neg hji]
          by_cases hp : (j - 1) / 2 = q
          · rw [if_pos hp]
            have := h.1 j h0 hj hji
            rw [hp] at this; omega
          · rw [if_neg hp]
            by_cases hp2 : (j - 1) / 2 = i
            · rw [if_pos hp2]; exact hh2 j h0 hj hp2 h0i
            · rw [if_neg hp2]; exact h.1 j h0 hj hji
      · intro j h0 hj hp hq0
        rw [swapL_len] at hj
        have hqq := h.1 q hq0 hqn (by omega)
        rw [swapL_get _ _ _ _ hi hqn, swapL_get _ _ _ _ hi hqn, if_neg (by omega), if_neg (by omega), if_neg (by omega)]
        by_cases hji : j = i
        · rw [if_pos hji]; exact hqq
        · rw [if_neg hji]
          have := h.1 j h0 hj hji
          rw [hp] at this; omega
    · rw [if_neg h1]
      intro j h0 hj
      by_cases hji : j = i
      · subst hji
        have : ¬ H.getD j 0 < H.getD ((j - 1) / 2) 0 := fun q => h1 ⟨h0, q⟩
        omega
      · exact h.1 j h0 hj hji
theorem upF_count (x : Int) (f : Nat) : ∀ (i : Nat) (H : List Int), i < H.length → (upF f i H).count x = H.count x ∧ (upF f i H).length = H.length := by
  induction f with
  | zero => intro i H _; exact ⟨rfl, rfl⟩
  | succ f ih =>
    intro i H hi
    unfold upF
    by_cases h1 : 0 < i ∧ H.getD i 0 < H.getD ((i - 1) / 2) 0
    · rw [if_pos h1, (ih _ _ (by rw [swapL_len]; omega)).1, (ih _ _ (by rw [swapL_len]; omega)).2, swapL_count _ _ _ _ hi (by omega), swapL_len]
      exact ⟨rfl, rfl⟩
    · rw [if_neg h1]; exact ⟨rfl, rfl⟩
theorem pushL_len (H : List Int) (v : Int) : (pushL H v).length = H.length + 1 := by
  unfold pushL
  rw [(upF_count 0 _ _ _ (by simp)).2]; simp
theorem pushL_count (H : List Int) (v x : Int) : (pushL H v).count x = H.count x + (if v = x then 1 else 0) := by
  unfold pushL
  rw [(upF_count x _ _ _ (by simp)).1, List.count_append, List.count_singleton]
  by_cases e : v = x <;> simp [e]
theorem pushL_ord (H : List Int) (v : Int) (h : Ordd H) : Ordd (pushL H v) := by
  unfold pushL
  refine upF_ord _ _ _ (by omega) (by simp) ⟨?_, ?_⟩
  · intro j h0 hj hne
    have hj2 : j < H.length := by simp at hj; omega
    have := h j h0 hj2
    have g : ∀ k, k < H.length → (H ++ [v]).getD k 0 = H.getD k 0 := by
      intro k hk
      simp [List.getElem?_append, hk]
    rw [g _ (by omega), g _ hj2]
    exact this
  · intro j h0 hj hp hq
    simp at hj
    omega
theorem popL_len (H : List Int) (h : 1 ≤ H.length) : (popL H).length = H.length - 1 := by
  unfold popL
  rw [(sinkF_count 0 _ _ _).2]; simp
theorem popL_count (H : List Int) (x : Int) (h : 1 ≤ H.length) : (popL H).count x + (if H.getD 0 0 = x then 1 else 0) = H.count x := by
  unfold popL
  rw [(sinkF_count x _ _ _).1]
  obtain ⟨a, T, rfl⟩ : ∃ a T, H = a :: T := by
    cases H with
    | nil => simp at h
    | cons a T => exact ⟨a, T, rfl⟩
  rcases List.eq_nil_or_concat T with rfl | ⟨T, z, rfl⟩
  · simp [List.count_cons]
  · have e : (a :: (T ++ [z])).length - 1 = T.length + 1 := by simp
    rw [List.concat_eq_append] at *
    rw [e]
    have e2 : (a :: (T ++ [z])).getD (T.length + 1) 0 = z := by simp
    rw [e2]
    simp [List.count_cons, List.count_append]
theorem popL_ord (H : List Int) (h : Ordd H) (h1 : 1 ≤ H.length) : Ordd (popL H) := by
  unfold popL
  refine sinkF_ord _ _ _ (by simp) ⟨?_, ?_⟩
  · intro j h0 hj hp
    simp at hj
    have := h j h0 (by omega)
    have g : ∀ k, 0 < k → k < H.length - 1 → ((H.set 0 (H.getD (H.length - 1) 0)).take (H.length - 1)).getD k 0 = H.getD k 0 := by
      intro k hk0 hk
      simp only [List.getD_eq_getElem?_getD, List.getElem?_take, if_pos hk, List.getElem?_set, if_neg (show ¬ 0 = k by omega)]
    rw [g _ (by omega) (by omega), g _ h0 (by omega)]
    exact this
  · intro j h0 hj hp hq
    omega
theorem dist_of_count {H : List Int} (h : ∀ x, H.count x ≤ 1) : Dist H := by
  induction H with
  | nil => intro i j hi; simp at hi
  | cons a s ih =>
    have hs : ∀ x, s.count x ≤ 1 := fun x => by
      have := h x
      rw [List.count_cons] at this
      omega
    have ha : ∀ j, j < s.length → s.getD j 0 ≠ a := fun j hj e => by
      have hm : a ∈ s := by
        rw [← e, show s.getD j 0 = s[j] by simp [hj]]
        exact List.getElem_mem hj
      have p := List.count_pos_iff.2 hm
      have := h a
      rw [List.count_cons_self] at this
      omega
    have k := ih hs
    intro i j hi hj e
    simp only [List.length_cons] at hi hj
    cases i with
    | zero =>
      cases j with
      | zero => rfl
      | succ j =>
        simp only [List.getD_cons_zero, List.getD_cons_succ] at e
        exact absurd e.symm (ha j (by omega))
    | succ i =>
      cases j with
      | zero =>
        simp only [List.getD_cons_zero, List.getD_cons_succ] at e
        exact absurd e (ha i (by omega))
      | succ j =>
        simp only [List.getD_cons_succ] at e
        have := k i j (by omega) (by omega) e
        omega
end Go.Proofs.Ytmldoeigemippaa
