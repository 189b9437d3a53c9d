/- The theory of the queue: the reference's list of codes, ordered by turns, and the heap hold the same. -/
import Derived.Test.YtmldoeigemippaaPqF
namespace Go.Proofs.Ytmldoeigemippaa
set_option linter.unusedVariables false

/-- The place of the first of the least keys among the first i. -/
def fsK (T : List Int) : Nat → Nat
  | 0 => 0
  | i + 1 => if kC (T.getD i 0) < kC (T.getD (fsK T i) 0) then i else fsK T i
def Srt (T : List Int) : Prop := ∀ i j, i < j → j < T.length → tC (T.getD i 0) < tC (T.getD j 0)
def cutP (T : List Int) (k : Nat) : List Int := T.take k ++ T.drop (k + 1)
def popT (T : List Int) : List Int := cutP T (fsK T T.length)
def minT (T : List Int) : Int := T.getD (fsK T T.length) 0
def allT : Nat → List Int → List Int
  | 0, _ => []
  | f + 1, T => if T.length = 0 then [] else minT T :: allT f (popT T)
def drH : Nat → List Int → List Int
  | 0, _ => []
  | f + 1, H => if H.length = 0 then [] else H.getD 0 0 :: drH f (popL H)
structure QR (T H : List Int) : Prop where
  cnt : ∀ x, H.count x = T.count x
  ord : Ordd H
  srt : Srt T
theorem fsK_lt (T : List Int) (h : 0 < T.length) : ∀ i, i ≤ T.length → fsK T i < T.length
  | 0, _ => h
  | i + 1, hi => by
    unfold fsK
    split
    · omega
    · exact fsK_lt T h i (by omega)
theorem fsK_le (T : List Int) : ∀ i, fsK T i ≤ i
  | 0 => Nat.le_refl _
  | i + 1 => by
    unfold fsK
    split
    · omega
    · have := fsK_le T i; omega
theorem fsK_least (T : List Int) (hs : Srt T) : ∀ i, i ≤ T.length → ∀ j, j < i → T.getD (fsK T i) 0 ≤ T.getD j 0
  | 0, _, j, hj => by omega
  | i + 1, hi, j, hj => by
    have ih := fsK_least T hs i (by omega)
    have hl := fsK_le T i
    unfold fsK
    split
    · rename_i h
      have h1 : T.getD i 0 < T.getD (fsK T i) 0 := by rw [code_lt]; exact .inl h
      by_cases e : j = i
      · subst e; exact Int.le_refl _
      · have := ih j (by omega); omega
    · rename_i h
      by_cases e : j = i
      · subst e
        by_cases z : fsK T j = j
        · rw [z]; exact Int.le_refl _
        · have t := hs (fsK T j) j (by omega) (by omega)
          have : T.getD (fsK T j) 0 < T.getD j 0 := by rw [code_lt]; omega
          omega
      · exact ih j (by omega)
theorem QR.len {T H : List Int} (h : QR T H) : H.length = T.length := by
  have p : H.Perm T := List.perm_iff_count.2 h.cnt
  exact p.length_eq
theorem Srt.count {T : List Int} (h : Srt T) (x : Int) : T.count x ≤ 1 := by
  have p : T.Pairwise (· ≠ ·) := by
    rw [List.pairwise_iff_getElem]
    intro i j hi hj hij e
    have := h i j hij hj
    simp [hi, hj, e] at this
  exact List.nodup_iff_count.1 p x
theorem QR.dist {T H : List Int} (h : QR T H) : Dist H := dist_of_count fun x => by rw [h.cnt]; exact h.srt.count x
theorem getD_mem' (T : List Int) (k : Nat) (h : k < T.length) : T.getD k 0 ∈ T := by rw [show T.getD k 0 = T[k] by simp [h]]; exact List.getElem_mem h
theorem QR.head {T H : List Int} (h : QR T H) (h1 : 0 < T.length) : H.getD 0 0 = minT T := by
  have hk := fsK_lt T h1 T.length (Nat.le_refl _)
  have a : minT T ∈ H := List.count_pos_iff.1 (by rw [h.cnt]; exact List.count_pos_iff.2 (getD_mem' _ _ hk))
  have b : H.getD 0 0 ∈ T := List.count_pos_iff.1 (by rw [← h.cnt]; exact List.count_pos_iff.2 (getD_mem' _ _ (by rw [h.len]; exact h1)))
  have l1 := h.ord.least _ a
  obtain ⟨j, hj, e⟩ := List.mem_iff_getElem.1 b
  have l2 := fsK_least T h.srt T.length (Nat.le_refl _) j hj
  rw [show T.getD j 0 = T[j] by simp [hj], e] at l2
  exact Int.le_antisymm l1 l2
theorem cutP_len (T : List Int) (k : Nat) (h : k < T.length) : (cutP T k).length = T.length - 1 := by unfold cutP; simp; omega
theorem cutP_get (T : List Int) (k i : Nat) (h : k < T.length) : (cutP T k).getD i 0 = if i < k then T.getD i 0 else T.getD (i + 1) 0 := by
  unfold cutP
  simp only [List.getD_eq_getElem?_getD, List.getElem?_append, List.length_take, List.getElem?_take, List.getElem?_drop]
  by_cases c : i < k
  · simp [c, show i < min k T.length by omega]
  · simp only [show ¬ i < min k T.length by omega, if_neg c, if_false]
    rw [show k + 1 + (i - min k T.length) = i + 1 by omega]
theorem cutP_count (T : List Int) (k : Nat) (h : k < T.length) (x : Int) : (cutP T k).count x + (if T.getD k 0 = x then 1 else 0) = T.count x := by
  have e : T = T.take k ++ (T.getD k 0 :: T.drop (k + 1)) := by
    rw [show T.getD k 0 = T[k] by simp [h], List.getElem_cons_drop, List.take_append_drop]
  unfold cutP
  conv => rhs; rw [e]
  rw [List.count_append, List.count_append, List.count_cons]
  simp
  omega
theorem Srt.cut {T : List Int} (h : Srt T) (k : Nat) (hk : k < T.length) : Srt (cutP T k) := by
  intro i j hij hj
  rw [cutP_len T k hk] at hj
  rw [cutP_get T k i hk, cutP_get T k j hk]
  split <;> split
  · exact h i j hij (by omega)
  · exact h i (j + 1) (by omega) (by omega)
  · omega
  · exact h (i + 1) (j + 1) (by omega) (by omega)
theorem popT_len (T : List Int) (h : 0 < T.length) : (popT T).length = T.length - 1 := cutP_len _ _ (fsK_lt T h _ (Nat.le_refl _))
theorem QR.pop {T H : List Int} (h : QR T H) (h1 : 0 < T.length) : QR (popT T) (popL H) := by
  have hk := fsK_lt T h1 T.length (Nat.le_refl _)
  refine ⟨fun x => ?_, popL_ord H h.ord (by rw [h.len]; exact h1), h.srt.cut _ hk⟩
  have a := popL_count H x (by rw [h.len]; exact h1)
  have b := cutP_count T _ hk x
  rw [h.head h1, h.cnt x] at a
  unfold minT at a
  unfold popT
  omega
theorem QR.push {T H : List Int} (h : QR T H) (c : Int) (hc : ∀ x ∈ T, tC x < tC c) : QR (T ++ [c]) (pushL H c) := by
  refine ⟨fun x => ?_, pushL_ord H c h.ord, ?_⟩
  · rw [pushL_count, List.count_append, h.cnt, List.count_singleton]
    by_cases e : c = x <;> simp [e]
  · intro i j hij hj
    simp only [List.length_append, List.length_singleton] at hj
    by_cases e : j = T.length
    · subst e
      have a : (T ++ [c]).getD T.length 0 = c := by simp
      have b : (T ++ [c]).getD i 0 = T.getD i 0 := by simp [List.getElem?_append, hij]
      rw [a, b]
      exact hc _ (getD_mem' _ _ hij)
    · have a : (T ++ [c]).getD j 0 = T.getD j 0 := by simp [List.getElem?_append, show j < T.length by omega]
      have b : (T ++ [c]).getD i 0 = T.getD i 0 := by simp [List.getElem?_append, show i < T.length by omega]
      rw [a, b]
      exact h.srt i j hij (by omega)
theorem QR.nil : QR [] [] := ⟨fun _ => rfl, by intro j _ hj; simp at hj, by intro i j _ hj; simp at hj⟩
theorem QR.dr {T H : List Int} (h : QR T H) : ∀ f, drH f H = allT f T := by
  intro f
  induction f generalizing T H with
  | zero => rfl
  | succ f ih =>
    unfold drH allT
    rw [h.len]
    by_cases e : T.length = 0
    · rw [if_pos e, if_pos e]
    · rw [if_neg e, if_neg e, h.head (by omega), ih (h.pop (by omega))]
theorem drH_len (f : Nat) : ∀ H : List Int, H.length ≤ f → (drH f H).length = H.length := by
  induction f with
  | zero => intro H h; simp at h; subst h; rfl
  | succ f ih =>
    intro H h
    unfold drH
    by_cases e : H.length = 0
    · rw [if_pos e]; simp [e]
    · rw [if_neg e, List.length_cons, ih _ (by rw [popL_len H (by omega)]; omega), popL_len H (by omega)]; omega
theorem drH_step (H : List Int) (h : 0 < H.length) : drH H.length H = H.getD 0 0 :: drH (popL H).length (popL H) := by
  rw [popL_len H h]
  obtain ⟨m, hm⟩ : ∃ m, H.length = m + 1 := ⟨H.length - 1, by omega⟩
  rw [hm, Nat.add_sub_cancel]
  show (if _ then _ else _) = _
  rw [if_neg (by omega)]
theorem popT_mem (T : List Int) (x : Int) (h : x ∈ popT T) : x ∈ T := by
  unfold popT cutP at h
  rcases List.mem_append.1 h with h | h
  · exact List.mem_of_mem_take h
  · exact List.mem_of_mem_drop h
/-- What comes in order. -/
theorem allT_mem (f : Nat) : ∀ (T : List Int) (x : Int), x ∈ allT f T → x ∈ T := by
  induction f with
  | zero => intro T x h; cases h
  | succ f ih =>
    intro T x h
    unfold allT at h
    by_cases e : T.length = 0
    · rw [if_pos e] at h; cases h
    · rw [if_neg e] at h
      rcases List.mem_cons.1 h with h | h
      · rw [h]; exact getD_mem' _ _ (fsK_lt T (by omega) _ (Nat.le_refl _))
      · exact popT_mem T x (ih _ _ h)
theorem allT_sorted (f : Nat) : ∀ (T : List Int), Srt T → (allT f T).Pairwise (· ≤ ·) := by
  induction f with
  | zero => intro T _; exact List.Pairwise.nil
  | succ f ih =>
    intro T hs
    unfold allT
    by_cases e : T.length = 0
    · rw [if_pos e]; exact List.Pairwise.nil
    · rw [if_neg e]
      refine List.Pairwise.cons ?_ (ih _ (hs.cut _ (fsK_lt T (by omega) _ (Nat.le_refl _))))
      intro y hy
      obtain ⟨j, hj, e2⟩ := List.mem_iff_getElem.1 (popT_mem T y (allT_mem _ _ _ hy))
      have := fsK_least T hs T.length (Nat.le_refl _) j hj
      rwa [show T.getD j 0 = T[j] by simp [hj], e2] at this
end Go.Proofs.Ytmldoeigemippaa
