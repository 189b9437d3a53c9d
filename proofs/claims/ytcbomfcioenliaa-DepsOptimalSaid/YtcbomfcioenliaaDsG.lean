/- The program's chains: isBetter, chains; no condition but the matrix's size. -/
import Derived.Test.YtcbomfcioenliaaDsF
namespace Go.Proofs.Ytcbomfcioenliaa
open Go.RowKit
set_option linter.unusedVariables false

theorem better_any (w : World) (a b c d : Int) : Calls Try.prog 18 #[.agg #[.int .i64 a, .int .i64 b], .agg #[.int .i64 c, .int .i64 d]] w (RetQ (.bool (better (a, b) (c, d))) w none fun _ => True) := by
  have G := Lib.hid (gb_trans (gb_alloc w (.cells #[.int .i64 a, .int .i64 b] 33) none) (gb_alloc _ (.cells #[.int .i64 c, .int .i64 d] 33) none))
  by_cases h1 : c < a
  · have HE := Lib.hid (show better (a, b) (c, d) = true from decide_eq_true (.inl h1))
    go_enter Try.func18, Try.ntmps18
    go_wp2
    go_ret
    exact ret_bq HE.out.symm G.out
  · by_cases h2 : a = c
    · subst h2
      by_cases h3 : b < d
      · have HE := Lib.hid (show better (a, b) (a, d) = true from decide_eq_true (.inr ⟨rfl, h3⟩))
        go_enter Try.func18, Try.ntmps18
        go_wp2
        go_ret
        exact ret_bq HE.out.symm G.out
      · have HE := Lib.hid (show better (a, b) (a, d) = false from decide_eq_false (fun k => by rcases k with k | ⟨_, k⟩ <;> simp at k <;> omega))
        go_enter Try.func18, Try.ntmps18
        go_wp2
        go_ret
        exact ret_bq HE.out.symm G.out
    · have HE := Lib.hid (show better (a, b) (c, d) = false from decide_eq_false (fun k => by rcases k with k | ⟨k, _⟩ <;> simp at k <;> omega))
      have b1 : (a == c) = false := by simpa using h2
      go_enter Try.func18, Try.ntmps18
      go_wp2
      go_ret
      exact ret_bq HE.out.symm G.out

theorem infoCh : (Try.prog.info? 33).map (fun i => (i.zero, i.size, i.bytes)) = some (some (.agg #[.int .i64 0, .int .i64 0]), 2, 16) := by kernel_rfl
/-- A row of chains of the call's own at block b. -/
def PR (W : World) (b n : Nat) (F : Nat → Int × Int) (w : World) : Prop :=
  (∃ cs : Array Value, IsB w b 33 cs ∧ ∀ u, u < n → cs[u * 2]? = some (.int .i64 (F u).1) ∧ cs[u * 2 + 1]? = some (.int .i64 (F u).2)) ∧ W.heap.size ≤ b ∧ W.grownBy w none
theorem PR.keep0 {W w w2 : World} {b n : Nat} {F : Nat → Int × Int} (h : PR W b n F w) (k : w.grownBy w2 none) : PR W b n F w2 := by
  obtain ⟨⟨cs, h1, h2⟩, h3, h4⟩ := h
  exact ⟨⟨cs, h1.keep0 k, h2⟩, h3, gb_trans h4 k⟩
theorem PR.lt {W w : World} {b n : Nat} {F : Nat → Int × Int} (h : PR W b n F w) : b < w.heap.size := by
  obtain ⟨⟨cs, h1, h2⟩, h3, h4⟩ := h
  exact h1.lt
theorem PR.is {W w : World} {b n : Nat} {F F2 : Nat → Int × Int} (h : PR W b n F w) (e : ∀ u, u < n → F u = F2 u) : PR W b n F2 w := by
  obtain ⟨⟨cs, h1, h2⟩, h3, h4⟩ := h
  exact ⟨⟨cs, h1, fun u hu => by rw [← e u hu]; exact h2 u hu⟩, h3, h4⟩
theorem PR.at0 {W w : World} {b n : Nat} {F : Nat → Int × Int} (h : PR W b n F w) (u : Nat) (hu : u < n) : w.cell? ⟨b, u * 2, none⟩ = some (.int .i64 (F u).1) := by
  obtain ⟨⟨cs, h1, h2⟩, h3, h4⟩ := h
  rw [h1.cell]; exact (h2 u hu).1
theorem PR.at1 {W w : World} {b n : Nat} {F : Nat → Int × Int} (h : PR W b n F w) (u : Nat) (hu : u < n) : w.cell? ⟨b, u * 2 + 1, none⟩ = some (.int .i64 (F u).2) := by
  obtain ⟨⟨cs, h1, h2⟩, h3, h4⟩ := h
  rw [h1.cell]; exact (h2 u hu).2
theorem PR.free {W w : World} {b n : Nat} {F : Nat → Int × Int} (h : PR W b n F w) (i : Nat) : w.frozen? ⟨b, i, none⟩ = false := by
  obtain ⟨⟨cs, h1, h2⟩, h3, h4⟩ := h
  exact h1.free i
theorem PR.put {W w : World} {b n : Nat} {F : Nat → Int × Int} (h : PR W b n F w) (u : Nat) (hu : u < n) (x y : Int) :
    PR W b n (fun v => if v = u then (x, y) else F v) ((w.setCell ⟨b, u * 2, none⟩ (.int .i64 x)).setCell ⟨b, u * 2 + 1, none⟩ (.int .i64 y)) := by
  obtain ⟨⟨cs, h1, h2⟩, h3, h4⟩ := h
  refine ⟨⟨_, (h1.set (u * 2) (.int .i64 x)).set (u * 2 + 1) (.int .i64 y), fun v hv => ?_⟩, h3, ?_⟩
  · have l1 := (Array.getElem?_eq_some_iff.1 (h2 u hu).1).1
    have l2 := (Array.getElem?_eq_some_iff.1 (h2 u hu).2).1
    obtain ⟨c1, c2⟩ := h2 v hv
    by_cases e : v = u
    · subst e
      simp only [if_true]
      constructor
      · rw [Array.getElem?_setIfInBounds, if_neg (by omega), Array.getElem?_setIfInBounds, if_pos rfl, if_pos l1]
      · rw [Array.getElem?_setIfInBounds, if_pos rfl, if_pos (by simpa using l2)]
    · simp only [if_neg e]
      constructor
      · rw [Array.getElem?_setIfInBounds, if_neg (by omega), Array.getElem?_setIfInBounds, if_neg (by omega)]; exact c1
      · rw [Array.getElem?_setIfInBounds, if_neg (by omega), Array.getElem?_setIfInBounds, if_neg (by omega)]; exact c2
  · exact gb_new (gb_trans (gb_trans (gb_any h4) (gb_set w b _ _)) (gb_set _ b _ _)) h3
/-- A store into a box elsewhere. -/
theorem PR.far {W w : World} {b n g : Nat} {F : Nat → Int × Int} (h : PR W b n F w) (hg : b ≠ g) (hW : W.heap.size ≤ g) (i : Nat) (u : Value) : PR W b n F (w.setCell ⟨g, i, none⟩ u) := by
  obtain ⟨⟨cs, h1, h2⟩, h3, h4⟩ := h
  exact ⟨⟨cs, h1.set_far hg i u, h2⟩, h3, gb_new (gb_trans (gb_any h4) (gb_set w g i u)) hW⟩
theorem own_full {w : World} {base g n size : Nat} {e : TypeId} {xs : List Value} (h : w.ownsRow base e size (.slice (some ⟨g, 0, none⟩) n n) n xs) : IsB w g e xs.toArray ∧ base ≤ g := by
  rcases h.2 with ⟨h1, _⟩ | ⟨g2, cap, cur, h1, h2, h3, _, _, h6, h7⟩
  · cases h1
  · injection h1 with h1 _ h4
    injection h1 with h1
    injection h1 with h1
    subst h1 h4
    have e1 : xs = cur.toList := by rw [← h7]; apply List.take_of_length_le; rw [Array.length_toList, h6]; exact Nat.le_refl _
    refine ⟨?_, h2⟩
    rw [e1]
    exact h3
/-- The program's row in the round of unit i, element j. -/
def cF (g : List (List Int)) (d i j u : Nat) : Int × Int := if u = i then chI g (ch g d) i j else ch g d u
theorem ch_zero (g : List (List Int)) (d u : Nat) (h : u + d < g.length) : ch g d u = (0, 0) := by
  induction d with
  | zero => rfl
  | succ d ih => rw [ch_keep (by omega)]; exact ih (by omega)
theorem cF_start {g : List (List Int)} {d i : Nat} (h : i + d + 1 = g.length) (u : Nat) : ch g d u = cF g d i 0 u := by
  unfold cF
  by_cases e : u = i
  · subst e; rw [if_pos rfl, ch_zero g d u (by omega)]; rfl
  · rw [if_neg e]
theorem cF_end {g : List (List Int)} {d i : Nat} (h : i + d + 1 = g.length) (u : Nat) : cF g d i (g.getD i []).length u = ch g (d + 1) u := by
  unfold cF
  by_cases e : u = i
  · subst e; rw [if_pos rfl, ch_make h]
  · rw [if_neg e, ch_keep (by omega)]
theorem cF_own (g : List (List Int)) (d i j : Nat) : cF g d i j i = chI g (ch g d) i j := by unfold cF; rw [if_pos rfl]
theorem cF_at {g : List (List Int)} {d i j u : Nat} (h : i < u) : cF g d i j u = ch g d u := by unfold cF; rw [if_neg (by omega)]
theorem cF_next {g : List (List Int)} {d i j : Nat} (h : chI g (ch g d) i (j + 1) = chI g (ch g d) i j) (u : Nat) : cF g d i j u = cF g d i (j + 1) u := by
  unfold cF; rw [h]
theorem cF_put {g : List (List Int)} {d i j : Nat} {x y : Int} (h : chI g (ch g d) i (j + 1) = (x, y)) (u : Nat) : (if u = i then (x, y) else cF g d i j u) = cF g d i (j + 1) u := by
  unfold cF
  by_cases e : u = i
  · rw [if_pos e, if_pos e, h]
  · rw [if_neg e, if_neg e, if_neg e]
/-- The lengths are small. -/
theorem chI_range {g : List (List Int)} {f : Nat → Int × Int} {i : Nat} {B : Int} (h : ∀ u, 0 ≤ (f u).1 ∧ (f u).1 ≤ B) (hB : 0 ≤ B) (m : Nat) : 0 ≤ (chI g f i m).1 ∧ (chI g f i m).1 ≤ B + 1 := by
  induction m with
  | zero => exact ⟨Int.le_refl _, by show (0 : Int) ≤ B + 1; omega⟩
  | succ m ih =>
    rw [chI]
    split
    · unfold cnd
      have := h m
      split
      · omega
      · split
        · show 0 ≤ (f m).1 + 1 ∧ (f m).1 + 1 ≤ B + 1; omega
        · show 0 ≤ (0 : Int) ∧ (0 : Int) ≤ B + 1; omega
    · exact ih
theorem ch_range (g : List (List Int)) (d : Nat) : ∀ u, 0 ≤ (ch g d u).1 ∧ (ch g d u).1 ≤ d := by
  induction d with
  | zero => intro u; exact ⟨Int.le_refl _, Int.le_refl _⟩
  | succ d ih =>
    intro u
    rw [ch]
    split
    · have := chI_range (g := g) (i := u) ih (by omega) (g.getD u []).length
      omega
    · have := ih u
      omega
end Go.Proofs.Ytcbomfcioenliaa
