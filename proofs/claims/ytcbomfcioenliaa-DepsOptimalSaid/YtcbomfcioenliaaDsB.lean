/- What must follow a unit, and the best chains: theory; no condition. -/
import Derived.Test.YtcbomfcioenliaaDsA
namespace Go.Proofs.Ytcbomfcioenliaa
set_option linter.unusedVariables false

/-- j follows i; b tells whether a later stage was asked for on the way. -/
inductive Rch (g : List (List Int)) (i : Nat) : Nat → Bool → Prop
  | refl : Rch g i i false
  | step {j k : Nat} {b : Bool} : Rch g i j b → dp g j k ≠ 0 → Rch g i k (b || decide (dp g j k = 2))
theorem Rch.le {g : List (List Int)} {i j : Nat} {b : Bool} (h : Rch g i j b) : i ≤ j := by
  induction h with
  | refl => exact Nat.le_refl _
  | step _ hd ih => have := (dp_lt hd).1; omega
theorem Rch.lt {g : List (List Int)} {i j : Nat} {b : Bool} (h : Rch g i j b) (hb : b = true) : i < j ∧ j < g.length := by
  cases h with
  | refl => cases hb
  | step h hd => have q := dp_lt hd; have := h.le; exact ⟨by omega, q.2⟩
theorem Rch.len {g : List (List Int)} {i j : Nat} {b : Bool} (h : Rch g i j b) (hi : i < g.length) : j < g.length := by
  cases h with
  | refl => exact hi
  | step _ hd => exact (dp_lt hd).2
theorem Rch.trans {g : List (List Int)} {i j k : Nat} {a b : Bool} (h : Rch g i j a) (q : Rch g j k b) : Rch g i k (a || b) := by
  induction q with
  | refl => rw [Bool.or_false]; exact h
  | step _ hd ih => have := ih.step hd; rwa [Bool.or_assoc] at this
theorem Rch.one {g : List (List Int)} {i j : Nat} (h : dp g i j ≠ 0) : Rch g i j (decide (dp g i j = 2)) := by
  have := (Rch.refl (g := g) (i := i)).step h
  rwa [Bool.false_or] at this
theorem Rch.first {g : List (List Int)} {i j : Nat} {b : Bool} (h : Rch g i j b) : (j = i ∧ b = false) ∨ ∃ k c, dp g i k ≠ 0 ∧ Rch g k j c ∧ b = (decide (dp g i k = 2) || c) := by
  induction h with
  | refl => exact .inl ⟨rfl, rfl⟩
  | step h hd ih =>
    rename_i j k b
    rcases ih with ⟨rfl, rfl⟩ | ⟨m, c, h1, h2, h3⟩
    · exact .inr ⟨k, false, hd, .refl, by simp⟩
    · exact .inr ⟨m, _, h1, h2.step hd, by rw [h3, Bool.or_assoc]⟩

/-- j must be later than i. -/
def Lt (g : List (List Int)) (i j : Nat) : Prop := Rch g i j true
theorem Lt.from2 {g : List (List Int)} {i k j : Nat} {b : Bool} (h : dp g i k = 2) (q : Rch g k j b) : Lt g i j := by
  have := (Rch.one (g := g) (i := i) (j := k) (by omega)).trans q
  rw [decide_eq_true h] at this
  simpa [Lt] using this
theorem Lt.from1 {g : List (List Int)} {i k j : Nat} (h : dp g i k ≠ 0) (q : Lt g k j) : Lt g i j := by
  have := (Rch.one h).trans q
  rw [Bool.or_true] at this
  exact this
theorem Lt.cases1 {g : List (List Int)} {i j : Nat} (h : Lt g i j) : ∃ k, (dp g i k = 2 ∧ ∃ b, Rch g k j b) ∨ (dp g i k = 1 ∧ Lt g k j) := by
  rcases Rch.first h with ⟨_, e⟩ | ⟨k, c, h1, h2, h3⟩
  · cases e
  · refine ⟨k, ?_⟩
    rcases dp_vals g i k with e | e | e
    · exact absurd e h1
    · refine .inr ⟨e, ?_⟩
      have : c = true := by rw [e] at h3; simpa using h3.symm
      subst this; exact h2
    · exact .inl ⟨e, c, h2⟩

/-- l is the length of the best chain that begins with i, x i the second unit of it. -/
def BestAt (g : List (List Int)) (l : Nat → Int) (x : Nat → Nat) (i : Nat) : Prop :=
  ((∀ j, ¬ Lt g i j) ∧ l i = 1) ∨ (Lt g i (x i) ∧ l i = l (x i) + 1 ∧ ∀ j, Lt g i j → l j < l (x i) ∨ (l j = l (x i) ∧ x i ≤ j))
theorem best_pos {g : List (List Int)} {l : Nat → Int} {x : Nat → Nat} (h : ∀ i, i < g.length → BestAt g l x i) : ∀ d i, g.length - i ≤ d → i < g.length → 1 ≤ l i := by
  intro d
  induction d with
  | zero => intro i h1 h2; omega
  | succ d ih =>
    intro i h1 h2
    rcases h i h2 with ⟨_, e⟩ | ⟨e1, e2, _⟩
    · omega
    · have := Rch.lt e1 rfl
      have := ih (x i) (by omega) this.2
      omega
/-- What can be reached has no longer chain. -/
theorem best_mono {g : List (List Int)} {l : Nat → Int} {x : Nat → Nat} {i : Nat} (h : ∀ k, i ≤ k → k < g.length → BestAt g l x k) (hp : ∀ k, i ≤ k → k < g.length → 1 ≤ l k) (hi : i < g.length) {j : Nat} {b : Bool} (q : Rch g i j b) : l j ≤ l i := by
  have hj := q.len hi
  have hij := q.le
  rcases h j hij hj with ⟨_, e⟩ | ⟨e1, e2, _⟩
  · have := hp i (Nat.le_refl _) hi; omega
  · have hL : Lt g i (x j) := by
      have := q.trans e1
      rwa [Bool.or_true] at this
    rcases h i (Nat.le_refl _) hi with ⟨f, _⟩ | ⟨_, f2, f3⟩
    · exact absurd hL (f _)
    · rcases f3 _ hL with k | ⟨k, _⟩ <;> omega
/-- Two such functions agree. -/
theorem best_same {g : List (List Int)} {l l2 : Nat → Int} {x x2 : Nat → Nat} (h : ∀ i, i < g.length → BestAt g l x i) (h2 : ∀ i, i < g.length → BestAt g l2 x2 i) :
    ∀ d i, g.length - i ≤ d → i < g.length → l i = l2 i ∧ (1 < l i → x i = x2 i) := by
  intro d
  induction d with
  | zero => intro i a b; omega
  | succ d ih =>
    intro i a b
    have low : ∀ j, Lt g i j → l j = l2 j := fun j hj => by
      have := Rch.lt hj rfl
      exact (ih j (by omega) this.2).1
    rcases h i b with ⟨n1, e1⟩ | ⟨t1, e1, m1⟩
    · rcases h2 i b with ⟨_, e2⟩ | ⟨t2, _, _⟩
      · exact ⟨by omega, fun k => by omega⟩
      · exact absurd t2 (n1 _)
    · rcases h2 i b with ⟨n2, _⟩ | ⟨t2, e2, m2⟩
      · exact absurd t1 (n2 _)
      · have a1 := m1 _ t2
        have a2 := m2 _ t1
        have b1 := low _ t1
        have b2 := low _ t2
        have e : x i = x2 i := by rcases a1 with p | ⟨p, q⟩ <;> rcases a2 with r | ⟨r, s⟩ <;> omega
        rw [e] at e1 b1
        exact ⟨by omega, fun _ => e⟩

/-- Chain a is better than chain b: longer, or as long and it begins earlier. -/
def better (a b : Int × Int) : Bool := decide (b.1 < a.1 ∨ (a.1 = b.1 ∧ a.2 < b.2))
theorem not_better {a b : Int × Int} (h : better a b = false) : a.1 < b.1 ∨ (a.1 = b.1 ∧ b.2 ≤ a.2) := by
  unfold better at h
  rw [decide_eq_false_iff_not] at h
  omega
theorem is_better {a b : Int × Int} (h : better a b = true) : b.1 < a.1 ∨ (a.1 = b.1 ∧ a.2 < b.2) := of_decide_eq_true h
/-- The candidate that unit j is for unit i, where it is one. -/
def cnd (g : List (List Int)) (f : Nat → Int × Int) (i j : Nat) : Int × Int := if dp g i j = 1 then f j else if dp g i j = 2 then ((f j).1 + 1, (j : Int)) else (0, 0)
/-- The program's chain of i, when the first j elements have been asked. -/
def chI (g : List (List Int)) (f : Nat → Int × Int) (i : Nat) : Nat → Int × Int
  | 0 => (0, 0)
  | j + 1 => if dp g i j ≠ 0 ∧ better (cnd g f i j) (chI g f i j) = true then cnd g f i j else chI g f i j
theorem chI_skip {g : List (List Int)} {f : Nat → Int × Int} {i j : Nat} (h : dp g i j = 0) : chI g f i (j + 1) = chI g f i j := by
  rw [chI, if_neg (fun k => k.1 h)]
theorem chI_yes {g : List (List Int)} {f : Nat → Int × Int} {i j : Nat} (h : dp g i j ≠ 0) (hb : better (cnd g f i j) (chI g f i j) = true) : chI g f i (j + 1) = cnd g f i j := by
  rw [chI, if_pos ⟨h, hb⟩]
theorem chI_no {g : List (List Int)} {f : Nat → Int × Int} {i j : Nat} (hb : better (cnd g f i j) (chI g f i j) = false) : chI g f i (j + 1) = chI g f i j := by
  rw [chI, if_neg (fun k => by rw [hb] at k; exact absurd k.2 (by decide))]
theorem chI_more {g : List (List Int)} {f : Nat → Int × Int} {i : Nat} (d m : Nat) (h : ∀ j, m ≤ j → dp g i j = 0) : chI g f i (m + d) = chI g f i m := by
  induction d with
  | zero => rfl
  | succ d ih => rw [← Nat.add_assoc, chI_skip (h _ (by omega)), ih]
theorem chI_congr {g : List (List Int)} {f f2 : Nat → Int × Int} {i : Nat} (h : ∀ j, i < j → j < g.length → f j = f2 j) (m : Nat) : chI g f i m = chI g f2 i m := by
  induction m with
  | zero => rfl
  | succ m ih =>
    by_cases hd : dp g i m = 0
    · rw [chI_skip hd, chI_skip hd, ih]
    · have hl := dp_lt hd
      have e : cnd g f i m = cnd g f2 i m := by unfold cnd; rw [h m hl.1 hl.2]
      rw [chI, chI, e, ih]
/-- What the program has found is no worse than any candidate, and one of them, or nothing. -/
theorem chI_max {g : List (List Int)} {f : Nat → Int × Int} {i : Nat} (m : Nat) : ∀ j, j < m → dp g i j ≠ 0 → (cnd g f i j).1 < (chI g f i m).1 ∨ ((cnd g f i j).1 = (chI g f i m).1 ∧ (chI g f i m).2 ≤ (cnd g f i j).2) := by
  induction m with
  | zero => intro j hj; omega
  | succ m ih =>
    intro j hj hd
    by_cases e : j = m
    · subst e
      cases hb : better (cnd g f i j) (chI g f i j)
      · rw [chI_no hb]; exact not_better hb
      · rw [chI_yes hd hb]; exact .inr ⟨rfl, Int.le_refl _⟩
    · have q := ih j (by omega) hd
      cases hb : better (cnd g f i m) (chI g f i m)
      · rw [chI_no hb]; exact q
      · by_cases hm : dp g i m = 0
        · rw [chI_skip hm]; exact q
        · rw [chI_yes hm hb]
          have := is_better hb
          omega
theorem chI_from {g : List (List Int)} {f : Nat → Int × Int} {i : Nat} (m : Nat) : chI g f i m = (0, 0) ∨ ∃ j, j < m ∧ dp g i j ≠ 0 ∧ chI g f i m = cnd g f i j ∧ (0 < (cnd g f i j).1 ∨ ((cnd g f i j).1 = 0 ∧ (cnd g f i j).2 < 0)) := by
  induction m with
  | zero => exact .inl rfl
  | succ m ih =>
    by_cases hd : dp g i m = 0
    · rw [chI_skip hd]
      rcases ih with e | ⟨j, a, b⟩
      · exact .inl e
      · exact .inr ⟨j, by omega, b⟩
    · cases hb : better (cnd g f i m) (chI g f i m)
      · rw [chI_no hb]
        rcases ih with e | ⟨j, a, b⟩
        · exact .inl e
        · exact .inr ⟨j, by omega, b⟩
      · rw [chI_yes hd hb]
        refine .inr ⟨m, by omega, hd, rfl, ?_⟩
        have q := is_better hb
        rcases ih with e | ⟨j, a, b, c, d⟩
        · rw [e] at q; simp at q; omega
        · rw [c] at q; omega
/-- The program's chains, when the last d units have been asked. -/
def ch (g : List (List Int)) : Nat → Nat → Int × Int
  | 0, _ => (0, 0)
  | d + 1, u => if u + d + 1 = g.length then chI g (ch g d) u (g.getD u []).length else ch g d u
theorem ch_keep {g : List (List Int)} {d u : Nat} (h : u + d + 1 ≠ g.length) : ch g (d + 1) u = ch g d u := by rw [ch, if_neg h]
theorem ch_make {g : List (List Int)} {d u : Nat} (h : u + d + 1 = g.length) : ch g (d + 1) u = chI g (ch g d) u (g.getD u []).length := by rw [ch, if_pos h]
theorem ch_late {g : List (List Int)} {u d : Nat} (h : g.length ≤ u + d) (e : Nat) : ch g (d + e) u = ch g d u := by
  induction e with
  | zero => rfl
  | succ e ih => rw [← Nat.add_assoc, ch_keep (by omega), ih]
def chF (g : List (List Int)) (u : Nat) : Int × Int := ch g g.length u
theorem chF_at {g : List (List Int)} {u d : Nat} (h : g.length ≤ u + d) (hd : d ≤ g.length) : ch g d u = chF g u := by
  have := ch_late h (g.length - d)
  rw [show d + (g.length - d) = g.length by omega] at this
  exact this.symm
theorem chF_eq {g : List (List Int)} {u : Nat} (h : u < g.length) : chF g u = chI g (chF g) u (g.getD u []).length := by
  rw [← chF_at (d := g.length - u - 1 + 1) (by omega) (by omega), ch_make (by omega)]
  exact chI_congr (fun j h1 h2 => chF_at (by omega) (by omega)) _
theorem chF_best (g : List (List Int)) : ∀ d i, g.length - i ≤ d → i < g.length → 0 ≤ (chF g i).1 ∧ 0 ≤ (chF g i).2 ∧ BestAt g (fun u => (chF g u).1 + 1) (fun u => (chF g u).2.toNat) i := by
  intro d
  induction d with
  | zero => intro i a b; omega
  | succ d ih =>
    intro i a b
    have up : ∀ k, i < k → k < g.length → 0 ≤ (chF g k).1 ∧ 0 ≤ (chF g k).2 ∧ BestAt g (fun u => (chF g u).1 + 1) (fun u => (chF g u).2.toNat) k := fun k h1 h2 => ih k (by omega) h2
    have cmax := chI_max (g := g) (f := chF g) (i := i) (g.getD i []).length
    have cfrom := chI_from (g := g) (f := chF g) (i := i) (g.getD i []).length
    rw [← chF_eq b] at cmax cfrom
    have inrow : ∀ k, dp g i k ≠ 0 → k < (g.getD i []).length := fun k hk => by
      rcases Nat.lt_or_ge k (g.getD i []).length with q | q
      · exact q
      · exact absurd (dp_far q) hk
    have mono : ∀ k j c, i < k → k < g.length → Rch g k j c → (chF g j).1 + 1 ≤ (chF g k).1 + 1 := fun k j c h1 h2 q =>
      best_mono (l := fun u => (chF g u).1 + 1) (fun m h3 h4 => (up m (by omega) h4).2.2) (fun m h3 h4 => by have := (up m (by omega) h4).1; show 1 ≤ (chF g m).1 + 1; omega) h2 q
    have c1 : ∀ k, dp g i k = 1 → cnd g (chF g) i k = chF g k := fun k e => by unfold cnd; rw [if_pos e]
    have c2 : ∀ k, dp g i k = 2 → cnd g (chF g) i k = ((chF g k).1 + 1, (k : Int)) := fun k e => by unfold cnd; rw [if_neg (by omega), if_pos e]
    rcases cfrom with e | ⟨k, k1, k2, k3, k4⟩
    · rw [e] at cmax ⊢
      refine ⟨by simp, by simp, .inl ⟨fun j hj => ?_, by show (chF g i).1 + 1 = 1; rw [e]; rfl⟩⟩
      obtain ⟨k, ⟨h1, c, h2⟩ | ⟨h1, h2⟩⟩ := Lt.cases1 hj
      · have hl := dp_lt (g := g) (i := i) (j := k) (by omega)
        have := cmax k (inrow k (by omega)) (by omega)
        rw [c2 k h1] at this
        have := (up k hl.1 hl.2).1
        simp at *
        omega
      · have hl := dp_lt (g := g) (i := i) (j := k) (by omega)
        have := cmax k (inrow k (by omega)) (by omega)
        rw [c1 k h1] at this
        have u1 := up k hl.1 hl.2
        rcases u1.2.2 with ⟨q, _⟩ | ⟨q1, q2, _⟩
        · exact q _ h2
        · have w1 := Rch.lt q1 rfl
          have := (up _ (by omega) w1.2).1
          simp at *
          omega
    · have hl := dp_lt k2
      have u1 := up k hl.1 hl.2
      -- what any unit that must be later is to the one found
      have all : ∀ j, Lt g i j → (chF g j).1 + 1 < (chF g i).1 ∨ ((chF g j).1 + 1 = (chF g i).1 ∧ (chF g i).2 ≤ (j : Int)) := by
        intro j hj
        obtain ⟨m, ⟨h1, c, h2⟩ | ⟨h1, h2⟩⟩ := Lt.cases1 hj
        · have hm := dp_lt (g := g) (i := i) (j := m) (by omega)
          have q := cmax m (inrow m (by omega)) (by omega)
          rw [c2 m h1] at q
          have r := mono m j c hm.1 hm.2 h2
          have := h2.le
          simp at q
          omega
        · have hm := dp_lt (g := g) (i := i) (j := m) (by omega)
          have q := cmax m (inrow m (by omega)) (by omega)
          rw [c1 m h1] at q
          have u2 := up m hm.1 hm.2
          rcases u2.2.2 with ⟨f, _⟩ | ⟨f1, f2, f3⟩
          · exact absurd h2 (f _)
          · have f4 := f3 j h2
            simp at f2 f4
            have := u2.2.1
            omega
      rcases dp_vals g i k with e | e | e
      · exact absurd e k2
      · have ec := c1 k e
        rw [ec] at k3 k4
        have pos : 0 < (chF g k).1 := by have := u1.2.1; omega
        rcases u1.2.2 with ⟨_, f⟩ | ⟨f1, f2, f3⟩
        · simp at f; omega
        · refine ⟨by rw [k3]; exact u1.1, by rw [k3]; exact u1.2.1, .inr ⟨?_, ?_, ?_⟩⟩
          · show Lt g i (chF g i).2.toNat
            rw [k3]; exact Lt.from1 (by omega) f1
          · show (chF g i).1 + 1 = (chF g (chF g i).2.toNat).1 + 1 + 1
            simp only at f2
            rw [k3]; omega
          · intro j hj
            show (chF g j).1 + 1 < (chF g (chF g i).2.toNat).1 + 1 ∨ ((chF g j).1 + 1 = (chF g (chF g i).2.toNat).1 + 1 ∧ (chF g i).2.toNat ≤ j)
            have q := all j hj
            simp only at f2
            rw [k3] at q ⊢
            have := u1.2.1
            omega
      · have ec := c2 k e
        rw [ec] at k3 k4
        have z1 : (chF g i).1 = (chF g k).1 + 1 := by rw [k3]
        have z2 : (chF g i).2 = (k : Int) := by rw [k3]
        have z3 : (chF g i).2.toNat = k := by rw [z2]; simp
        refine ⟨by have := u1.1; omega, by omega, .inr ⟨?_, ?_, ?_⟩⟩
        · show Lt g i (chF g i).2.toNat
          rw [z3]; exact Lt.from2 e .refl
        · show (chF g i).1 + 1 = (chF g (chF g i).2.toNat).1 + 1 + 1
          rw [z3]; omega
        · intro j hj
          show (chF g j).1 + 1 < (chF g (chF g i).2.toNat).1 + 1 ∨ ((chF g j).1 + 1 = (chF g (chF g i).2.toNat).1 + 1 ∧ (chF g i).2.toNat ≤ j)
          have q := all j hj
          rw [z3]
          omega
theorem chF_pos (g : List (List Int)) (i : Nat) (h : i < g.length) : 0 ≤ (chF g i).1 ∧ 0 ≤ (chF g i).2 := by
  have := chF_best g _ i (Nat.le_refl _) h; exact ⟨this.1, this.2.1⟩
theorem chF_at_best (g : List (List Int)) (i : Nat) (h : i < g.length) : BestAt g (fun u => (chF g u).1 + 1) (fun u => (chF g u).2.toNat) i := (chF_best g _ i (Nat.le_refl _) h).2.2
end Go.Proofs.Ytcbomfcioenliaa
