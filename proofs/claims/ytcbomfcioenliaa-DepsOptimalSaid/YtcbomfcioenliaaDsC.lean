/- The critical path as the program finds it and as the reference does: theory; no condition. -/
import Derived.Test.YtcbomfcioenliaaDsB
namespace Go.Proofs.Ytcbomfcioenliaa
set_option linter.unusedVariables false

/-- The best of the first k whole chains. -/
def bo (g : List (List Int)) : Nat → Int × Int
  | 0 => (0, 0)
  | k + 1 => if better ((chF g k).1 + 1, (k : Int)) (bo g k) then ((chF g k).1 + 1, (k : Int)) else bo g k
theorem bo_yes {g : List (List Int)} {k : Nat} (h : better ((chF g k).1 + 1, (k : Int)) (bo g k) = true) : bo g (k + 1) = ((chF g k).1 + 1, (k : Int)) := by rw [bo, if_pos h]
theorem bo_no {g : List (List Int)} {k : Nat} (h : better ((chF g k).1 + 1, (k : Int)) (bo g k) = false) : bo g (k + 1) = bo g k := by rw [bo, if_neg (by rw [h]; decide)]
theorem bo_is {g : List (List Int)} (k : Nat) (hk : k ≤ g.length) (h : 0 < k) : ∃ u : Nat, u < k ∧ bo g k = ((chF g u).1 + 1, (u : Int)) ∧ ∀ v, v < k → (chF g v).1 < (chF g u).1 ∨ ((chF g v).1 = (chF g u).1 ∧ u ≤ v) := by
  induction k with
  | zero => omega
  | succ k ih =>
    cases hb : better ((chF g k).1 + 1, (k : Int)) (bo g k)
    · rw [bo_no hb]
      by_cases h0 : k = 0
      · subst h0
        have := not_better hb
        have := (chF_pos g 0 (by omega)).1
        simp [bo] at *
        omega
      · obtain ⟨u, a, b, c⟩ := ih (by omega) (by omega)
        refine ⟨u, by omega, b, fun v hv => ?_⟩
        rcases (show v < k ∨ v = k by omega) with q | rfl
        · exact c v q
        · have q := not_better hb
          rw [b] at q
          simp at q
          omega
    · rw [bo_yes hb]
      refine ⟨k, by omega, rfl, fun v hv => ?_⟩
      rcases (show v < k ∨ v = k by omega) with q | rfl
      · obtain ⟨u, a, b, c⟩ := ih (by omega) (by omega)
        have r := is_better hb
        rw [b] at r
        have := c v q
        simp at r
        omega
      · exact .inr ⟨rfl, Nat.le_refl _⟩
def nd (g : List (List Int)) (s : Nat) : Nat → Nat
  | 0 => s
  | t + 1 => (chF g (nd g s t)).2.toNat
theorem nd_cons (g : List (List Int)) (s t : Nat) : nd g s (t + 1) = nd g (chF g s).2.toNat t := by
  induction t with
  | zero => rfl
  | succ t ih => rw [nd, ih]; rfl
/-- The critical path. -/
def pathG (g : List (List Int)) : List Int := tab (bo g g.length).1.toNat fun t => (nd g (bo g g.length).2.toNat t : Nat)
theorem nd_ok {g : List (List Int)} {s : Nat} (h : s < g.length) : ∀ t : Nat, (t : Int) < (chF g s).1 + 1 → nd g s t < g.length ∧ (chF g (nd g s t)).1 + 1 = (chF g s).1 + 1 - t := by
  intro t
  induction t with
  | zero => intro _; exact ⟨h, by simp [nd]⟩
  | succ t ih =>
    intro ht
    obtain ⟨a, b⟩ := ih (by omega)
    rcases chF_at_best g _ a with ⟨_, e⟩ | ⟨e1, e2, _⟩
    · simp only at e; omega
    · have := Rch.lt e1 rfl
      simp only at e2
      refine ⟨this.2, ?_⟩
      rw [nd]; omega
theorem nd_lt {g : List (List Int)} {s : Nat} (h : s < g.length) (t : Nat) (ht : ((t : Int) + 1) < (chF g s).1 + 1) : Lt g (nd g s t) (nd g s (t + 1)) := by
  obtain ⟨a, b⟩ := nd_ok h t (by omega)
  rcases chF_at_best g _ a with ⟨_, e⟩ | ⟨e1, e2, _⟩
  · simp only at e; omega
  · exact e1
theorem tab_cons (n : Nat) (f : Nat → Int) : tab (n + 1) f = f 0 :: tab n fun t => f (t + 1) := by
  unfold tab
  rw [List.range_succ_eq_map, List.map_cons, List.map_map]
  rfl
theorem tab_snoc (n : Nat) (f : Nat → Int) : tab n f ++ [f n] = tab (n + 1) f := by
  unfold tab
  rw [List.range_succ, List.map_append]
  rfl

/-- What the reference knows of j as seen from i when t units behind i have been asked: whether it must follow, and whether it must be later. -/
def fr (g : List (List Int)) (i : Nat) : Nat → Nat → Bool × Bool
  | 0, j => (decide (j = i), false)
  | t + 1, j => if (fr g i t (i + t)).1 = true ∧ dp g (i + t) j ≠ 0 then (true, (fr g i t j).2 || (fr g i t (i + t)).2 || decide (dp g (i + t) j = 2)) else fr g i t j
theorem fr_skip {g : List (List Int)} {i t j : Nat} (h : ¬ ((fr g i t (i + t)).1 = true ∧ dp g (i + t) j ≠ 0)) : fr g i (t + 1) j = fr g i t j := by rw [fr, if_neg h]
theorem fr_yes {g : List (List Int)} {i t j : Nat} (h : (fr g i t (i + t)).1 = true) (h2 : dp g (i + t) j ≠ 0) : fr g i (t + 1) j = (true, (fr g i t j).2 || (fr g i t (i + t)).2 || decide (dp g (i + t) j = 2)) := by rw [fr, if_pos ⟨h, h2⟩]
def frF (g : List (List Int)) (i j : Nat) : Bool × Bool := fr g i (j - i) j
theorem frF_at (g : List (List Int)) (i t : Nat) : fr g i t (i + t) = frF g i (i + t) := by unfold frF; rw [show i + t - i = t by omega]
theorem frF_low {g : List (List Int)} {i j : Nat} (h : j ≤ i) : frF g i j = (decide (j = i), false) := by unfold frF; rw [show j - i = 0 by omega]; rfl
theorem fr_one (g : List (List Int)) (i t j : Nat) : (fr g i t j).1 = true ↔ j = i ∨ ∃ k, i ≤ k ∧ k < i + t ∧ (frF g i k).1 = true ∧ dp g k j ≠ 0 := by
  induction t with
  | zero =>
    simp only [fr]
    constructor
    · intro h; exact .inl (of_decide_eq_true h)
    · rintro (h | ⟨k, a, b, _⟩)
      · exact decide_eq_true h
      · omega
  | succ t ih =>
    by_cases c : (fr g i t (i + t)).1 = true ∧ dp g (i + t) j ≠ 0
    · rw [fr_yes c.1 c.2]
      simp only [true_iff]
      rw [frF_at] at c
      exact .inr ⟨i + t, by omega, by omega, c.1, c.2⟩
    · rw [fr_skip c, ih]
      constructor
      · rintro (h | ⟨k, a, b, q⟩)
        · exact .inl h
        · exact .inr ⟨k, a, by omega, q⟩
      · rintro (h | ⟨k, a, b, q⟩)
        · exact .inl h
        · rcases (show k < i + t ∨ k = i + t by omega) with r | rfl
          · exact .inr ⟨k, a, r, q⟩
          · rw [frF_at] at c; exact absurd q c
theorem fr_two (g : List (List Int)) (i t j : Nat) : (fr g i t j).2 = true ↔ ∃ k, i ≤ k ∧ k < i + t ∧ (frF g i k).1 = true ∧ dp g k j ≠ 0 ∧ ((frF g i k).2 = true ∨ dp g k j = 2) := by
  induction t with
  | zero =>
    simp only [fr]
    constructor
    · intro h; cases h
    · rintro ⟨k, a, b, _⟩; omega
  | succ t ih =>
    by_cases c : (fr g i t (i + t)).1 = true ∧ dp g (i + t) j ≠ 0
    · rw [fr_yes c.1 c.2]
      simp only [Bool.or_eq_true, decide_eq_true_eq]
      rw [ih]
      rw [frF_at] at c ⊢
      constructor
      · rintro ((⟨k, a, b, q⟩ | h) | h)
        · exact ⟨k, a, by omega, q⟩
        · exact ⟨i + t, by omega, by omega, c.1, c.2, .inl h⟩
        · exact ⟨i + t, by omega, by omega, c.1, c.2, .inr h⟩
      · rintro ⟨k, a, b, q⟩
        rcases (show k < i + t ∨ k = i + t by omega) with r | rfl
        · exact .inl (.inl ⟨k, a, r, q⟩)
        · rcases q.2.2 with h | h
          · exact .inl (.inr h)
          · exact .inr h
    · rw [fr_skip c, ih]
      constructor
      · rintro ⟨k, a, b, q⟩; exact ⟨k, a, by omega, q⟩
      · rintro ⟨k, a, b, q⟩
        rcases (show k < i + t ∨ k = i + t by omega) with r | rfl
        · exact ⟨k, a, r, q⟩
        · rw [frF_at] at c; exact absurd ⟨q.1, q.2.1⟩ c
theorem frF_rch (g : List (List Int)) (i : Nat) : ∀ j, i ≤ j → ((frF g i j).1 = true ↔ ∃ b, Rch g i j b) ∧ ((frF g i j).2 = true ↔ Lt g i j) := by
  intro j
  induction j using Nat.strongRecOn with
  | ind j ih =>
    intro hij
    have e1 := fr_one g i (j - i) j
    have e2 := fr_two g i (j - i) j
    rw [show i + (j - i) = j by omega] at e1 e2
    refine ⟨?_, ?_⟩
    · unfold frF
      rw [e1]
      constructor
      · rintro (rfl | ⟨k, a, b, c, d⟩)
        · exact ⟨_, .refl⟩
        · obtain ⟨b2, r⟩ := (ih k b a).1.1 c
          exact ⟨_, r.step d⟩
      · rintro ⟨b, r⟩
        cases r with
        | refl => exact .inl rfl
        | step r hd =>
          have hl := dp_lt hd
          have := r.le
          exact .inr ⟨_, this, hl.1, (ih _ hl.1 this).1.2 ⟨_, r⟩, hd⟩
    · unfold frF
      rw [e2]
      constructor
      · rintro ⟨k, a, b, c, d, e⟩
        rcases e with e | e
        · exact ((ih k b a).2.1 e).trans (.one d)
        · obtain ⟨b2, r⟩ := (ih k b a).1.1 c
          have q := r.step d
          rw [decide_eq_true e, Bool.or_true] at q
          exact q
      · intro r
        have gen : ∀ b, Rch g i j b → b = true → ∃ k, i ≤ k ∧ k < j ∧ (frF g i k).1 = true ∧ dp g k j ≠ 0 ∧ ((frF g i k).2 = true ∨ dp g k j = 2) := by
          intro b r hb
          cases r with
          | refl => cases hb
          | step r hd =>
            rename_i k b
            have hl := dp_lt hd
            have := r.le
            refine ⟨k, this, hl.1, (ih _ hl.1 this).1.2 ⟨_, r⟩, hd, ?_⟩
            cases b
            · simp at hb; exact .inr hb
            · exact .inl ((ih _ hl.1 this).2.2 r)
        exact gen _ r rfl
/-- Whether j must be later than i, as the reference tells. -/
def later (g : List (List Int)) (i j : Nat) : Bool := (frF g i j).2
theorem later_iff {g : List (List Int)} {i j : Nat} : later g i j = true ↔ Lt g i j := by
  rcases Nat.lt_or_ge j i with h | h
  · unfold later
    rw [frF_low (by omega)]
    constructor
    · intro k; cases k
    · intro k; have := (Rch.lt k rfl).1; omega
  · exact (frF_rch g i j h).2

/-- One list is ahead of another in the order of words. -/
def smB : List Int → List Int → Bool
  | [], b => !b.isEmpty
  | _ :: _, [] => false
  | x :: a, y :: b => if x = y then smB a b else decide (x < y)
theorem smB_no {x y : Int} {a b : List Int} (h : y < x) : smB (x :: a) (y :: b) = false := by
  rw [smB, if_neg (by omega), decide_eq_false (by omega)]
/-- Whether the reference takes list a in the place of b. -/
def ahead (a b : List Int) : Bool := decide (b.length < a.length) || (decide (a.length = b.length) && smB a b)
def tlI (f : Nat → List Int) (P : Nat → Bool) (i : Nat) : Nat → List Int
  | 0 => []
  | j + 1 => if i < j ∧ P j = true ∧ ahead (f j) (tlI f P i j) = true then f j else tlI f P i j
theorem tlI_low (f : Nat → List Int) (P : Nat → Bool) (i : Nat) : ∀ j, j ≤ i + 1 → tlI f P i j = [] := by
  intro j
  induction j with
  | zero => intro _; rfl
  | succ j ih => intro h; rw [tlI, if_neg (fun k => by omega), ih (by omega)]
theorem tlI_yes {f : Nat → List Int} {P : Nat → Bool} {i j : Nat} (h : i < j) (hp : P j = true) (ha : ahead (f j) (tlI f P i j) = true) : tlI f P i (j + 1) = f j := by rw [tlI, if_pos ⟨h, hp, ha⟩]
theorem tlI_no {f : Nat → List Int} {P : Nat → Bool} {i j : Nat} (h : P j = false ∨ ahead (f j) (tlI f P i j) = false) : tlI f P i (j + 1) = tlI f P i j := by
  rw [tlI, if_neg]
  rintro ⟨_, a, b⟩
  rcases h with h | h
  · rw [h] at a; cases a
  · rw [h] at b; cases b
theorem tlI_congr {f f2 : Nat → List Int} {P : Nat → Bool} {i n : Nat} (h : ∀ j, i < j → j < n → f j = f2 j) : ∀ m, m ≤ n → tlI f P i m = tlI f2 P i m := by
  intro m
  induction m with
  | zero => intro _; rfl
  | succ m ih =>
    intro hm
    rw [tlI, tlI, ih (by omega)]
    by_cases c : i < m
    · rw [h m c (by omega)]
    · rw [if_neg (fun k => c k.1), if_neg (fun k => c k.1)]
theorem tlI_is {f : Nat → List Int} {P : Nat → Bool} {i n : Nat} (hf : ∀ j, i < j → j < n → ∃ r, f j = (j : Int) :: r) : ∀ m, m ≤ n →
    (tlI f P i m = [] ∧ ∀ j, i < j → j < m → P j = false) ∨ ∃ j, i < j ∧ j < m ∧ P j = true ∧ tlI f P i m = f j ∧ ∀ k, i < k → k < m → P k = true → (f k).length < (f j).length ∨ ((f k).length = (f j).length ∧ j ≤ k) := by
  intro m
  induction m with
  | zero => intro _; exact .inl ⟨rfl, fun j a b => by omega⟩
  | succ m ih =>
    intro hm
    have q := ih (by omega)
    by_cases c : i < m
    · obtain ⟨r, hr⟩ := hf m c (by omega)
      cases hp : P m
      · rw [tlI_no (.inl hp)]
        rcases q with ⟨q1, q2⟩ | ⟨j, a, b, p, q1, q2⟩
        · exact .inl ⟨q1, fun j a b => (show j < m ∨ j = m by omega).elim (fun s => q2 j a s) fun s => by rw [s]; exact hp⟩
        · exact .inr ⟨j, a, by omega, p, q1, fun k s t u => (show k < m ∨ k = m by omega).elim (fun v => q2 k s v u) fun v => by rw [v, hp] at u; cases u⟩
      · rcases q with ⟨q1, q2⟩ | ⟨j, a, b, p, q1, q2⟩
        · have ha : ahead (f m) (tlI f P i m) = true := by rw [q1, hr]; simp [ahead]
          rw [tlI_yes c hp ha]
          refine .inr ⟨m, c, by omega, hp, rfl, fun k s t u => ?_⟩
          rcases (show k < m ∨ k = m by omega) with v | rfl
          · rw [q2 k s v] at u; cases u
          · exact .inr ⟨rfl, Nat.le_refl _⟩
        · obtain ⟨r2, hr2⟩ := hf j a (by omega)
          have hs : smB (f m) (f j) = false := by rw [hr, hr2]; exact smB_no (by omega)
          by_cases hl : (f j).length < (f m).length
          · have ha : ahead (f m) (tlI f P i m) = true := by rw [q1]; unfold ahead; rw [decide_eq_true hl]; rfl
            rw [tlI_yes c hp ha]
            refine .inr ⟨m, c, by omega, hp, rfl, fun k s t u => ?_⟩
            rcases (show k < m ∨ k = m by omega) with v | rfl
            · have := q2 k s v u; omega
            · exact .inr ⟨rfl, Nat.le_refl _⟩
          · have ha : ahead (f m) (tlI f P i m) = false := by rw [q1]; unfold ahead; rw [decide_eq_false hl, hs]; simp
            rw [tlI_no (.inr ha)]
            refine .inr ⟨j, a, by omega, p, q1, fun k s t u => ?_⟩
            rcases (show k < m ∨ k = m by omega) with v | rfl
            · exact q2 k s v u
            · omega
    · rw [tlI_low _ _ _ _ (by omega)]
      exact .inl ⟨rfl, fun j a b => by omega⟩
/-- The reference's best chains, when the last d units have been asked. -/
def bl (g : List (List Int)) : Nat → Nat → List Int
  | 0, _ => []
  | d + 1, u => if u + d + 1 = g.length then (u : Int) :: tlI (bl g d) (later g u) u g.length else bl g d u
theorem bl_keep {g : List (List Int)} {d u : Nat} (h : u + d + 1 ≠ g.length) : bl g (d + 1) u = bl g d u := by rw [bl, if_neg h]
theorem bl_make {g : List (List Int)} {d u : Nat} (h : u + d + 1 = g.length) : bl g (d + 1) u = (u : Int) :: tlI (bl g d) (later g u) u g.length := by rw [bl, if_pos h]
theorem bl_late {g : List (List Int)} {u d : Nat} (h : g.length ≤ u + d) (e : Nat) : bl g (d + e) u = bl g d u := by
  induction e with
  | zero => rfl
  | succ e ih => rw [← Nat.add_assoc, bl_keep (by omega), ih]
def blF (g : List (List Int)) (u : Nat) : List Int := bl g g.length u
theorem blF_at {g : List (List Int)} {u d : Nat} (h : g.length ≤ u + d) (hd : d ≤ g.length) : bl g d u = blF g u := by
  have := bl_late h (g.length - d)
  rw [show d + (g.length - d) = g.length by omega] at this
  exact this.symm
theorem blF_eq {g : List (List Int)} {u : Nat} (h : u < g.length) : blF g u = (u : Int) :: tlI (blF g) (later g u) u g.length := by
  rw [← blF_at (d := g.length - u - 1 + 1) (by omega) (by omega), bl_make (by omega)]
  rw [tlI_congr (fun j h1 h2 => blF_at (by omega) (by omega)) _ (Nat.le_refl _)]
theorem blF_len (g : List (List Int)) : ∀ d i, g.length - i ≤ d → i < g.length → (blF g i).length ≤ g.length - i := by
  intro d
  induction d with
  | zero => intro i a b; omega
  | succ d ih =>
    intro i a b
    rw [blF_eq b]
    rcases tlI_is (f := blF g) (P := later g i) (i := i) (n := g.length) (fun j h1 h2 => ⟨_, blF_eq h2⟩) _ (Nat.le_refl _) with ⟨e, _⟩ | ⟨j, h1, h2, h3, e, _⟩
    · rw [e]; simp; omega
    · rw [e, List.length_cons]
      have := ih j (by omega) h2
      omega
theorem blF_best (g : List (List Int)) (i : Nat) (h : i < g.length) : BestAt g (fun u => ((blF g u).length : Int)) (fun u => ((blF g u).getD 1 0).toNat) i := by
  have e := blF_eq h
  rcases tlI_is (f := blF g) (P := later g i) (i := i) (n := g.length) (fun j h1 h2 => ⟨_, blF_eq h2⟩) _ (Nat.le_refl _) with ⟨q, n⟩ | ⟨j, h1, h2, h3, q, m⟩
  · refine .inl ⟨fun j hj => ?_, ?_⟩
    · have a := Rch.lt hj rfl
      have b := n j a.1 a.2
      rw [later_iff.2 hj] at b
      cases b
    · show ((blF g i).length : Int) = 1
      rw [e, q]; rfl
  · have x : ((blF g i).getD 1 0).toNat = j := by rw [e, q, blF_eq h2]; simp
    refine .inr ⟨?_, ?_, fun k hk => ?_⟩
    · show Lt g i ((blF g i).getD 1 0).toNat
      rw [x]; exact later_iff.1 h3
    · show ((blF g i).length : Int) = (blF g ((blF g i).getD 1 0).toNat).length + 1
      rw [x, e, q]; simp
    · show ((blF g k).length : Int) < (blF g ((blF g i).getD 1 0).toNat).length ∨ (((blF g k).length : Int) = (blF g ((blF g i).getD 1 0).toNat).length ∧ ((blF g i).getD 1 0).toNat ≤ k)
      rw [x]
      have a := Rch.lt hk rfl
      have := m k a.1 a.2 (later_iff.2 hk)
      omega
theorem chain_len {g : List (List Int)} {u : Nat} (h : u < g.length) : (chF g u).1 + 1 = ((blF g u).length : Int) := (best_same (chF_at_best g) (blF_best g) _ u (Nat.le_refl _) h).1
theorem chain_next {g : List (List Int)} {u : Nat} (h : u < g.length) (h1 : 1 < (chF g u).1 + 1) : (chF g u).2.toNat = ((blF g u).getD 1 0).toNat := (best_same (chF_at_best g) (blF_best g) _ u (Nat.le_refl _) h).2 h1
/-- The reference's chain is the program's. -/
theorem blF_nd (g : List (List Int)) : ∀ d u, g.length - u ≤ d → u < g.length → blF g u = tab ((chF g u).1 + 1).toNat fun t => (nd g u t : Nat) := by
  intro d
  induction d with
  | zero => intro u a b; omega
  | succ d ih =>
    intro u a b
    have e := blF_eq b
    have hl := chain_len b
    rcases tlI_is (f := blF g) (P := later g u) (i := u) (n := g.length) (fun j h1 h2 => ⟨_, blF_eq h2⟩) _ (Nat.le_refl _) with ⟨q, n⟩ | ⟨j, h1, h2, h3, q, m⟩
    · rw [q] at e
      rw [e] at hl ⊢
      rw [hl]
      rfl
    · rw [q] at e
      have x : ((blF g u).getD 1 0).toNat = j := by rw [e, blF_eq h2]; simp
      have hj := chain_len h2
      have pj : 0 ≤ (chF g j).1 := (chF_pos g j h2).1
      have e2 : (blF g u).length = (blF g j).length + 1 := by rw [e]; simp
      have nx := chain_next b (by omega)
      rw [x] at nx
      rw [show ((chF g u).1 + 1).toNat = ((chF g j).1 + 1).toNat + 1 by omega, tab_cons, e, ih j (by omega) h2]
      congr 1
      refine tab_congr fun t ht => ?_
      rw [nd_cons, nx]
/-- The reference's path, when the last d units have been asked. -/
def bo2 (g : List (List Int)) : Nat → List Int
  | 0 => []
  | d + 1 => if (bo2 g d).length ≤ (blF g (g.length - 1 - d)).length then blF g (g.length - 1 - d) else bo2 g d
theorem bo2_is {g : List (List Int)} (d : Nat) (hd : d ≤ g.length) (h : 0 < d) : ∃ u, g.length - d ≤ u ∧ u < g.length ∧ bo2 g d = blF g u ∧ ∀ v, g.length - d ≤ v → v < g.length → (blF g v).length < (blF g u).length ∨ ((blF g v).length = (blF g u).length ∧ u ≤ v) := by
  induction d with
  | zero => omega
  | succ d ih =>
    have hn : ∀ v, g.length - (d + 1) ≤ v → v < g.length → g.length - d ≤ v ∨ v = g.length - 1 - d := fun v a b => by omega
    by_cases c : (bo2 g d).length ≤ (blF g (g.length - 1 - d)).length
    · rw [bo2, if_pos c]
      refine ⟨_, by omega, by omega, rfl, fun v a b => ?_⟩
      rcases hn v a b with q | q
      · obtain ⟨u, u1, u2, u3, u4⟩ := ih (by omega) (by omega)
        rw [u3] at c
        have := u4 v q b
        omega
      · subst q; exact .inr ⟨rfl, Nat.le_refl _⟩
    · rw [bo2, if_neg c]
      by_cases h0 : d = 0
      · subst h0; simp [bo2] at c
      · obtain ⟨u, u1, u2, u3, u4⟩ := ih (by omega) (by omega)
        rw [u3] at c
        refine ⟨u, by omega, u2, u3, fun v a b => ?_⟩
        rcases hn v a b with q | q
        · exact u4 v q b
        · subst q; omega
theorem path_same (g : List (List Int)) : bo2 g g.length = pathG g := by
  by_cases h : g.length = 0
  · rw [h]; unfold pathG; rw [h]; rfl
  · obtain ⟨u, u1, u2, u3, u4⟩ := bo2_is g.length (Nat.le_refl _) (by omega)
    obtain ⟨v, v1, v2, v3⟩ := bo_is (g := g) g.length (Nat.le_refl _) (by omega)
    have e : u = v := by
      have a := u4 v (by omega) v1
      have b := v3 u u2
      have c := chain_len u2
      have d := chain_len v1
      omega
    subst e
    rw [u3]
    unfold pathG
    rw [v2, blF_nd g _ u (Nat.le_refl _) u2]
    simp

/-- The greatest of the first k stages. -/
def mx (s : List Int) : Nat → Int
  | 0 => -1
  | k + 1 => max (mx s k) (s.getD k 0)
theorem mx_le (s : List Int) (k : Nat) : ∀ j, j < k → s.getD j 0 ≤ mx s k := by
  induction k with
  | zero => intro j h; omega
  | succ k ih =>
    intro j h
    rw [mx]
    rcases (show j < k ∨ j = k by omega) with q | rfl
    · have := ih j q; omega
    · omega
theorem mx_least (s : List Int) (k : Nat) (B : Int) (hB : -1 ≤ B) : (∀ j, j < k → s.getD j 0 ≤ B) → mx s k ≤ B := by
  induction k with
  | zero => intro _; exact hB
  | succ k ih =>
    intro h
    rw [mx]
    have := ih fun j hj => h j (by omega)
    have := h k (by omega)
    omega
theorem sat_rch {g : List (List Int)} {s : List Int} (h : SatP g s) {i j : Nat} {b : Bool} (r : Rch g i j b) : s.getD i 0 ≤ s.getD j 0 ∧ (b = true → s.getD i 0 < s.getD j 0) := by
  induction r with
  | refl => exact ⟨Int.le_refl _, fun k => by cases k⟩
  | step r hd ih =>
    rename_i j k b
    have hl := dp_lt hd
    have ok := h.2 j (by omega) k hl.2
    rcases dp_vals g j k with e | e | e
    · exact absurd e hd
    · have := ok.2 e
      refine ⟨by omega, fun q => ?_⟩
      rw [e] at q
      simp at q
      have := ih.2 q
      omega
    · have := ok.1 e
      exact ⟨by omega, fun _ => by omega⟩
theorem pathG_len (g : List (List Int)) : (pathG g).length = (bo g g.length).1.toNat := tab_len _ _
theorem pathG_at {g : List (List Int)} {t : Nat} (h : t < (pathG g).length) : ∃ u : Nat, (pathG g).getD t 0 = (u : Int) ∧ u < g.length := by
  rw [pathG_len] at h
  unfold pathG
  rw [tab_at _ _ _ h]
  by_cases h0 : g.length = 0
  · rw [h0] at h; simp [bo] at h
  · obtain ⟨v, v1, v2, v3⟩ := bo_is (g := g) g.length (Nat.le_refl _) (by omega)
    rw [v2] at h ⊢
    exact ⟨_, rfl, (nd_ok (by simpa using v1) t (by simp at h ⊢; omega)).1⟩
theorem pathG_up {g : List (List Int)} {s : List Int} (hs : SatP g s) {t : Nat} (h : t + 1 < (pathG g).length) : s.getD ((pathG g).getD t 0).toNat 0 < s.getD ((pathG g).getD (t + 1) 0).toNat 0 := by
  rw [pathG_len] at h
  unfold pathG
  rw [tab_at _ _ _ (by omega), tab_at _ _ _ h]
  by_cases h0 : g.length = 0
  · rw [h0] at h; simp [bo] at h
  · obtain ⟨v, v1, v2, v3⟩ := bo_is (g := g) g.length (Nat.le_refl _) (by omega)
    rw [v2] at h ⊢
    simp only [Int.toNat_natCast] at h ⊢
    exact (sat_rch hs (nd_lt v1 t (by omega))).2 rfl
theorem pathG_most (g : List (List Int)) : mx (stL g) g.length + 1 = ((pathG g).length : Int) := by
  rw [pathG_len]
  by_cases h0 : g.length = 0
  · rw [h0]; rfl
  · obtain ⟨v, v1, v2, v3⟩ := bo_is (g := g) g.length (Nat.le_refl _) (by omega)
    rw [v2]
    have pv := (chF_pos g v v1).1
    have up : ∀ t : Nat, (t : Int) < (chF g v).1 + 1 → (t : Int) ≤ (stL g).getD (nd g v t) 0 := by
      intro t
      induction t with
      | zero =>
        intro ht
        have := (nd_ok v1 0 ht).1
        rw [stL_at g _ this]
        exact (st_range g _ _).1
      | succ t ih =>
        intro ht
        have := ih (by omega)
        have := (sat_rch (stL_sat g) (nd_lt v1 t (by omega))).2 rfl
        omega
    have top : ∀ j, j < g.length → st g j j + ((chF g j).1 + 1) ≤ (chF g v).1 + 1 := by
      intro j
      induction j using Nat.strongRecOn with
      | ind j ih =>
        intro hj
        have hb := v3 j hj
        rcases st_from g j j with e | ⟨i, hi, ⟨e, q⟩ | ⟨e, q⟩⟩
        · omega
        · have := ih i hi (by omega)
          have := best_mono (g := g) (l := fun u => (chF g u).1 + 1) (i := i) (fun k _ h2 => chF_at_best g k h2) (fun k _ h2 => by have := (chF_pos g k h2).1; show 1 ≤ (chF g k).1 + 1; omega) (by omega) (Rch.one (g := g) (i := i) (j := j) (by omega))
          omega
        · have := ih i hi (by omega)
          have hL : Lt g i j := Lt.from2 e .refl
          rcases chF_at_best g i (by omega) with ⟨n, _⟩ | ⟨_, f2, f3⟩
          · exact absurd hL (n _)
          · have := f3 j hL
            simp only at f2 this
            omega
    have a := mx_least (stL g) g.length (chF g v).1 (by omega) fun j hj => by
      rw [stL_at g j hj]
      have := top j hj
      have := (chF_pos g j hj).1
      omega
    have hv := nd_ok v1 (chF g v).1.toNat (by omega)
    have b := mx_le (stL g) g.length _ hv.1
    have c := up (chF g v).1.toNat (by omega)
    omega
end Go.Proofs.Ytcbomfcioenliaa
