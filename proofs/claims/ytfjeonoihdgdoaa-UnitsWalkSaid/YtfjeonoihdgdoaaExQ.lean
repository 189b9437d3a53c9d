/- Expr: widths do not hang on values; where a subexpression ends: plain facts. -/
import Derived.Test.YtfjeonoihdgdoaaExP
namespace Go.Proofs.Ytfjeonoihdgdoaa
open Go.RowKit
set_option linter.unusedVariables false
/-- The same declarations. -/
def Same (C D : Cx) : Prop := C.H = D.H ∧ C.M = D.M ∧ C.P = D.P
/-- The same width, or the same error. -/
def RelT : Except Int Tm → Except Int Tm → Prop
  | .ok t, .ok u => t.1 = u.1
  | .error e, .error d => e = d
  | _, _ => False
def RelS : Except Int (Tm × List Nd) → Except Int (Tm × List Nd) → Prop
  | .ok (t, l), .ok (u, m) => t.1 = u.1 ∧ l = m
  | .error e, .error d => e = d
  | _, _ => False
def RelM : Except Int (List Tm × List Nd) → Except Int (List Tm × List Nd) → Prop
  | .ok (t, l), .ok (u, m) => t.map (·.1) = u.map (·.1) ∧ l = m
  | .error e, .error d => e = d
  | _, _ => False
theorem relT_refl (r : Except Int Tm) : RelT r r := by cases r <;> exact rfl
theorem map_at {ts us : List Tm} (h : ts.map (·.1) = us.map (·.1)) (i : Nat) : (ts.getD i tz).1 = (us.getD i tz).1 := by
  have e : ∀ l : List Tm, (l.getD i tz).1 = (l.map (·.1)).getD i 0 := fun l => by
    rw [List.getD_eq_getElem?_getD, List.getD_eq_getElem?_getD, List.getElem?_map]
    cases l[i]? <;> rfl
  rw [e, e, h]
theorem rel_un (x : Nd) (w v v2 : Int) : RelT (unT x (w, v)) (unT x (w, v2)) := by
  unfold unT
  by_cases h5 : x.1 = 5
  · rw [if_pos h5, if_pos h5]; exact rfl
  · rw [if_neg h5, if_neg h5]
    by_cases h8 : x.1 = 8
    · rw [if_pos h8, if_pos h8]
      unfold sliceT
      by_cases h : x.2.1 < 0
      · rw [if_pos h, if_pos h]; exact rfl
      · rw [if_neg h, if_neg h]
        by_cases ho : okW x.2.2 = true ∧ x.2.1 ≤ w - x.2.2
        · rw [if_pos ho, if_pos ho]; exact rfl
        · rw [if_neg ho, if_neg ho]; exact rfl
    · rw [if_neg h8, if_neg h8]
      by_cases h : x.2.1 < 0 ∨ 31 < x.2.1
      · rw [if_pos h, if_pos h]; exact rfl
      · rw [if_neg h, if_neg h]
        by_cases h6 : x.1 = 6
        · rw [if_pos h6, if_pos h6]; exact rfl
        · rw [if_neg h6, if_neg h6]; exact rfl
theorem comb_w (op w v b : Int) (v2 b2 u : Int) : (combT op (w, v) (u, b)).1 = (combT op (w, v2) (u, b2)).1 := by
  unfold combT
  repeat' split
  all_goals rfl
theorem rel_bin (op w v v2 u b b2 : Int) : RelT (binT op (w, v) (u, b)) (binT op (w, v2) (u, b2)) := by
  unfold binT
  by_cases h : op = 14
  · rw [if_pos h, if_pos h]
    unfold concT
    by_cases hc : catOk w u = true
    · rw [if_pos hc, if_pos hc]; exact rfl
    · rw [if_neg hc, if_neg hc]; exact rfl
  · rw [if_neg h, if_neg h]
    by_cases hw : w = u
    · rw [if_pos hw, if_pos hw]; exact comb_w _ _ _ _ _ _ _
    · rw [if_neg hw, if_neg hw]; exact rfl
theorem rel_cho (cw cv cv2 aw av av2 bw bv bv2 : Int) : RelT (choT (cw, cv) (aw, av) (bw, bv)) (choT (cw, cv2) (aw, av2) (bw, bv2)) := by
  unfold choT
  by_cases h : cw = 1 ∧ aw = bw
  · rw [if_pos h, if_pos h]
    obtain ⟨_, rfl⟩ := h
    (repeat' split) <;> exact rfl
  · rw [if_neg h, if_neg h]; exact rfl
theorem rel_leaf {C D : Cx} (h : Same C D) (x : Nd) : RelT (leafT C x) (leafT D x) := by
  obtain ⟨h1, h2, h3⟩ := h
  unfold leafT
  by_cases a1 : x.1 = 1
  · rw [if_pos a1, if_pos a1]; exact relT_refl _
  · rw [if_neg a1, if_neg a1]
    by_cases a2 : x.1 = 2
    · rw [if_pos a2, if_pos a2]
      unfold fieldT
      rw [← h1, ← h2]
      by_cases hx : isX x.2.2 (dfs C.H C.M x.2.1).length = true
      · rw [if_pos hx, if_pos hx]
        by_cases hz : widE C.H C.M x.2.1 x.2.2 = 0
        · rw [if_pos hz, if_pos hz]; exact rfl
        · rw [if_neg hz, if_neg hz]; exact rfl
      · rw [if_neg hx, if_neg hx]; exact rfl
    · rw [if_neg a2, if_neg a2]
      by_cases a3 : x.1 = 3
      · rw [if_pos a3, if_pos a3]
        unfold paramT
        rw [← h3]
        by_cases hx : isX x.2.1 C.P.length = true
        · rw [if_pos hx, if_pos hx]
          by_cases ho : okW (C.P.getD x.2.1.toNat fz).2 = true
          · rw [if_pos ho, if_pos ho]
            (repeat' split) <;> exact rfl
          · rw [if_neg ho, if_neg ho]; exact rfl
        · rw [if_neg hx, if_neg hx]; exact rfl
      · rw [if_neg a3, if_neg a3]
        unfold validT
        rw [← h1]
        by_cases hx : isX x.2.1 C.H.length = true
        · rw [if_pos hx, if_pos hx]; exact rfl
        · rw [if_neg hx, if_neg hx]; exact rfl
theorem rel_node {C D : Cx} (h : Same C D) (x : Nd) {ts us : List Tm} (hm : ts.map (·.1) = us.map (·.1)) : RelT (nodeT C x ts) (nodeT D x us) := by
  have m0 := map_at hm 0
  have m1 := map_at hm 1
  have m2 := map_at hm 2
  unfold nodeT
  generalize ts.getD 0 tz = a at *
  generalize ts.getD 1 tz = b at *
  generalize ts.getD 2 tz = c at *
  generalize us.getD 0 tz = a2 at *
  generalize us.getD 1 tz = b2 at *
  generalize us.getD 2 tz = c2 at *
  obtain ⟨aw, av⟩ := a
  obtain ⟨bw, bv⟩ := b
  obtain ⟨cw, cv⟩ := c
  obtain ⟨aw2, av2⟩ := a2
  obtain ⟨bw2, bv2⟩ := b2
  obtain ⟨cw2, cv2⟩ := c2
  dsimp only at m0 m1 m2
  subst m0 m1 m2
  by_cases a0 : arN x.1 = 0
  · rw [if_pos a0, if_pos a0]; exact rel_leaf h x
  · rw [if_neg a0, if_neg a0]
    by_cases a1 : arN x.1 = 1
    · rw [if_pos a1, if_pos a1]; exact rel_un _ _ _ _
    · rw [if_neg a1, if_neg a1]
      by_cases a2 : arN x.1 = 2
      · rw [if_pos a2, if_pos a2]; exact rel_bin _ _ _ _ _ _ _
      · rw [if_neg a2, if_neg a2]; exact rel_cho _ _ _ _ _ _ _ _ _
theorem rel_many {g1 g2 : List Nd → Except Int (Tm × List Nd)} (hg : ∀ l, RelS (g1 l) (g2 l)) : ∀ k l, RelM (manyT g1 k l) (manyT g2 k l) := by
  intro k
  induction k with
  | zero => intro l; exact ⟨rfl, rfl⟩
  | succ k ih =>
    intro l
    have i := ih l
    unfold manyT
    cases h1 : manyT g1 k l with
    | error e =>
      cases h2 : manyT g2 k l with
      | error d => rw [h1, h2] at i; exact i
      | ok r => rw [h1, h2] at i; exact i.elim
    | ok r =>
      obtain ⟨ts, l1⟩ := r
      cases h2 : manyT g2 k l with
      | error d => rw [h1, h2] at i; exact i.elim
      | ok r2 =>
        obtain ⟨us, l2⟩ := r2
        rw [h1, h2] at i
        obtain ⟨e1, rfl⟩ := i
        have j := hg l1
        dsimp only
        cases h3 : g1 l1 with
        | error e =>
          cases h4 : g2 l1 with
          | error d => rw [h3, h4] at j; exact j
          | ok r => rw [h3, h4] at j; exact j.elim
        | ok r =>
          obtain ⟨t, m1⟩ := r
          cases h4 : g2 l1 with
          | error d => rw [h3, h4] at j; exact j.elim
          | ok r2 =>
            obtain ⟨u, m2⟩ := r2
            rw [h3, h4] at j
            obtain ⟨e2, rfl⟩ := j
            refine ⟨?_, rfl⟩
            rw [List.map_append, List.map_append, e1]
            show _ ++ [t.1] = _ ++ [u.1]
            rw [e2]
theorem rel_sub {C D : Cx} (h : Same C D) : ∀ f l, RelS (subT C f l) (subT D f l) := by
  intro f
  induction f with
  | zero => intro l; exact rfl
  | succ f ih =>
    intro l
    cases l with
    | nil => exact rfl
    | cons x l =>
      have i := rel_many ih (arN x.1) l
      unfold subT
      by_cases hb : arB x.1 = true
      · rw [if_pos hb, if_pos hb]
        cases h1 : manyT (subT C f) (arN x.1) l with
        | error e =>
          cases h2 : manyT (subT D f) (arN x.1) l with
          | error d => rw [h1, h2] at i; exact i
          | ok r => rw [h1, h2] at i; exact i.elim
        | ok r =>
          obtain ⟨ts, l1⟩ := r
          cases h2 : manyT (subT D f) (arN x.1) l with
          | error d => rw [h1, h2] at i; exact i.elim
          | ok r2 =>
            obtain ⟨us, l2⟩ := r2
            rw [h1, h2] at i
            obtain ⟨e1, rfl⟩ := i
            have j := rel_node h x e1
            dsimp only
            cases h3 : nodeT C x ts with
            | error e =>
              cases h4 : nodeT D x us with
              | error d => rw [h3, h4] at j; exact j
              | ok r => rw [h3, h4] at j; exact j.elim
            | ok t =>
              cases h4 : nodeT D x us with
              | error d => rw [h3, h4] at j; exact j.elim
              | ok u => rw [h3, h4] at j; exact ⟨j, rfl⟩
      · rw [if_neg hb, if_neg hb]; exact rfl
theorem rel_whole {C D : Cx} (h : Same C D) (N : List Nd) : RelT (wholeT C N) (wholeT D N) := by
  have i := rel_sub h (N.length + 1) N
  unfold wholeT
  by_cases hn : 24 < N.length
  · rw [if_pos hn, if_pos hn]; exact rfl
  · rw [if_neg hn, if_neg hn]
    cases h1 : subT C (N.length + 1) N with
    | error e =>
      cases h2 : subT D (N.length + 1) N with
      | error d => rw [h1, h2] at i; exact i
      | ok r => rw [h1, h2] at i; exact i.elim
    | ok r =>
      obtain ⟨t, l⟩ := r
      cases h2 : subT D (N.length + 1) N with
      | error d => rw [h1, h2] at i; exact i.elim
      | ok r2 =>
        obtain ⟨u, l2⟩ := r2
        rw [h1, h2] at i
        obtain ⟨e1, rfl⟩ := i
        dsimp only
        by_cases hl : l = []
        · rw [if_pos hl, if_pos hl]; exact e1
        · rw [if_neg hl, if_neg hl]; exact rfl
theorem rel_we {r s : Except Int Tm} (h : RelT r s) : rW r = rW s ∧ rE r = rE s := by
  cases r with
  | error e => cases s with
    | error d => exact ⟨rfl, h⟩
    | ok u => exact h.elim
  | ok t => cases s with
    | error d => exact h.elim
    | ok u => exact ⟨h, rfl⟩
/-- Where the scan for the end stops: m subexpressions are missing. -/
def scanT : List Nd → Int → Int → Int
  | [], _, _ => -1
  | x :: l, m, i => if arB x.1 = true then (if m + ((arN x.1 : Nat) : Int) - 1 = 0 then i + 1 else scanT l (m + ((arN x.1 : Nat) : Int) - 1) (i + 1)) else -1
theorem scan_cons (x : Nd) (l : List Nd) (m i : Int) : scanT (x :: l) m i = if arB x.1 = true then (if m + ((arN x.1 : Nat) : Int) - 1 = 0 then i + 1 else scanT l (m + ((arN x.1 : Nat) : Int) - 1) (i + 1)) else -1 := rfl
theorem scan_eq {l : List Nd} {m n i j : Int} (h : m = n) (k : i = j) : scanT l m i = scanT l n j := by rw [h, k]
def endT (N : List Nd) (at_ : Int) : Int := if isX at_ N.length = true then scanT (N.drop at_.toNat) 1 at_ else -1
def ScanOk (g : List Nd → Except Int (Tm × List Nd)) : Prop := ∀ l t l', g l = .ok (t, l') → ∀ m i : Int, 1 ≤ m → scanT l m i = if m = 1 then i + (l.length - l'.length : Nat) else scanT l' (m - 1) (i + (l.length - l'.length : Nat))
theorem scan_many {g : List Nd → Except Int (Tm × List Nd)} (H : ScanOk g) (hl : ∀ l t l', g l = .ok (t, l') → l'.length ≤ l.length) : ∀ (k : Nat) l ts l', manyT g k l = .ok (ts, l') → l'.length ≤ l.length ∧ (1 ≤ k → ∀ m i : Int, (k : Int) ≤ m → scanT l m i = if m = k then i + (l.length - l'.length : Nat) else scanT l' (m - k) (i + (l.length - l'.length : Nat))) := by
  intro k
  induction k with
  | zero => intro l ts l' h; unfold manyT at h; cases h; exact ⟨Nat.le_refl _, fun h => by omega⟩
  | succ k ih =>
    intro l ts l' h
    unfold manyT at h
    split at h
    · cases h
    · rename_i ts1 l1 h1
      split at h
      · cases h
      · rename_i t l2 h2
        cases h
        obtain ⟨i1, i2⟩ := ih l ts1 l1 h1
        have j1 := hl l1 t _ h2
        refine ⟨by omega, fun _ m i hm => ?_⟩
        have j2 := H l1 t _ h2
        by_cases hk : k = 0
        · subst hk
          unfold manyT at h1
          cases h1
          rw [j2 m i (by omega)]
          rfl
        · rw [i2 (by omega) m i (by omega), if_neg (by omega), j2 (m - k) _ (by omega)]
          by_cases hm1 : m = (k + 1 : Nat)
          · rw [if_pos (by omega), if_pos hm1]; omega
          · rw [if_neg (by omega), if_neg hm1]
            congr 1
            · omega
            · omega
theorem scan_sub (C : Cx) : ∀ f, ScanOk (subT C f) := by
  intro f
  induction f with
  | zero => intro l t l' h; unfold subT at h; cases h
  | succ f ih =>
    intro l t l' h m i hm
    cases l with
    | nil => unfold subT at h; cases h
    | cons x l =>
      unfold subT at h
      split at h
      · rename_i hb
        split at h
        · cases h
        · rename_i ts l1 h1
          split at h
          · cases h
          · rename_i t2 h2
            cases h
            obtain ⟨s1, s2⟩ := scan_many ih (fun l t l' h => Nat.le_of_lt (sub_ok C f l t l' h).2.1) (arN x.1) l ts _ h1
            rw [scan_cons, if_pos hb]
            have lc : (x :: l).length = l.length + 1 := rfl
            by_cases h0 : arN x.1 = 0
            · rw [h0] at h1 ⊢
              unfold manyT at h1
              cases h1
              by_cases hm1 : m = 1
              · rw [if_pos (by omega), if_pos hm1, lc]; omega
              · rw [if_neg (by omega), if_neg hm1, lc]
                exact scan_eq (by omega) (by omega)
            · rw [if_neg (by omega), s2 (by omega) _ _ (by omega)]
              by_cases hm1 : m = 1
              · rw [if_pos (by omega), if_pos hm1, lc]; omega
              · rw [if_neg (by omega), if_neg hm1, lc]
                exact scan_eq (by omega) (by omega)
      · cases h
theorem end_whole {C : Cx} {N : List Nd} {t : Tm} (h : wholeT C N = .ok t) : endT N 0 = (N.length : Int) := by
  unfold wholeT at h
  split at h
  · cases h
  · split at h
    · cases h
    · rename_i u l h2
      split at h
      · rename_i hl
        subst hl
        have b := (sub_ok C _ _ _ _ h2).2.1
        have s := scan_sub C _ _ _ _ h2 1 0 (by decide)
        rw [if_pos rfl] at s
        unfold endT
        have hx : isX 0 N.length = true := by unfold isX; apply decide_eq_true; simp at b; omega
        rw [if_pos hx]
        show scanT N 1 0 = _
        rw [s]
        simp
      · cases h
end Go.Proofs.Ytfjeonoihdgdoaa
