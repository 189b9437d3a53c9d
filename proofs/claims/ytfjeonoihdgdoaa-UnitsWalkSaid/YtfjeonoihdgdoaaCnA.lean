/- Control: control flows as trees: their lists and how they lie in memory: plain facts. -/
import Derived.Test.YtfjeonoihdgdoaaExA
namespace Go.Proofs.Ytfjeonoihdgdoaa
open Go.RowKit
set_option linter.unusedVariables false
/-- The words of a slice. -/
structure Sl where
  a : Option Addr
  n : Nat
  c : Nat
abbrev Sl.v (s : Sl) : Value := .slice s.a s.n s.c
/-- A list of control nodes: kind, table, condition and where it lies, the branches and where they lie, the rest. -/
inductive CT where
  | nil
  | cons (k t : Int) (c : Sl) (N : List Nd) (s : Sl) (th : CT) (u : Sl) (el : CT) (r : CT)
structure CV where
  k : Int
  t : Int
  c : Sl
  N : List Nd
  s : Sl
  th : CT
  u : Sl
  el : CT
/-- The cells of a node. -/
abbrev CV.cs (x : CV) : Array Value := #[.int .i64 x.k, .int .i64 x.t, x.c.v, x.s.v, x.u.v]
def CV.ct (x : CV) (r : CT) : CT := .cons x.k x.t x.c x.N x.s x.th x.u x.el r
def CT.len : CT → Nat
  | .nil => 0
  | .cons _ _ _ _ _ _ _ _ r => r.len + 1
/-- All the nodes, each ahead of those in its branches. -/
def CT.pre : CT → List CV
  | .nil => []
  | .cons k t c N s th u el r => ⟨k, t, c, N, s, th, u, el⟩ :: (th.pre ++ (el.pre ++ r.pre))
def CT.cnt (T : CT) : Nat := T.pre.length
def CT.nest : CT → Nat
  | .nil => 0
  | .cons _ _ _ _ _ th _ el r => max (1 + max th.nest el.nest) r.nest
def CT.drop : CT → Nat → CT
  | T, 0 => T
  | .nil, _ + 1 => .nil
  | .cons _ _ _ _ _ _ _ _ r, j + 1 => r.drop j
theorem CV.pre_ct (x : CV) (r : CT) : (x.ct r).pre = x :: (x.th.pre ++ (x.el.pre ++ r.pre)) := rfl
theorem CV.cnt_ct (x : CV) (r : CT) : (x.ct r).cnt = 1 + x.th.cnt + x.el.cnt + r.cnt := by
  unfold CT.cnt
  rw [CV.pre_ct, List.length_cons, List.length_append, List.length_append]
  omega
theorem CV.nest_ct (x : CV) (r : CT) : (x.ct r).nest = max (1 + max x.th.nest x.el.nest) r.nest := rfl
theorem CT.cnt_nil : CT.nil.cnt = 0 := rfl
theorem CT.drop_zero (T : CT) : T.drop 0 = T := by cases T <;> rfl
theorem CT.drop_nil (j : Nat) : CT.nil.drop j = .nil := by cases j <;> rfl
theorem CT.drop_len : ∀ (T : CT) (j : Nat), (T.drop j).len = T.len - j
  | T, 0 => by rw [CT.drop_zero]; omega
  | .nil, j + 1 => by simp [CT.drop, CT.len]
  | .cons _ _ _ _ _ _ _ _ r, j + 1 => by rw [CT.drop, CT.drop_len r j, CT.len]; omega
theorem CT.len_nil {T : CT} (h : T.len = 0) : T = .nil := by
  cases T with
  | nil => rfl
  | cons k t c N s th u el r => simp [CT.len] at h
theorem CT.drop_all (T : CT) (j : Nat) (h : T.len ≤ j) : T.drop j = .nil := CT.len_nil (by rw [CT.drop_len]; omega)
theorem CT.drop_succ : ∀ (T : CT) (j : Nat), T.drop (j + 1) = (T.drop j).drop 1
  | T, 0 => by rw [CT.drop_zero]
  | .nil, j + 1 => by rw [CT.drop_nil, CT.drop_nil, CT.drop_nil]
  | .cons _ _ _ _ _ _ _ _ r, j + 1 => by rw [CT.drop, CT.drop_succ r j]; rfl
theorem CT.drop_lt (T : CT) (j : Nat) (h : j < T.len) : ∃ x : CV, T.drop j = x.ct (T.drop (j + 1)) := by
  have l := CT.drop_len T j
  rw [CT.drop_succ]
  cases e : T.drop j with
  | nil => rw [e] at l; simp [CT.len] at l; omega
  | cons k t c N s th u el r => exact ⟨⟨k, t, c, N, s, th, u, el⟩, by rw [show (CT.cons k t c N s th u el r).drop 1 = r.drop 0 from rfl, CT.drop_zero]; rfl⟩
theorem CT.drop_cnt : ∀ (T : CT) (j : Nat), (T.drop j).cnt ≤ T.cnt
  | T, 0 => by rw [CT.drop_zero]; exact Nat.le_refl _
  | .nil, j + 1 => Nat.le_refl _
  | .cons k t c N s th u el r, j + 1 => by
    have h := CT.drop_cnt r j
    have q := CV.cnt_ct ⟨k, t, c, N, s, th, u, el⟩ r
    have e : (CT.cons k t c N s th u el r).cnt = 1 + th.cnt + el.cnt + r.cnt := q
    show (r.drop j).cnt ≤ _
    omega
theorem CT.len_cnt : ∀ (T : CT), T.len ≤ T.cnt
  | .nil => Nat.le_refl _
  | .cons k t c N s th u el r => by
    have h := CT.len_cnt r
    have e : (CT.cons k t c N s th u el r).cnt = 1 + th.cnt + el.cnt + r.cnt := CV.cnt_ct ⟨k, t, c, N, s, th, u, el⟩ r
    show r.len + 1 ≤ _
    omega
/-- A list of control nodes lies at ad from the i-th place on, with all that its nodes hold. -/
def CTm (w : World) : CT → Addr → Nat → Prop
  | .nil, _, _ => True
  | .cons k t c N s th u el r, ad, i =>
    (w.cell? (ad.add (i * 5)) = some (.int .i64 k) ∧ w.cell? ⟨(ad.add (i * 5)).block, (ad.add (i * 5)).off + 1, none⟩ = some (.int .i64 t) ∧ w.cell? ⟨(ad.add (i * 5)).block, (ad.add (i * 5)).off + 2, none⟩ = some c.v ∧
      w.cell? ⟨(ad.add (i * 5)).block, (ad.add (i * 5)).off + 3, none⟩ = some s.v ∧ w.cell? ⟨(ad.add (i * 5)).block, (ad.add (i * 5)).off + 4, none⟩ = some u.v) ∧
    SN w c.a c.n c.c N ∧ (th.len = s.n ∧ (s.a = none → s.n = 0 ∧ s.c = 0) ∧ s.n ≤ s.c ∧ ∀ a2, s.a = some a2 → CTm w th a2 0) ∧
    (el.len = u.n ∧ (u.a = none → u.n = 0 ∧ u.c = 0) ∧ u.n ≤ u.c ∧ ∀ a2, u.a = some a2 → CTm w el a2 0) ∧ CTm w r ad (i + 1)
/-- A slice that reads as a list of control nodes. -/
structure ST (w : World) (s : Sl) (T : CT) : Prop where
  len : T.len = s.n
  nil : s.a = none → s.n = 0 ∧ s.c = 0
  cap : s.n ≤ s.c
  cells : ∀ ad, s.a = some ad → CTm w T ad 0
/-- What a node holds lies in memory. -/
structure VM (w : World) (x : CV) : Prop where
  c : SN w x.c.a x.c.n x.c.c x.N
  s : ST w x.s x.th
  u : ST w x.u x.el
theorem ctm_ct {w : World} {x : CV} {r : CT} {ad : Addr} {i : Nat} (h : CTm w (x.ct r) ad i) : (w.cell? (ad.add (i * 5)) = some (.int .i64 x.k) ∧ w.cell? ⟨(ad.add (i * 5)).block, (ad.add (i * 5)).off + 1, none⟩ = some (.int .i64 x.t) ∧ w.cell? ⟨(ad.add (i * 5)).block, (ad.add (i * 5)).off + 2, none⟩ = some x.c.v ∧
      w.cell? ⟨(ad.add (i * 5)).block, (ad.add (i * 5)).off + 3, none⟩ = some x.s.v ∧ w.cell? ⟨(ad.add (i * 5)).block, (ad.add (i * 5)).off + 4, none⟩ = some x.u.v) ∧ VM w x ∧ CTm w r ad (i + 1) :=
  ⟨h.1, ⟨h.2.1, ⟨h.2.2.1.1, h.2.2.1.2.1, h.2.2.1.2.2.1, h.2.2.1.2.2.2⟩, ⟨h.2.2.2.1.1, h.2.2.2.1.2.1, h.2.2.2.1.2.2.1, h.2.2.2.1.2.2.2⟩⟩, h.2.2.2.2⟩
theorem ctm_mk {w : World} {x : CV} {r : CT} {ad : Addr} {i : Nat} (h : w.cell? (ad.add (i * 5)) = some (.int .i64 x.k) ∧ w.cell? ⟨(ad.add (i * 5)).block, (ad.add (i * 5)).off + 1, none⟩ = some (.int .i64 x.t) ∧ w.cell? ⟨(ad.add (i * 5)).block, (ad.add (i * 5)).off + 2, none⟩ = some x.c.v ∧
      w.cell? ⟨(ad.add (i * 5)).block, (ad.add (i * 5)).off + 3, none⟩ = some x.s.v ∧ w.cell? ⟨(ad.add (i * 5)).block, (ad.add (i * 5)).off + 4, none⟩ = some x.u.v) (m : VM w x) (k : CTm w r ad (i + 1)) : CTm w (x.ct r) ad i :=
  ⟨h, m.c, ⟨m.s.len, m.s.nil, m.s.cap, m.s.cells⟩, ⟨m.u.len, m.u.nil, m.u.cap, m.u.cells⟩, k⟩
theorem CTm.keep0 {w w2 : World} (g : w.grownBy w2 none) : ∀ (T : CT) (ad : Addr) (i : Nat), CTm w T ad i → CTm w2 T ad i := by
  intro T
  induction T with
  | nil => intro ad i h; trivial
  | cons k t c N s th u el r i1 i2 i3 =>
    intro ad i h
    exact ⟨⟨g.cell h.1.1 (by simp), g.cell h.1.2.1 (by simp), g.cell h.1.2.2.1 (by simp), g.cell h.1.2.2.2.1 (by simp), g.cell h.1.2.2.2.2 (by simp)⟩, h.2.1.keep0 g,
      ⟨h.2.2.1.1, h.2.2.1.2.1, h.2.2.1.2.2.1, fun a2 e => i1 _ _ (h.2.2.1.2.2.2 a2 e)⟩, ⟨h.2.2.2.1.1, h.2.2.2.1.2.1, h.2.2.2.1.2.2.1, fun a2 e => i2 _ _ (h.2.2.2.1.2.2.2 a2 e)⟩, i3 _ _ h.2.2.2.2⟩
theorem ST.keep0 {w w2 : World} {s : Sl} {T : CT} (h : ST w s T) (g : w.grownBy w2 none) : ST w2 s T := ⟨h.len, h.nil, h.cap, fun ad e => CTm.keep0 g _ _ _ (h.cells ad e)⟩
theorem VM.keep0 {w w2 : World} {x : CV} (h : VM w x) (g : w.grownBy w2 none) : VM w2 x := ⟨h.c.keep0 g, h.s.keep0 g, h.u.keep0 g⟩
theorem ST.nilv (w : World) : ST w ⟨none, 0, 0⟩ .nil := ⟨rfl, fun _ => ⟨rfl, rfl⟩, Nat.le_refl _, fun ad e => by cases e⟩
theorem ctm_drop {w : World} : ∀ (T : CT) (ad : Addr) (i j : Nat), CTm w T ad i → CTm w (T.drop j) ad (i + j) := by
  intro T
  induction T with
  | nil => intro ad i j h; rw [CT.drop_nil]; trivial
  | cons k t c N s th u el r i1 i2 i3 =>
    intro ad i j h
    cases j with
    | zero => exact h
    | succ j =>
      have q := i3 ad (i + 1) j h.2.2.2.2
      rw [show i + 1 + j = i + (j + 1) by omega] at q
      exact q
/-- The node at a place. -/
theorem ST.at_ {w : World} {s : Sl} {T : CT} (h : ST w s T) (j : Nat) (hj : j < s.n) : ∃ (x : CV) (ad : Addr), s.a = some ad ∧ T.drop j = x.ct (T.drop (j + 1)) ∧
    (w.cell? (ad.add (j * 5)) = some (.int .i64 x.k) ∧ w.cell? ⟨(ad.add (j * 5)).block, (ad.add (j * 5)).off + 1, none⟩ = some (.int .i64 x.t) ∧ w.cell? ⟨(ad.add (j * 5)).block, (ad.add (j * 5)).off + 2, none⟩ = some x.c.v ∧
      w.cell? ⟨(ad.add (j * 5)).block, (ad.add (j * 5)).off + 3, none⟩ = some x.s.v ∧ w.cell? ⟨(ad.add (j * 5)).block, (ad.add (j * 5)).off + 4, none⟩ = some x.u.v) ∧ VM w x := by
  obtain ⟨x, hx⟩ := CT.drop_lt T j (by rw [h.len]; exact hj)
  cases ha : s.a with
  | none => have := (h.nil ha).1; omega
  | some ad =>
    have q := ctm_drop T ad 0 j (h.cells ad ha)
    rw [Nat.zero_add, hx] at q
    obtain ⟨q1, q2, _⟩ := ctm_ct q
    exact ⟨x, ad, rfl, hx, q1, q2⟩
/-- What a node's branches come to, and what follows. -/
theorem pre_at {T : CT} {x : CV} {j : Nat} (h : T.drop j = x.ct (T.drop (j + 1))) : (T.drop j).pre = x :: (x.th.pre ++ (x.el.pre ++ (T.drop (j + 1)).pre)) := by rw [h]; rfl
theorem cnt_at {T : CT} {x : CV} {j : Nat} (h : T.drop j = x.ct (T.drop (j + 1))) : (T.drop j).cnt = 1 + x.th.cnt + x.el.cnt + (T.drop (j + 1)).cnt := by
  conv => lhs; rw [h]
  exact CV.cnt_ct _ _
theorem cnt_th {T : CT} {x : CV} {j : Nat} (h : T.drop j = x.ct (T.drop (j + 1))) : x.th.cnt < T.cnt ∧ x.el.cnt < T.cnt := by
  have a := cnt_at h
  have b := CT.drop_cnt T j
  omega
/-- What can be read in A reads the same in C. -/
def Kc (A C : World) : Prop := ∀ p v, A.cell? p = some v → C.cell? p = some v
theorem Kc.refl (A : World) : Kc A A := fun _ _ h => h
theorem Kc.trans {A C D : World} (h : Kc A C) (k : Kc C D) : Kc A D := fun p v q => k p v (h p v q)
theorem Kc.of_gb {A C : World} (g : A.grownBy C none) : Kc A C := fun p v h => g.cell h (by simp)
theorem SN.keepc {w w2 : World} {a : Option Addr} {n c : Nat} {L : List Nd} (h : SN w a n c L) (k : Kc w w2) : SN w2 a n c L :=
  ⟨h.len, h.nil, h.cap, fun ad e j hj => ⟨k _ _ (h.cells ad e j hj).1, k _ _ (h.cells ad e j hj).2.1, k _ _ (h.cells ad e j hj).2.2⟩, h.rng⟩
theorem CTm.keepc {w w2 : World} (g : Kc w w2) : ∀ (T : CT) (ad : Addr) (i : Nat), CTm w T ad i → CTm w2 T ad i := by
  intro T
  induction T with
  | nil => intro ad i h; trivial
  | cons k t c N s th u el r i1 i2 i3 =>
    intro ad i h
    exact ⟨⟨g _ _ h.1.1, g _ _ h.1.2.1, g _ _ h.1.2.2.1, g _ _ h.1.2.2.2.1, g _ _ h.1.2.2.2.2⟩, h.2.1.keepc g,
      ⟨h.2.2.1.1, h.2.2.1.2.1, h.2.2.1.2.2.1, fun a2 e => i1 _ _ (h.2.2.1.2.2.2 a2 e)⟩, ⟨h.2.2.2.1.1, h.2.2.2.1.2.1, h.2.2.2.1.2.2.1, fun a2 e => i2 _ _ (h.2.2.2.1.2.2.2 a2 e)⟩, i3 _ _ h.2.2.2.2⟩
theorem ST.keepc {w w2 : World} {s : Sl} {T : CT} (h : ST w s T) (g : Kc w w2) : ST w2 s T := ⟨h.len, h.nil, h.cap, fun ad e => CTm.keepc g _ _ _ (h.cells ad e)⟩
theorem VM.keepc {w w2 : World} {x : CV} (h : VM w x) (g : Kc w w2) : VM w2 x := ⟨h.c.keepc g, h.s.keepc g, h.u.keepc g⟩
end Go.Proofs.Ytfjeonoihdgdoaa
