/- Expr: what an expression comes to, as one function of lists: plain facts; no condition. -/
import Derived.Test.YtfjeonoihdgdoaaBvPure
namespace Go.Proofs.Ytfjeonoihdgdoaa
open Go.RowKit
set_option linter.unusedVariables false
/-- A node: its operator and its two numbers. -/
abbrev Nd := Int × Int × Int
/-- What a subexpression comes to: its width and its value. -/
abbrev Tm := Int × Int
abbrev Fld := ByteArray × Int
def nz : Nd := (0, 0, 0)
def fz : Fld := (⟨#[]⟩, 0)
def hz : ByteArray × List Fld := (⟨#[]⟩, [])
/-- What an expression is read in: headers, metadata, parameters, validities, values, arguments. -/
structure Cx where
  H : List (ByteArray × List Fld)
  M : List Fld
  P : List Fld
  V : List Bool
  F : List (List Int)
  T : List Int
  A : List Int
/-- i is an index of n elements. -/
def isX (i : Int) (n : Nat) : Bool := decide (0 ≤ i ∧ i < (n : Int))
def arB (op : Int) : Bool := decide (1 ≤ op ∧ op ≤ 17)
def arN (op : Int) : Nat := if 1 ≤ op ∧ op ≤ 17 then (if op ≤ 4 then 0 else if op ≤ 8 then 1 else if op ≤ 16 then 2 else 3) else 0
def bitI (b : Bool) : Int := if b = true then 1 else 0
def constT (n w : Int) : Except Int Tm := if 1 ≤ w ∧ w ≤ 32 then (if 0 ≤ n ∧ n ≤ mkB w then .ok (w, n) else .error 9) else .error 10
/-- The fields of a header, or of the metadata. -/
def dfs (H : List (ByteArray × List Fld)) (M : List Fld) (h : Int) : List Fld := if h = -1 then M else if isX h H.length = true then (H.getD h.toNat hz).2 else []
/-- The values of a header, or of the metadata. -/
def vls (F : List (List Int)) (T : List Int) (h : Int) : List Int := if h = -1 then T else if isX h F.length = true then F.getD h.toNat [] else []
def validB (V : List Bool) (h : Int) : Bool := isX h V.length && V.getD h.toNat false
def openB (V : List Bool) (h : Int) : Bool := decide (h = -1) || validB V h
/-- env.Get. -/
def getE (V : List Bool) (F : List (List Int)) (T : List Int) (h f : Int) : Int := if openB V h = true ∧ isX f (vls F T h).length = true then (vls F T h).getD f.toNat 0 else 0
/-- env.Width. -/
def widE (H : List (ByteArray × List Fld)) (M : List Fld) (h f : Int) : Int :=
  if isX f (dfs H M h).length = true then (if okW ((dfs H M h).getD f.toNat fz).2 = true then ((dfs H M h).getD f.toNat fz).2 else 0) else 0
def fieldT (C : Cx) (h f : Int) : Except Int Tm :=
  if isX f (dfs C.H C.M h).length = true then (if widE C.H C.M h f = 0 then .error 10 else .ok (widE C.H C.M h f, redB (getE C.V C.F C.T h f) (widE C.H C.M h f))) else .error 8
def paramT (C : Cx) (i : Int) : Except Int Tm :=
  if isX i C.P.length = true then
    (if okW (C.P.getD i.toNat fz).2 = true then (if (C.A.length : Int) ≤ i then .ok ((C.P.getD i.toNat fz).2, 0) else .ok ((C.P.getD i.toNat fz).2, redB (C.A.getD i.toNat 0) (C.P.getD i.toNat fz).2)) else .error 10)
  else .error 8
def validT (C : Cx) (h : Int) : Except Int Tm := if isX h C.H.length = true then .ok (1, bitI (validB C.V h)) else .error 8
def leafT (C : Cx) (x : Nd) : Except Int Tm := if x.1 = 1 then constT x.2.1 x.2.2 else if x.1 = 2 then fieldT C x.2.1 x.2.2 else if x.1 = 3 then paramT C x.2.1 else validT C x.2.1
def sliceT (a : Tm) (lo w : Int) : Except Int Tm := if lo < 0 then .error 9 else if okW w = true ∧ lo ≤ a.1 - w then .ok (w, sliceB a.2 lo w) else .error 10
def unT (x : Nd) (a : Tm) : Except Int Tm :=
  if x.1 = 5 then .ok (a.1, notB a.2 a.1) else if x.1 = 8 then sliceT a x.2.1 x.2.2 else if x.2.1 < 0 ∨ 31 < x.2.1 then .error 9 else if x.1 = 6 then .ok (a.1, shlB a.2 x.2.1 a.1) else .ok (a.1, shrB a.2 x.2.1 a.1)
def concT (a b : Tm) : Except Int Tm := if catOk a.1 b.1 = true then .ok (a.1 + b.1, catB a.2 a.1 b.2 b.1) else .error 10
def combT (op : Int) (a b : Tm) : Tm :=
  if op = 9 then (a.1, addB a.2 b.2 a.1) else if op = 10 then (a.1, subB a.2 b.2 a.1) else if op = 11 then (a.1, bits .and .u32 a.2 b.2) else if op = 12 then (a.1, bits .or .u32 a.2 b.2)
  else if op = 13 then (a.1, bits .xor .u32 a.2 b.2) else if op = 15 then (1, bitI (decide (a.2 = b.2))) else (1, bitI (decide (a.2 < b.2)))
def binT (op : Int) (a b : Tm) : Except Int Tm := if op = 14 then concT a b else if a.1 = b.1 then .ok (combT op a b) else .error 10
def choT (c a b : Tm) : Except Int Tm := if c.1 = 1 ∧ a.1 = b.1 then (if c.2 = 1 then .ok a else .ok b) else .error 10
def tz : Tm := (0, 0)
/-- A node with its operands. -/
def nodeT (C : Cx) (x : Nd) (ts : List Tm) : Except Int Tm :=
  if arN x.1 = 0 then leafT C x else if arN x.1 = 1 then unT x (ts.getD 0 tz) else if arN x.1 = 2 then binT x.1 (ts.getD 0 tz) (ts.getD 1 tz) else choT (ts.getD 0 tz) (ts.getD 1 tz) (ts.getD 2 tz)
/-- So many subexpressions, one behind the other. -/
def manyT (g : List Nd → Except Int (Tm × List Nd)) : Nat → List Nd → Except Int (List Tm × List Nd)
  | 0, l => .ok ([], l)
  | k + 1, l => match manyT g k l with
    | .error e => .error e
    | .ok (ts, l1) => match g l1 with
      | .error e => .error e
      | .ok (t, l2) => .ok (ts ++ [t], l2)
/-- The subexpression at the head of the nodes, and the nodes behind it. -/
def subT (C : Cx) : Nat → List Nd → Except Int (Tm × List Nd)
  | 0, _ => .error 3
  | _ + 1, [] => .error 3
  | f + 1, x :: l => if arB x.1 = true then (match manyT (subT C f) (arN x.1) l with
      | .error e => .error e
      | .ok (ts, l1) => match nodeT C x ts with
        | .error e => .error e
        | .ok t => .ok (t, l1)) else .error 11
/-- All the nodes as one expression. -/
def wholeT (C : Cx) (N : List Nd) : Except Int Tm :=
  if 24 < N.length then .error 12 else match subT C (N.length + 1) N with
    | .error e => .error e
    | .ok (t, l) => if l = [] then .ok t else .error 4
def rW : Except Int Tm → Int
  | .ok t => t.1
  | .error _ => 0
def rV : Except Int Tm → Int
  | .ok t => t.2
  | .error _ => 0
def rE : Except Int Tm → Int
  | .ok _ => 0
  | .error e => e
/-- A width from 1 to 32 and a value that fits it. -/
def GT (t : Tm) : Prop := (1 ≤ t.1 ∧ t.1 ≤ 32) ∧ 0 ≤ t.2 ∧ t.2 < 2 ^ t.1.toNat
theorem gt_u32 {t : Tm} (h : GT t) : 0 ≤ t.2 ∧ t.2 < 4294967296 := ⟨h.2.1, Int.lt_of_lt_of_le h.2.2 (pow_le32 t.1 h.1.2)⟩
theorem gt_red {a w : Int} (h : 1 ≤ w ∧ w ≤ 32) : GT (w, redB a w) := ⟨h, redB_lt a w h⟩
theorem gt_bit (b : Bool) : GT (1, bitI b) := by
  cases b <;> exact ⟨⟨by decide, by decide⟩, by decide, by decide⟩
theorem gt_const {n w : Int} {t : Tm} (h : constT n w = .ok t) : GT t := by
  unfold constT at h
  split at h
  · rename_i hw
    split at h
    · rename_i hn
      cases h
      refine ⟨hw, hn.1, ?_⟩
      have := hn.2
      rw [mkB_in w hw] at this
      show n < 2 ^ w.toNat
      omega
    · cases h
  · cases h
theorem okW_iff (w : Int) : okW w = true ↔ 1 ≤ w ∧ w ≤ 32 := by unfold okW; exact decide_eq_true_iff
theorem gt_field {C : Cx} {a b : Int} {t : Tm} (h : fieldT C a b = .ok t) : GT t := by
  unfold fieldT at h
  split at h
  · rename_i hx
    split at h
    · cases h
    · rename_i hw
      cases h
      refine gt_red ?_
      unfold widE at hw ⊢
      rw [if_pos hx] at hw ⊢
      split
      · rename_i ho; exact (okW_iff _).1 ho
      · rename_i ho; rw [if_neg ho] at hw; exact absurd rfl hw
  · cases h
theorem gt_param {C : Cx} {i : Int} {t : Tm} (h : paramT C i = .ok t) : GT t := by
  unfold paramT at h
  split at h
  · split at h
    · rename_i hw
      have hw := (okW_iff _).1 hw
      split at h
      · cases h; exact ⟨hw, Int.le_refl _, pow_pos' _⟩
      · cases h; exact gt_red hw
    · cases h
  · cases h
theorem gt_valid {C : Cx} {i : Int} {t : Tm} (h : validT C i = .ok t) : GT t := by
  unfold validT at h
  split at h
  · cases h; exact gt_bit _
  · cases h
theorem gt_leaf {C : Cx} {x : Nd} {t : Tm} (h : leafT C x = .ok t) : GT t := by
  unfold leafT at h
  split at h
  · exact gt_const h
  · split at h
    · exact gt_field h
    · split at h
      · exact gt_param h
      · exact gt_valid h
theorem div_pow_lt {a : Int} (h0 : 0 ≤ a) (k : Nat) : a / 2 ^ k ≤ a := Int.ediv_le_self _ h0
theorem gt_un {x : Nd} {a t : Tm} (ha : GT a) (h : unT x a = .ok t) : GT t := by
  unfold unT at h
  split at h
  · cases h; exact gt_red ha.1
  · split at h
    · unfold sliceT at h
      split at h
      · cases h
      · split at h
        · rename_i h1 h2
          cases h
          have hw := (okW_iff _).1 h2.1
          refine ⟨hw, ?_⟩
          show 0 ≤ sliceB a.2 x.2.1 x.2.2 ∧ sliceB a.2 x.2.1 x.2.2 < 2 ^ x.2.2.toNat
          unfold sliceB
          split
          · exact redB_lt _ _ hw
          · exact ⟨Int.le_refl _, pow_pos' _⟩
        · cases h
    · split at h
      · cases h
      · split at h
        · cases h; exact gt_red ha.1
        · cases h
          refine ⟨ha.1, ?_⟩
          show 0 ≤ shrB a.2 x.2.1 a.1 ∧ shrB a.2 x.2.1 a.1 < 2 ^ a.1.toNat
          unfold shrB
          have r := redB_lt a.2 a.1 ha.1
          have p := pow_pos' (min x.2.1.toNat 32)
          exact ⟨Int.ediv_nonneg r.1 (Int.le_of_lt p), Int.lt_of_le_of_lt (div_pow_lt r.1 _) r.2⟩
theorem catB_lt (a wa b wb : Int) (h : (1 ≤ wa ∧ wa ≤ 32) ∧ (1 ≤ wb ∧ wb ≤ 32) ∧ wa + wb ≤ 32) : 0 ≤ catB a wa b wb ∧ catB a wa b wb < 2 ^ (wa + wb).toNat := by
  unfold catB
  rw [if_pos h]
  have r := redB_lt a wa h.1
  have s := redB_lt b wb h.2.1
  have e : (2 : Int) ^ (wa + wb).toNat = 2 ^ wa.toNat * 2 ^ wb.toNat := by
    rw [show (wa + wb).toNat = wa.toNat + wb.toNat by omega, Int.pow_add]
  have p := pow_pos' wb.toNat
  rw [e]
  constructor
  · exact Int.add_nonneg (Int.mul_nonneg r.1 (Int.le_of_lt p)) s.1
  · have : (redB a wa + 1) * 2 ^ wb.toNat ≤ 2 ^ wa.toNat * 2 ^ wb.toNat := Int.mul_le_mul_of_nonneg_right (by omega) (Int.le_of_lt p)
    rw [Int.add_mul, Int.one_mul] at this
    omega
theorem bits_and {a b : Int} (ha : 0 ≤ a ∧ a < 4294967296) (hb : 0 ≤ b ∧ b < 4294967296) : bits .and .u32 a b = ((a.toNat &&& b.toNat : Nat) : Int) := by
  obtain ⟨x, rfl⟩ := Int.eq_ofNat_of_zero_le ha.1
  obtain ⟨y, rfl⟩ := Int.eq_ofNat_of_zero_le hb.1
  rw [Int.toNat_natCast, Int.toNat_natCast]
  exact u32_and_nat x y (by omega) (by omega)
theorem bits_or {a b : Int} (ha : 0 ≤ a ∧ a < 4294967296) (hb : 0 ≤ b ∧ b < 4294967296) : bits .or .u32 a b = ((a.toNat ||| b.toNat : Nat) : Int) := by
  obtain ⟨x, rfl⟩ := Int.eq_ofNat_of_zero_le ha.1
  obtain ⟨y, rfl⟩ := Int.eq_ofNat_of_zero_le hb.1
  rw [Int.toNat_natCast, Int.toNat_natCast]
  exact u32_or_nat x y (by omega) (by omega)
theorem bits_xor {a b : Int} (ha : 0 ≤ a ∧ a < 4294967296) (hb : 0 ≤ b ∧ b < 4294967296) : bits .xor .u32 a b = ((a.toNat ^^^ b.toNat : Nat) : Int) := by
  obtain ⟨x, rfl⟩ := Int.eq_ofNat_of_zero_le ha.1
  obtain ⟨y, rfl⟩ := Int.eq_ofNat_of_zero_le hb.1
  rw [Int.toNat_natCast, Int.toNat_natCast]
  exact u32_xor_nat x y (by omega) (by omega)
theorem nat_lt {a : Int} {k : Nat} (h0 : 0 ≤ a) (h1 : a < 2 ^ k) : a.toNat < 2 ^ k := by
  have e : ((2 ^ k : Nat) : Int) = 2 ^ k := by simp
  omega
theorem gt_nat {w : Int} {x : Nat} (hw : 1 ≤ w ∧ w ≤ 32) (hx : x < 2 ^ w.toNat) : GT (w, (x : Int)) := by
  refine ⟨hw, ?_, ?_⟩
  · show (0 : Int) ≤ (x : Int); omega
  · show (x : Int) < 2 ^ w.toNat
    have e : ((2 ^ w.toNat : Nat) : Int) = 2 ^ w.toNat := by simp
    omega
theorem gt_bin {op : Int} {a b t : Tm} (ha : GT a) (hb : GT b) (h : binT op a b = .ok t) : GT t := by
  unfold binT at h
  split at h
  · unfold concT at h
    split at h
    · rename_i hc
      cases h
      unfold catOk at hc
      have hc := of_decide_eq_true hc
      exact ⟨⟨by show 1 ≤ a.1 + b.1; omega, hc.2.2⟩, catB_lt _ _ _ _ hc⟩
    · cases h
  · split at h
    · rename_i hw
      cases h
      have ua := gt_u32 ha
      have ub := gt_u32 hb
      have na := nat_lt ha.2.1 ha.2.2
      have nb := nat_lt hb.2.1 hb.2.2
      rw [← hw] at nb
      unfold combT
      repeat' split
      · exact gt_red ha.1
      · exact gt_red ha.1
      · rw [bits_and ua ub]; exact gt_nat ha.1 (Nat.and_lt_two_pow _ nb)
      · rw [bits_or ua ub]; exact gt_nat ha.1 (Nat.or_lt_two_pow na nb)
      · rw [bits_xor ua ub]; exact gt_nat ha.1 (Nat.xor_lt_two_pow na nb)
      · exact gt_bit _
      · exact gt_bit _
    · cases h
theorem gt_cho {c a b t : Tm} (ha : GT a) (hb : GT b) (h : choT c a b = .ok t) : GT t := by
  unfold choT at h
  split at h
  · split at h
    · cases h; exact ha
    · cases h; exact hb
  · cases h
theorem gt_at {ts : List Tm} (h : ∀ t ∈ ts, GT t) {i : Nat} (hi : i < ts.length) : GT (ts.getD i tz) := by
  rw [List.getD_eq_getElem?_getD, List.getElem?_eq_getElem hi]
  exact h _ (List.getElem_mem _)
theorem gt_node {C : Cx} {x : Nd} {ts : List Tm} {t : Tm} (hl : ts.length = arN x.1) (hg : ∀ t ∈ ts, GT t) (hx : arB x.1 = true) (h : nodeT C x ts = .ok t) : GT t := by
  unfold nodeT at h
  split at h
  · exact gt_leaf h
  · split at h
    · exact gt_un (gt_at hg (by omega)) h
    · split at h
      · exact gt_bin (gt_at hg (by omega)) (gt_at hg (by omega)) h
      · rename_i h0 h1 h2
        have e : arN x.1 = 3 := by
          unfold arN at h0 h1 h2 ⊢
          unfold arB at hx
          have hx := of_decide_eq_true hx
          rw [if_pos hx] at h0 h1 h2 ⊢
          repeat' split at h0
          all_goals first | omega | (repeat' split) <;> first | rfl | simp_all
        exact gt_cho (gt_at hg (by omega)) (gt_at hg (by omega)) h
theorem many_ok {g : List Nd → Except Int (Tm × List Nd)} (hg : ∀ l t l', g l = .ok (t, l') → GT t ∧ l'.length < l.length ∧ ∃ p, l = p ++ l') : ∀ k l ts l', manyT g k l = .ok (ts, l') → ts.length = k ∧ (∀ t ∈ ts, GT t) ∧ l'.length + k ≤ l.length ∧ ∃ p, l = p ++ l' := by
  intro k
  induction k with
  | zero =>
    intro l ts l' h
    unfold manyT at h
    cases h
    exact ⟨rfl, (fun t ht => by cases ht), Nat.le_refl _, [], rfl⟩
  | succ k ih =>
    intro l ts l' h
    unfold manyT at h
    split at h
    · cases h
    · rename_i ts1 l1 h1
      obtain ⟨i1, i2, i3, p, hp⟩ := ih l ts1 l1 h1
      split at h
      · cases h
      · rename_i t l2 h2
        obtain ⟨j1, j2, q, hq⟩ := hg l1 t l2 h2
        cases h
        refine ⟨by rw [List.length_append, i1]; rfl, fun u hu => ?_, by omega, p ++ q, by rw [hp, hq, List.append_assoc]⟩
        rcases List.mem_append.1 hu with h3 | h3
        · exact i2 u h3
        · rw [List.mem_singleton.1 h3]; exact j1
theorem sub_ok (C : Cx) : ∀ f l t l', subT C f l = .ok (t, l') → GT t ∧ l'.length < l.length ∧ ∃ p, l = p ++ l' := by
  intro f
  induction f with
  | zero => intro l t l' h; unfold subT at h; cases h
  | succ f ih =>
    intro l t l' h
    cases l with
    | nil => unfold subT at h; cases h
    | cons x l =>
      unfold subT at h
      split at h
      · rename_i hx
        split at h
        · cases h
        · rename_i ts l1 h1
          obtain ⟨i1, i2, i3, p, hp⟩ := many_ok ih _ _ _ _ h1
          split at h
          · cases h
          · rename_i t2 h2
            cases h
            refine ⟨gt_node i1 i2 hx h2, by rw [List.length_cons]; omega, x :: p, by rw [hp]; rfl⟩
      · cases h
theorem whole_ok {C : Cx} {N : List Nd} {t : Tm} (h : wholeT C N = .ok t) : GT t := by
  unfold wholeT at h
  split at h
  · cases h
  · split at h
    · cases h
    · rename_i t2 l h2
      split at h
      · cases h; exact (sub_ok C _ _ _ _ h2).1
      · cases h
/-- More fuel than nodes makes no difference. -/
theorem many_same {g1 g2 : List Nd → Except Int (Tm × List Nd)} (n : Nat) (h : ∀ l, l.length ≤ n → g1 l = g2 l) (hg : ∀ l t l', g1 l = .ok (t, l') → l'.length < l.length) : ∀ k l, l.length ≤ n → manyT g1 k l = manyT g2 k l ∧ ∀ ts l', manyT g1 k l = .ok (ts, l') → l'.length ≤ l.length := by
  intro k
  induction k with
  | zero => intro l _; exact ⟨rfl, fun ts l' e => by unfold manyT at e; cases e; exact Nat.le_refl _⟩
  | succ k ih =>
    intro l hl
    obtain ⟨i1, i2⟩ := ih l hl
    unfold manyT
    rw [← i1]
    cases hm : manyT g1 k l with
    | error e => exact ⟨rfl, fun ts l' e => by cases e⟩
    | ok r =>
      obtain ⟨ts1, l1⟩ := r
      have b := i2 ts1 l1 hm
      have e := h l1 (by omega)
      dsimp only
      rw [← e]
      refine ⟨rfl, fun ts l' e2 => ?_⟩
      cases hg1 : g1 l1 with
      | error e => rw [hg1] at e2; cases e2
      | ok r =>
        obtain ⟨t, l2⟩ := r
        rw [hg1] at e2
        cases e2
        have := hg l1 t _ hg1
        omega
theorem sub_fuel (C : Cx) : ∀ f g l, l.length < f → l.length < g → subT C f l = subT C g l := by
  intro f
  induction f with
  | zero => intro g l h _; omega
  | succ f ih =>
    intro g l hf hg
    cases g with
    | zero => omega
    | succ g =>
      cases l with
      | nil => rfl
      | cons x l =>
        rw [List.length_cons] at hf hg
        have := (many_same (g1 := subT C f) (g2 := subT C g) l.length (fun l2 h2 => ih g l2 (by omega) (by omega)) (fun l2 t l' h => (sub_ok C f l2 t l' h).2.1) (arN x.1) l (Nat.le_refl _)).1
        unfold subT
        rw [this]
theorem many_err {g : List Nd → Except Int (Tm × List Nd)} {l : List Nd} {e : Int} (i : Nat) (h : manyT g i l = .error e) : ∀ j, i ≤ j → manyT g j l = .error e := by
  intro j
  induction j with
  | zero => intro hj; rw [show i = 0 by omega] at h; exact h
  | succ j ih =>
    intro hj
    rcases (show i = j + 1 ∨ i ≤ j by omega) with rfl | hj
    · exact h
    · show (match manyT g j l with | .error e => _ | .ok (ts, l1) => _) = _
      rw [ih hj]
theorem many_step {g : List Nd → Except Int (Tm × List Nd)} {l l1 l2 : List Nd} {i : Nat} {ts : List Tm} {t : Tm} (h : manyT g i l = .ok (ts, l1)) (h2 : g l1 = .ok (t, l2)) : manyT g (i + 1) l = .ok (ts ++ [t], l2) := by
  show (match manyT g i l with | .error e => _ | .ok (ts, l1) => _) = _
  rw [h]
  show (match g l1 with | .error e => _ | .ok (t, l2) => _) = _
  rw [h2]
theorem many_bad {g : List Nd → Except Int (Tm × List Nd)} {l l1 : List Nd} {i : Nat} {ts : List Tm} {e : Int} (h : manyT g i l = .ok (ts, l1)) (h2 : g l1 = .error e) : manyT g (i + 1) l = .error e := by
  show (match manyT g i l with | .error e => _ | .ok (ts, l1) => _) = _
  rw [h]
  show (match g l1 with | .error e => _ | .ok (t, l2) => _) = _
  rw [h2]
theorem node_err {C : Cx} {x : Nd} {ts : List Tm} {e : Int} (h : nodeT C x ts = .error e) : e ≠ 0 := by
  unfold nodeT at h
  split at h
  · unfold leafT at h
    split at h
    · unfold constT at h; (repeat' split at h) <;> cases h <;> decide
    · split at h
      · unfold fieldT at h; (repeat' split at h) <;> cases h <;> decide
      · split at h
        · unfold paramT at h; (repeat' split at h) <;> cases h <;> decide
        · unfold validT at h; (repeat' split at h) <;> cases h <;> decide
  · split at h
    · unfold unT sliceT at h; (repeat' split at h) <;> cases h <;> decide
    · split at h
      · unfold binT concT at h; (repeat' split at h) <;> cases h <;> decide
      · unfold choT at h; (repeat' split at h) <;> cases h <;> decide
theorem many_ne {g : List Nd → Except Int (Tm × List Nd)} (hg : ∀ l e, g l = .error e → e ≠ 0) : ∀ k l e, manyT g k l = .error e → e ≠ 0 := by
  intro k
  induction k with
  | zero => intro l e h; unfold manyT at h; cases h
  | succ k ih =>
    intro l e h
    unfold manyT at h
    split at h
    · rename_i e1 h1; cases h; exact ih _ _ h1
    · split at h
      · rename_i e1 h1; cases h; exact hg _ _ h1
      · cases h
theorem sub_err (C : Cx) : ∀ f l e, subT C f l = .error e → e ≠ 0 := by
  intro f
  induction f with
  | zero => intro l e h; unfold subT at h; cases h; decide
  | succ f ih =>
    intro l e h
    cases l with
    | nil => unfold subT at h; cases h; decide
    | cons x l =>
      unfold subT at h
      split at h
      · split at h
        · rename_i e1 h1; cases h; exact many_ne ih _ _ _ h1
        · split at h
          · rename_i e1 h1; cases h; exact node_err h1
          · cases h
      · cases h; decide
theorem whole_err {C : Cx} {N : List Nd} {e : Int} (h : wholeT C N = .error e) : e ≠ 0 := by
  unfold wholeT at h
  split at h
  · cases h; decide
  · split at h
    · rename_i h1; cases h; exact sub_err C _ _ _ h1
    · split at h
      · cases h
      · cases h; decide
end Go.Proofs.Ytfjeonoihdgdoaa
