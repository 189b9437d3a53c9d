/- Env: changed; no condition but sizes. -/
import Derived.Test.YtjhknmklejkknaaGxB
namespace Go.Proofs.Ytjhknmklejkknaa
open Go.RowKit
set_option linter.unusedVariables false
def chF (g : Int → Int → Int → Int) (F : List (List Int)) : List (List Int) := F.mapIdx fun h l => chL (g h) l
theorem chF_len (g : Int → Int → Int → Int) (F : List (List Int)) : (chF g F).length = F.length := by simp [chF]
theorem chF_at (g : Int → Int → Int → Int) (F : List (List Int)) (j : Nat) (h : j < F.length) : (chF g F).getD j [] = chL (g j) (F.getD j []) := by simp [chF, h]
theorem take_one {α : Type} (L : List α) (d : α) (k : Nat) (h : k < L.length) : L.take (k + 1) = L.take k ++ [L.getD k d] := by
  rw [List.take_succ_eq_append_getElem h]; simp [h]
/-- Sizes that suffice. -/
structure EZ (X : EX) (L : EL) : Prop where
  v : X.vn ≤ 100000
  f : X.fn ≤ 100000
  t : X.tn ≤ 100000
  p : X.pn ≤ 100000
  r : ∀ j, (L.F.getD j []).length ≤ 100000
def chE (g : Int → Int → Int → Int) (L : EL) : EL := ⟨L.V, chF g L.F, chL (g (-1)) L.T, L.P⟩
/-- What holds between the rounds of changed. -/
structure ChgS (w w3 : World) (X : EX) (L : EL) (g : Int → Int → Int → Int) (b6 : Nat) (a1 a2 a3 : Option Addr) (c1 c2 c3 : Nat) (j : Nat) (V : Value) (Vs : List Value) (wr : World) : Prop where
  box : IsB wr b6 42 #[.slice a1 X.vn c1, V, .slice a2 X.tn c2, .slice a3 X.pn c3]
  rows : OR wr w3.heap.size V ((chF g L.F).take j) Vs
  r1 : NB wr w.heap.size (.slice a1 X.vn c1) L.V
  r2 : NU wr w.heap.size (.slice a2 X.tn c2) (chL (g (-1)) L.T)
  r3 : NY wr w.heap.size (.slice a3 X.pn c3) L.P
  dis : ∀ x, x < j → ∀ q, (Vs.getD x nilV).ownBlock = some q → (Value.slice a2 X.tn c2).ownBlock ≠ some q
  grown : w3.grownBy wr none
theorem ChgS.next {w w3 : World} {X : EX} {L : EL} {g : Int → Int → Int → Int} {b6 : Nat} {a1 a2 a3 : Option Addr} {c1 c2 c3 j : Nat} {V V2 R : Value} {Vs : List Value} {wr w1 w2 : World} {l : List Int}
    (h : ChgS w w3 X L g b6 a1 a2 a3 c1 c2 c3 j V Vs wr) (hj : j < L.F.length) (l6 : w3.heap.size ≤ b6) (k : wr.grownBy w1 none) (hl : l = chL (g j) (L.F.getD j [])) (o : NU w1 wr.heap.size R l) (hr : ∀ y ∈ l, 0 ≤ y ∧ y < 4294967296)
    (k2 : w1.grownBy w2 V.ownBlock) (out : w2.ownsRow w3.heap.size 40 1 V2 (Vs ++ [R]).length (Vs ++ [R])) :
    IsB w2 b6 42 #[.slice a1 X.vn c1, V, .slice a2 X.tn c2, .slice a3 X.pn c3] ∧ ChgS w w3 X L g b6 a1 a2 a3 c1 c2 c3 (j + 1) V2 (Vs ++ [R]) (w2.setCell ⟨b6, 1, none⟩ V2) := by
  have ro := own_keep0 h.rows.out k
  have rn := h.rows.nV
  have tl : ((chF g L.F).take j).length = j := by rw [List.length_take, chF_len]; omega
  rw [tl] at rn
  have bx := isb_past (h.box.keep0 k) ro (by decide) k2
  have mo := OR.more h.rows k l (own_low o h.grown.size) (fun q e => (World.ownsRow.lt o q e).1) hr k2 out
  have e1 : (chF g L.F).take j ++ [l] = (chF g L.F).take (j + 1) := by rw [take_one _ [] j (by rw [chF_len]; exact hj), chF_at g L.F j hj, hl]
  rw [e1] at mo
  have kp : ∀ {e : TypeId} {v : Value} {n : Nat} {xs : List Value}, wr.ownsRow w.heap.size e 1 v n xs → e ≠ 40 → e ≠ 42 → World.ownsRow (w2.setCell ⟨b6, 1, none⟩ V2) w.heap.size e 1 v n xs := fun h hn hm =>
    own_keepS (own_past (own_keep0 h k) ro hn k2) (gb_set _ _ _ _) bx hm
  refine ⟨bx, bx.set 1 V2, ?_, kp h.r1 (by decide) (by decide), kp h.r2 (by decide) (by decide), kp h.r3 (by decide) (by decide), ?_, gb_put (gb_lows (gb_trans h.grown k) k2 fun q e => (World.ownsRow.lt h.rows.out q e).1) l6⟩
  · exact ⟨own_keepS mo.out (gb_set _ _ _ _) bx (by decide), fun x hx => own_keepS (mo.own x hx) (gb_set _ _ _ _) bx (by decide), mo.dis, mo.rng⟩
  · intro x hx q e
    by_cases hx2 : x = j
    · subst hx2
      have e2 : (Vs ++ [R]).getD x nilV = R := by rw [List.getD_eq_getElem?_getD, List.getElem?_append_right (by omega)]; simp [rn]
      rw [e2] at e
      intro e3
      have l1 := (World.ownsRow.lt o q e).1
      have l2 := (World.ownsRow.lt h.r2 q e3).2
      omega
    · have e2 : (Vs ++ [R]).getD x nilV = Vs.getD x nilV := by rw [List.getD_eq_getElem?_getD, List.getElem?_append_left (by omega), ← List.getD_eq_getElem?_getD]
      rw [e2] at e
      exact h.dis x (by omega) q e
theorem ChgS.fin {w w3 : World} {X : EX} {L : EL} {g : Int → Int → Int → Int} {b4 b6 : Nat} {a1 a2 a3 sa : Option Addr} {c1 c2 c3 sc : Nat} {Vs : List Value} {wr : World} {x0 x1 x2 x3 : Value}
    (h : ChgS w w3 X L g b6 a1 a2 a3 c1 c2 c3 X.fn (.slice sa X.fn sc) Vs wr) (hr : ER w X L) (hg : ∀ h i v, 0 ≤ v → v < 4294967296 → 0 ≤ g h i v ∧ g h i v < 4294967296) (hw : w.grownBy w3 none) (b : IsB wr b4 42 #[x0, x1, x2, x3]) (l4 : w.heap.size ≤ b4) :
    ∃ W', W' = ((((wr.setCell ⟨b4, 0, none⟩ (.slice a1 X.vn c1)).setCell ⟨b4, 1, none⟩ (.slice sa X.fn sc)).setCell ⟨b4, 2, none⟩ (.slice a2 X.tn c2)).setCell ⟨b4, 3, none⟩ (.slice a3 X.pn c3)) ∧ OE W' w.heap.size ⟨a1, sa, a2, a3, X.vn, c1, X.fn, sc, X.tn, c2, X.pn, c3⟩ (chE g L) Vs ∧
      IsB W' b4 42 #[.slice a1 X.vn c1, .slice sa X.fn sc, .slice a2 X.tn c2, .slice a3 X.pn c3] ∧ w.grownBy W' none := by
  refine ⟨_, rfl, ?_, (((b.set 0 _).set 1 _).set 2 _).set 3 _, gb_put (gb_put (gb_put (gb_put (gb_trans hw h.grown) l4) l4) l4) l4⟩
  have j1 := b.set 0 (.slice a1 X.vn c1)
  have j2 := j1.set 1 (.slice sa X.fn sc)
  have j3 := j2.set 2 (.slice a2 X.tn c2)
  have kp : ∀ {e : TypeId} {base : Nat} {v : Value} {n : Nat} {xs : List Value}, wr.ownsRow base e 1 v n xs → e ≠ 42 → World.ownsRow ((((wr.setCell ⟨b4, 0, none⟩ (.slice a1 X.vn c1)).setCell ⟨b4, 1, none⟩ (.slice sa X.fn sc)).setCell ⟨b4, 2, none⟩ (.slice a2 X.tn c2)).setCell ⟨b4, 3, none⟩ (.slice a3 X.pn c3)) base e 1 v n xs := fun h hn =>
    own_keepS (own_keepS (own_keepS (own_keepS h (gb_set _ _ _ _) b hn) (gb_set _ _ _ _) j1 hn) (gb_set _ _ _ _) j2 hn) (gb_set _ _ _ _) j3 hn
  have FL := hr.f.len
  have tk : (chF g L.F).take X.fn = chF g L.F := List.take_of_length_le (by rw [chF_len, FL]; exact Nat.le_refl _)
  have ro := h.rows
  rw [tk] at ro
  refine ⟨kp h.r1 (by decide), ?_, kp h.r2 (by decide), kp h.r3 (by decide), hr.v.len, ?_, ?_, hr.p.len, ?_, hr.p.rng, ?_⟩
  · exact ⟨own_low (kp ro.out (by decide)) hw.size, fun x hx => own_low (kp (ro.own x hx) (by decide)) hw.size, ro.dis, ro.rng⟩
  · show (chF g L.F).length = _; rw [chF_len]; exact FL
  · show (chL (g (-1)) L.T).length = _; rw [chL_len]; exact hr.t.len
  · exact chL_rng (hg (-1)) hr.t.rng
  · intro x hx q e
    have hx : x < (chF g L.F).length := hx
    rw [chF_len, FL] at hx
    exact h.dis x hx q e
def FinE (w w3 : World) (s6 : Value) (V : List Bool) (T P : List Int) (n1 n2 n3 : Nat) (wx : World) : Prop :=
  ∃ (b6 : Nat) (a1 a2 a3 : Option Addr) (c1 c2 c3 : Nat), s6 = .pointer (some ⟨b6, 0, none⟩) ∧ IsB wx b6 42 #[.slice a1 n1 c1, .slice none 0 0, .slice a2 n2 c2, .slice a3 n3 c3] ∧ NB wx w.heap.size (.slice a1 n1 c1) V ∧ NU wx w.heap.size (.slice a2 n2 c2) T ∧ NY wx w.heap.size (.slice a3 n3 c3) P ∧ w3.heap.size ≤ b6 ∧ w3.grownBy wx none
theorem rstep_any {ops : Array Oper} {o : Oper} {a : Act} {w : World} {K : Act → World → Prop} {Q : Exit → Act → World → Prop} {Z : Prop} (hgd : o.guard = none) (s x : Operand)
    (ho : o.op = .call { callee := .builtin .append, args := #[s, x], argTypes := #[39, 39] }) (base : Nat) (V : Value) (Vs : List Value) (hs : a.eval s = V) (hown : w.ownsRow base 40 1 V Vs.length Vs)
    (ad : Addr) (c : Nat) (R : Value) (hx : a.eval x = .slice (some ad) 1 c) (hM : ∀ (j : Nat) (u : Value), ([R] : List Value)[j]? = some u → w.cell? (ad.add j) = some u) (hR : R.oneCell' = true) (hlen : Vs.length + 1 ≤ 1000000) (hbase : base ≤ w.heap.size)
    (h : ∀ V' w', w'.ownsRow base 40 1 V' (Vs ++ [R]).length (Vs ++ [R]) → w.grownBy w' V.ownBlock → K (a.put o.dst V') w') : if Region.wanted o (yielded ops a.tmps) = true then Oper.wp Try.prog o a w K Q else Z := by
  have hw : Region.wanted o (yielded ops a.tmps) = true := by simp [Region.wanted, hgd]
  rw [if_pos hw]
  obtain ⟨i0, hi, hz0, hz1, hz2⟩ := info_parts infoRow
  refine wp_append_own w s x 39 ho base 40 i0 (.slice none 0 0) 1 24 Try.underlying39 hi hz0 hz1 hz2 rfl (by decide) V Vs.length Vs hs hown ad 1 c [R] hx (by simp) hM (one_one _ hR) (by unfold maxLen; omega) (by omega) hbase ?_
  intro V' w' h1 h2 h3
  exact h V' w' (by simpa using h1) h2
theorem isb_cell1 {w : World} {g : Nat} {t : TypeId} {R : Value} (h : IsB w g t #[R]) : ∀ (j : Nat) (u : Value), ([R] : List Value)[j]? = some u → w.cell? ((⟨g, 0, none⟩ : Addr).add j) = some u := by
  intro j u hj
  match j, hj with
  | 0, hj => simp at hj; subst hj; simpa [Addr.add] using h.cell 0
theorem fin_env {w w3 wk : World} {b6 : Nat} {a1 a2 a3 : Option Addr} {n1 n2 n3 c1 c2 c3 : Nat} {V : List Bool} {T P : List Int} (g : w3.grownBy wk none) (l6 : w3.heap.size ≤ b6)
    (i6 : IsB wk b6 42 #[.slice none 0 0, .slice none 0 0, .slice none 0 0, .slice none 0 0]) (r1 : NB wk w.heap.size (.slice a1 n1 c1) V) (r2 : NU wk w.heap.size (.slice a2 n2 c2) T) (r3 : NY wk w.heap.size (.slice a3 n3 c3) P) :
    FinE w w3 (.pointer (some ⟨b6, 0, none⟩)) V T P n1 n2 n3 ((((wk.setCell ⟨b6, 0, none⟩ (.slice a1 n1 c1)).setCell ⟨b6, 1, none⟩ (.slice none 0 0)).setCell ⟨b6, 2, none⟩ (.slice a2 n2 c2)).setCell ⟨b6, 3, none⟩ (.slice a3 n3 c3)) := by
  have j1 := i6.set 0 (.slice a1 n1 c1)
  have j2 := j1.set 1 (.slice none 0 0)
  have j3 := j2.set 2 (.slice a2 n2 c2)
  have j4 := j3.set 3 (.slice a3 n3 c3)
  have kp : ∀ {e : TypeId} {v : Value} {n : Nat} {xs : List Value}, wk.ownsRow w.heap.size e 1 v n xs → e ≠ 42 → World.ownsRow ((((wk.setCell ⟨b6, 0, none⟩ (.slice a1 n1 c1)).setCell ⟨b6, 1, none⟩ (.slice none 0 0)).setCell ⟨b6, 2, none⟩ (.slice a2 n2 c2)).setCell ⟨b6, 3, none⟩ (.slice a3 n3 c3)) w.heap.size e 1 v n xs := fun h hn =>
    own_keepS (own_keepS (own_keepS (own_keepS h (gb_set _ _ _ _) i6 hn) (gb_set _ _ _ _) j1 hn) (gb_set _ _ _ _) j2 hn) (gb_set _ _ _ _) j3 hn
  exact ⟨b6, a1, a2, a3, c1, c2, c3, rfl, j4, kp r1 (by decide), kp r2 (by decide), kp r3 (by decide), l6, gb_put (gb_put (gb_put (gb_put g l6) l6) l6) l6⟩

end Go.Proofs.Ytjhknmklejkknaa
