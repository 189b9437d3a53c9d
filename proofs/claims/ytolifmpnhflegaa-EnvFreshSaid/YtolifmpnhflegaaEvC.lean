/- Env: changed; no condition but sizes. -/
import Derived.Test.YtolifmpnhflegaaEvB
namespace Go.Proofs.Ytolifmpnhflegaa
open Go.RowKit
set_option linter.unusedVariables false
def chF (g : Int → Int → Int → Int) (F : List (List Int)) : List (List Int) := F.mapIdx fun h l => chL (g h) l
theorem chF_len (g : Int → Int → Int → Int) (F : List (List Int)) : (chF g F).length = F.length := by simp [chF]
theorem chF_at (g : Int → Int → Int → Int) (F : List (List Int)) (j : Nat) (h : j < F.length) : (chF g F).getD j [] = chL (g j) (F.getD j []) := by simp [chF, h]
theorem take_one {α : Type} (L : List α) (d : α) (k : Nat) (h : k < L.length) : L.take (k + 1) = L.take k ++ [L.getD k d] := by
  rw [List.take_succ_eq_append_getElem h]; simp [h]
/-- Sizes that suffice. -/
structure EZ (X : EX) (L : EL) : Prop where
  v : X.vn ≤ 100000
  f : X.fn ≤ 100000
  t : X.tn ≤ 100000
  p : X.pn ≤ 100000
  r : ∀ j, (L.F.getD j []).length ≤ 100000
def chE (g : Int → Int → Int → Int) (L : EL) : EL := ⟨L.V, chF g L.F, chL (g (-1)) L.T, L.P⟩
theorem retx_b {w w2 w' : World} {e : Ending} {V : List Bool} {n : Nat} (hb : w.heap.size ≤ w2.heap.size) (hn : V.length = n) (h : RetX 4 ([V.map Value.bool] : List (List Value)).flatten w2 e w') : ∃ a c, e = .returned (.slice a n c) ∧ NB w' w.heap.size (.slice a n c) V ∧ w2.grownBy w' none := by
  obtain ⟨x, rfl, r, g⟩ := h
  have r2 : NB w' w.heap.size x V := by have k := own_low r hb; unfold NB; simpa using k
  obtain ⟨a, c, rfl⟩ := own_shape r2
  rw [hn] at r2 ⊢
  exact ⟨a, c, rfl, r2, g⟩
theorem retx_y {w w2 w' : World} {e : Ending} {V : List Int} {n : Nat} (hb : w.heap.size ≤ w2.heap.size) (hn : V.length = n) (h : RetX 5 ([V.map (Value.int .u8)] : List (List Value)).flatten w2 e w') : ∃ a c, e = .returned (.slice a n c) ∧ NY w' w.heap.size (.slice a n c) V ∧ w2.grownBy w' none := by
  obtain ⟨x, rfl, r, g⟩ := h
  have r2 : NY w' w.heap.size x V := by have k := own_low r hb; unfold NY; simpa using k
  obtain ⟨a, c, rfl⟩ := own_shape r2
  rw [hn] at r2 ⊢
  exact ⟨a, c, rfl, r2, g⟩
theorem retu_n {w w2 w' : World} {e : Ending} {M : List Int} {n : Nat} (hb : w.heap.size ≤ w2.heap.size) (hn : M.length = n) (h : RetU M w2 e w') : ∃ a c, e = .returned (.slice a n c) ∧ NU w' w.heap.size (.slice a n c) M ∧ w2.grownBy w' none := by
  obtain ⟨x, rfl, r, g⟩ := h
  have r2 : NU w' w.heap.size x M := own_low r hb
  obtain ⟨a, c, rfl⟩ := own_shape r2
  rw [hn] at r2 ⊢
  exact ⟨a, c, rfl, r2, g⟩
/-- What holds between the rounds of changed. -/
structure ChgS (w w3 : World) (X : EX) (L : EL) (g : Int → Int → Int → Int) (b6 : Nat) (a1 a2 a3 : Option Addr) (c1 c2 c3 : Nat) (j : Nat) (V : Value) (Vs : List Value) (wr : World) : Prop where
  box : IsB wr b6 37 #[.slice a1 X.vn c1, V, .slice a2 X.tn c2, .slice a3 X.pn c3]
  rows : OR wr w3.heap.size V ((chF g L.F).take j) Vs
  r1 : NB wr w.heap.size (.slice a1 X.vn c1) L.V
  r2 : NU wr w.heap.size (.slice a2 X.tn c2) (chL (g (-1)) L.T)
  r3 : NY wr w.heap.size (.slice a3 X.pn c3) L.P
  dis : ∀ x, x < j → ∀ q, (Vs.getD x nilV).ownBlock = some q → (Value.slice a2 X.tn c2).ownBlock ≠ some q
  grown : w3.grownBy wr none
theorem ChgS.next {w w3 : World} {X : EX} {L : EL} {g : Int → Int → Int → Int} {b6 : Nat} {a1 a2 a3 : Option Addr} {c1 c2 c3 j : Nat} {V V2 R : Value} {Vs : List Value} {wr w1 w2 : World} {l : List Int}
    (h : ChgS w w3 X L g b6 a1 a2 a3 c1 c2 c3 j V Vs wr) (hj : j < L.F.length) (l6 : w3.heap.size ≤ b6) (k : wr.grownBy w1 none) (hl : l = chL (g j) (L.F.getD j [])) (o : NU w1 wr.heap.size R l) (hr : ∀ y ∈ l, 0 ≤ y ∧ y < 4294967296)
    (k2 : w1.grownBy w2 V.ownBlock) (out : w2.ownsRow w3.heap.size 34 1 V2 (Vs ++ [R]).length (Vs ++ [R])) :
    IsB w2 b6 37 #[.slice a1 X.vn c1, V, .slice a2 X.tn c2, .slice a3 X.pn c3] ∧ ChgS w w3 X L g b6 a1 a2 a3 c1 c2 c3 (j + 1) V2 (Vs ++ [R]) (w2.setCell ⟨b6, 1, none⟩ V2) := by
  have ro := own_keep0 h.rows.out k
  have rn := h.rows.nV
  have tl : ((chF g L.F).take j).length = j := by rw [List.length_take, chF_len]; omega
  rw [tl] at rn
  have bx := isb_past (h.box.keep0 k) ro (by decide) k2
  have mo := OR.more h.rows k l (own_low o h.grown.size) (fun q e => (World.ownsRow.lt o q e).1) hr k2 out
  have e1 : (chF g L.F).take j ++ [l] = (chF g L.F).take (j + 1) := by rw [take_one _ [] j (by rw [chF_len]; exact hj), chF_at g L.F j hj, hl]
  rw [e1] at mo
  have kp : ∀ {e : TypeId} {v : Value} {n : Nat} {xs : List Value}, wr.ownsRow w.heap.size e 1 v n xs → e ≠ 34 → e ≠ 37 → World.ownsRow (w2.setCell ⟨b6, 1, none⟩ V2) w.heap.size e 1 v n xs := fun h hn hm =>
    own_keepS (own_past (own_keep0 h k) ro hn k2) (gb_set _ _ _ _) bx hm
  refine ⟨bx, bx.set 1 V2, ?_, kp h.r1 (by decide) (by decide), kp h.r2 (by decide) (by decide), kp h.r3 (by decide) (by decide), ?_, gb_put (gb_lows (gb_trans h.grown k) k2 fun q e => (World.ownsRow.lt h.rows.out q e).1) l6⟩
  · exact ⟨own_keepS mo.out (gb_set _ _ _ _) bx (by decide), fun x hx => own_keepS (mo.own x hx) (gb_set _ _ _ _) bx (by decide), mo.dis, mo.rng⟩
  · intro x hx q e
    by_cases hx2 : x = j
    · subst hx2
      have e2 : (Vs ++ [R]).getD x nilV = R := by rw [List.getD_eq_getElem?_getD, List.getElem?_append_right (by omega)]; simp [rn]
      rw [e2] at e
      intro e3
      have l1 := (World.ownsRow.lt o q e).1
      have l2 := (World.ownsRow.lt h.r2 q e3).2
      omega
    · have e2 : (Vs ++ [R]).getD x nilV = Vs.getD x nilV := by rw [List.getD_eq_getElem?_getD, List.getElem?_append_left (by omega), ← List.getD_eq_getElem?_getD]
      rw [e2] at e
      exact h.dis x (by omega) q e
theorem ChgS.fin {w w3 : World} {X : EX} {L : EL} {g : Int → Int → Int → Int} {b4 b6 : Nat} {a1 a2 a3 sa : Option Addr} {c1 c2 c3 sc : Nat} {Vs : List Value} {wr : World} {x0 x1 x2 x3 : Value}
    (h : ChgS w w3 X L g b6 a1 a2 a3 c1 c2 c3 X.fn (.slice sa X.fn sc) Vs wr) (hr : ER w X L) (hg : ∀ h i v, 0 ≤ v → v < 4294967296 → 0 ≤ g h i v ∧ g h i v < 4294967296) (hw : w.grownBy w3 none) (b : IsB wr b4 37 #[x0, x1, x2, x3]) (l4 : w.heap.size ≤ b4) :
    ∃ W', W' = ((((wr.setCell ⟨b4, 0, none⟩ (.slice a1 X.vn c1)).setCell ⟨b4, 1, none⟩ (.slice sa X.fn sc)).setCell ⟨b4, 2, none⟩ (.slice a2 X.tn c2)).setCell ⟨b4, 3, none⟩ (.slice a3 X.pn c3)) ∧ OE W' w.heap.size ⟨a1, sa, a2, a3, X.vn, c1, X.fn, sc, X.tn, c2, X.pn, c3⟩ (chE g L) Vs ∧
      IsB W' b4 37 #[.slice a1 X.vn c1, .slice sa X.fn sc, .slice a2 X.tn c2, .slice a3 X.pn c3] ∧ w.grownBy W' none := by
  refine ⟨_, rfl, ?_, (((b.set 0 _).set 1 _).set 2 _).set 3 _, gb_put (gb_put (gb_put (gb_put (gb_trans hw h.grown) l4) l4) l4) l4⟩
  have j1 := b.set 0 (.slice a1 X.vn c1)
  have j2 := j1.set 1 (.slice sa X.fn sc)
  have j3 := j2.set 2 (.slice a2 X.tn c2)
  have kp : ∀ {e : TypeId} {base : Nat} {v : Value} {n : Nat} {xs : List Value}, wr.ownsRow base e 1 v n xs → e ≠ 37 → World.ownsRow ((((wr.setCell ⟨b4, 0, none⟩ (.slice a1 X.vn c1)).setCell ⟨b4, 1, none⟩ (.slice sa X.fn sc)).setCell ⟨b4, 2, none⟩ (.slice a2 X.tn c2)).setCell ⟨b4, 3, none⟩ (.slice a3 X.pn c3)) base e 1 v n xs := fun h hn =>
    own_keepS (own_keepS (own_keepS (own_keepS h (gb_set _ _ _ _) b hn) (gb_set _ _ _ _) j1 hn) (gb_set _ _ _ _) j2 hn) (gb_set _ _ _ _) j3 hn
  have FL := hr.f.len
  have tk : (chF g L.F).take X.fn = chF g L.F := List.take_of_length_le (by rw [chF_len, FL]; exact Nat.le_refl _)
  have ro := h.rows
  rw [tk] at ro
  refine ⟨kp h.r1 (by decide), ?_, kp h.r2 (by decide), kp h.r3 (by decide), hr.v.len, ?_, ?_, hr.p.len, ?_, hr.p.rng, ?_⟩
  · exact ⟨own_low (kp ro.out (by decide)) hw.size, fun x hx => own_low (kp (ro.own x hx) (by decide)) hw.size, ro.dis, ro.rng⟩
  · show (chF g L.F).length = _; rw [chF_len]; exact FL
  · show (chL (g (-1)) L.T).length = _; rw [chL_len]; exact hr.t.len
  · exact chL_rng (hg (-1)) hr.t.rng
  · intro x hx q e
    have hx : x < (chF g L.F).length := hx
    rw [chF_len, FL] at hx
    exact h.dis x hx q e
def FinE (w w3 : World) (s6 : Value) (V : List Bool) (T P : List Int) (n1 n2 n3 : Nat) (wx : World) : Prop :=
  ∃ (b6 : Nat) (a1 a2 a3 : Option Addr) (c1 c2 c3 : Nat), s6 = .pointer (some ⟨b6, 0, none⟩) ∧ IsB wx b6 37 #[.slice a1 n1 c1, .slice none 0 0, .slice a2 n2 c2, .slice a3 n3 c3] ∧ NB wx w.heap.size (.slice a1 n1 c1) V ∧ NU wx w.heap.size (.slice a2 n2 c2) T ∧ NY wx w.heap.size (.slice a3 n3 c3) P ∧ w3.heap.size ≤ b6 ∧ w3.grownBy wx none
theorem rstep_any {ops : Array Oper} {o : Oper} {a : Act} {w : World} {K : Act → World → Prop} {Q : Exit → Act → World → Prop} {Z : Prop} (hgd : o.guard = none) (s x : Operand)
    (ho : o.op = .call { callee := .builtin .append, args := #[s, x], argTypes := #[33, 33] }) (base : Nat) (V : Value) (Vs : List Value) (hs : a.eval s = V) (hown : w.ownsRow base 34 1 V Vs.length Vs)
    (ad : Addr) (c : Nat) (R : Value) (hx : a.eval x = .slice (some ad) 1 c) (hM : ∀ (j : Nat) (u : Value), ([R] : List Value)[j]? = some u → w.cell? (ad.add j) = some u) (hR : R.oneCell' = true) (hlen : Vs.length + 1 ≤ 1000000) (hbase : base ≤ w.heap.size)
    (h : ∀ V' w', w'.ownsRow base 34 1 V' (Vs ++ [R]).length (Vs ++ [R]) → w.grownBy w' V.ownBlock → K (a.put o.dst V') w') : if Region.wanted o (yielded ops a.tmps) = true then Oper.wp Try.prog o a w K Q else Z := by
  have hw : Region.wanted o (yielded ops a.tmps) = true := by simp [Region.wanted, hgd]
  rw [if_pos hw]
  obtain ⟨i0, hi, hz0, hz1, hz2⟩ := info_parts infoRow
  refine wp_append_own w s x 33 ho base 34 i0 (.slice none 0 0) 1 24 Try.underlying33 hi hz0 hz1 hz2 rfl (by decide) V Vs.length Vs hs hown ad 1 c [R] hx (by simp) hM (one_one _ hR) (by unfold maxLen; omega) (by omega) hbase ?_
  intro V' w' h1 h2 h3
  exact h V' w' (by simpa using h1) h2
theorem isb_cell1 {w : World} {g : Nat} {t : TypeId} {R : Value} (h : IsB w g t #[R]) : ∀ (j : Nat) (u : Value), ([R] : List Value)[j]? = some u → w.cell? ((⟨g, 0, none⟩ : Addr).add j) = some u := by
  intro j u hj
  match j, hj with
  | 0, hj => simp at hj; subst hj; simpa [Addr.add] using h.cell 0
theorem fin_env {w w3 wk : World} {b6 : Nat} {a1 a2 a3 : Option Addr} {n1 n2 n3 c1 c2 c3 : Nat} {V : List Bool} {T P : List Int} (g : w3.grownBy wk none) (l6 : w3.heap.size ≤ b6)
    (i6 : IsB wk b6 37 #[.slice none 0 0, .slice none 0 0, .slice none 0 0, .slice none 0 0]) (r1 : NB wk w.heap.size (.slice a1 n1 c1) V) (r2 : NU wk w.heap.size (.slice a2 n2 c2) T) (r3 : NY wk w.heap.size (.slice a3 n3 c3) P) :
    FinE w w3 (.pointer (some ⟨b6, 0, none⟩)) V T P n1 n2 n3 ((((wk.setCell ⟨b6, 0, none⟩ (.slice a1 n1 c1)).setCell ⟨b6, 1, none⟩ (.slice none 0 0)).setCell ⟨b6, 2, none⟩ (.slice a2 n2 c2)).setCell ⟨b6, 3, none⟩ (.slice a3 n3 c3)) := by
  have j1 := i6.set 0 (.slice a1 n1 c1)
  have j2 := j1.set 1 (.slice none 0 0)
  have j3 := j2.set 2 (.slice a2 n2 c2)
  have j4 := j3.set 3 (.slice a3 n3 c3)
  have kp : ∀ {e : TypeId} {v : Value} {n : Nat} {xs : List Value}, wk.ownsRow w.heap.size e 1 v n xs → e ≠ 37 → World.ownsRow ((((wk.setCell ⟨b6, 0, none⟩ (.slice a1 n1 c1)).setCell ⟨b6, 1, none⟩ (.slice none 0 0)).setCell ⟨b6, 2, none⟩ (.slice a2 n2 c2)).setCell ⟨b6, 3, none⟩ (.slice a3 n3 c3)) w.heap.size e 1 v n xs := fun h hn =>
    own_keepS (own_keepS (own_keepS (own_keepS h (gb_set _ _ _ _) i6 hn) (gb_set _ _ _ _) j1 hn) (gb_set _ _ _ _) j2 hn) (gb_set _ _ _ _) j3 hn
  exact ⟨b6, a1, a2, a3, c1, c2, c3, rfl, j4, kp r1 (by decide), kp r2 (by decide), kp r3 (by decide), l6, gb_put (gb_put (gb_put (gb_put g l6) l6) l6) l6⟩

set_option maxRecDepth 100000 in
set_option maxHeartbeats 8000000 in
theorem chg_any (w : World) (X : EX) (L : EL) (h : ER w X L) (hz : EZ X L) (f : Nat) (cp : Array Value) (g : Int → Int → Int → Int)
    (hcf : ∀ (args : Array Value) (w : World), (callFunc f args).run Try.prog w = .ok (.enter f args) w)
    (hg : ∀ h i v, 0 ≤ v → v < 4294967296 → 0 ≤ g h i v ∧ g h i v < 4294967296)
    (hstep : ∀ h i v W, w.grownBy W none → 0 ≤ v → v < 4294967296 → Calls Try.prog f (#[.agg #[.int .i64 h, .int .i64 i], .int .u32 v] ++ cp) W (RetV (.int .u32 (g h i v)) W)) :
    Calls Try.prog 45 #[.agg #[.slice X.va X.vn X.vc, .slice X.fa X.fn X.fc, .slice X.ta X.tn X.tc, .slice X.pa X.pn X.pc], .func (.func f) #[] cp] w (RetE (chE g L) w) := by
  have HR := Lib.hid h
  have HZ := Lib.hid hz
  have HG := Lib.hid hg
  have HST := Lib.hid hstep
  have HCF := Lib.hid hcf
  have g3 := gb_trans (gb_trans (gb_alloc w (.cells #[.slice X.va X.vn X.vc, .slice X.fa X.fn X.fc, .slice X.ta X.tn X.tc, .slice X.pa X.pn X.pc] 37) none) (gb_alloc _ (.cells #[.func (.func f) #[] cp] 80) none)) (gb_alloc _ (.cells #[.slice none 0 0, .slice none 0 0, .slice none 0 0, .slice none 0 0] 37) none)
  have B2x := (((IsB.new w 37 #[.slice X.va X.vn X.vc, .slice X.fa X.fn X.fc, .slice X.ta X.tn X.tc, .slice X.pa X.pn X.pc]).alloc (.cells #[.func (.func f) #[] cp] 80)).alloc (.cells #[.slice none 0 0, .slice none 0 0, .slice none 0 0, .slice none 0 0] 37))
  have B3x := ((IsB.new (w.alloc (.cells #[.slice X.va X.vn X.vc, .slice X.fa X.fn X.fc, .slice X.ta X.tn X.tc, .slice X.pa X.pn X.pc] 37)) 80 #[.func (.func f) #[] cp]).alloc (.cells #[.slice none 0 0, .slice none 0 0, .slice none 0 0, .slice none 0 0] 37))
  have B4x := (IsB.new ((w.alloc (.cells #[.slice X.va X.vn X.vc, .slice X.fa X.fn X.fc, .slice X.ta X.tn X.tc, .slice X.pa X.pn X.pc] 37)).alloc (.cells #[.func (.func f) #[] cp] 80)) 37 #[.slice none 0 0, .slice none 0 0, .slice none 0 0, .slice none 0 0])
  simp only [sz_al] at B3x B4x
  have G := Lib.hid g3
  have BX := Lib.hid B2x
  have BF := Lib.hid B3x
  have B4 := Lib.hid B4x
  clear h hz hg hstep hcf g3 B2x B3x B4x
  go_enter Try.func45, Try.ntmps45
  go_upto_region 2 with fail
  generalize ((w.alloc (.cells #[.slice X.va X.vn X.vc, .slice X.fa X.fn X.fc, .slice X.ta X.tn X.tc, .slice X.pa X.pn X.pc] 37)).alloc (.cells #[.func (.func f) #[] cp] 80)).alloc (.cells #[.slice none 0 0, .slice none 0 0, .slice none 0 0, .slice none 0 0] 37) = w3 at *
  obtain ⟨bx, hbx⟩ : ∃ b, b = w.heap.size := ⟨_, rfl⟩
  have LB := Lib.hid (show w.heap.size ≤ bx by rw [hbx]; exact Nat.le_refl _)
  rw [← hbx] at BX BF B4 ⊢
  clear hbx
  have KT := Lib.hid (fun (w' : World) (q : w3.grownBy w' none) => (⟨(BX.out.keep0 q).cell 0, (BX.out.keep0 q).cell 2, (BX.out.keep0 q).cell 3⟩ : (fun w' : World => w'.cell? ⟨bx, 0, none⟩ = some (.slice X.va X.vn X.vc) ∧ w'.cell? ⟨bx, 2, none⟩ = some (.slice X.ta X.tn X.tc) ∧ w'.cell? ⟨bx, 3, none⟩ = some (.slice X.pa X.pn X.pc)) w'))
  have WG := Lib.hid G.out
  have JB := Lib.hid (fun (w2 : World) (b : Nat) (q : w3.grownBy w2 none) (B : IsB w2 b 32 #[.slice X.va X.vn X.vc]) => (jnB_any w2 (some ⟨b, 0, none⟩) 1 1 [L.V.map Value.bool] (sx_one B ((HR.out.v.keep0 (gb_trans WG.out q)).slr)) (by intro x hx; rw [List.mem_singleton.1 hx]; intro u hu; obtain ⟨y, _, rfl⟩ := List.mem_map.1 hu; rfl) (by decide) (by have := HR.out.v.len; have := HZ.out.v; simp; omega)).mono fun e w' r => retx_b (w := w) (Nat.le_trans WG.out.size q.size) HR.out.v.len r)
  have JY := Lib.hid (fun (w2 : World) (b : Nat) (q : w3.grownBy w2 none) (B : IsB w2 b 35 #[.slice X.pa X.pn X.pc]) => (jnY_any w2 (some ⟨b, 0, none⟩) 1 1 [L.P.map (Value.int .u8)] (sx_one B ((HR.out.p.keep0 (gb_trans WG.out q)).slr)) (by intro x hx; rw [List.mem_singleton.1 hx]; exact ints_one _ _) (by decide) (by have := HR.out.p.len; have := HZ.out.p; simp; omega)).mono fun e w' r => retx_y (w := w) (Nat.le_trans WG.out.size q.size) HR.out.p.len r)
  have CT := Lib.hid (fun (w2 : World) (q : w3.grownBy w2 none) => (ch1_any w2 (-1) X.ta X.tn X.tc L.T (HR.out.t.keep0 (gb_trans WG.out q)) HZ.out.t (bx + 1) f cp (BF.out.keep0 q) (g (-1)) HCF.out (fun i v W k v0 v1 => HST.out (-1) i v W (gb_trans WG.out (gb_trans q k)) v0 v1)).mono fun e w' r => retu_n (w := w) (n := X.tn) (Nat.le_trans WG.out.size q.size) (by rw [chL_len]; exact HR.out.t.len) r)
  go_cut [6] from 10 to 22 (fun s6 wx => FinE w w3 s6 L.V (chL (g (-1)) L.T) L.P X.vn X.tn X.pn wx)
  case first =>
    replace G := Lib.hid (gb_refl w3 none)
    have G0 := gb_drew w3 none
    refine wp_region_held_drew (S := (fun w' : World => w'.cell? ⟨bx, 0, none⟩ = some (.slice X.va X.vn X.vc) ∧ w'.cell? ⟨bx, 2, none⟩ = some (.slice X.ta X.tn X.tc) ∧ w'.cell? ⟨bx, 3, none⟩ = some (.slice X.pa X.pn X.pc))) (by kernel_rfl) (KT.out _ G0) (fun hH0 => ?_)
    replace G := Lib.hid G0
    clear G0
    generalize w3.drew = v0 at *
    refine wpAnyH_take (i := 0) (v := ?v1) rfl (by kernel_rfl) (by kernel_rfl) (by kernel_rfl) (fun _ _ _ h => h) (Or.inl ⟨by rfl, ?hy1⟩) (by assumption) ?rest1
    case hy1 => (intro wz hSw; (try dsimp only at hSw); first | (go_simp; done) | (go_simp; with_reducible rfl))
    try simp only [Act.put, List.getElem_toArray, List.getElem_cons_zero, List.setIfInBounds_toArray, List.set_cons_zero, List.set_cons_succ]
    refine wpAnyH_take (i := 1) (v := ?v2) rfl (by kernel_rfl) (by kernel_rfl) (by kernel_rfl) (fun _ _ _ h => h) (Or.inl ⟨by rfl, ?hy2⟩) (by assumption) ?rest2
    case hy2 => (intro wz hSw; (try dsimp only at hSw); first | (go_simp; done) | (go_simp; with_reducible rfl))
    try simp only [Act.put, List.getElem_toArray, List.getElem_cons_succ, List.getElem_cons_zero, List.setIfInBounds_toArray, List.set_cons_zero, List.set_cons_succ]
    refine wpAnyH_take (i := 4) (v := ?v3) rfl (by kernel_rfl) (by kernel_rfl) (by kernel_rfl) (fun _ _ _ h => h) (Or.inl ⟨by rfl, ?hy3⟩) (by assumption) ?rest3
    case hy3 => (intro wz hSw; (try dsimp only at hSw); first | (go_simp; done) | (go_simp; with_reducible rfl))
    try simp only [Act.put, List.getElem_toArray, List.getElem_cons_succ, List.getElem_cons_zero, List.setIfInBounds_toArray, List.set_cons_zero, List.set_cons_succ]
    refine wpAnyH_take (i := 5) (v := ?v4) rfl (by kernel_rfl) (by kernel_rfl) (by kernel_rfl) (fun _ _ _ h => h) (Or.inl ⟨by rfl, ?hy4⟩) (by assumption) ?rest4
    case hy4 => (intro wz hSw; (try dsimp only at hSw); first | (go_simp; done) | (go_simp; with_reducible rfl))
    try simp only [Act.put, List.getElem_toArray, List.getElem_cons_succ, List.getElem_cons_zero, List.setIfInBounds_toArray, List.set_cons_zero, List.set_cons_succ]
    refine wpAnyH_take (i := 6) (v := ?v5) rfl (by kernel_rfl) (by kernel_rfl) (by kernel_rfl) (fun _ _ _ h => h) (Or.inl ⟨by rfl, ?hy5⟩) (by assumption) ?rest5
    case hy5 => (intro wz hSw; (try dsimp only at hSw); first | (go_simp; done) | (go_simp; with_reducible rfl))
    try simp only [Act.put, List.getElem_toArray, List.getElem_cons_succ, List.getElem_cons_zero, List.setIfInBounds_toArray, List.set_cons_zero, List.set_cons_succ]
    refine wpAnyH_take (i := 8) (v := ?v6) rfl (by kernel_rfl) (by kernel_rfl) (by kernel_rfl) (fun _ _ _ h => h) (Or.inl ⟨by rfl, ?hy6⟩) (by assumption) ?rest6
    case hy6 => (intro wz hSw; (try dsimp only at hSw); first | (go_simp; done) | (go_simp; with_reducible rfl))
    try simp only [Act.put, List.getElem_toArray, List.getElem_cons_succ, List.getElem_cons_zero, List.setIfInBounds_toArray, List.set_cons_zero, List.set_cons_succ]
    refine wpAnyH_take (i := 9) (v := ?v7) rfl (by kernel_rfl) (by kernel_rfl) (by kernel_rfl) (fun _ _ _ h => h) (Or.inl ⟨by rfl, ?hy7⟩) (by assumption) ?rest7
    case hy7 => (intro wz hSw; (try dsimp only at hSw); first | (go_simp; done) | (go_simp; with_reducible rfl))
    try simp only [Act.put, List.getElem_toArray, List.getElem_cons_succ, List.getElem_cons_zero, List.setIfInBounds_toArray, List.set_cons_zero, List.set_cons_succ]
    refine wpAnyH_ready (rs := [2, 10, 13]) (by kernel_rfl) (by simp) ?_
    refine AllReadyH.cons (o := _) rfl (fun K hK => ?_) ?_
    · go_simp
      have g := gb_alloc v0 (.cells #[.slice X.va X.vn X.vc] 32) none
      have nb := IsB.new v0 32 #[.slice X.va X.vn X.vc]
      refine hK.out _ _ (KT.out _ (gb_trans G.out g)) (fun hH1 => ?_)
      clear hK K
      replace G := Lib.hid (gb_trans G.out g)
      have B2 := Lib.hid nb
      obtain ⟨bB2, hbB2⟩ : ∃ b, b = v0.heap.size := ⟨_, rfl⟩
      rw [← hbB2] at B2 ⊢
      clear g nb hbB2
      generalize v0.alloc (.cells #[.slice X.va X.vn X.vc] 32) = v1 at *
      try simp only [Act.put, List.getElem_toArray, List.getElem_cons_succ, List.getElem_cons_zero, List.setIfInBounds_toArray, List.set_cons_zero, List.set_cons_succ]
      refine wpAnyH_ready (rs := [3, 10, 13]) (by kernel_rfl) (by simp) ?_
      refine AllReadyH.cons (o := _) rfl (fun K hK => ?_) ?_
      · go_simp
        refine (JB.out _ _ G.out B2.out).mono ?_
        rintro e v2 ⟨a1, c1, rfl, r, g⟩
        refine hK.out _ _ (KT.out _ (gb_trans G.out g)) (fun hH2 => ?_)
        clear hK K
        replace G := Lib.hid (gb_trans G.out g)
        have R1 := Lib.hid r
        clear g r B2
        try simp only [Act.put, List.getElem_toArray, List.getElem_cons_succ, List.getElem_cons_zero, List.setIfInBounds_toArray, List.set_cons_zero, List.set_cons_succ]
        refine wpAnyH_ready (rs := [7, 10, 13]) (by kernel_rfl) (by simp) ?_
        refine AllReadyH.cons (o := _) rfl (fun K hK => ?_) ?_
        · go_simp
          refine (CT.out _ G.out).mono ?_
          rintro e v3 ⟨a2, c2, rfl, r, g⟩
          refine hK.out _ _ (KT.out _ (gb_trans G.out g)) (fun hH3 => ?_)
          clear hK K
          replace R1 := Lib.hid (R1.out.keep0 g)
          replace G := Lib.hid (gb_trans G.out g)
          have R2 := Lib.hid r
          clear g r
          try simp only [Act.put, List.getElem_toArray, List.getElem_cons_succ, List.getElem_cons_zero, List.setIfInBounds_toArray, List.set_cons_zero, List.set_cons_succ]
          refine wpAnyH_ready (rs := [10, 13]) (by kernel_rfl) (by simp) ?_
          refine AllReadyH.cons (o := _) rfl (fun K hK => ?_) ?_
          · go_simp
            have g := gb_alloc v3 (.cells #[.slice X.pa X.pn X.pc] 35) none
            have nb := IsB.new v3 35 #[.slice X.pa X.pn X.pc]
            refine hK.out _ _ (KT.out _ (gb_trans G.out g)) (fun hH4 => ?_)
            clear hK K
            replace R1 := Lib.hid (R1.out.keep0 g)
            replace R2 := Lib.hid (R2.out.keep0 g)
            replace G := Lib.hid (gb_trans G.out g)
            have B10 := Lib.hid nb
            obtain ⟨bB10, hbB10⟩ : ∃ b, b = v3.heap.size := ⟨_, rfl⟩
            rw [← hbB10] at B10 ⊢
            clear g nb hbB10
            generalize v3.alloc (.cells #[.slice X.pa X.pn X.pc] 35) = v4 at *
            try simp only [Act.put, List.getElem_toArray, List.getElem_cons_succ, List.getElem_cons_zero, List.setIfInBounds_toArray, List.set_cons_zero, List.set_cons_succ]
            refine wpAnyH_ready (rs := [11, 13]) (by kernel_rfl) (by simp) ?_
            refine AllReadyH.cons (o := _) rfl (fun K hK => ?_) ?_
            · go_simp
              refine (JY.out _ _ G.out B10.out).mono ?_
              rintro e v5 ⟨a3, c3, rfl, r, g⟩
              refine hK.out _ _ (KT.out _ (gb_trans G.out g)) (fun hH5 => ?_)
              clear hK K
              replace R1 := Lib.hid (R1.out.keep0 g)
              replace R2 := Lib.hid (R2.out.keep0 g)
              replace G := Lib.hid (gb_trans G.out g)
              have R3 := Lib.hid r
              clear g r B10
              try simp only [Act.put, List.getElem_toArray, List.getElem_cons_succ, List.getElem_cons_zero, List.setIfInBounds_toArray, List.set_cons_zero, List.set_cons_succ]
              refine wpAnyH_take (i := 12) (v := ?v8) rfl (by kernel_rfl) (by kernel_rfl) (by kernel_rfl) (fun _ _ _ h => h) (Or.inl ⟨by rfl, ?hy8⟩) (by assumption) ?rest8
              case hy8 => (intro wz hSw; (try dsimp only at hSw); first | (go_simp; done) | (go_simp; with_reducible rfl))
              try simp only [Act.put, List.getElem_toArray, List.getElem_cons_succ, List.getElem_cons_zero, List.setIfInBounds_toArray, List.set_cons_zero, List.set_cons_succ]
              refine wpAnyH_ready (rs := [13]) (by kernel_rfl) (by simp) ?_
              refine AllReadyH.cons (o := _) rfl (fun K hK => ?_) ?_
              · go_simp
                have g := gb_alloc v5 (.cells #[.slice none 0 0, .slice none 0 0, .slice none 0 0, .slice none 0 0] 37) none
                have nb := IsB.new v5 37 #[.slice none 0 0, .slice none 0 0, .slice none 0 0, .slice none 0 0]
                refine hK.out _ _ (KT.out _ (gb_trans G.out g)) (fun hH6 => ?_)
                clear hK K
                replace R1 := Lib.hid (R1.out.keep0 g)
                replace R2 := Lib.hid (R2.out.keep0 g)
                replace R3 := Lib.hid (R3.out.keep0 g)
                have L6x : w3.heap.size ≤ v5.heap.size := G.out.size
                replace G := Lib.hid (gb_trans G.out g)
                have I6 := Lib.hid nb
                have L6 := Lib.hid L6x
                obtain ⟨bI6, hbI6⟩ : ∃ b, b = v5.heap.size := ⟨_, rfl⟩
                rw [← hbI6] at I6 L6 ⊢
                clear g nb hbI6 L6x
                generalize v5.alloc (.cells #[.slice none 0 0, .slice none 0 0, .slice none 0 0, .slice none 0 0] 37) = v6 at *
                try simp only [Act.put, List.getElem_toArray, List.getElem_cons_succ, List.getElem_cons_zero, List.setIfInBounds_toArray, List.set_cons_zero, List.set_cons_succ]
                have q0 := I6.out.cell 0
                have q1 := I6.out.cell 1
                have q2 := I6.out.cell 2
                have q3 := I6.out.cell 3
                dsimp at q0 q1 q2 q3
                have f0 := I6.out.free 0
                have f1 := I6.out.free 1
                have f2 := I6.out.free 2
                have f3 := I6.out.free 3
                refine wpAnyH_ready (rs := [14]) (by kernel_rfl) (by simp) ?_
                refine AllReadyH.cons (o := _) rfl (fun K hK => ?_) AllReadyH.nil
                go_simp
                refine hK.out _ _ (KT.out _ (gb_put (gb_put (gb_put (gb_put G.out L6.out) L6.out) L6.out) L6.out)) (fun hH99 => ?_)
                clear hK K hH99
                try simp only [Act.put, List.getElem_toArray, List.getElem_cons_succ, List.getElem_cons_zero, List.setIfInBounds_toArray, List.set_cons_zero, List.set_cons_succ]
                refine wpAnyH_done (by kernel_rfl) ?_ _
                go_wp2_with fail
                go_meet
                exact fin_env G.out L6.out I6.out R1.out R2.out R3.out
              exact AllReadyH.nil
            refine AllReadyH.cons (o := _) rfl (fun K hK => ?_) ?_
            · go_simp
              have g := gb_alloc v4 (.cells #[.slice none 0 0, .slice none 0 0, .slice none 0 0, .slice none 0 0] 37) none
              have nb := IsB.new v4 37 #[.slice none 0 0, .slice none 0 0, .slice none 0 0, .slice none 0 0]
              refine hK.out _ _ (KT.out _ (gb_trans G.out g)) (fun hH7 => ?_)
              clear hK K
              replace R1 := Lib.hid (R1.out.keep0 g)
              replace R2 := Lib.hid (R2.out.keep0 g)
              replace B10 := Lib.hid (B10.out.keep0 g)
              have L6x : w3.heap.size ≤ v4.heap.size := G.out.size
              replace G := Lib.hid (gb_trans G.out g)
              have I6 := Lib.hid nb
              have L6 := Lib.hid L6x
              obtain ⟨bI6, hbI6⟩ : ∃ b, b = v4.heap.size := ⟨_, rfl⟩
              rw [← hbI6] at I6 L6 ⊢
              clear g nb hbI6 L6x
              generalize v4.alloc (.cells #[.slice none 0 0, .slice none 0 0, .slice none 0 0, .slice none 0 0] 37) = v7 at *
              try simp only [Act.put, List.getElem_toArray, List.getElem_cons_succ, List.getElem_cons_zero, List.setIfInBounds_toArray, List.set_cons_zero, List.set_cons_succ]
              refine wpAnyH_ready (rs := [11]) (by kernel_rfl) (by simp) ?_
              refine AllReadyH.cons (o := _) rfl (fun K hK => ?_) ?_
              · go_simp
                refine (JY.out _ _ G.out B10.out).mono ?_
                rintro e v8 ⟨a3, c3, rfl, r, g⟩
                refine hK.out _ _ (KT.out _ (gb_trans G.out g)) (fun hH8 => ?_)
                clear hK K
                replace R1 := Lib.hid (R1.out.keep0 g)
                replace R2 := Lib.hid (R2.out.keep0 g)
                replace I6 := Lib.hid (I6.out.keep0 g)
                replace G := Lib.hid (gb_trans G.out g)
                have R3 := Lib.hid r
                clear g r B10
                try simp only [Act.put, List.getElem_toArray, List.getElem_cons_succ, List.getElem_cons_zero, List.setIfInBounds_toArray, List.set_cons_zero, List.set_cons_succ]
                refine wpAnyH_take (i := 12) (v := ?v9) rfl (by kernel_rfl) (by kernel_rfl) (by kernel_rfl) (fun _ _ _ h => h) (Or.inl ⟨by rfl, ?hy9⟩) (by assumption) ?rest9
                case hy9 => (intro wz hSw; (try dsimp only at hSw); first | (go_simp; done) | (go_simp; with_reducible rfl))
                try simp only [Act.put, List.getElem_toArray, List.getElem_cons_succ, List.getElem_cons_zero, List.setIfInBounds_toArray, List.set_cons_zero, List.set_cons_succ]
                have q0 := I6.out.cell 0
                have q1 := I6.out.cell 1
                have q2 := I6.out.cell 2
                have q3 := I6.out.cell 3
                dsimp at q0 q1 q2 q3
                have f0 := I6.out.free 0
                have f1 := I6.out.free 1
                have f2 := I6.out.free 2
                have f3 := I6.out.free 3
                refine wpAnyH_ready (rs := [14]) (by kernel_rfl) (by simp) ?_
                refine AllReadyH.cons (o := _) rfl (fun K hK => ?_) AllReadyH.nil
                go_simp
                refine hK.out _ _ (KT.out _ (gb_put (gb_put (gb_put (gb_put G.out L6.out) L6.out) L6.out) L6.out)) (fun hH99 => ?_)
                clear hK K hH99
                try simp only [Act.put, List.getElem_toArray, List.getElem_cons_succ, List.getElem_cons_zero, List.setIfInBounds_toArray, List.set_cons_zero, List.set_cons_succ]
                refine wpAnyH_done (by kernel_rfl) ?_ _
                go_wp2_with fail
                go_meet
                exact fin_env G.out L6.out I6.out R1.out R2.out R3.out
              exact AllReadyH.nil
            exact AllReadyH.nil
          refine AllReadyH.cons (o := _) rfl (fun K hK => ?_) ?_
          · go_simp
            have g := gb_alloc v3 (.cells #[.slice none 0 0, .slice none 0 0, .slice none 0 0, .slice none 0 0] 37) none
            have nb := IsB.new v3 37 #[.slice none 0 0, .slice none 0 0, .slice none 0 0, .slice none 0 0]
            refine hK.out _ _ (KT.out _ (gb_trans G.out g)) (fun hH9 => ?_)
            clear hK K
            replace R1 := Lib.hid (R1.out.keep0 g)
            replace R2 := Lib.hid (R2.out.keep0 g)
            have L6x : w3.heap.size ≤ v3.heap.size := G.out.size
            replace G := Lib.hid (gb_trans G.out g)
            have I6 := Lib.hid nb
            have L6 := Lib.hid L6x
            obtain ⟨bI6, hbI6⟩ : ∃ b, b = v3.heap.size := ⟨_, rfl⟩
            rw [← hbI6] at I6 L6 ⊢
            clear g nb hbI6 L6x
            generalize v3.alloc (.cells #[.slice none 0 0, .slice none 0 0, .slice none 0 0, .slice none 0 0] 37) = v9 at *
            try simp only [Act.put, List.getElem_toArray, List.getElem_cons_succ, List.getElem_cons_zero, List.setIfInBounds_toArray, List.set_cons_zero, List.set_cons_succ]
            refine wpAnyH_ready (rs := [10]) (by kernel_rfl) (by simp) ?_
            refine AllReadyH.cons (o := _) rfl (fun K hK => ?_) ?_
            · go_simp
              have g := gb_alloc v9 (.cells #[.slice X.pa X.pn X.pc] 35) none
              have nb := IsB.new v9 35 #[.slice X.pa X.pn X.pc]
              refine hK.out _ _ (KT.out _ (gb_trans G.out g)) (fun hH10 => ?_)
              clear hK K
              replace R1 := Lib.hid (R1.out.keep0 g)
              replace R2 := Lib.hid (R2.out.keep0 g)
              replace I6 := Lib.hid (I6.out.keep0 g)
              replace G := Lib.hid (gb_trans G.out g)
              have B10 := Lib.hid nb
              obtain ⟨bB10, hbB10⟩ : ∃ b, b = v9.heap.size := ⟨_, rfl⟩
              rw [← hbB10] at B10 ⊢
              clear g nb hbB10
              generalize v9.alloc (.cells #[.slice X.pa X.pn X.pc] 35) = v10 at *
              try simp only [Act.put, List.getElem_toArray, List.getElem_cons_succ, List.getElem_cons_zero, List.setIfInBounds_toArray, List.set_cons_zero, List.set_cons_succ]
              refine wpAnyH_ready (rs := [11]) (by kernel_rfl) (by simp) ?_
              refine AllReadyH.cons (o := _) rfl (fun K hK => ?_) ?_
              · go_simp
                refine (JY.out _ _ G.out B10.out).mono ?_
                rintro e v11 ⟨a3, c3, rfl, r, g⟩
                refine hK.out _ _ (KT.out _ (gb_trans G.out g)) (fun hH11 => ?_)
                clear hK K
                replace R1 := Lib.hid (R1.out.keep0 g)
                replace R2 := Lib.hid (R2.out.keep0 g)
                replace I6 := Lib.hid (I6.out.keep0 g)
                replace G := Lib.hid (gb_trans G.out g)
                have R3 := Lib.hid r
                clear g r B10
                try simp only [Act.put, List.getElem_toArray, List.getElem_cons_succ, List.getElem_cons_zero, List.setIfInBounds_toArray, List.set_cons_zero, List.set_cons_succ]
                refine wpAnyH_take (i := 12) (v := ?v10) rfl (by kernel_rfl) (by kernel_rfl) (by kernel_rfl) (fun _ _ _ h => h) (Or.inl ⟨by rfl, ?hy10⟩) (by assumption) ?rest10
                case hy10 => (intro wz hSw; (try dsimp only at hSw); first | (go_simp; done) | (go_simp; with_reducible rfl))
                try simp only [Act.put, List.getElem_toArray, List.getElem_cons_succ, List.getElem_cons_zero, List.setIfInBounds_toArray, List.set_cons_zero, List.set_cons_succ]
                have q0 := I6.out.cell 0
                have q1 := I6.out.cell 1
                have q2 := I6.out.cell 2
                have q3 := I6.out.cell 3
                dsimp at q0 q1 q2 q3
                have f0 := I6.out.free 0
                have f1 := I6.out.free 1
                have f2 := I6.out.free 2
                have f3 := I6.out.free 3
                refine wpAnyH_ready (rs := [14]) (by kernel_rfl) (by simp) ?_
                refine AllReadyH.cons (o := _) rfl (fun K hK => ?_) AllReadyH.nil
                go_simp
                refine hK.out _ _ (KT.out _ (gb_put (gb_put (gb_put (gb_put G.out L6.out) L6.out) L6.out) L6.out)) (fun hH99 => ?_)
                clear hK K hH99
                try simp only [Act.put, List.getElem_toArray, List.getElem_cons_succ, List.getElem_cons_zero, List.setIfInBounds_toArray, List.set_cons_zero, List.set_cons_succ]
                refine wpAnyH_done (by kernel_rfl) ?_ _
                go_wp2_with fail
                go_meet
                exact fin_env G.out L6.out I6.out R1.out R2.out R3.out
              exact AllReadyH.nil
            exact AllReadyH.nil
          exact AllReadyH.nil
        refine AllReadyH.cons (o := _) rfl (fun K hK => ?_) ?_
        · go_simp
          have g := gb_alloc v2 (.cells #[.slice X.pa X.pn X.pc] 35) none
          have nb := IsB.new v2 35 #[.slice X.pa X.pn X.pc]
          refine hK.out _ _ (KT.out _ (gb_trans G.out g)) (fun hH12 => ?_)
          clear hK K
          replace R1 := Lib.hid (R1.out.keep0 g)
          replace G := Lib.hid (gb_trans G.out g)
          have B10 := Lib.hid nb
          obtain ⟨bB10, hbB10⟩ : ∃ b, b = v2.heap.size := ⟨_, rfl⟩
          rw [← hbB10] at B10 ⊢
          clear g nb hbB10
          generalize v2.alloc (.cells #[.slice X.pa X.pn X.pc] 35) = v12 at *
          try simp only [Act.put, List.getElem_toArray, List.getElem_cons_succ, List.getElem_cons_zero, List.setIfInBounds_toArray, List.set_cons_zero, List.set_cons_succ]
          refine wpAnyH_ready (rs := [7, 13]) (by kernel_rfl) (by simp) ?_
          refine AllReadyH.cons (o := _) rfl (fun K hK => ?_) ?_
          · go_simp
            refine (CT.out _ G.out).mono ?_
            rintro e v13 ⟨a2, c2, rfl, r, g⟩
            refine hK.out _ _ (KT.out _ (gb_trans G.out g)) (fun hH13 => ?_)
            clear hK K
            replace R1 := Lib.hid (R1.out.keep0 g)
            replace B10 := Lib.hid (B10.out.keep0 g)
            replace G := Lib.hid (gb_trans G.out g)
            have R2 := Lib.hid r
            clear g r
            try simp only [Act.put, List.getElem_toArray, List.getElem_cons_succ, List.getElem_cons_zero, List.setIfInBounds_toArray, List.set_cons_zero, List.set_cons_succ]
            refine wpAnyH_ready (rs := [11, 13]) (by kernel_rfl) (by simp) ?_
            refine AllReadyH.cons (o := _) rfl (fun K hK => ?_) ?_
            · go_simp
              refine (JY.out _ _ G.out B10.out).mono ?_
              rintro e v14 ⟨a3, c3, rfl, r, g⟩
              refine hK.out _ _ (KT.out _ (gb_trans G.out g)) (fun hH14 => ?_)
              clear hK K
              replace R1 := Lib.hid (R1.out.keep0 g)
              replace R2 := Lib.hid (R2.out.keep0 g)
              replace G := Lib.hid (gb_trans G.out g)
              have R3 := Lib.hid r
              clear g r B10
              try simp only [Act.put, List.getElem_toArray, List.getElem_cons_succ, List.getElem_cons_zero, List.setIfInBounds_toArray, List.set_cons_zero, List.set_cons_succ]
              refine wpAnyH_take (i := 12) (v := ?v11) rfl (by kernel_rfl) (by kernel_rfl) (by kernel_rfl) (fun _ _ _ h => h) (Or.inl ⟨by rfl, ?hy11⟩) (by assumption) ?rest11
              case hy11 => (intro wz hSw; (try dsimp only at hSw); first | (go_simp; done) | (go_simp; with_reducible rfl))
              try simp only [Act.put, List.getElem_toArray, List.getElem_cons_succ, List.getElem_cons_zero, List.setIfInBounds_toArray, List.set_cons_zero, List.set_cons_succ]
              refine wpAnyH_ready (rs := [13]) (by kernel_rfl) (by simp) ?_
              refine AllReadyH.cons (o := _) rfl (fun K hK => ?_) ?_
              · go_simp
                have g := gb_alloc v14 (.cells #[.slice none 0 0, .slice none 0 0, .slice none 0 0, .slice none 0 0] 37) none
                have nb := IsB.new v14 37 #[.slice none 0 0, .slice none 0 0, .slice none 0 0, .slice none 0 0]
                refine hK.out _ _ (KT.out _ (gb_trans G.out g)) (fun hH15 => ?_)
                clear hK K
                replace R1 := Lib.hid (R1.out.keep0 g)
                replace R2 := Lib.hid (R2.out.keep0 g)
                replace R3 := Lib.hid (R3.out.keep0 g)
                have L6x : w3.heap.size ≤ v14.heap.size := G.out.size
                replace G := Lib.hid (gb_trans G.out g)
                have I6 := Lib.hid nb
                have L6 := Lib.hid L6x
                obtain ⟨bI6, hbI6⟩ : ∃ b, b = v14.heap.size := ⟨_, rfl⟩
                rw [← hbI6] at I6 L6 ⊢
                clear g nb hbI6 L6x
                generalize v14.alloc (.cells #[.slice none 0 0, .slice none 0 0, .slice none 0 0, .slice none 0 0] 37) = v15 at *
                try simp only [Act.put, List.getElem_toArray, List.getElem_cons_succ, List.getElem_cons_zero, List.setIfInBounds_toArray, List.set_cons_zero, List.set_cons_succ]
                have q0 := I6.out.cell 0
                have q1 := I6.out.cell 1
                have q2 := I6.out.cell 2
                have q3 := I6.out.cell 3
                dsimp at q0 q1 q2 q3
                have f0 := I6.out.free 0
                have f1 := I6.out.free 1
                have f2 := I6.out.free 2
                have f3 := I6.out.free 3
                refine wpAnyH_ready (rs := [14]) (by kernel_rfl) (by simp) ?_
                refine AllReadyH.cons (o := _) rfl (fun K hK => ?_) AllReadyH.nil
                go_simp
                refine hK.out _ _ (KT.out _ (gb_put (gb_put (gb_put (gb_put G.out L6.out) L6.out) L6.out) L6.out)) (fun hH99 => ?_)
                clear hK K hH99
                try simp only [Act.put, List.getElem_toArray, List.getElem_cons_succ, List.getElem_cons_zero, List.setIfInBounds_toArray, List.set_cons_zero, List.set_cons_succ]
                refine wpAnyH_done (by kernel_rfl) ?_ _
                go_wp2_with fail
                go_meet
                exact fin_env G.out L6.out I6.out R1.out R2.out R3.out
              exact AllReadyH.nil
            refine AllReadyH.cons (o := _) rfl (fun K hK => ?_) ?_
            · go_simp
              have g := gb_alloc v13 (.cells #[.slice none 0 0, .slice none 0 0, .slice none 0 0, .slice none 0 0] 37) none
              have nb := IsB.new v13 37 #[.slice none 0 0, .slice none 0 0, .slice none 0 0, .slice none 0 0]
              refine hK.out _ _ (KT.out _ (gb_trans G.out g)) (fun hH16 => ?_)
              clear hK K
              replace R1 := Lib.hid (R1.out.keep0 g)
              replace B10 := Lib.hid (B10.out.keep0 g)
              replace R2 := Lib.hid (R2.out.keep0 g)
              have L6x : w3.heap.size ≤ v13.heap.size := G.out.size
              replace G := Lib.hid (gb_trans G.out g)
              have I6 := Lib.hid nb
              have L6 := Lib.hid L6x
              obtain ⟨bI6, hbI6⟩ : ∃ b, b = v13.heap.size := ⟨_, rfl⟩
              rw [← hbI6] at I6 L6 ⊢
              clear g nb hbI6 L6x
              generalize v13.alloc (.cells #[.slice none 0 0, .slice none 0 0, .slice none 0 0, .slice none 0 0] 37) = v16 at *
              try simp only [Act.put, List.getElem_toArray, List.getElem_cons_succ, List.getElem_cons_zero, List.setIfInBounds_toArray, List.set_cons_zero, List.set_cons_succ]
              refine wpAnyH_ready (rs := [11]) (by kernel_rfl) (by simp) ?_
              refine AllReadyH.cons (o := _) rfl (fun K hK => ?_) ?_
              · go_simp
                refine (JY.out _ _ G.out B10.out).mono ?_
                rintro e v17 ⟨a3, c3, rfl, r, g⟩
                refine hK.out _ _ (KT.out _ (gb_trans G.out g)) (fun hH17 => ?_)
                clear hK K
                replace R1 := Lib.hid (R1.out.keep0 g)
                replace R2 := Lib.hid (R2.out.keep0 g)
                replace I6 := Lib.hid (I6.out.keep0 g)
                replace G := Lib.hid (gb_trans G.out g)
                have R3 := Lib.hid r
                clear g r B10
                try simp only [Act.put, List.getElem_toArray, List.getElem_cons_succ, List.getElem_cons_zero, List.setIfInBounds_toArray, List.set_cons_zero, List.set_cons_succ]
                refine wpAnyH_take (i := 12) (v := ?v12) rfl (by kernel_rfl) (by kernel_rfl) (by kernel_rfl) (fun _ _ _ h => h) (Or.inl ⟨by rfl, ?hy12⟩) (by assumption) ?rest12
                case hy12 => (intro wz hSw; (try dsimp only at hSw); first | (go_simp; done) | (go_simp; with_reducible rfl))
                try simp only [Act.put, List.getElem_toArray, List.getElem_cons_succ, List.getElem_cons_zero, List.setIfInBounds_toArray, List.set_cons_zero, List.set_cons_succ]
                have q0 := I6.out.cell 0
                have q1 := I6.out.cell 1
                have q2 := I6.out.cell 2
                have q3 := I6.out.cell 3
                dsimp at q0 q1 q2 q3
                have f0 := I6.out.free 0
                have f1 := I6.out.free 1
                have f2 := I6.out.free 2
                have f3 := I6.out.free 3
                refine wpAnyH_ready (rs := [14]) (by kernel_rfl) (by simp) ?_
                refine AllReadyH.cons (o := _) rfl (fun K hK => ?_) AllReadyH.nil
                go_simp
                refine hK.out _ _ (KT.out _ (gb_put (gb_put (gb_put (gb_put G.out L6.out) L6.out) L6.out) L6.out)) (fun hH99 => ?_)
                clear hK K hH99
                try simp only [Act.put, List.getElem_toArray, List.getElem_cons_succ, List.getElem_cons_zero, List.setIfInBounds_toArray, List.set_cons_zero, List.set_cons_succ]
                refine wpAnyH_done (by kernel_rfl) ?_ _
                go_wp2_with fail
                go_meet
                exact fin_env G.out L6.out I6.out R1.out R2.out R3.out
              exact AllReadyH.nil
            exact AllReadyH.nil
          refine AllReadyH.cons (o := _) rfl (fun K hK => ?_) ?_
          · go_simp
            have g := gb_alloc v12 (.cells #[.slice none 0 0, .slice none 0 0, .slice none 0 0, .slice none 0 0] 37) none
            have nb := IsB.new v12 37 #[.slice none 0 0, .slice none 0 0, .slice none 0 0, .slice none 0 0]
            refine hK.out _ _ (KT.out _ (gb_trans G.out g)) (fun hH18 => ?_)
            clear hK K
            replace R1 := Lib.hid (R1.out.keep0 g)
            replace B10 := Lib.hid (B10.out.keep0 g)
            have L6x : w3.heap.size ≤ v12.heap.size := G.out.size
            replace G := Lib.hid (gb_trans G.out g)
            have I6 := Lib.hid nb
            have L6 := Lib.hid L6x
            obtain ⟨bI6, hbI6⟩ : ∃ b, b = v12.heap.size := ⟨_, rfl⟩
            rw [← hbI6] at I6 L6 ⊢
            clear g nb hbI6 L6x
            generalize v12.alloc (.cells #[.slice none 0 0, .slice none 0 0, .slice none 0 0, .slice none 0 0] 37) = v18 at *
            try simp only [Act.put, List.getElem_toArray, List.getElem_cons_succ, List.getElem_cons_zero, List.setIfInBounds_toArray, List.set_cons_zero, List.set_cons_succ]
            refine wpAnyH_ready (rs := [7]) (by kernel_rfl) (by simp) ?_
            refine AllReadyH.cons (o := _) rfl (fun K hK => ?_) ?_
            · go_simp
              refine (CT.out _ G.out).mono ?_
              rintro e v19 ⟨a2, c2, rfl, r, g⟩
              refine hK.out _ _ (KT.out _ (gb_trans G.out g)) (fun hH19 => ?_)
              clear hK K
              replace R1 := Lib.hid (R1.out.keep0 g)
              replace B10 := Lib.hid (B10.out.keep0 g)
              replace I6 := Lib.hid (I6.out.keep0 g)
              replace G := Lib.hid (gb_trans G.out g)
              have R2 := Lib.hid r
              clear g r
              try simp only [Act.put, List.getElem_toArray, List.getElem_cons_succ, List.getElem_cons_zero, List.setIfInBounds_toArray, List.set_cons_zero, List.set_cons_succ]
              refine wpAnyH_ready (rs := [11]) (by kernel_rfl) (by simp) ?_
              refine AllReadyH.cons (o := _) rfl (fun K hK => ?_) ?_
              · go_simp
                refine (JY.out _ _ G.out B10.out).mono ?_
                rintro e v20 ⟨a3, c3, rfl, r, g⟩
                refine hK.out _ _ (KT.out _ (gb_trans G.out g)) (fun hH20 => ?_)
                clear hK K
                replace R1 := Lib.hid (R1.out.keep0 g)
                replace I6 := Lib.hid (I6.out.keep0 g)
                replace R2 := Lib.hid (R2.out.keep0 g)
                replace G := Lib.hid (gb_trans G.out g)
                have R3 := Lib.hid r
                clear g r B10
                try simp only [Act.put, List.getElem_toArray, List.getElem_cons_succ, List.getElem_cons_zero, List.setIfInBounds_toArray, List.set_cons_zero, List.set_cons_succ]
                refine wpAnyH_take (i := 12) (v := ?v13) rfl (by kernel_rfl) (by kernel_rfl) (by kernel_rfl) (fun _ _ _ h => h) (Or.inl ⟨by rfl, ?hy13⟩) (by assumption) ?rest13
                case hy13 => (intro wz hSw; (try dsimp only at hSw); first | (go_simp; done) | (go_simp; with_reducible rfl))
                try simp only [Act.put, List.getElem_toArray, List.getElem_cons_succ, List.getElem_cons_zero, List.setIfInBounds_toArray, List.set_cons_zero, List.set_cons_succ]
                have q0 := I6.out.cell 0
                have q1 := I6.out.cell 1
                have q2 := I6.out.cell 2
                have q3 := I6.out.cell 3
                dsimp at q0 q1 q2 q3
                have f0 := I6.out.free 0
                have f1 := I6.out.free 1
                have f2 := I6.out.free 2
                have f3 := I6.out.free 3
                refine wpAnyH_ready (rs := [14]) (by kernel_rfl) (by simp) ?_
                refine AllReadyH.cons (o := _) rfl (fun K hK => ?_) AllReadyH.nil
                go_simp
                refine hK.out _ _ (KT.out _ (gb_put (gb_put (gb_put (gb_put G.out L6.out) L6.out) L6.out) L6.out)) (fun hH99 => ?_)
                clear hK K hH99
                try simp only [Act.put, List.getElem_toArray, List.getElem_cons_succ, List.getElem_cons_zero, List.setIfInBounds_toArray, List.set_cons_zero, List.set_cons_succ]
                refine wpAnyH_done (by kernel_rfl) ?_ _
                go_wp2_with fail
                go_meet
                exact fin_env G.out L6.out I6.out R1.out R2.out R3.out
              exact AllReadyH.nil
            exact AllReadyH.nil
          exact AllReadyH.nil
        refine AllReadyH.cons (o := _) rfl (fun K hK => ?_) ?_
        · go_simp
          have g := gb_alloc v2 (.cells #[.slice none 0 0, .slice none 0 0, .slice none 0 0, .slice none 0 0] 37) none
          have nb := IsB.new v2 37 #[.slice none 0 0, .slice none 0 0, .slice none 0 0, .slice none 0 0]
          refine hK.out _ _ (KT.out _ (gb_trans G.out g)) (fun hH21 => ?_)
          clear hK K
          replace R1 := Lib.hid (R1.out.keep0 g)
          have L6x : w3.heap.size ≤ v2.heap.size := G.out.size
          replace G := Lib.hid (gb_trans G.out g)
          have I6 := Lib.hid nb
          have L6 := Lib.hid L6x
          obtain ⟨bI6, hbI6⟩ : ∃ b, b = v2.heap.size := ⟨_, rfl⟩
          rw [← hbI6] at I6 L6 ⊢
          clear g nb hbI6 L6x
          generalize v2.alloc (.cells #[.slice none 0 0, .slice none 0 0, .slice none 0 0, .slice none 0 0] 37) = v21 at *
          try simp only [Act.put, List.getElem_toArray, List.getElem_cons_succ, List.getElem_cons_zero, List.setIfInBounds_toArray, List.set_cons_zero, List.set_cons_succ]
          refine wpAnyH_ready (rs := [7, 10]) (by kernel_rfl) (by simp) ?_
          refine AllReadyH.cons (o := _) rfl (fun K hK => ?_) ?_
          · go_simp
            refine (CT.out _ G.out).mono ?_
            rintro e v22 ⟨a2, c2, rfl, r, g⟩
            refine hK.out _ _ (KT.out _ (gb_trans G.out g)) (fun hH22 => ?_)
            clear hK K
            replace R1 := Lib.hid (R1.out.keep0 g)
            replace I6 := Lib.hid (I6.out.keep0 g)
            replace G := Lib.hid (gb_trans G.out g)
            have R2 := Lib.hid r
            clear g r
            try simp only [Act.put, List.getElem_toArray, List.getElem_cons_succ, List.getElem_cons_zero, List.setIfInBounds_toArray, List.set_cons_zero, List.set_cons_succ]
            refine wpAnyH_ready (rs := [10]) (by kernel_rfl) (by simp) ?_
            refine AllReadyH.cons (o := _) rfl (fun K hK => ?_) ?_
            · go_simp
              have g := gb_alloc v22 (.cells #[.slice X.pa X.pn X.pc] 35) none
              have nb := IsB.new v22 35 #[.slice X.pa X.pn X.pc]
              refine hK.out _ _ (KT.out _ (gb_trans G.out g)) (fun hH23 => ?_)
              clear hK K
              replace R1 := Lib.hid (R1.out.keep0 g)
              replace I6 := Lib.hid (I6.out.keep0 g)
              replace R2 := Lib.hid (R2.out.keep0 g)
              replace G := Lib.hid (gb_trans G.out g)
              have B10 := Lib.hid nb
              obtain ⟨bB10, hbB10⟩ : ∃ b, b = v22.heap.size := ⟨_, rfl⟩
              rw [← hbB10] at B10 ⊢
              clear g nb hbB10
              generalize v22.alloc (.cells #[.slice X.pa X.pn X.pc] 35) = v23 at *
              try simp only [Act.put, List.getElem_toArray, List.getElem_cons_succ, List.getElem_cons_zero, List.setIfInBounds_toArray, List.set_cons_zero, List.set_cons_succ]
              refine wpAnyH_ready (rs := [11]) (by kernel_rfl) (by simp) ?_
              refine AllReadyH.cons (o := _) rfl (fun K hK => ?_) ?_
              · go_simp
                refine (JY.out _ _ G.out B10.out).mono ?_
                rintro e v24 ⟨a3, c3, rfl, r, g⟩
                refine hK.out _ _ (KT.out _ (gb_trans G.out g)) (fun hH24 => ?_)
                clear hK K
                replace R1 := Lib.hid (R1.out.keep0 g)
                replace I6 := Lib.hid (I6.out.keep0 g)
                replace R2 := Lib.hid (R2.out.keep0 g)
                replace G := Lib.hid (gb_trans G.out g)
                have R3 := Lib.hid r
                clear g r B10
                try simp only [Act.put, List.getElem_toArray, List.getElem_cons_succ, List.getElem_cons_zero, List.setIfInBounds_toArray, List.set_cons_zero, List.set_cons_succ]
                refine wpAnyH_take (i := 12) (v := ?v14) rfl (by kernel_rfl) (by kernel_rfl) (by kernel_rfl) (fun _ _ _ h => h) (Or.inl ⟨by rfl, ?hy14⟩) (by assumption) ?rest14
                case hy14 => (intro wz hSw; (try dsimp only at hSw); first | (go_simp; done) | (go_simp; with_reducible rfl))
                try simp only [Act.put, List.getElem_toArray, List.getElem_cons_succ, List.getElem_cons_zero, List.setIfInBounds_toArray, List.set_cons_zero, List.set_cons_succ]
                have q0 := I6.out.cell 0
                have q1 := I6.out.cell 1
                have q2 := I6.out.cell 2
                have q3 := I6.out.cell 3
                dsimp at q0 q1 q2 q3
                have f0 := I6.out.free 0
                have f1 := I6.out.free 1
                have f2 := I6.out.free 2
                have f3 := I6.out.free 3
                refine wpAnyH_ready (rs := [14]) (by kernel_rfl) (by simp) ?_
                refine AllReadyH.cons (o := _) rfl (fun K hK => ?_) AllReadyH.nil
                go_simp
                refine hK.out _ _ (KT.out _ (gb_put (gb_put (gb_put (gb_put G.out L6.out) L6.out) L6.out) L6.out)) (fun hH99 => ?_)
                clear hK K hH99
                try simp only [Act.put, List.getElem_toArray, List.getElem_cons_succ, List.getElem_cons_zero, List.setIfInBounds_toArray, List.set_cons_zero, List.set_cons_succ]
                refine wpAnyH_done (by kernel_rfl) ?_ _
                go_wp2_with fail
                go_meet
                exact fin_env G.out L6.out I6.out R1.out R2.out R3.out
              exact AllReadyH.nil
            exact AllReadyH.nil
          refine AllReadyH.cons (o := _) rfl (fun K hK => ?_) ?_
          · go_simp
            have g := gb_alloc v21 (.cells #[.slice X.pa X.pn X.pc] 35) none
            have nb := IsB.new v21 35 #[.slice X.pa X.pn X.pc]
            refine hK.out _ _ (KT.out _ (gb_trans G.out g)) (fun hH25 => ?_)
            clear hK K
            replace R1 := Lib.hid (R1.out.keep0 g)
            replace I6 := Lib.hid (I6.out.keep0 g)
            replace G := Lib.hid (gb_trans G.out g)
            have B10 := Lib.hid nb
            obtain ⟨bB10, hbB10⟩ : ∃ b, b = v21.heap.size := ⟨_, rfl⟩
            rw [← hbB10] at B10 ⊢
            clear g nb hbB10
            generalize v21.alloc (.cells #[.slice X.pa X.pn X.pc] 35) = v25 at *
            try simp only [Act.put, List.getElem_toArray, List.getElem_cons_succ, List.getElem_cons_zero, List.setIfInBounds_toArray, List.set_cons_zero, List.set_cons_succ]
            refine wpAnyH_ready (rs := [7]) (by kernel_rfl) (by simp) ?_
            refine AllReadyH.cons (o := _) rfl (fun K hK => ?_) ?_
            · go_simp
              refine (CT.out _ G.out).mono ?_
              rintro e v26 ⟨a2, c2, rfl, r, g⟩
              refine hK.out _ _ (KT.out _ (gb_trans G.out g)) (fun hH26 => ?_)
              clear hK K
              replace R1 := Lib.hid (R1.out.keep0 g)
              replace I6 := Lib.hid (I6.out.keep0 g)
              replace B10 := Lib.hid (B10.out.keep0 g)
              replace G := Lib.hid (gb_trans G.out g)
              have R2 := Lib.hid r
              clear g r
              try simp only [Act.put, List.getElem_toArray, List.getElem_cons_succ, List.getElem_cons_zero, List.setIfInBounds_toArray, List.set_cons_zero, List.set_cons_succ]
              refine wpAnyH_ready (rs := [11]) (by kernel_rfl) (by simp) ?_
              refine AllReadyH.cons (o := _) rfl (fun K hK => ?_) ?_
              · go_simp
                refine (JY.out _ _ G.out B10.out).mono ?_
                rintro e v27 ⟨a3, c3, rfl, r, g⟩
                refine hK.out _ _ (KT.out _ (gb_trans G.out g)) (fun hH27 => ?_)
                clear hK K
                replace R1 := Lib.hid (R1.out.keep0 g)
                replace I6 := Lib.hid (I6.out.keep0 g)
                replace R2 := Lib.hid (R2.out.keep0 g)
                replace G := Lib.hid (gb_trans G.out g)
                have R3 := Lib.hid r
                clear g r B10
                try simp only [Act.put, List.getElem_toArray, List.getElem_cons_succ, List.getElem_cons_zero, List.setIfInBounds_toArray, List.set_cons_zero, List.set_cons_succ]
                refine wpAnyH_take (i := 12) (v := ?v15) rfl (by kernel_rfl) (by kernel_rfl) (by kernel_rfl) (fun _ _ _ h => h) (Or.inl ⟨by rfl, ?hy15⟩) (by assumption) ?rest15
                case hy15 => (intro wz hSw; (try dsimp only at hSw); first | (go_simp; done) | (go_simp; with_reducible rfl))
                try simp only [Act.put, List.getElem_toArray, List.getElem_cons_succ, List.getElem_cons_zero, List.setIfInBounds_toArray, List.set_cons_zero, List.set_cons_succ]
                have q0 := I6.out.cell 0
                have q1 := I6.out.cell 1
                have q2 := I6.out.cell 2
                have q3 := I6.out.cell 3
                dsimp at q0 q1 q2 q3
                have f0 := I6.out.free 0
                have f1 := I6.out.free 1
                have f2 := I6.out.free 2
                have f3 := I6.out.free 3
                refine wpAnyH_ready (rs := [14]) (by kernel_rfl) (by simp) ?_
                refine AllReadyH.cons (o := _) rfl (fun K hK => ?_) AllReadyH.nil
                go_simp
                refine hK.out _ _ (KT.out _ (gb_put (gb_put (gb_put (gb_put G.out L6.out) L6.out) L6.out) L6.out)) (fun hH99 => ?_)
                clear hK K hH99
                try simp only [Act.put, List.getElem_toArray, List.getElem_cons_succ, List.getElem_cons_zero, List.setIfInBounds_toArray, List.set_cons_zero, List.set_cons_succ]
                refine wpAnyH_done (by kernel_rfl) ?_ _
                go_wp2_with fail
                go_meet
                exact fin_env G.out L6.out I6.out R1.out R2.out R3.out
              exact AllReadyH.nil
            exact AllReadyH.nil
          exact AllReadyH.nil
        exact AllReadyH.nil
      refine AllReadyH.cons (o := _) rfl (fun K hK => ?_) ?_
      · go_simp
        have g := gb_alloc v1 (.cells #[.slice X.pa X.pn X.pc] 35) none
        have nb := IsB.new v1 35 #[.slice X.pa X.pn X.pc]
        refine hK.out _ _ (KT.out _ (gb_trans G.out g)) (fun hH28 => ?_)
        clear hK K
        replace B2 := Lib.hid (B2.out.keep0 g)
        replace G := Lib.hid (gb_trans G.out g)
        have B10 := Lib.hid nb
        obtain ⟨bB10, hbB10⟩ : ∃ b, b = v1.heap.size := ⟨_, rfl⟩
        rw [← hbB10] at B10 ⊢
        clear g nb hbB10
        generalize v1.alloc (.cells #[.slice X.pa X.pn X.pc] 35) = v28 at *
        try simp only [Act.put, List.getElem_toArray, List.getElem_cons_succ, List.getElem_cons_zero, List.setIfInBounds_toArray, List.set_cons_zero, List.set_cons_succ]
        refine wpAnyH_ready (rs := [3, 13]) (by kernel_rfl) (by simp) ?_
        refine AllReadyH.cons (o := _) rfl (fun K hK => ?_) ?_
        · go_simp
          refine (JB.out _ _ G.out B2.out).mono ?_
          rintro e v29 ⟨a1, c1, rfl, r, g⟩
          refine hK.out _ _ (KT.out _ (gb_trans G.out g)) (fun hH29 => ?_)
          clear hK K
          replace B10 := Lib.hid (B10.out.keep0 g)
          replace G := Lib.hid (gb_trans G.out g)
          have R1 := Lib.hid r
          clear g r B2
          try simp only [Act.put, List.getElem_toArray, List.getElem_cons_succ, List.getElem_cons_zero, List.setIfInBounds_toArray, List.set_cons_zero, List.set_cons_succ]
          refine wpAnyH_ready (rs := [7, 13]) (by kernel_rfl) (by simp) ?_
          refine AllReadyH.cons (o := _) rfl (fun K hK => ?_) ?_
          · go_simp
            refine (CT.out _ G.out).mono ?_
            rintro e v30 ⟨a2, c2, rfl, r, g⟩
            refine hK.out _ _ (KT.out _ (gb_trans G.out g)) (fun hH30 => ?_)
            clear hK K
            replace B10 := Lib.hid (B10.out.keep0 g)
            replace R1 := Lib.hid (R1.out.keep0 g)
            replace G := Lib.hid (gb_trans G.out g)
            have R2 := Lib.hid r
            clear g r
            try simp only [Act.put, List.getElem_toArray, List.getElem_cons_succ, List.getElem_cons_zero, List.setIfInBounds_toArray, List.set_cons_zero, List.set_cons_succ]
            refine wpAnyH_ready (rs := [11, 13]) (by kernel_rfl) (by simp) ?_
            refine AllReadyH.cons (o := _) rfl (fun K hK => ?_) ?_
            · go_simp
              refine (JY.out _ _ G.out B10.out).mono ?_
              rintro e v31 ⟨a3, c3, rfl, r, g⟩
              refine hK.out _ _ (KT.out _ (gb_trans G.out g)) (fun hH31 => ?_)
              clear hK K
              replace R1 := Lib.hid (R1.out.keep0 g)
              replace R2 := Lib.hid (R2.out.keep0 g)
              replace G := Lib.hid (gb_trans G.out g)
              have R3 := Lib.hid r
              clear g r B10
              try simp only [Act.put, List.getElem_toArray, List.getElem_cons_succ, List.getElem_cons_zero, List.setIfInBounds_toArray, List.set_cons_zero, List.set_cons_succ]
              refine wpAnyH_take (i := 12) (v := ?v16) rfl (by kernel_rfl) (by kernel_rfl) (by kernel_rfl) (fun _ _ _ h => h) (Or.inl ⟨by rfl, ?hy16⟩) (by assumption) ?rest16
              case hy16 => (intro wz hSw; (try dsimp only at hSw); first | (go_simp; done) | (go_simp; with_reducible rfl))
              try simp only [Act.put, List.getElem_toArray, List.getElem_cons_succ, List.getElem_cons_zero, List.setIfInBounds_toArray, List.set_cons_zero, List.set_cons_succ]
              refine wpAnyH_ready (rs := [13]) (by kernel_rfl) (by simp) ?_
              refine AllReadyH.cons (o := _) rfl (fun K hK => ?_) ?_
              · go_simp
                have g := gb_alloc v31 (.cells #[.slice none 0 0, .slice none 0 0, .slice none 0 0, .slice none 0 0] 37) none
                have nb := IsB.new v31 37 #[.slice none 0 0, .slice none 0 0, .slice none 0 0, .slice none 0 0]
                refine hK.out _ _ (KT.out _ (gb_trans G.out g)) (fun hH32 => ?_)
                clear hK K
                replace R1 := Lib.hid (R1.out.keep0 g)
                replace R2 := Lib.hid (R2.out.keep0 g)
                replace R3 := Lib.hid (R3.out.keep0 g)
                have L6x : w3.heap.size ≤ v31.heap.size := G.out.size
                replace G := Lib.hid (gb_trans G.out g)
                have I6 := Lib.hid nb
                have L6 := Lib.hid L6x
                obtain ⟨bI6, hbI6⟩ : ∃ b, b = v31.heap.size := ⟨_, rfl⟩
                rw [← hbI6] at I6 L6 ⊢
                clear g nb hbI6 L6x
                generalize v31.alloc (.cells #[.slice none 0 0, .slice none 0 0, .slice none 0 0, .slice none 0 0] 37) = v32 at *
                try simp only [Act.put, List.getElem_toArray, List.getElem_cons_succ, List.getElem_cons_zero, List.setIfInBounds_toArray, List.set_cons_zero, List.set_cons_succ]
                have q0 := I6.out.cell 0
                have q1 := I6.out.cell 1
                have q2 := I6.out.cell 2
                have q3 := I6.out.cell 3
                dsimp at q0 q1 q2 q3
                have f0 := I6.out.free 0
                have f1 := I6.out.free 1
                have f2 := I6.out.free 2
                have f3 := I6.out.free 3
                refine wpAnyH_ready (rs := [14]) (by kernel_rfl) (by simp) ?_
                refine AllReadyH.cons (o := _) rfl (fun K hK => ?_) AllReadyH.nil
                go_simp
                refine hK.out _ _ (KT.out _ (gb_put (gb_put (gb_put (gb_put G.out L6.out) L6.out) L6.out) L6.out)) (fun hH99 => ?_)
                clear hK K hH99
                try simp only [Act.put, List.getElem_toArray, List.getElem_cons_succ, List.getElem_cons_zero, List.setIfInBounds_toArray, List.set_cons_zero, List.set_cons_succ]
                refine wpAnyH_done (by kernel_rfl) ?_ _
                go_wp2_with fail
                go_meet
                exact fin_env G.out L6.out I6.out R1.out R2.out R3.out
              exact AllReadyH.nil
            refine AllReadyH.cons (o := _) rfl (fun K hK => ?_) ?_
            · go_simp
              have g := gb_alloc v30 (.cells #[.slice none 0 0, .slice none 0 0, .slice none 0 0, .slice none 0 0] 37) none
              have nb := IsB.new v30 37 #[.slice none 0 0, .slice none 0 0, .slice none 0 0, .slice none 0 0]
              refine hK.out _ _ (KT.out _ (gb_trans G.out g)) (fun hH33 => ?_)
              clear hK K
              replace B10 := Lib.hid (B10.out.keep0 g)
              replace R1 := Lib.hid (R1.out.keep0 g)
              replace R2 := Lib.hid (R2.out.keep0 g)
              have L6x : w3.heap.size ≤ v30.heap.size := G.out.size
              replace G := Lib.hid (gb_trans G.out g)
              have I6 := Lib.hid nb
              have L6 := Lib.hid L6x
              obtain ⟨bI6, hbI6⟩ : ∃ b, b = v30.heap.size := ⟨_, rfl⟩
              rw [← hbI6] at I6 L6 ⊢
              clear g nb hbI6 L6x
              generalize v30.alloc (.cells #[.slice none 0 0, .slice none 0 0, .slice none 0 0, .slice none 0 0] 37) = v33 at *
              try simp only [Act.put, List.getElem_toArray, List.getElem_cons_succ, List.getElem_cons_zero, List.setIfInBounds_toArray, List.set_cons_zero, List.set_cons_succ]
              refine wpAnyH_ready (rs := [11]) (by kernel_rfl) (by simp) ?_
              refine AllReadyH.cons (o := _) rfl (fun K hK => ?_) ?_
              · go_simp
                refine (JY.out _ _ G.out B10.out).mono ?_
                rintro e v34 ⟨a3, c3, rfl, r, g⟩
                refine hK.out _ _ (KT.out _ (gb_trans G.out g)) (fun hH34 => ?_)
                clear hK K
                replace R1 := Lib.hid (R1.out.keep0 g)
                replace R2 := Lib.hid (R2.out.keep0 g)
                replace I6 := Lib.hid (I6.out.keep0 g)
                replace G := Lib.hid (gb_trans G.out g)
                have R3 := Lib.hid r
                clear g r B10
                try simp only [Act.put, List.getElem_toArray, List.getElem_cons_succ, List.getElem_cons_zero, List.setIfInBounds_toArray, List.set_cons_zero, List.set_cons_succ]
                refine wpAnyH_take (i := 12) (v := ?v17) rfl (by kernel_rfl) (by kernel_rfl) (by kernel_rfl) (fun _ _ _ h => h) (Or.inl ⟨by rfl, ?hy17⟩) (by assumption) ?rest17
                case hy17 => (intro wz hSw; (try dsimp only at hSw); first | (go_simp; done) | (go_simp; with_reducible rfl))
                try simp only [Act.put, List.getElem_toArray, List.getElem_cons_succ, List.getElem_cons_zero, List.setIfInBounds_toArray, List.set_cons_zero, List.set_cons_succ]
                have q0 := I6.out.cell 0
                have q1 := I6.out.cell 1
                have q2 := I6.out.cell 2
                have q3 := I6.out.cell 3
                dsimp at q0 q1 q2 q3
                have f0 := I6.out.free 0
                have f1 := I6.out.free 1
                have f2 := I6.out.free 2
                have f3 := I6.out.free 3
                refine wpAnyH_ready (rs := [14]) (by kernel_rfl) (by simp) ?_
                refine AllReadyH.cons (o := _) rfl (fun K hK => ?_) AllReadyH.nil
                go_simp
                refine hK.out _ _ (KT.out _ (gb_put (gb_put (gb_put (gb_put G.out L6.out) L6.out) L6.out) L6.out)) (fun hH99 => ?_)
                clear hK K hH99
                try simp only [Act.put, List.getElem_toArray, List.getElem_cons_succ, List.getElem_cons_zero, List.setIfInBounds_toArray, List.set_cons_zero, List.set_cons_succ]
                refine wpAnyH_done (by kernel_rfl) ?_ _
                go_wp2_with fail
                go_meet
                exact fin_env G.out L6.out I6.out R1.out R2.out R3.out
              exact AllReadyH.nil
            exact AllReadyH.nil
          refine AllReadyH.cons (o := _) rfl (fun K hK => ?_) ?_
          · go_simp
            have g := gb_alloc v29 (.cells #[.slice none 0 0, .slice none 0 0, .slice none 0 0, .slice none 0 0] 37) none
            have nb := IsB.new v29 37 #[.slice none 0 0, .slice none 0 0, .slice none 0 0, .slice none 0 0]
            refine hK.out _ _ (KT.out _ (gb_trans G.out g)) (fun hH35 => ?_)
            clear hK K
            replace B10 := Lib.hid (B10.out.keep0 g)
            replace R1 := Lib.hid (R1.out.keep0 g)
            have L6x : w3.heap.size ≤ v29.heap.size := G.out.size
            replace G := Lib.hid (gb_trans G.out g)
            have I6 := Lib.hid nb
            have L6 := Lib.hid L6x
            obtain ⟨bI6, hbI6⟩ : ∃ b, b = v29.heap.size := ⟨_, rfl⟩
            rw [← hbI6] at I6 L6 ⊢
            clear g nb hbI6 L6x
            generalize v29.alloc (.cells #[.slice none 0 0, .slice none 0 0, .slice none 0 0, .slice none 0 0] 37) = v35 at *
            try simp only [Act.put, List.getElem_toArray, List.getElem_cons_succ, List.getElem_cons_zero, List.setIfInBounds_toArray, List.set_cons_zero, List.set_cons_succ]
            refine wpAnyH_ready (rs := [7]) (by kernel_rfl) (by simp) ?_
            refine AllReadyH.cons (o := _) rfl (fun K hK => ?_) ?_
            · go_simp
              refine (CT.out _ G.out).mono ?_
              rintro e v36 ⟨a2, c2, rfl, r, g⟩
              refine hK.out _ _ (KT.out _ (gb_trans G.out g)) (fun hH36 => ?_)
              clear hK K
              replace B10 := Lib.hid (B10.out.keep0 g)
              replace R1 := Lib.hid (R1.out.keep0 g)
              replace I6 := Lib.hid (I6.out.keep0 g)
              replace G := Lib.hid (gb_trans G.out g)
              have R2 := Lib.hid r
              clear g r
              try simp only [Act.put, List.getElem_toArray, List.getElem_cons_succ, List.getElem_cons_zero, List.setIfInBounds_toArray, List.set_cons_zero, List.set_cons_succ]
              refine wpAnyH_ready (rs := [11]) (by kernel_rfl) (by simp) ?_
              refine AllReadyH.cons (o := _) rfl (fun K hK => ?_) ?_
              · go_simp
                refine (JY.out _ _ G.out B10.out).mono ?_
                rintro e v37 ⟨a3, c3, rfl, r, g⟩
                refine hK.out _ _ (KT.out _ (gb_trans G.out g)) (fun hH37 => ?_)
                clear hK K
                replace R1 := Lib.hid (R1.out.keep0 g)
                replace I6 := Lib.hid (I6.out.keep0 g)
                replace R2 := Lib.hid (R2.out.keep0 g)
                replace G := Lib.hid (gb_trans G.out g)
                have R3 := Lib.hid r
                clear g r B10
                try simp only [Act.put, List.getElem_toArray, List.getElem_cons_succ, List.getElem_cons_zero, List.setIfInBounds_toArray, List.set_cons_zero, List.set_cons_succ]
                refine wpAnyH_take (i := 12) (v := ?v18) rfl (by kernel_rfl) (by kernel_rfl) (by kernel_rfl) (fun _ _ _ h => h) (Or.inl ⟨by rfl, ?hy18⟩) (by assumption) ?rest18
                case hy18 => (intro wz hSw; (try dsimp only at hSw); first | (go_simp; done) | (go_simp; with_reducible rfl))
                try simp only [Act.put, List.getElem_toArray, List.getElem_cons_succ, List.getElem_cons_zero, List.setIfInBounds_toArray, List.set_cons_zero, List.set_cons_succ]
                have q0 := I6.out.cell 0
                have q1 := I6.out.cell 1
                have q2 := I6.out.cell 2
                have q3 := I6.out.cell 3
                dsimp at q0 q1 q2 q3
                have f0 := I6.out.free 0
                have f1 := I6.out.free 1
                have f2 := I6.out.free 2
                have f3 := I6.out.free 3
                refine wpAnyH_ready (rs := [14]) (by kernel_rfl) (by simp) ?_
                refine AllReadyH.cons (o := _) rfl (fun K hK => ?_) AllReadyH.nil
                go_simp
                refine hK.out _ _ (KT.out _ (gb_put (gb_put (gb_put (gb_put G.out L6.out) L6.out) L6.out) L6.out)) (fun hH99 => ?_)
                clear hK K hH99
                try simp only [Act.put, List.getElem_toArray, List.getElem_cons_succ, List.getElem_cons_zero, List.setIfInBounds_toArray, List.set_cons_zero, List.set_cons_succ]
                refine wpAnyH_done (by kernel_rfl) ?_ _
                go_wp2_with fail
                go_meet
                exact fin_env G.out L6.out I6.out R1.out R2.out R3.out
              exact AllReadyH.nil
            exact AllReadyH.nil
          exact AllReadyH.nil
        refine AllReadyH.cons (o := _) rfl (fun K hK => ?_) ?_
        · go_simp
          have g := gb_alloc v28 (.cells #[.slice none 0 0, .slice none 0 0, .slice none 0 0, .slice none 0 0] 37) none
          have nb := IsB.new v28 37 #[.slice none 0 0, .slice none 0 0, .slice none 0 0, .slice none 0 0]
          refine hK.out _ _ (KT.out _ (gb_trans G.out g)) (fun hH38 => ?_)
          clear hK K
          replace B2 := Lib.hid (B2.out.keep0 g)
          replace B10 := Lib.hid (B10.out.keep0 g)
          have L6x : w3.heap.size ≤ v28.heap.size := G.out.size
          replace G := Lib.hid (gb_trans G.out g)
          have I6 := Lib.hid nb
          have L6 := Lib.hid L6x
          obtain ⟨bI6, hbI6⟩ : ∃ b, b = v28.heap.size := ⟨_, rfl⟩
          rw [← hbI6] at I6 L6 ⊢
          clear g nb hbI6 L6x
          generalize v28.alloc (.cells #[.slice none 0 0, .slice none 0 0, .slice none 0 0, .slice none 0 0] 37) = v38 at *
          try simp only [Act.put, List.getElem_toArray, List.getElem_cons_succ, List.getElem_cons_zero, List.setIfInBounds_toArray, List.set_cons_zero, List.set_cons_succ]
          refine wpAnyH_ready (rs := [3]) (by kernel_rfl) (by simp) ?_
          refine AllReadyH.cons (o := _) rfl (fun K hK => ?_) ?_
          · go_simp
            refine (JB.out _ _ G.out B2.out).mono ?_
            rintro e v39 ⟨a1, c1, rfl, r, g⟩
            refine hK.out _ _ (KT.out _ (gb_trans G.out g)) (fun hH39 => ?_)
            clear hK K
            replace B10 := Lib.hid (B10.out.keep0 g)
            replace I6 := Lib.hid (I6.out.keep0 g)
            replace G := Lib.hid (gb_trans G.out g)
            have R1 := Lib.hid r
            clear g r B2
            try simp only [Act.put, List.getElem_toArray, List.getElem_cons_succ, List.getElem_cons_zero, List.setIfInBounds_toArray, List.set_cons_zero, List.set_cons_succ]
            refine wpAnyH_ready (rs := [7]) (by kernel_rfl) (by simp) ?_
            refine AllReadyH.cons (o := _) rfl (fun K hK => ?_) ?_
            · go_simp
              refine (CT.out _ G.out).mono ?_
              rintro e v40 ⟨a2, c2, rfl, r, g⟩
              refine hK.out _ _ (KT.out _ (gb_trans G.out g)) (fun hH40 => ?_)
              clear hK K
              replace B10 := Lib.hid (B10.out.keep0 g)
              replace I6 := Lib.hid (I6.out.keep0 g)
              replace R1 := Lib.hid (R1.out.keep0 g)
              replace G := Lib.hid (gb_trans G.out g)
              have R2 := Lib.hid r
              clear g r
              try simp only [Act.put, List.getElem_toArray, List.getElem_cons_succ, List.getElem_cons_zero, List.setIfInBounds_toArray, List.set_cons_zero, List.set_cons_succ]
              refine wpAnyH_ready (rs := [11]) (by kernel_rfl) (by simp) ?_
              refine AllReadyH.cons (o := _) rfl (fun K hK => ?_) ?_
              · go_simp
                refine (JY.out _ _ G.out B10.out).mono ?_
                rintro e v41 ⟨a3, c3, rfl, r, g⟩
                refine hK.out _ _ (KT.out _ (gb_trans G.out g)) (fun hH41 => ?_)
                clear hK K
                replace I6 := Lib.hid (I6.out.keep0 g)
                replace R1 := Lib.hid (R1.out.keep0 g)
                replace R2 := Lib.hid (R2.out.keep0 g)
                replace G := Lib.hid (gb_trans G.out g)
                have R3 := Lib.hid r
                clear g r B10
                try simp only [Act.put, List.getElem_toArray, List.getElem_cons_succ, List.getElem_cons_zero, List.setIfInBounds_toArray, List.set_cons_zero, List.set_cons_succ]
                refine wpAnyH_take (i := 12) (v := ?v19) rfl (by kernel_rfl) (by kernel_rfl) (by kernel_rfl) (fun _ _ _ h => h) (Or.inl ⟨by rfl, ?hy19⟩) (by assumption) ?rest19
                case hy19 => (intro wz hSw; (try dsimp only at hSw); first | (go_simp; done) | (go_simp; with_reducible rfl))
                try simp only [Act.put, List.getElem_toArray, List.getElem_cons_succ, List.getElem_cons_zero, List.setIfInBounds_toArray, List.set_cons_zero, List.set_cons_succ]
                have q0 := I6.out.cell 0
                have q1 := I6.out.cell 1
                have q2 := I6.out.cell 2
                have q3 := I6.out.cell 3
                dsimp at q0 q1 q2 q3
                have f0 := I6.out.free 0
                have f1 := I6.out.free 1
                have f2 := I6.out.free 2
                have f3 := I6.out.free 3
                refine wpAnyH_ready (rs := [14]) (by kernel_rfl) (by simp) ?_
                refine AllReadyH.cons (o := _) rfl (fun K hK => ?_) AllReadyH.nil
                go_simp
                refine hK.out _ _ (KT.out _ (gb_put (gb_put (gb_put (gb_put G.out L6.out) L6.out) L6.out) L6.out)) (fun hH99 => ?_)
                clear hK K hH99
                try simp only [Act.put, List.getElem_toArray, List.getElem_cons_succ, List.getElem_cons_zero, List.setIfInBounds_toArray, List.set_cons_zero, List.set_cons_succ]
                refine wpAnyH_done (by kernel_rfl) ?_ _
                go_wp2_with fail
                go_meet
                exact fin_env G.out L6.out I6.out R1.out R2.out R3.out
              exact AllReadyH.nil
            exact AllReadyH.nil
          exact AllReadyH.nil
        exact AllReadyH.nil
      refine AllReadyH.cons (o := _) rfl (fun K hK => ?_) ?_
      · go_simp
        have g := gb_alloc v1 (.cells #[.slice none 0 0, .slice none 0 0, .slice none 0 0, .slice none 0 0] 37) none
        have nb := IsB.new v1 37 #[.slice none 0 0, .slice none 0 0, .slice none 0 0, .slice none 0 0]
        refine hK.out _ _ (KT.out _ (gb_trans G.out g)) (fun hH42 => ?_)
        clear hK K
        replace B2 := Lib.hid (B2.out.keep0 g)
        have L6x : w3.heap.size ≤ v1.heap.size := G.out.size
        replace G := Lib.hid (gb_trans G.out g)
        have I6 := Lib.hid nb
        have L6 := Lib.hid L6x
        obtain ⟨bI6, hbI6⟩ : ∃ b, b = v1.heap.size := ⟨_, rfl⟩
        rw [← hbI6] at I6 L6 ⊢
        clear g nb hbI6 L6x
        generalize v1.alloc (.cells #[.slice none 0 0, .slice none 0 0, .slice none 0 0, .slice none 0 0] 37) = v42 at *
        try simp only [Act.put, List.getElem_toArray, List.getElem_cons_succ, List.getElem_cons_zero, List.setIfInBounds_toArray, List.set_cons_zero, List.set_cons_succ]
        refine wpAnyH_ready (rs := [3, 10]) (by kernel_rfl) (by simp) ?_
        refine AllReadyH.cons (o := _) rfl (fun K hK => ?_) ?_
        · go_simp
          refine (JB.out _ _ G.out B2.out).mono ?_
          rintro e v43 ⟨a1, c1, rfl, r, g⟩
          refine hK.out _ _ (KT.out _ (gb_trans G.out g)) (fun hH43 => ?_)
          clear hK K
          replace I6 := Lib.hid (I6.out.keep0 g)
          replace G := Lib.hid (gb_trans G.out g)
          have R1 := Lib.hid r
          clear g r B2
          try simp only [Act.put, List.getElem_toArray, List.getElem_cons_succ, List.getElem_cons_zero, List.setIfInBounds_toArray, List.set_cons_zero, List.set_cons_succ]
          refine wpAnyH_ready (rs := [7, 10]) (by kernel_rfl) (by simp) ?_
          refine AllReadyH.cons (o := _) rfl (fun K hK => ?_) ?_
          · go_simp
            refine (CT.out _ G.out).mono ?_
            rintro e v44 ⟨a2, c2, rfl, r, g⟩
            refine hK.out _ _ (KT.out _ (gb_trans G.out g)) (fun hH44 => ?_)
            clear hK K
            replace I6 := Lib.hid (I6.out.keep0 g)
            replace R1 := Lib.hid (R1.out.keep0 g)
            replace G := Lib.hid (gb_trans G.out g)
            have R2 := Lib.hid r
            clear g r
            try simp only [Act.put, List.getElem_toArray, List.getElem_cons_succ, List.getElem_cons_zero, List.setIfInBounds_toArray, List.set_cons_zero, List.set_cons_succ]
            refine wpAnyH_ready (rs := [10]) (by kernel_rfl) (by simp) ?_
            refine AllReadyH.cons (o := _) rfl (fun K hK => ?_) ?_
            · go_simp
              have g := gb_alloc v44 (.cells #[.slice X.pa X.pn X.pc] 35) none
              have nb := IsB.new v44 35 #[.slice X.pa X.pn X.pc]
              refine hK.out _ _ (KT.out _ (gb_trans G.out g)) (fun hH45 => ?_)
              clear hK K
              replace I6 := Lib.hid (I6.out.keep0 g)
              replace R1 := Lib.hid (R1.out.keep0 g)
              replace R2 := Lib.hid (R2.out.keep0 g)
              replace G := Lib.hid (gb_trans G.out g)
              have B10 := Lib.hid nb
              obtain ⟨bB10, hbB10⟩ : ∃ b, b = v44.heap.size := ⟨_, rfl⟩
              rw [← hbB10] at B10 ⊢
              clear g nb hbB10
              generalize v44.alloc (.cells #[.slice X.pa X.pn X.pc] 35) = v45 at *
              try simp only [Act.put, List.getElem_toArray, List.getElem_cons_succ, List.getElem_cons_zero, List.setIfInBounds_toArray, List.set_cons_zero, List.set_cons_succ]
              refine wpAnyH_ready (rs := [11]) (by kernel_rfl) (by simp) ?_
              refine AllReadyH.cons (o := _) rfl (fun K hK => ?_) ?_
              · go_simp
                refine (JY.out _ _ G.out B10.out).mono ?_
                rintro e v46 ⟨a3, c3, rfl, r, g⟩
                refine hK.out _ _ (KT.out _ (gb_trans G.out g)) (fun hH46 => ?_)
                clear hK K
                replace I6 := Lib.hid (I6.out.keep0 g)
                replace R1 := Lib.hid (R1.out.keep0 g)
                replace R2 := Lib.hid (R2.out.keep0 g)
                replace G := Lib.hid (gb_trans G.out g)
                have R3 := Lib.hid r
                clear g r B10
                try simp only [Act.put, List.getElem_toArray, List.getElem_cons_succ, List.getElem_cons_zero, List.setIfInBounds_toArray, List.set_cons_zero, List.set_cons_succ]
                refine wpAnyH_take (i := 12) (v := ?v20) rfl (by kernel_rfl) (by kernel_rfl) (by kernel_rfl) (fun _ _ _ h => h) (Or.inl ⟨by rfl, ?hy20⟩) (by assumption) ?rest20
                case hy20 => (intro wz hSw; (try dsimp only at hSw); first | (go_simp; done) | (go_simp; with_reducible rfl))
                try simp only [Act.put, List.getElem_toArray, List.getElem_cons_succ, List.getElem_cons_zero, List.setIfInBounds_toArray, List.set_cons_zero, List.set_cons_succ]
                have q0 := I6.out.cell 0
                have q1 := I6.out.cell 1
                have q2 := I6.out.cell 2
                have q3 := I6.out.cell 3
                dsimp at q0 q1 q2 q3
                have f0 := I6.out.free 0
                have f1 := I6.out.free 1
                have f2 := I6.out.free 2
                have f3 := I6.out.free 3
                refine wpAnyH_ready (rs := [14]) (by kernel_rfl) (by simp) ?_
                refine AllReadyH.cons (o := _) rfl (fun K hK => ?_) AllReadyH.nil
                go_simp
                refine hK.out _ _ (KT.out _ (gb_put (gb_put (gb_put (gb_put G.out L6.out) L6.out) L6.out) L6.out)) (fun hH99 => ?_)
                clear hK K hH99
                try simp only [Act.put, List.getElem_toArray, List.getElem_cons_succ, List.getElem_cons_zero, List.setIfInBounds_toArray, List.set_cons_zero, List.set_cons_succ]
                refine wpAnyH_done (by kernel_rfl) ?_ _
                go_wp2_with fail
                go_meet
                exact fin_env G.out L6.out I6.out R1.out R2.out R3.out
              exact AllReadyH.nil
            exact AllReadyH.nil
          refine AllReadyH.cons (o := _) rfl (fun K hK => ?_) ?_
          · go_simp
            have g := gb_alloc v43 (.cells #[.slice X.pa X.pn X.pc] 35) none
            have nb := IsB.new v43 35 #[.slice X.pa X.pn X.pc]
            refine hK.out _ _ (KT.out _ (gb_trans G.out g)) (fun hH47 => ?_)
            clear hK K
            replace I6 := Lib.hid (I6.out.keep0 g)
            replace R1 := Lib.hid (R1.out.keep0 g)
            replace G := Lib.hid (gb_trans G.out g)
            have B10 := Lib.hid nb
            obtain ⟨bB10, hbB10⟩ : ∃ b, b = v43.heap.size := ⟨_, rfl⟩
            rw [← hbB10] at B10 ⊢
            clear g nb hbB10
            generalize v43.alloc (.cells #[.slice X.pa X.pn X.pc] 35) = v47 at *
            try simp only [Act.put, List.getElem_toArray, List.getElem_cons_succ, List.getElem_cons_zero, List.setIfInBounds_toArray, List.set_cons_zero, List.set_cons_succ]
            refine wpAnyH_ready (rs := [7]) (by kernel_rfl) (by simp) ?_
            refine AllReadyH.cons (o := _) rfl (fun K hK => ?_) ?_
            · go_simp
              refine (CT.out _ G.out).mono ?_
              rintro e v48 ⟨a2, c2, rfl, r, g⟩
              refine hK.out _ _ (KT.out _ (gb_trans G.out g)) (fun hH48 => ?_)
              clear hK K
              replace I6 := Lib.hid (I6.out.keep0 g)
              replace R1 := Lib.hid (R1.out.keep0 g)
              replace B10 := Lib.hid (B10.out.keep0 g)
              replace G := Lib.hid (gb_trans G.out g)
              have R2 := Lib.hid r
              clear g r
              try simp only [Act.put, List.getElem_toArray, List.getElem_cons_succ, List.getElem_cons_zero, List.setIfInBounds_toArray, List.set_cons_zero, List.set_cons_succ]
              refine wpAnyH_ready (rs := [11]) (by kernel_rfl) (by simp) ?_
              refine AllReadyH.cons (o := _) rfl (fun K hK => ?_) ?_
              · go_simp
                refine (JY.out _ _ G.out B10.out).mono ?_
                rintro e v49 ⟨a3, c3, rfl, r, g⟩
                refine hK.out _ _ (KT.out _ (gb_trans G.out g)) (fun hH49 => ?_)
                clear hK K
                replace I6 := Lib.hid (I6.out.keep0 g)
                replace R1 := Lib.hid (R1.out.keep0 g)
                replace R2 := Lib.hid (R2.out.keep0 g)
                replace G := Lib.hid (gb_trans G.out g)
                have R3 := Lib.hid r
                clear g r B10
                try simp only [Act.put, List.getElem_toArray, List.getElem_cons_succ, List.getElem_cons_zero, List.setIfInBounds_toArray, List.set_cons_zero, List.set_cons_succ]
                refine wpAnyH_take (i := 12) (v := ?v21) rfl (by kernel_rfl) (by kernel_rfl) (by kernel_rfl) (fun _ _ _ h => h) (Or.inl ⟨by rfl, ?hy21⟩) (by assumption) ?rest21
                case hy21 => (intro wz hSw; (try dsimp only at hSw); first | (go_simp; done) | (go_simp; with_reducible rfl))
                try simp only [Act.put, List.getElem_toArray, List.getElem_cons_succ, List.getElem_cons_zero, List.setIfInBounds_toArray, List.set_cons_zero, List.set_cons_succ]
                have q0 := I6.out.cell 0
                have q1 := I6.out.cell 1
                have q2 := I6.out.cell 2
                have q3 := I6.out.cell 3
                dsimp at q0 q1 q2 q3
                have f0 := I6.out.free 0
                have f1 := I6.out.free 1
                have f2 := I6.out.free 2
                have f3 := I6.out.free 3
                refine wpAnyH_ready (rs := [14]) (by kernel_rfl) (by simp) ?_
                refine AllReadyH.cons (o := _) rfl (fun K hK => ?_) AllReadyH.nil
                go_simp
                refine hK.out _ _ (KT.out _ (gb_put (gb_put (gb_put (gb_put G.out L6.out) L6.out) L6.out) L6.out)) (fun hH99 => ?_)
                clear hK K hH99
                try simp only [Act.put, List.getElem_toArray, List.getElem_cons_succ, List.getElem_cons_zero, List.setIfInBounds_toArray, List.set_cons_zero, List.set_cons_succ]
                refine wpAnyH_done (by kernel_rfl) ?_ _
                go_wp2_with fail
                go_meet
                exact fin_env G.out L6.out I6.out R1.out R2.out R3.out
              exact AllReadyH.nil
            exact AllReadyH.nil
          exact AllReadyH.nil
        refine AllReadyH.cons (o := _) rfl (fun K hK => ?_) ?_
        · go_simp
          have g := gb_alloc v42 (.cells #[.slice X.pa X.pn X.pc] 35) none
          have nb := IsB.new v42 35 #[.slice X.pa X.pn X.pc]
          refine hK.out _ _ (KT.out _ (gb_trans G.out g)) (fun hH50 => ?_)
          clear hK K
          replace B2 := Lib.hid (B2.out.keep0 g)
          replace I6 := Lib.hid (I6.out.keep0 g)
          replace G := Lib.hid (gb_trans G.out g)
          have B10 := Lib.hid nb
          obtain ⟨bB10, hbB10⟩ : ∃ b, b = v42.heap.size := ⟨_, rfl⟩
          rw [← hbB10] at B10 ⊢
          clear g nb hbB10
          generalize v42.alloc (.cells #[.slice X.pa X.pn X.pc] 35) = v50 at *
          try simp only [Act.put, List.getElem_toArray, List.getElem_cons_succ, List.getElem_cons_zero, List.setIfInBounds_toArray, List.set_cons_zero, List.set_cons_succ]
          refine wpAnyH_ready (rs := [3]) (by kernel_rfl) (by simp) ?_
          refine AllReadyH.cons (o := _) rfl (fun K hK => ?_) ?_
          · go_simp
            refine (JB.out _ _ G.out B2.out).mono ?_
            rintro e v51 ⟨a1, c1, rfl, r, g⟩
            refine hK.out _ _ (KT.out _ (gb_trans G.out g)) (fun hH51 => ?_)
            clear hK K
            replace I6 := Lib.hid (I6.out.keep0 g)
            replace B10 := Lib.hid (B10.out.keep0 g)
            replace G := Lib.hid (gb_trans G.out g)
            have R1 := Lib.hid r
            clear g r B2
            try simp only [Act.put, List.getElem_toArray, List.getElem_cons_succ, List.getElem_cons_zero, List.setIfInBounds_toArray, List.set_cons_zero, List.set_cons_succ]
            refine wpAnyH_ready (rs := [7]) (by kernel_rfl) (by simp) ?_
            refine AllReadyH.cons (o := _) rfl (fun K hK => ?_) ?_
            · go_simp
              refine (CT.out _ G.out).mono ?_
              rintro e v52 ⟨a2, c2, rfl, r, g⟩
              refine hK.out _ _ (KT.out _ (gb_trans G.out g)) (fun hH52 => ?_)
              clear hK K
              replace I6 := Lib.hid (I6.out.keep0 g)
              replace B10 := Lib.hid (B10.out.keep0 g)
              replace R1 := Lib.hid (R1.out.keep0 g)
              replace G := Lib.hid (gb_trans G.out g)
              have R2 := Lib.hid r
              clear g r
              try simp only [Act.put, List.getElem_toArray, List.getElem_cons_succ, List.getElem_cons_zero, List.setIfInBounds_toArray, List.set_cons_zero, List.set_cons_succ]
              refine wpAnyH_ready (rs := [11]) (by kernel_rfl) (by simp) ?_
              refine AllReadyH.cons (o := _) rfl (fun K hK => ?_) ?_
              · go_simp
                refine (JY.out _ _ G.out B10.out).mono ?_
                rintro e v53 ⟨a3, c3, rfl, r, g⟩
                refine hK.out _ _ (KT.out _ (gb_trans G.out g)) (fun hH53 => ?_)
                clear hK K
                replace I6 := Lib.hid (I6.out.keep0 g)
                replace R1 := Lib.hid (R1.out.keep0 g)
                replace R2 := Lib.hid (R2.out.keep0 g)
                replace G := Lib.hid (gb_trans G.out g)
                have R3 := Lib.hid r
                clear g r B10
                try simp only [Act.put, List.getElem_toArray, List.getElem_cons_succ, List.getElem_cons_zero, List.setIfInBounds_toArray, List.set_cons_zero, List.set_cons_succ]
                refine wpAnyH_take (i := 12) (v := ?v22) rfl (by kernel_rfl) (by kernel_rfl) (by kernel_rfl) (fun _ _ _ h => h) (Or.inl ⟨by rfl, ?hy22⟩) (by assumption) ?rest22
                case hy22 => (intro wz hSw; (try dsimp only at hSw); first | (go_simp; done) | (go_simp; with_reducible rfl))
                try simp only [Act.put, List.getElem_toArray, List.getElem_cons_succ, List.getElem_cons_zero, List.setIfInBounds_toArray, List.set_cons_zero, List.set_cons_succ]
                have q0 := I6.out.cell 0
                have q1 := I6.out.cell 1
                have q2 := I6.out.cell 2
                have q3 := I6.out.cell 3
                dsimp at q0 q1 q2 q3
                have f0 := I6.out.free 0
                have f1 := I6.out.free 1
                have f2 := I6.out.free 2
                have f3 := I6.out.free 3
                refine wpAnyH_ready (rs := [14]) (by kernel_rfl) (by simp) ?_
                refine AllReadyH.cons (o := _) rfl (fun K hK => ?_) AllReadyH.nil
                go_simp
                refine hK.out _ _ (KT.out _ (gb_put (gb_put (gb_put (gb_put G.out L6.out) L6.out) L6.out) L6.out)) (fun hH99 => ?_)
                clear hK K hH99
                try simp only [Act.put, List.getElem_toArray, List.getElem_cons_succ, List.getElem_cons_zero, List.setIfInBounds_toArray, List.set_cons_zero, List.set_cons_succ]
                refine wpAnyH_done (by kernel_rfl) ?_ _
                go_wp2_with fail
                go_meet
                exact fin_env G.out L6.out I6.out R1.out R2.out R3.out
              exact AllReadyH.nil
            exact AllReadyH.nil
          exact AllReadyH.nil
        exact AllReadyH.nil
      exact AllReadyH.nil
    refine AllReadyH.cons (o := _) rfl (fun K hK => ?_) ?_
    · go_simp
      have g := gb_alloc v0 (.cells #[.slice X.pa X.pn X.pc] 35) none
      have nb := IsB.new v0 35 #[.slice X.pa X.pn X.pc]
      refine hK.out _ _ (KT.out _ (gb_trans G.out g)) (fun hH54 => ?_)
      clear hK K
      replace G := Lib.hid (gb_trans G.out g)
      have B10 := Lib.hid nb
      obtain ⟨bB10, hbB10⟩ : ∃ b, b = v0.heap.size := ⟨_, rfl⟩
      rw [← hbB10] at B10 ⊢
      clear g nb hbB10
      generalize v0.alloc (.cells #[.slice X.pa X.pn X.pc] 35) = v54 at *
      try simp only [Act.put, List.getElem_toArray, List.getElem_cons_succ, List.getElem_cons_zero, List.setIfInBounds_toArray, List.set_cons_zero, List.set_cons_succ]
      refine wpAnyH_ready (rs := [2, 13]) (by kernel_rfl) (by simp) ?_
      refine AllReadyH.cons (o := _) rfl (fun K hK => ?_) ?_
      · go_simp
        have g := gb_alloc v54 (.cells #[.slice X.va X.vn X.vc] 32) none
        have nb := IsB.new v54 32 #[.slice X.va X.vn X.vc]
        refine hK.out _ _ (KT.out _ (gb_trans G.out g)) (fun hH55 => ?_)
        clear hK K
        replace B10 := Lib.hid (B10.out.keep0 g)
        replace G := Lib.hid (gb_trans G.out g)
        have B2 := Lib.hid nb
        obtain ⟨bB2, hbB2⟩ : ∃ b, b = v54.heap.size := ⟨_, rfl⟩
        rw [← hbB2] at B2 ⊢
        clear g nb hbB2
        generalize v54.alloc (.cells #[.slice X.va X.vn X.vc] 32) = v55 at *
        try simp only [Act.put, List.getElem_toArray, List.getElem_cons_succ, List.getElem_cons_zero, List.setIfInBounds_toArray, List.set_cons_zero, List.set_cons_succ]
        refine wpAnyH_ready (rs := [3, 13]) (by kernel_rfl) (by simp) ?_
        refine AllReadyH.cons (o := _) rfl (fun K hK => ?_) ?_
        · go_simp
          refine (JB.out _ _ G.out B2.out).mono ?_
          rintro e v56 ⟨a1, c1, rfl, r, g⟩
          refine hK.out _ _ (KT.out _ (gb_trans G.out g)) (fun hH56 => ?_)
          clear hK K
          replace B10 := Lib.hid (B10.out.keep0 g)
          replace G := Lib.hid (gb_trans G.out g)
          have R1 := Lib.hid r
          clear g r B2
          try simp only [Act.put, List.getElem_toArray, List.getElem_cons_succ, List.getElem_cons_zero, List.setIfInBounds_toArray, List.set_cons_zero, List.set_cons_succ]
          refine wpAnyH_ready (rs := [7, 13]) (by kernel_rfl) (by simp) ?_
          refine AllReadyH.cons (o := _) rfl (fun K hK => ?_) ?_
          · go_simp
            refine (CT.out _ G.out).mono ?_
            rintro e v57 ⟨a2, c2, rfl, r, g⟩
            refine hK.out _ _ (KT.out _ (gb_trans G.out g)) (fun hH57 => ?_)
            clear hK K
            replace B10 := Lib.hid (B10.out.keep0 g)
            replace R1 := Lib.hid (R1.out.keep0 g)
            replace G := Lib.hid (gb_trans G.out g)
            have R2 := Lib.hid r
            clear g r
            try simp only [Act.put, List.getElem_toArray, List.getElem_cons_succ, List.getElem_cons_zero, List.setIfInBounds_toArray, List.set_cons_zero, List.set_cons_succ]
            refine wpAnyH_ready (rs := [11, 13]) (by kernel_rfl) (by simp) ?_
            refine AllReadyH.cons (o := _) rfl (fun K hK => ?_) ?_
            · go_simp
              refine (JY.out _ _ G.out B10.out).mono ?_
              rintro e v58 ⟨a3, c3, rfl, r, g⟩
              refine hK.out _ _ (KT.out _ (gb_trans G.out g)) (fun hH58 => ?_)
              clear hK K
              replace R1 := Lib.hid (R1.out.keep0 g)
              replace R2 := Lib.hid (R2.out.keep0 g)
              replace G := Lib.hid (gb_trans G.out g)
              have R3 := Lib.hid r
              clear g r B10
              try simp only [Act.put, List.getElem_toArray, List.getElem_cons_succ, List.getElem_cons_zero, List.setIfInBounds_toArray, List.set_cons_zero, List.set_cons_succ]
              refine wpAnyH_take (i := 12) (v := ?v23) rfl (by kernel_rfl) (by kernel_rfl) (by kernel_rfl) (fun _ _ _ h => h) (Or.inl ⟨by rfl, ?hy23⟩) (by assumption) ?rest23
              case hy23 => (intro wz hSw; (try dsimp only at hSw); first | (go_simp; done) | (go_simp; with_reducible rfl))
              try simp only [Act.put, List.getElem_toArray, List.getElem_cons_succ, List.getElem_cons_zero, List.setIfInBounds_toArray, List.set_cons_zero, List.set_cons_succ]
              refine wpAnyH_ready (rs := [13]) (by kernel_rfl) (by simp) ?_
              refine AllReadyH.cons (o := _) rfl (fun K hK => ?_) ?_
              · go_simp
                have g := gb_alloc v58 (.cells #[.slice none 0 0, .slice none 0 0, .slice none 0 0, .slice none 0 0] 37) none
                have nb := IsB.new v58 37 #[.slice none 0 0, .slice none 0 0, .slice none 0 0, .slice none 0 0]
                refine hK.out _ _ (KT.out _ (gb_trans G.out g)) (fun hH59 => ?_)
                clear hK K
                replace R1 := Lib.hid (R1.out.keep0 g)
                replace R2 := Lib.hid (R2.out.keep0 g)
                replace R3 := Lib.hid (R3.out.keep0 g)
                have L6x : w3.heap.size ≤ v58.heap.size := G.out.size
                replace G := Lib.hid (gb_trans G.out g)
                have I6 := Lib.hid nb
                have L6 := Lib.hid L6x
                obtain ⟨bI6, hbI6⟩ : ∃ b, b = v58.heap.size := ⟨_, rfl⟩
                rw [← hbI6] at I6 L6 ⊢
                clear g nb hbI6 L6x
                generalize v58.alloc (.cells #[.slice none 0 0, .slice none 0 0, .slice none 0 0, .slice none 0 0] 37) = v59 at *
                try simp only [Act.put, List.getElem_toArray, List.getElem_cons_succ, List.getElem_cons_zero, List.setIfInBounds_toArray, List.set_cons_zero, List.set_cons_succ]
                have q0 := I6.out.cell 0
                have q1 := I6.out.cell 1
                have q2 := I6.out.cell 2
                have q3 := I6.out.cell 3
                dsimp at q0 q1 q2 q3
                have f0 := I6.out.free 0
                have f1 := I6.out.free 1
                have f2 := I6.out.free 2
                have f3 := I6.out.free 3
                refine wpAnyH_ready (rs := [14]) (by kernel_rfl) (by simp) ?_
                refine AllReadyH.cons (o := _) rfl (fun K hK => ?_) AllReadyH.nil
                go_simp
                refine hK.out _ _ (KT.out _ (gb_put (gb_put (gb_put (gb_put G.out L6.out) L6.out) L6.out) L6.out)) (fun hH99 => ?_)
                clear hK K hH99
                try simp only [Act.put, List.getElem_toArray, List.getElem_cons_succ, List.getElem_cons_zero, List.setIfInBounds_toArray, List.set_cons_zero, List.set_cons_succ]
                refine wpAnyH_done (by kernel_rfl) ?_ _
                go_wp2_with fail
                go_meet
                exact fin_env G.out L6.out I6.out R1.out R2.out R3.out
              exact AllReadyH.nil
            refine AllReadyH.cons (o := _) rfl (fun K hK => ?_) ?_
            · go_simp
              have g := gb_alloc v57 (.cells #[.slice none 0 0, .slice none 0 0, .slice none 0 0, .slice none 0 0] 37) none
              have nb := IsB.new v57 37 #[.slice none 0 0, .slice none 0 0, .slice none 0 0, .slice none 0 0]
              refine hK.out _ _ (KT.out _ (gb_trans G.out g)) (fun hH60 => ?_)
              clear hK K
              replace B10 := Lib.hid (B10.out.keep0 g)
              replace R1 := Lib.hid (R1.out.keep0 g)
              replace R2 := Lib.hid (R2.out.keep0 g)
              have L6x : w3.heap.size ≤ v57.heap.size := G.out.size
              replace G := Lib.hid (gb_trans G.out g)
              have I6 := Lib.hid nb
              have L6 := Lib.hid L6x
              obtain ⟨bI6, hbI6⟩ : ∃ b, b = v57.heap.size := ⟨_, rfl⟩
              rw [← hbI6] at I6 L6 ⊢
              clear g nb hbI6 L6x
              generalize v57.alloc (.cells #[.slice none 0 0, .slice none 0 0, .slice none 0 0, .slice none 0 0] 37) = v60 at *
              try simp only [Act.put, List.getElem_toArray, List.getElem_cons_succ, List.getElem_cons_zero, List.setIfInBounds_toArray, List.set_cons_zero, List.set_cons_succ]
              refine wpAnyH_ready (rs := [11]) (by kernel_rfl) (by simp) ?_
              refine AllReadyH.cons (o := _) rfl (fun K hK => ?_) ?_
              · go_simp
                refine (JY.out _ _ G.out B10.out).mono ?_
                rintro e v61 ⟨a3, c3, rfl, r, g⟩
                refine hK.out _ _ (KT.out _ (gb_trans G.out g)) (fun hH61 => ?_)
                clear hK K
                replace R1 := Lib.hid (R1.out.keep0 g)
                replace R2 := Lib.hid (R2.out.keep0 g)
                replace I6 := Lib.hid (I6.out.keep0 g)
                replace G := Lib.hid (gb_trans G.out g)
                have R3 := Lib.hid r
                clear g r B10
                try simp only [Act.put, List.getElem_toArray, List.getElem_cons_succ, List.getElem_cons_zero, List.setIfInBounds_toArray, List.set_cons_zero, List.set_cons_succ]
                refine wpAnyH_take (i := 12) (v := ?v24) rfl (by kernel_rfl) (by kernel_rfl) (by kernel_rfl) (fun _ _ _ h => h) (Or.inl ⟨by rfl, ?hy24⟩) (by assumption) ?rest24
                case hy24 => (intro wz hSw; (try dsimp only at hSw); first | (go_simp; done) | (go_simp; with_reducible rfl))
                try simp only [Act.put, List.getElem_toArray, List.getElem_cons_succ, List.getElem_cons_zero, List.setIfInBounds_toArray, List.set_cons_zero, List.set_cons_succ]
                have q0 := I6.out.cell 0
                have q1 := I6.out.cell 1
                have q2 := I6.out.cell 2
                have q3 := I6.out.cell 3
                dsimp at q0 q1 q2 q3
                have f0 := I6.out.free 0
                have f1 := I6.out.free 1
                have f2 := I6.out.free 2
                have f3 := I6.out.free 3
                refine wpAnyH_ready (rs := [14]) (by kernel_rfl) (by simp) ?_
                refine AllReadyH.cons (o := _) rfl (fun K hK => ?_) AllReadyH.nil
                go_simp
                refine hK.out _ _ (KT.out _ (gb_put (gb_put (gb_put (gb_put G.out L6.out) L6.out) L6.out) L6.out)) (fun hH99 => ?_)
                clear hK K hH99
                try simp only [Act.put, List.getElem_toArray, List.getElem_cons_succ, List.getElem_cons_zero, List.setIfInBounds_toArray, List.set_cons_zero, List.set_cons_succ]
                refine wpAnyH_done (by kernel_rfl) ?_ _
                go_wp2_with fail
                go_meet
                exact fin_env G.out L6.out I6.out R1.out R2.out R3.out
              exact AllReadyH.nil
            exact AllReadyH.nil
          refine AllReadyH.cons (o := _) rfl (fun K hK => ?_) ?_
          · go_simp
            have g := gb_alloc v56 (.cells #[.slice none 0 0, .slice none 0 0, .slice none 0 0, .slice none 0 0] 37) none
            have nb := IsB.new v56 37 #[.slice none 0 0, .slice none 0 0, .slice none 0 0, .slice none 0 0]
            refine hK.out _ _ (KT.out _ (gb_trans G.out g)) (fun hH62 => ?_)
            clear hK K
            replace B10 := Lib.hid (B10.out.keep0 g)
            replace R1 := Lib.hid (R1.out.keep0 g)
            have L6x : w3.heap.size ≤ v56.heap.size := G.out.size
            replace G := Lib.hid (gb_trans G.out g)
            have I6 := Lib.hid nb
            have L6 := Lib.hid L6x
            obtain ⟨bI6, hbI6⟩ : ∃ b, b = v56.heap.size := ⟨_, rfl⟩
            rw [← hbI6] at I6 L6 ⊢
            clear g nb hbI6 L6x
            generalize v56.alloc (.cells #[.slice none 0 0, .slice none 0 0, .slice none 0 0, .slice none 0 0] 37) = v62 at *
            try simp only [Act.put, List.getElem_toArray, List.getElem_cons_succ, List.getElem_cons_zero, List.setIfInBounds_toArray, List.set_cons_zero, List.set_cons_succ]
            refine wpAnyH_ready (rs := [7]) (by kernel_rfl) (by simp) ?_
            refine AllReadyH.cons (o := _) rfl (fun K hK => ?_) ?_
            · go_simp
              refine (CT.out _ G.out).mono ?_
              rintro e v63 ⟨a2, c2, rfl, r, g⟩
              refine hK.out _ _ (KT.out _ (gb_trans G.out g)) (fun hH63 => ?_)
              clear hK K
              replace B10 := Lib.hid (B10.out.keep0 g)
              replace R1 := Lib.hid (R1.out.keep0 g)
              replace I6 := Lib.hid (I6.out.keep0 g)
              replace G := Lib.hid (gb_trans G.out g)
              have R2 := Lib.hid r
              clear g r
              try simp only [Act.put, List.getElem_toArray, List.getElem_cons_succ, List.getElem_cons_zero, List.setIfInBounds_toArray, List.set_cons_zero, List.set_cons_succ]
              refine wpAnyH_ready (rs := [11]) (by kernel_rfl) (by simp) ?_
              refine AllReadyH.cons (o := _) rfl (fun K hK => ?_) ?_
              · go_simp
                refine (JY.out _ _ G.out B10.out).mono ?_
                rintro e v64 ⟨a3, c3, rfl, r, g⟩
                refine hK.out _ _ (KT.out _ (gb_trans G.out g)) (fun hH64 => ?_)
                clear hK K
                replace R1 := Lib.hid (R1.out.keep0 g)
                replace I6 := Lib.hid (I6.out.keep0 g)
                replace R2 := Lib.hid (R2.out.keep0 g)
                replace G := Lib.hid (gb_trans G.out g)
                have R3 := Lib.hid r
                clear g r B10
                try simp only [Act.put, List.getElem_toArray, List.getElem_cons_succ, List.getElem_cons_zero, List.setIfInBounds_toArray, List.set_cons_zero, List.set_cons_succ]
                refine wpAnyH_take (i := 12) (v := ?v25) rfl (by kernel_rfl) (by kernel_rfl) (by kernel_rfl) (fun _ _ _ h => h) (Or.inl ⟨by rfl, ?hy25⟩) (by assumption) ?rest25
                case hy25 => (intro wz hSw; (try dsimp only at hSw); first | (go_simp; done) | (go_simp; with_reducible rfl))
                try simp only [Act.put, List.getElem_toArray, List.getElem_cons_succ, List.getElem_cons_zero, List.setIfInBounds_toArray, List.set_cons_zero, List.set_cons_succ]
                have q0 := I6.out.cell 0
                have q1 := I6.out.cell 1
                have q2 := I6.out.cell 2
                have q3 := I6.out.cell 3
                dsimp at q0 q1 q2 q3
                have f0 := I6.out.free 0
                have f1 := I6.out.free 1
                have f2 := I6.out.free 2
                have f3 := I6.out.free 3
                refine wpAnyH_ready (rs := [14]) (by kernel_rfl) (by simp) ?_
                refine AllReadyH.cons (o := _) rfl (fun K hK => ?_) AllReadyH.nil
                go_simp
                refine hK.out _ _ (KT.out _ (gb_put (gb_put (gb_put (gb_put G.out L6.out) L6.out) L6.out) L6.out)) (fun hH99 => ?_)
                clear hK K hH99
                try simp only [Act.put, List.getElem_toArray, List.getElem_cons_succ, List.getElem_cons_zero, List.setIfInBounds_toArray, List.set_cons_zero, List.set_cons_succ]
                refine wpAnyH_done (by kernel_rfl) ?_ _
                go_wp2_with fail
                go_meet
                exact fin_env G.out L6.out I6.out R1.out R2.out R3.out
              exact AllReadyH.nil
            exact AllReadyH.nil
          exact AllReadyH.nil
        refine AllReadyH.cons (o := _) rfl (fun K hK => ?_) ?_
        · go_simp
          have g := gb_alloc v55 (.cells #[.slice none 0 0, .slice none 0 0, .slice none 0 0, .slice none 0 0] 37) none
          have nb := IsB.new v55 37 #[.slice none 0 0, .slice none 0 0, .slice none 0 0, .slice none 0 0]
          refine hK.out _ _ (KT.out _ (gb_trans G.out g)) (fun hH65 => ?_)
          clear hK K
          replace B10 := Lib.hid (B10.out.keep0 g)
          replace B2 := Lib.hid (B2.out.keep0 g)
          have L6x : w3.heap.size ≤ v55.heap.size := G.out.size
          replace G := Lib.hid (gb_trans G.out g)
          have I6 := Lib.hid nb
          have L6 := Lib.hid L6x
          obtain ⟨bI6, hbI6⟩ : ∃ b, b = v55.heap.size := ⟨_, rfl⟩
          rw [← hbI6] at I6 L6 ⊢
          clear g nb hbI6 L6x
          generalize v55.alloc (.cells #[.slice none 0 0, .slice none 0 0, .slice none 0 0, .slice none 0 0] 37) = v65 at *
          try simp only [Act.put, List.getElem_toArray, List.getElem_cons_succ, List.getElem_cons_zero, List.setIfInBounds_toArray, List.set_cons_zero, List.set_cons_succ]
          refine wpAnyH_ready (rs := [3]) (by kernel_rfl) (by simp) ?_
          refine AllReadyH.cons (o := _) rfl (fun K hK => ?_) ?_
          · go_simp
            refine (JB.out _ _ G.out B2.out).mono ?_
            rintro e v66 ⟨a1, c1, rfl, r, g⟩
            refine hK.out _ _ (KT.out _ (gb_trans G.out g)) (fun hH66 => ?_)
            clear hK K
            replace B10 := Lib.hid (B10.out.keep0 g)
            replace I6 := Lib.hid (I6.out.keep0 g)
            replace G := Lib.hid (gb_trans G.out g)
            have R1 := Lib.hid r
            clear g r B2
            try simp only [Act.put, List.getElem_toArray, List.getElem_cons_succ, List.getElem_cons_zero, List.setIfInBounds_toArray, List.set_cons_zero, List.set_cons_succ]
            refine wpAnyH_ready (rs := [7]) (by kernel_rfl) (by simp) ?_
            refine AllReadyH.cons (o := _) rfl (fun K hK => ?_) ?_
            · go_simp
              refine (CT.out _ G.out).mono ?_
              rintro e v67 ⟨a2, c2, rfl, r, g⟩
              refine hK.out _ _ (KT.out _ (gb_trans G.out g)) (fun hH67 => ?_)
              clear hK K
              replace B10 := Lib.hid (B10.out.keep0 g)
              replace I6 := Lib.hid (I6.out.keep0 g)
              replace R1 := Lib.hid (R1.out.keep0 g)
              replace G := Lib.hid (gb_trans G.out g)
              have R2 := Lib.hid r
              clear g r
              try simp only [Act.put, List.getElem_toArray, List.getElem_cons_succ, List.getElem_cons_zero, List.setIfInBounds_toArray, List.set_cons_zero, List.set_cons_succ]
              refine wpAnyH_ready (rs := [11]) (by kernel_rfl) (by simp) ?_
              refine AllReadyH.cons (o := _) rfl (fun K hK => ?_) ?_
              · go_simp
                refine (JY.out _ _ G.out B10.out).mono ?_
                rintro e v68 ⟨a3, c3, rfl, r, g⟩
                refine hK.out _ _ (KT.out _ (gb_trans G.out g)) (fun hH68 => ?_)
                clear hK K
                replace I6 := Lib.hid (I6.out.keep0 g)
                replace R1 := Lib.hid (R1.out.keep0 g)
                replace R2 := Lib.hid (R2.out.keep0 g)
                replace G := Lib.hid (gb_trans G.out g)
                have R3 := Lib.hid r
                clear g r B10
                try simp only [Act.put, List.getElem_toArray, List.getElem_cons_succ, List.getElem_cons_zero, List.setIfInBounds_toArray, List.set_cons_zero, List.set_cons_succ]
                refine wpAnyH_take (i := 12) (v := ?v26) rfl (by kernel_rfl) (by kernel_rfl) (by kernel_rfl) (fun _ _ _ h => h) (Or.inl ⟨by rfl, ?hy26⟩) (by assumption) ?rest26
                case hy26 => (intro wz hSw; (try dsimp only at hSw); first | (go_simp; done) | (go_simp; with_reducible rfl))
                try simp only [Act.put, List.getElem_toArray, List.getElem_cons_succ, List.getElem_cons_zero, List.setIfInBounds_toArray, List.set_cons_zero, List.set_cons_succ]
                have q0 := I6.out.cell 0
                have q1 := I6.out.cell 1
                have q2 := I6.out.cell 2
                have q3 := I6.out.cell 3
                dsimp at q0 q1 q2 q3
                have f0 := I6.out.free 0
                have f1 := I6.out.free 1
                have f2 := I6.out.free 2
                have f3 := I6.out.free 3
                refine wpAnyH_ready (rs := [14]) (by kernel_rfl) (by simp) ?_
                refine AllReadyH.cons (o := _) rfl (fun K hK => ?_) AllReadyH.nil
                go_simp
                refine hK.out _ _ (KT.out _ (gb_put (gb_put (gb_put (gb_put G.out L6.out) L6.out) L6.out) L6.out)) (fun hH99 => ?_)
                clear hK K hH99
                try simp only [Act.put, List.getElem_toArray, List.getElem_cons_succ, List.getElem_cons_zero, List.setIfInBounds_toArray, List.set_cons_zero, List.set_cons_succ]
                refine wpAnyH_done (by kernel_rfl) ?_ _
                go_wp2_with fail
                go_meet
                exact fin_env G.out L6.out I6.out R1.out R2.out R3.out
              exact AllReadyH.nil
            exact AllReadyH.nil
          exact AllReadyH.nil
        exact AllReadyH.nil
      refine AllReadyH.cons (o := _) rfl (fun K hK => ?_) ?_
      · go_simp
        have g := gb_alloc v54 (.cells #[.slice none 0 0, .slice none 0 0, .slice none 0 0, .slice none 0 0] 37) none
        have nb := IsB.new v54 37 #[.slice none 0 0, .slice none 0 0, .slice none 0 0, .slice none 0 0]
        refine hK.out _ _ (KT.out _ (gb_trans G.out g)) (fun hH69 => ?_)
        clear hK K
        replace B10 := Lib.hid (B10.out.keep0 g)
        have L6x : w3.heap.size ≤ v54.heap.size := G.out.size
        replace G := Lib.hid (gb_trans G.out g)
        have I6 := Lib.hid nb
        have L6 := Lib.hid L6x
        obtain ⟨bI6, hbI6⟩ : ∃ b, b = v54.heap.size := ⟨_, rfl⟩
        rw [← hbI6] at I6 L6 ⊢
        clear g nb hbI6 L6x
        generalize v54.alloc (.cells #[.slice none 0 0, .slice none 0 0, .slice none 0 0, .slice none 0 0] 37) = v69 at *
        try simp only [Act.put, List.getElem_toArray, List.getElem_cons_succ, List.getElem_cons_zero, List.setIfInBounds_toArray, List.set_cons_zero, List.set_cons_succ]
        refine wpAnyH_ready (rs := [2]) (by kernel_rfl) (by simp) ?_
        refine AllReadyH.cons (o := _) rfl (fun K hK => ?_) ?_
        · go_simp
          have g := gb_alloc v69 (.cells #[.slice X.va X.vn X.vc] 32) none
          have nb := IsB.new v69 32 #[.slice X.va X.vn X.vc]
          refine hK.out _ _ (KT.out _ (gb_trans G.out g)) (fun hH70 => ?_)
          clear hK K
          replace B10 := Lib.hid (B10.out.keep0 g)
          replace I6 := Lib.hid (I6.out.keep0 g)
          replace G := Lib.hid (gb_trans G.out g)
          have B2 := Lib.hid nb
          obtain ⟨bB2, hbB2⟩ : ∃ b, b = v69.heap.size := ⟨_, rfl⟩
          rw [← hbB2] at B2 ⊢
          clear g nb hbB2
          generalize v69.alloc (.cells #[.slice X.va X.vn X.vc] 32) = v70 at *
          try simp only [Act.put, List.getElem_toArray, List.getElem_cons_succ, List.getElem_cons_zero, List.setIfInBounds_toArray, List.set_cons_zero, List.set_cons_succ]
          refine wpAnyH_ready (rs := [3]) (by kernel_rfl) (by simp) ?_
          refine AllReadyH.cons (o := _) rfl (fun K hK => ?_) ?_
          · go_simp
            refine (JB.out _ _ G.out B2.out).mono ?_
            rintro e v71 ⟨a1, c1, rfl, r, g⟩
            refine hK.out _ _ (KT.out _ (gb_trans G.out g)) (fun hH71 => ?_)
            clear hK K
            replace B10 := Lib.hid (B10.out.keep0 g)
            replace I6 := Lib.hid (I6.out.keep0 g)
            replace G := Lib.hid (gb_trans G.out g)
            have R1 := Lib.hid r
            clear g r B2
            try simp only [Act.put, List.getElem_toArray, List.getElem_cons_succ, List.getElem_cons_zero, List.setIfInBounds_toArray, List.set_cons_zero, List.set_cons_succ]
            refine wpAnyH_ready (rs := [7]) (by kernel_rfl) (by simp) ?_
            refine AllReadyH.cons (o := _) rfl (fun K hK => ?_) ?_
            · go_simp
              refine (CT.out _ G.out).mono ?_
              rintro e v72 ⟨a2, c2, rfl, r, g⟩
              refine hK.out _ _ (KT.out _ (gb_trans G.out g)) (fun hH72 => ?_)
              clear hK K
              replace B10 := Lib.hid (B10.out.keep0 g)
              replace I6 := Lib.hid (I6.out.keep0 g)
              replace R1 := Lib.hid (R1.out.keep0 g)
              replace G := Lib.hid (gb_trans G.out g)
              have R2 := Lib.hid r
              clear g r
              try simp only [Act.put, List.getElem_toArray, List.getElem_cons_succ, List.getElem_cons_zero, List.setIfInBounds_toArray, List.set_cons_zero, List.set_cons_succ]
              refine wpAnyH_ready (rs := [11]) (by kernel_rfl) (by simp) ?_
              refine AllReadyH.cons (o := _) rfl (fun K hK => ?_) ?_
              · go_simp
                refine (JY.out _ _ G.out B10.out).mono ?_
                rintro e v73 ⟨a3, c3, rfl, r, g⟩
                refine hK.out _ _ (KT.out _ (gb_trans G.out g)) (fun hH73 => ?_)
                clear hK K
                replace I6 := Lib.hid (I6.out.keep0 g)
                replace R1 := Lib.hid (R1.out.keep0 g)
                replace R2 := Lib.hid (R2.out.keep0 g)
                replace G := Lib.hid (gb_trans G.out g)
                have R3 := Lib.hid r
                clear g r B10
                try simp only [Act.put, List.getElem_toArray, List.getElem_cons_succ, List.getElem_cons_zero, List.setIfInBounds_toArray, List.set_cons_zero, List.set_cons_succ]
                refine wpAnyH_take (i := 12) (v := ?v27) rfl (by kernel_rfl) (by kernel_rfl) (by kernel_rfl) (fun _ _ _ h => h) (Or.inl ⟨by rfl, ?hy27⟩) (by assumption) ?rest27
                case hy27 => (intro wz hSw; (try dsimp only at hSw); first | (go_simp; done) | (go_simp; with_reducible rfl))
                try simp only [Act.put, List.getElem_toArray, List.getElem_cons_succ, List.getElem_cons_zero, List.setIfInBounds_toArray, List.set_cons_zero, List.set_cons_succ]
                have q0 := I6.out.cell 0
                have q1 := I6.out.cell 1
                have q2 := I6.out.cell 2
                have q3 := I6.out.cell 3
                dsimp at q0 q1 q2 q3
                have f0 := I6.out.free 0
                have f1 := I6.out.free 1
                have f2 := I6.out.free 2
                have f3 := I6.out.free 3
                refine wpAnyH_ready (rs := [14]) (by kernel_rfl) (by simp) ?_
                refine AllReadyH.cons (o := _) rfl (fun K hK => ?_) AllReadyH.nil
                go_simp
                refine hK.out _ _ (KT.out _ (gb_put (gb_put (gb_put (gb_put G.out L6.out) L6.out) L6.out) L6.out)) (fun hH99 => ?_)
                clear hK K hH99
                try simp only [Act.put, List.getElem_toArray, List.getElem_cons_succ, List.getElem_cons_zero, List.setIfInBounds_toArray, List.set_cons_zero, List.set_cons_succ]
                refine wpAnyH_done (by kernel_rfl) ?_ _
                go_wp2_with fail
                go_meet
                exact fin_env G.out L6.out I6.out R1.out R2.out R3.out
              exact AllReadyH.nil
            exact AllReadyH.nil
          exact AllReadyH.nil
        exact AllReadyH.nil
      exact AllReadyH.nil
    refine AllReadyH.cons (o := _) rfl (fun K hK => ?_) ?_
    · go_simp
      have g := gb_alloc v0 (.cells #[.slice none 0 0, .slice none 0 0, .slice none 0 0, .slice none 0 0] 37) none
      have nb := IsB.new v0 37 #[.slice none 0 0, .slice none 0 0, .slice none 0 0, .slice none 0 0]
      refine hK.out _ _ (KT.out _ (gb_trans G.out g)) (fun hH74 => ?_)
      clear hK K
      have L6x : w3.heap.size ≤ v0.heap.size := G.out.size
      replace G := Lib.hid (gb_trans G.out g)
      have I6 := Lib.hid nb
      have L6 := Lib.hid L6x
      obtain ⟨bI6, hbI6⟩ : ∃ b, b = v0.heap.size := ⟨_, rfl⟩
      rw [← hbI6] at I6 L6 ⊢
      clear g nb hbI6 L6x
      generalize v0.alloc (.cells #[.slice none 0 0, .slice none 0 0, .slice none 0 0, .slice none 0 0] 37) = v74 at *
      try simp only [Act.put, List.getElem_toArray, List.getElem_cons_succ, List.getElem_cons_zero, List.setIfInBounds_toArray, List.set_cons_zero, List.set_cons_succ]
      refine wpAnyH_ready (rs := [2, 10]) (by kernel_rfl) (by simp) ?_
      refine AllReadyH.cons (o := _) rfl (fun K hK => ?_) ?_
      · go_simp
        have g := gb_alloc v74 (.cells #[.slice X.va X.vn X.vc] 32) none
        have nb := IsB.new v74 32 #[.slice X.va X.vn X.vc]
        refine hK.out _ _ (KT.out _ (gb_trans G.out g)) (fun hH75 => ?_)
        clear hK K
        replace I6 := Lib.hid (I6.out.keep0 g)
        replace G := Lib.hid (gb_trans G.out g)
        have B2 := Lib.hid nb
        obtain ⟨bB2, hbB2⟩ : ∃ b, b = v74.heap.size := ⟨_, rfl⟩
        rw [← hbB2] at B2 ⊢
        clear g nb hbB2
        generalize v74.alloc (.cells #[.slice X.va X.vn X.vc] 32) = v75 at *
        try simp only [Act.put, List.getElem_toArray, List.getElem_cons_succ, List.getElem_cons_zero, List.setIfInBounds_toArray, List.set_cons_zero, List.set_cons_succ]
        refine wpAnyH_ready (rs := [3, 10]) (by kernel_rfl) (by simp) ?_
        refine AllReadyH.cons (o := _) rfl (fun K hK => ?_) ?_
        · go_simp
          refine (JB.out _ _ G.out B2.out).mono ?_
          rintro e v76 ⟨a1, c1, rfl, r, g⟩
          refine hK.out _ _ (KT.out _ (gb_trans G.out g)) (fun hH76 => ?_)
          clear hK K
          replace I6 := Lib.hid (I6.out.keep0 g)
          replace G := Lib.hid (gb_trans G.out g)
          have R1 := Lib.hid r
          clear g r B2
          try simp only [Act.put, List.getElem_toArray, List.getElem_cons_succ, List.getElem_cons_zero, List.setIfInBounds_toArray, List.set_cons_zero, List.set_cons_succ]
          refine wpAnyH_ready (rs := [7, 10]) (by kernel_rfl) (by simp) ?_
          refine AllReadyH.cons (o := _) rfl (fun K hK => ?_) ?_
          · go_simp
            refine (CT.out _ G.out).mono ?_
            rintro e v77 ⟨a2, c2, rfl, r, g⟩
            refine hK.out _ _ (KT.out _ (gb_trans G.out g)) (fun hH77 => ?_)
            clear hK K
            replace I6 := Lib.hid (I6.out.keep0 g)
            replace R1 := Lib.hid (R1.out.keep0 g)
            replace G := Lib.hid (gb_trans G.out g)
            have R2 := Lib.hid r
            clear g r
            try simp only [Act.put, List.getElem_toArray, List.getElem_cons_succ, List.getElem_cons_zero, List.setIfInBounds_toArray, List.set_cons_zero, List.set_cons_succ]
            refine wpAnyH_ready (rs := [10]) (by kernel_rfl) (by simp) ?_
            refine AllReadyH.cons (o := _) rfl (fun K hK => ?_) ?_
            · go_simp
              have g := gb_alloc v77 (.cells #[.slice X.pa X.pn X.pc] 35) none
              have nb := IsB.new v77 35 #[.slice X.pa X.pn X.pc]
              refine hK.out _ _ (KT.out _ (gb_trans G.out g)) (fun hH78 => ?_)
              clear hK K
              replace I6 := Lib.hid (I6.out.keep0 g)
              replace R1 := Lib.hid (R1.out.keep0 g)
              replace R2 := Lib.hid (R2.out.keep0 g)
              replace G := Lib.hid (gb_trans G.out g)
              have B10 := Lib.hid nb
              obtain ⟨bB10, hbB10⟩ : ∃ b, b = v77.heap.size := ⟨_, rfl⟩
              rw [← hbB10] at B10 ⊢
              clear g nb hbB10
              generalize v77.alloc (.cells #[.slice X.pa X.pn X.pc] 35) = v78 at *
              try simp only [Act.put, List.getElem_toArray, List.getElem_cons_succ, List.getElem_cons_zero, List.setIfInBounds_toArray, List.set_cons_zero, List.set_cons_succ]
              refine wpAnyH_ready (rs := [11]) (by kernel_rfl) (by simp) ?_
              refine AllReadyH.cons (o := _) rfl (fun K hK => ?_) ?_
              · go_simp
                refine (JY.out _ _ G.out B10.out).mono ?_
                rintro e v79 ⟨a3, c3, rfl, r, g⟩
                refine hK.out _ _ (KT.out _ (gb_trans G.out g)) (fun hH79 => ?_)
                clear hK K
                replace I6 := Lib.hid (I6.out.keep0 g)
                replace R1 := Lib.hid (R1.out.keep0 g)
                replace R2 := Lib.hid (R2.out.keep0 g)
                replace G := Lib.hid (gb_trans G.out g)
                have R3 := Lib.hid r
                clear g r B10
                try simp only [Act.put, List.getElem_toArray, List.getElem_cons_succ, List.getElem_cons_zero, List.setIfInBounds_toArray, List.set_cons_zero, List.set_cons_succ]
                refine wpAnyH_take (i := 12) (v := ?v28) rfl (by kernel_rfl) (by kernel_rfl) (by kernel_rfl) (fun _ _ _ h => h) (Or.inl ⟨by rfl, ?hy28⟩) (by assumption) ?rest28
                case hy28 => (intro wz hSw; (try dsimp only at hSw); first | (go_simp; done) | (go_simp; with_reducible rfl))
                try simp only [Act.put, List.getElem_toArray, List.getElem_cons_succ, List.getElem_cons_zero, List.setIfInBounds_toArray, List.set_cons_zero, List.set_cons_succ]
                have q0 := I6.out.cell 0
                have q1 := I6.out.cell 1
                have q2 := I6.out.cell 2
                have q3 := I6.out.cell 3
                dsimp at q0 q1 q2 q3
                have f0 := I6.out.free 0
                have f1 := I6.out.free 1
                have f2 := I6.out.free 2
                have f3 := I6.out.free 3
                refine wpAnyH_ready (rs := [14]) (by kernel_rfl) (by simp) ?_
                refine AllReadyH.cons (o := _) rfl (fun K hK => ?_) AllReadyH.nil
                go_simp
                refine hK.out _ _ (KT.out _ (gb_put (gb_put (gb_put (gb_put G.out L6.out) L6.out) L6.out) L6.out)) (fun hH99 => ?_)
                clear hK K hH99
                try simp only [Act.put, List.getElem_toArray, List.getElem_cons_succ, List.getElem_cons_zero, List.setIfInBounds_toArray, List.set_cons_zero, List.set_cons_succ]
                refine wpAnyH_done (by kernel_rfl) ?_ _
                go_wp2_with fail
                go_meet
                exact fin_env G.out L6.out I6.out R1.out R2.out R3.out
              exact AllReadyH.nil
            exact AllReadyH.nil
          refine AllReadyH.cons (o := _) rfl (fun K hK => ?_) ?_
          · go_simp
            have g := gb_alloc v76 (.cells #[.slice X.pa X.pn X.pc] 35) none
            have nb := IsB.new v76 35 #[.slice X.pa X.pn X.pc]
            refine hK.out _ _ (KT.out _ (gb_trans G.out g)) (fun hH80 => ?_)
            clear hK K
            replace I6 := Lib.hid (I6.out.keep0 g)
            replace R1 := Lib.hid (R1.out.keep0 g)
            replace G := Lib.hid (gb_trans G.out g)
            have B10 := Lib.hid nb
            obtain ⟨bB10, hbB10⟩ : ∃ b, b = v76.heap.size := ⟨_, rfl⟩
            rw [← hbB10] at B10 ⊢
            clear g nb hbB10
            generalize v76.alloc (.cells #[.slice X.pa X.pn X.pc] 35) = v80 at *
            try simp only [Act.put, List.getElem_toArray, List.getElem_cons_succ, List.getElem_cons_zero, List.setIfInBounds_toArray, List.set_cons_zero, List.set_cons_succ]
            refine wpAnyH_ready (rs := [7]) (by kernel_rfl) (by simp) ?_
            refine AllReadyH.cons (o := _) rfl (fun K hK => ?_) ?_
            · go_simp
              refine (CT.out _ G.out).mono ?_
              rintro e v81 ⟨a2, c2, rfl, r, g⟩
              refine hK.out _ _ (KT.out _ (gb_trans G.out g)) (fun hH81 => ?_)
              clear hK K
              replace I6 := Lib.hid (I6.out.keep0 g)
              replace R1 := Lib.hid (R1.out.keep0 g)
              replace B10 := Lib.hid (B10.out.keep0 g)
              replace G := Lib.hid (gb_trans G.out g)
              have R2 := Lib.hid r
              clear g r
              try simp only [Act.put, List.getElem_toArray, List.getElem_cons_succ, List.getElem_cons_zero, List.setIfInBounds_toArray, List.set_cons_zero, List.set_cons_succ]
              refine wpAnyH_ready (rs := [11]) (by kernel_rfl) (by simp) ?_
              refine AllReadyH.cons (o := _) rfl (fun K hK => ?_) ?_
              · go_simp
                refine (JY.out _ _ G.out B10.out).mono ?_
                rintro e v82 ⟨a3, c3, rfl, r, g⟩
                refine hK.out _ _ (KT.out _ (gb_trans G.out g)) (fun hH82 => ?_)
                clear hK K
                replace I6 := Lib.hid (I6.out.keep0 g)
                replace R1 := Lib.hid (R1.out.keep0 g)
                replace R2 := Lib.hid (R2.out.keep0 g)
                replace G := Lib.hid (gb_trans G.out g)
                have R3 := Lib.hid r
                clear g r B10
                try simp only [Act.put, List.getElem_toArray, List.getElem_cons_succ, List.getElem_cons_zero, List.setIfInBounds_toArray, List.set_cons_zero, List.set_cons_succ]
                refine wpAnyH_take (i := 12) (v := ?v29) rfl (by kernel_rfl) (by kernel_rfl) (by kernel_rfl) (fun _ _ _ h => h) (Or.inl ⟨by rfl, ?hy29⟩) (by assumption) ?rest29
                case hy29 => (intro wz hSw; (try dsimp only at hSw); first | (go_simp; done) | (go_simp; with_reducible rfl))
                try simp only [Act.put, List.getElem_toArray, List.getElem_cons_succ, List.getElem_cons_zero, List.setIfInBounds_toArray, List.set_cons_zero, List.set_cons_succ]
                have q0 := I6.out.cell 0
                have q1 := I6.out.cell 1
                have q2 := I6.out.cell 2
                have q3 := I6.out.cell 3
                dsimp at q0 q1 q2 q3
                have f0 := I6.out.free 0
                have f1 := I6.out.free 1
                have f2 := I6.out.free 2
                have f3 := I6.out.free 3
                refine wpAnyH_ready (rs := [14]) (by kernel_rfl) (by simp) ?_
                refine AllReadyH.cons (o := _) rfl (fun K hK => ?_) AllReadyH.nil
                go_simp
                refine hK.out _ _ (KT.out _ (gb_put (gb_put (gb_put (gb_put G.out L6.out) L6.out) L6.out) L6.out)) (fun hH99 => ?_)
                clear hK K hH99
                try simp only [Act.put, List.getElem_toArray, List.getElem_cons_succ, List.getElem_cons_zero, List.setIfInBounds_toArray, List.set_cons_zero, List.set_cons_succ]
                refine wpAnyH_done (by kernel_rfl) ?_ _
                go_wp2_with fail
                go_meet
                exact fin_env G.out L6.out I6.out R1.out R2.out R3.out
              exact AllReadyH.nil
            exact AllReadyH.nil
          exact AllReadyH.nil
        refine AllReadyH.cons (o := _) rfl (fun K hK => ?_) ?_
        · go_simp
          have g := gb_alloc v75 (.cells #[.slice X.pa X.pn X.pc] 35) none
          have nb := IsB.new v75 35 #[.slice X.pa X.pn X.pc]
          refine hK.out _ _ (KT.out _ (gb_trans G.out g)) (fun hH83 => ?_)
          clear hK K
          replace I6 := Lib.hid (I6.out.keep0 g)
          replace B2 := Lib.hid (B2.out.keep0 g)
          replace G := Lib.hid (gb_trans G.out g)
          have B10 := Lib.hid nb
          obtain ⟨bB10, hbB10⟩ : ∃ b, b = v75.heap.size := ⟨_, rfl⟩
          rw [← hbB10] at B10 ⊢
          clear g nb hbB10
          generalize v75.alloc (.cells #[.slice X.pa X.pn X.pc] 35) = v83 at *
          try simp only [Act.put, List.getElem_toArray, List.getElem_cons_succ, List.getElem_cons_zero, List.setIfInBounds_toArray, List.set_cons_zero, List.set_cons_succ]
          refine wpAnyH_ready (rs := [3]) (by kernel_rfl) (by simp) ?_
          refine AllReadyH.cons (o := _) rfl (fun K hK => ?_) ?_
          · go_simp
            refine (JB.out _ _ G.out B2.out).mono ?_
            rintro e v84 ⟨a1, c1, rfl, r, g⟩
            refine hK.out _ _ (KT.out _ (gb_trans G.out g)) (fun hH84 => ?_)
            clear hK K
            replace I6 := Lib.hid (I6.out.keep0 g)
            replace B10 := Lib.hid (B10.out.keep0 g)
            replace G := Lib.hid (gb_trans G.out g)
            have R1 := Lib.hid r
            clear g r B2
            try simp only [Act.put, List.getElem_toArray, List.getElem_cons_succ, List.getElem_cons_zero, List.setIfInBounds_toArray, List.set_cons_zero, List.set_cons_succ]
            refine wpAnyH_ready (rs := [7]) (by kernel_rfl) (by simp) ?_
            refine AllReadyH.cons (o := _) rfl (fun K hK => ?_) ?_
            · go_simp
              refine (CT.out _ G.out).mono ?_
              rintro e v85 ⟨a2, c2, rfl, r, g⟩
              refine hK.out _ _ (KT.out _ (gb_trans G.out g)) (fun hH85 => ?_)
              clear hK K
              replace I6 := Lib.hid (I6.out.keep0 g)
              replace B10 := Lib.hid (B10.out.keep0 g)
              replace R1 := Lib.hid (R1.out.keep0 g)
              replace G := Lib.hid (gb_trans G.out g)
              have R2 := Lib.hid r
              clear g r
              try simp only [Act.put, List.getElem_toArray, List.getElem_cons_succ, List.getElem_cons_zero, List.setIfInBounds_toArray, List.set_cons_zero, List.set_cons_succ]
              refine wpAnyH_ready (rs := [11]) (by kernel_rfl) (by simp) ?_
              refine AllReadyH.cons (o := _) rfl (fun K hK => ?_) ?_
              · go_simp
                refine (JY.out _ _ G.out B10.out).mono ?_
                rintro e v86 ⟨a3, c3, rfl, r, g⟩
                refine hK.out _ _ (KT.out _ (gb_trans G.out g)) (fun hH86 => ?_)
                clear hK K
                replace I6 := Lib.hid (I6.out.keep0 g)
                replace R1 := Lib.hid (R1.out.keep0 g)
                replace R2 := Lib.hid (R2.out.keep0 g)
                replace G := Lib.hid (gb_trans G.out g)
                have R3 := Lib.hid r
                clear g r B10
                try simp only [Act.put, List.getElem_toArray, List.getElem_cons_succ, List.getElem_cons_zero, List.setIfInBounds_toArray, List.set_cons_zero, List.set_cons_succ]
                refine wpAnyH_take (i := 12) (v := ?v30) rfl (by kernel_rfl) (by kernel_rfl) (by kernel_rfl) (fun _ _ _ h => h) (Or.inl ⟨by rfl, ?hy30⟩) (by assumption) ?rest30
                case hy30 => (intro wz hSw; (try dsimp only at hSw); first | (go_simp; done) | (go_simp; with_reducible rfl))
                try simp only [Act.put, List.getElem_toArray, List.getElem_cons_succ, List.getElem_cons_zero, List.setIfInBounds_toArray, List.set_cons_zero, List.set_cons_succ]
                have q0 := I6.out.cell 0
                have q1 := I6.out.cell 1
                have q2 := I6.out.cell 2
                have q3 := I6.out.cell 3
                dsimp at q0 q1 q2 q3
                have f0 := I6.out.free 0
                have f1 := I6.out.free 1
                have f2 := I6.out.free 2
                have f3 := I6.out.free 3
                refine wpAnyH_ready (rs := [14]) (by kernel_rfl) (by simp) ?_
                refine AllReadyH.cons (o := _) rfl (fun K hK => ?_) AllReadyH.nil
                go_simp
                refine hK.out _ _ (KT.out _ (gb_put (gb_put (gb_put (gb_put G.out L6.out) L6.out) L6.out) L6.out)) (fun hH99 => ?_)
                clear hK K hH99
                try simp only [Act.put, List.getElem_toArray, List.getElem_cons_succ, List.getElem_cons_zero, List.setIfInBounds_toArray, List.set_cons_zero, List.set_cons_succ]
                refine wpAnyH_done (by kernel_rfl) ?_ _
                go_wp2_with fail
                go_meet
                exact fin_env G.out L6.out I6.out R1.out R2.out R3.out
              exact AllReadyH.nil
            exact AllReadyH.nil
          exact AllReadyH.nil
        exact AllReadyH.nil
      refine AllReadyH.cons (o := _) rfl (fun K hK => ?_) ?_
      · go_simp
        have g := gb_alloc v74 (.cells #[.slice X.pa X.pn X.pc] 35) none
        have nb := IsB.new v74 35 #[.slice X.pa X.pn X.pc]
        refine hK.out _ _ (KT.out _ (gb_trans G.out g)) (fun hH87 => ?_)
        clear hK K
        replace I6 := Lib.hid (I6.out.keep0 g)
        replace G := Lib.hid (gb_trans G.out g)
        have B10 := Lib.hid nb
        obtain ⟨bB10, hbB10⟩ : ∃ b, b = v74.heap.size := ⟨_, rfl⟩
        rw [← hbB10] at B10 ⊢
        clear g nb hbB10
        generalize v74.alloc (.cells #[.slice X.pa X.pn X.pc] 35) = v87 at *
        try simp only [Act.put, List.getElem_toArray, List.getElem_cons_succ, List.getElem_cons_zero, List.setIfInBounds_toArray, List.set_cons_zero, List.set_cons_succ]
        refine wpAnyH_ready (rs := [2]) (by kernel_rfl) (by simp) ?_
        refine AllReadyH.cons (o := _) rfl (fun K hK => ?_) ?_
        · go_simp
          have g := gb_alloc v87 (.cells #[.slice X.va X.vn X.vc] 32) none
          have nb := IsB.new v87 32 #[.slice X.va X.vn X.vc]
          refine hK.out _ _ (KT.out _ (gb_trans G.out g)) (fun hH88 => ?_)
          clear hK K
          replace I6 := Lib.hid (I6.out.keep0 g)
          replace B10 := Lib.hid (B10.out.keep0 g)
          replace G := Lib.hid (gb_trans G.out g)
          have B2 := Lib.hid nb
          obtain ⟨bB2, hbB2⟩ : ∃ b, b = v87.heap.size := ⟨_, rfl⟩
          rw [← hbB2] at B2 ⊢
          clear g nb hbB2
          generalize v87.alloc (.cells #[.slice X.va X.vn X.vc] 32) = v88 at *
          try simp only [Act.put, List.getElem_toArray, List.getElem_cons_succ, List.getElem_cons_zero, List.setIfInBounds_toArray, List.set_cons_zero, List.set_cons_succ]
          refine wpAnyH_ready (rs := [3]) (by kernel_rfl) (by simp) ?_
          refine AllReadyH.cons (o := _) rfl (fun K hK => ?_) ?_
          · go_simp
            refine (JB.out _ _ G.out B2.out).mono ?_
            rintro e v89 ⟨a1, c1, rfl, r, g⟩
            refine hK.out _ _ (KT.out _ (gb_trans G.out g)) (fun hH89 => ?_)
            clear hK K
            replace I6 := Lib.hid (I6.out.keep0 g)
            replace B10 := Lib.hid (B10.out.keep0 g)
            replace G := Lib.hid (gb_trans G.out g)
            have R1 := Lib.hid r
            clear g r B2
            try simp only [Act.put, List.getElem_toArray, List.getElem_cons_succ, List.getElem_cons_zero, List.setIfInBounds_toArray, List.set_cons_zero, List.set_cons_succ]
            refine wpAnyH_ready (rs := [7]) (by kernel_rfl) (by simp) ?_
            refine AllReadyH.cons (o := _) rfl (fun K hK => ?_) ?_
            · go_simp
              refine (CT.out _ G.out).mono ?_
              rintro e v90 ⟨a2, c2, rfl, r, g⟩
              refine hK.out _ _ (KT.out _ (gb_trans G.out g)) (fun hH90 => ?_)
              clear hK K
              replace I6 := Lib.hid (I6.out.keep0 g)
              replace B10 := Lib.hid (B10.out.keep0 g)
              replace R1 := Lib.hid (R1.out.keep0 g)
              replace G := Lib.hid (gb_trans G.out g)
              have R2 := Lib.hid r
              clear g r
              try simp only [Act.put, List.getElem_toArray, List.getElem_cons_succ, List.getElem_cons_zero, List.setIfInBounds_toArray, List.set_cons_zero, List.set_cons_succ]
              refine wpAnyH_ready (rs := [11]) (by kernel_rfl) (by simp) ?_
              refine AllReadyH.cons (o := _) rfl (fun K hK => ?_) ?_
              · go_simp
                refine (JY.out _ _ G.out B10.out).mono ?_
                rintro e v91 ⟨a3, c3, rfl, r, g⟩
                refine hK.out _ _ (KT.out _ (gb_trans G.out g)) (fun hH91 => ?_)
                clear hK K
                replace I6 := Lib.hid (I6.out.keep0 g)
                replace R1 := Lib.hid (R1.out.keep0 g)
                replace R2 := Lib.hid (R2.out.keep0 g)
                replace G := Lib.hid (gb_trans G.out g)
                have R3 := Lib.hid r
                clear g r B10
                try simp only [Act.put, List.getElem_toArray, List.getElem_cons_succ, List.getElem_cons_zero, List.setIfInBounds_toArray, List.set_cons_zero, List.set_cons_succ]
                refine wpAnyH_take (i := 12) (v := ?v31) rfl (by kernel_rfl) (by kernel_rfl) (by kernel_rfl) (fun _ _ _ h => h) (Or.inl ⟨by rfl, ?hy31⟩) (by assumption) ?rest31
                case hy31 => (intro wz hSw; (try dsimp only at hSw); first | (go_simp; done) | (go_simp; with_reducible rfl))
                try simp only [Act.put, List.getElem_toArray, List.getElem_cons_succ, List.getElem_cons_zero, List.setIfInBounds_toArray, List.set_cons_zero, List.set_cons_succ]
                have q0 := I6.out.cell 0
                have q1 := I6.out.cell 1
                have q2 := I6.out.cell 2
                have q3 := I6.out.cell 3
                dsimp at q0 q1 q2 q3
                have f0 := I6.out.free 0
                have f1 := I6.out.free 1
                have f2 := I6.out.free 2
                have f3 := I6.out.free 3
                refine wpAnyH_ready (rs := [14]) (by kernel_rfl) (by simp) ?_
                refine AllReadyH.cons (o := _) rfl (fun K hK => ?_) AllReadyH.nil
                go_simp
                refine hK.out _ _ (KT.out _ (gb_put (gb_put (gb_put (gb_put G.out L6.out) L6.out) L6.out) L6.out)) (fun hH99 => ?_)
                clear hK K hH99
                try simp only [Act.put, List.getElem_toArray, List.getElem_cons_succ, List.getElem_cons_zero, List.setIfInBounds_toArray, List.set_cons_zero, List.set_cons_succ]
                refine wpAnyH_done (by kernel_rfl) ?_ _
                go_wp2_with fail
                go_meet
                exact fin_env G.out L6.out I6.out R1.out R2.out R3.out
              exact AllReadyH.nil
            exact AllReadyH.nil
          exact AllReadyH.nil
        exact AllReadyH.nil
      exact AllReadyH.nil
    exact AllReadyH.nil
  case rest =>
    obtain ⟨b6, a1, a2, a3, c1, c2, c3, rfl, i6, r1, r2, r3, l6, gw⟩ := hcut
    have L6 := Lib.hid l6
    have S0 := Lib.hid (show ChgS w w3 X L g b6 a1 a2 a3 c1 c2 c3 0 (.slice none 0 0) [] wc from ⟨i6, by rw [List.take_zero]; exact or_nil _ _, r1, r2, r3, (by intro x hx; omega), gw⟩)
    have x1 := (BX.out.keep0 gw).cell 1
    dsimp at x1
    have FL := Lib.hid HR.out.f.len
    clear i6 r1 r2 r3 l6 gw G KT JB JY CT
    go_wp2
    go_loopw [26] (fun i wr => ∃ (j : Nat) (V : Value) (Vs : List Value), j ≤ X.fn ∧ i = .int .i64 j ∧ ChgS w w3 X L g b6 a1 a2 a3 c1 c2 c3 j V Vs wr) (fun i _ => X.fn - (intOf i).toNat)
    case atStart => exact ⟨0, _, _, Nat.zero_le _, rfl, S0.out⟩
    case round =>
      obtain ⟨j, V, Vs, hj, rfl, hs⟩ := hrel
      have HS := Lib.hid hs
      clear hs S0 x1
      by_cases hlt : j < X.fn
      · have WR := Lib.hid (gb_trans WG.out HS.out.grown)
        obtain ⟨ad, had⟩ := HR.out.f.some (by omega)
        have FC := Lib.hid ((HR.out.f.keep0 WR.out).cells ad had j hlt)
        obtain ⟨ga, gn, gc, d1, su⟩ := FC.out
        have SU1 := Lib.hid su
        have i1 : (j : Int) < X.fn := by omega
        have i0 : (0 : Int) ≤ (j : Int) := by omega
        have hw : IntKind.i64.wrap ((j : Int) + 1) = ((j + 1 : Nat) : Int) := by have := HZ.out.f; rw [IntKind.wrap_i64]; omega
        have GN := Lib.hid (show gn ≤ 100000 by have := HZ.out.r j; rw [SU1.out.len] at this; exact this)
        have CO := Lib.hid (fun (w2 : World) (q : wr.grownBy w2 none) => (ch1_any w2 j ga gn gc (L.F.getD j []) (SU1.out.keep0 q) GN.out (bx + 1) f cp (BF.out.keep0 (gb_trans HS.out.grown q)) (g j) HCF.out (fun i v W k v0 v1 => HST.out j i v W (gb_trans WR.out (gb_trans q k)) v0 v1)).mono fun e w' r => retu_n (w := wr) (n := gn) q.size (by rw [chL_len]; exact SU1.out.len) r)
        have VL := Lib.hid (show Vs.length + 1 ≤ 1000000 by have h1 := HS.out.rows.nV; rw [List.length_take, chF_len, FL.out] at h1; have := HZ.out.f; omega)
        have RG := Lib.hid (show ∀ y ∈ chL (g j) (L.F.getD j []), 0 ≤ y ∧ y < 4294967296 from chL_rng (HG.out j) SU1.out.rng)
        have JL := Lib.hid (show j < L.F.length by rw [FL.out]; exact hlt)
        obtain ⟨sa, sc, hV⟩ := HS.out.rows.shape
        rw [had]
        clear su FC hV
        go_upto_region 6 with fail
        have G := Lib.hid (gb_drew wr none)
        refine wp_region_held_drew (S := (fun _ : World => True)) (by kernel_rfl) trivial (fun hH0 => ?_)
        generalize wr.drew = v0 at *
        refine wpAnyH_take (i := 0) (v := ?v32) rfl (by kernel_rfl) (by kernel_rfl) (by kernel_rfl) (fun _ _ _ h => h) (Or.inl ⟨by rfl, ?hy32⟩) (by assumption) ?rest32
        case hy32 => (intro wz hSw; (try dsimp only at hSw); first | (go_simp; done) | (go_simp; with_reducible rfl))
        try simp only [Act.put, List.getElem_toArray, List.getElem_cons_zero, List.setIfInBounds_toArray, List.set_cons_zero, List.set_cons_succ]
        refine wpAnyH_take (i := 2) (v := ?v33) rfl (by kernel_rfl) (by kernel_rfl) (by kernel_rfl) (fun _ _ _ h => h) (Or.inl ⟨by rfl, ?hy33⟩) (by assumption) ?rest33
        case hy33 => (intro wz hSw; (try dsimp only at hSw); first | (go_simp; done) | (go_simp; with_reducible rfl))
        try simp only [Act.put, List.getElem_toArray, List.getElem_cons_succ, List.getElem_cons_zero, List.setIfInBounds_toArray, List.set_cons_zero, List.set_cons_succ]
        refine wpAnyH_take (i := 3) (v := ?v34) rfl (by kernel_rfl) (by kernel_rfl) (by kernel_rfl) (fun _ _ _ h => h) (Or.inl ⟨by rfl, ?hy34⟩) (by assumption) ?rest34
        case hy34 => (intro wz hSw; (try dsimp only at hSw); first | (go_simp; done) | (go_simp; with_reducible rfl))
        try simp only [Act.put, List.getElem_toArray, List.getElem_cons_succ, List.getElem_cons_zero, List.setIfInBounds_toArray, List.set_cons_zero, List.set_cons_succ]
        refine wpAnyH_take (i := 4) (v := ?v35) rfl (by kernel_rfl) (by kernel_rfl) (by kernel_rfl) (fun _ _ _ h => h) (Or.inl ⟨by rfl, ?hy35⟩) (by assumption) ?rest35
        case hy35 => (intro wz hSw; (try dsimp only at hSw); first | (go_simp; done) | (go_simp; with_reducible rfl))
        try simp only [Act.put, List.getElem_toArray, List.getElem_cons_succ, List.getElem_cons_zero, List.setIfInBounds_toArray, List.set_cons_zero, List.set_cons_succ]
        refine wpAnyH_ready (rs := [1, 5]) (by kernel_rfl) (by simp) ?_
        refine AllReadyH.cons (o := _) rfl (fun K hK => ?_) ?_
        · have e0 := (HS.out.box.keep0 G.out).cell 1
          dsimp at e0
          go_simp
          refine hK.out _ _ trivial (fun hH1 => ?_)
          clear hK K e0
          try simp only [Act.put, List.getElem_toArray, List.getElem_cons_succ, List.getElem_cons_zero, List.setIfInBounds_toArray, List.set_cons_zero, List.set_cons_succ]
          refine wpAnyH_ready (rs := [5]) (by kernel_rfl) (by simp) ?_
          refine AllReadyH.cons (o := _) rfl (fun K hK => ?_) ?_
          · go_simp
            refine (CO.out _ G.out).mono ?_
            rintro e u2 ⟨a5, c5, rfl, r5, g5⟩
            replace G := Lib.hid (gb_trans G.out g5)
            have R5 := Lib.hid r5
            refine hK.out _ _ trivial (fun hH2 => ?_)
            clear hK K r5 g5
            try simp only [Act.put, List.getElem_toArray, List.getElem_cons_succ, List.getElem_cons_zero, List.setIfInBounds_toArray, List.set_cons_zero, List.set_cons_succ]
            refine wpAnyH_ready (rs := [6]) (by kernel_rfl) (by simp) ?_
            refine AllReadyH.cons (o := _) rfl (fun K hK => ?_) ?_
            · go_simp
              have g := gb_alloc u2 (.cells #[.slice a5 gn c5] 34) none
              have nb := Lib.hid (IsB.new u2 34 #[.slice a5 gn c5])
              refine hK.out _ _ trivial (fun hH3 => ?_)
              clear hK K
              replace G := Lib.hid (gb_trans G.out g)
              replace R5 := Lib.hid (R5.out.keep0 g)
              obtain ⟨b5, hb5⟩ : ∃ b, b = u2.heap.size := ⟨_, rfl⟩
              rw [← hb5] at nb ⊢
              clear g hb5
              generalize u2.alloc (.cells #[.slice a5 gn c5] 34) = u3 at *
              try simp only [Act.put, List.getElem_toArray, List.getElem_cons_succ, List.getElem_cons_zero, List.setIfInBounds_toArray, List.set_cons_zero, List.set_cons_succ]
              refine wpAnyH_ready (rs := [7]) (by kernel_rfl) (by simp) ?_
              refine AllReadyH.cons (o := _) rfl (fun K hK => ?_) ?_
              · have OUT := Lib.hid (show u3.ownsRow w3.heap.size 34 1 V Vs.length Vs by have k := own_keep0 HS.out.rows.out G.out; rw [HS.out.rows.nV]; exact k)
                refine rstep_any rfl _ _ rfl w3.heap.size V Vs rfl OUT.out ⟨b5, 0, none⟩ _ (.slice a5 gn c5) rfl (isb_cell1 nb.out) rfl VL.out (Nat.le_trans HS.out.grown.size G.out.size) ?_
                intro V2 u4 o3 g3
                have NX := Lib.hid (HS.out.next JL.out L6.out G.out rfl R5.out RG.out g3 o3)
                refine hK.out _ _ trivial (fun hH4 => ?_)
                obtain ⟨r7, hr7⟩ : ∃ r, r = (Vs ++ [Value.slice a5 gn c5]).length := ⟨_, rfl⟩
                obtain ⟨a7, c7, h7⟩ := own_shape o3
                rw [← hr7] at h7
                subst h7
                clear hK K o3 g3 OUT R5 nb hr7
                try simp only [Act.put, List.getElem_toArray, List.getElem_cons_succ, List.getElem_cons_zero, List.setIfInBounds_toArray, List.set_cons_zero, List.set_cons_succ]
                refine wpAnyH_take (i := 8) (v := ?v36) rfl (by kernel_rfl) (by kernel_rfl) (by kernel_rfl) (fun _ _ _ h => h) (Or.inl ⟨by rfl, ?hy36⟩) (by assumption) ?rest36
                case hy36 => (intro wz hSw; (try dsimp only at hSw); first | (go_simp; done) | (go_simp; with_reducible rfl))
                try simp only [Act.put, List.getElem_toArray, List.getElem_cons_succ, List.getElem_cons_zero, List.setIfInBounds_toArray, List.set_cons_zero, List.set_cons_succ]
                refine wpAnyH_ready (rs := [9]) (by kernel_rfl) (by simp) ?_
                refine AllReadyH.cons (o := _) rfl (fun K hK => ?_) ?_
                · have f0 := NX.out.1.free 1
                  have e1 := NX.out.1.cell 1
                  dsimp at e1
                  go_simp
                  refine hK.out _ _ trivial (fun hH5 => ?_)
                  clear hK K
                  try simp only [Act.put, List.getElem_toArray, List.getElem_cons_succ, List.getElem_cons_zero, List.setIfInBounds_toArray, List.set_cons_zero, List.set_cons_succ]
                  refine wpAnyH_done (by kernel_rfl) ?_ _
                  go_wp2
                  go_roundw
                  case rel => exact ⟨j + 1, _, _, by omega, by first | rfl | (congr 1), NX.out.2⟩
                  case measure => simp [intOf]; omega
                exact AllReadyH.nil
              exact AllReadyH.nil
            exact AllReadyH.nil
          exact AllReadyH.nil
        refine AllReadyH.cons (o := _) rfl (fun K hK => ?_) ?_
        · go_simp
          refine (CO.out _ G.out).mono ?_
          rintro e u6 ⟨a5, c5, rfl, r5, g5⟩
          replace G := Lib.hid (gb_trans G.out g5)
          have R5 := Lib.hid r5
          refine hK.out _ _ trivial (fun hH6 => ?_)
          clear hK K r5 g5
          try simp only [Act.put, List.getElem_toArray, List.getElem_cons_succ, List.getElem_cons_zero, List.setIfInBounds_toArray, List.set_cons_zero, List.set_cons_succ]
          refine wpAnyH_ready (rs := [1, 6]) (by kernel_rfl) (by simp) ?_
          refine AllReadyH.cons (o := _) rfl (fun K hK => ?_) ?_
          · have e0 := (HS.out.box.keep0 G.out).cell 1
            dsimp at e0
            go_simp
            refine hK.out _ _ trivial (fun hH7 => ?_)
            clear hK K e0
            try simp only [Act.put, List.getElem_toArray, List.getElem_cons_succ, List.getElem_cons_zero, List.setIfInBounds_toArray, List.set_cons_zero, List.set_cons_succ]
            refine wpAnyH_ready (rs := [6]) (by kernel_rfl) (by simp) ?_
            refine AllReadyH.cons (o := _) rfl (fun K hK => ?_) ?_
            · go_simp
              have g := gb_alloc u6 (.cells #[.slice a5 gn c5] 34) none
              have nb := Lib.hid (IsB.new u6 34 #[.slice a5 gn c5])
              refine hK.out _ _ trivial (fun hH8 => ?_)
              clear hK K
              replace G := Lib.hid (gb_trans G.out g)
              replace R5 := Lib.hid (R5.out.keep0 g)
              obtain ⟨b5, hb5⟩ : ∃ b, b = u6.heap.size := ⟨_, rfl⟩
              rw [← hb5] at nb ⊢
              clear g hb5
              generalize u6.alloc (.cells #[.slice a5 gn c5] 34) = u8 at *
              try simp only [Act.put, List.getElem_toArray, List.getElem_cons_succ, List.getElem_cons_zero, List.setIfInBounds_toArray, List.set_cons_zero, List.set_cons_succ]
              refine wpAnyH_ready (rs := [7]) (by kernel_rfl) (by simp) ?_
              refine AllReadyH.cons (o := _) rfl (fun K hK => ?_) ?_
              · have OUT := Lib.hid (show u8.ownsRow w3.heap.size 34 1 V Vs.length Vs by have k := own_keep0 HS.out.rows.out G.out; rw [HS.out.rows.nV]; exact k)
                refine rstep_any rfl _ _ rfl w3.heap.size V Vs rfl OUT.out ⟨b5, 0, none⟩ _ (.slice a5 gn c5) rfl (isb_cell1 nb.out) rfl VL.out (Nat.le_trans HS.out.grown.size G.out.size) ?_
                intro V2 u9 o3 g3
                have NX := Lib.hid (HS.out.next JL.out L6.out G.out rfl R5.out RG.out g3 o3)
                refine hK.out _ _ trivial (fun hH9 => ?_)
                obtain ⟨r7, hr7⟩ : ∃ r, r = (Vs ++ [Value.slice a5 gn c5]).length := ⟨_, rfl⟩
                obtain ⟨a7, c7, h7⟩ := own_shape o3
                rw [← hr7] at h7
                subst h7
                clear hK K o3 g3 OUT R5 nb hr7
                try simp only [Act.put, List.getElem_toArray, List.getElem_cons_succ, List.getElem_cons_zero, List.setIfInBounds_toArray, List.set_cons_zero, List.set_cons_succ]
                refine wpAnyH_take (i := 8) (v := ?v37) rfl (by kernel_rfl) (by kernel_rfl) (by kernel_rfl) (fun _ _ _ h => h) (Or.inl ⟨by rfl, ?hy37⟩) (by assumption) ?rest37
                case hy37 => (intro wz hSw; (try dsimp only at hSw); first | (go_simp; done) | (go_simp; with_reducible rfl))
                try simp only [Act.put, List.getElem_toArray, List.getElem_cons_succ, List.getElem_cons_zero, List.setIfInBounds_toArray, List.set_cons_zero, List.set_cons_succ]
                refine wpAnyH_ready (rs := [9]) (by kernel_rfl) (by simp) ?_
                refine AllReadyH.cons (o := _) rfl (fun K hK => ?_) ?_
                · have f0 := NX.out.1.free 1
                  have e1 := NX.out.1.cell 1
                  dsimp at e1
                  go_simp
                  refine hK.out _ _ trivial (fun hH10 => ?_)
                  clear hK K
                  try simp only [Act.put, List.getElem_toArray, List.getElem_cons_succ, List.getElem_cons_zero, List.setIfInBounds_toArray, List.set_cons_zero, List.set_cons_succ]
                  refine wpAnyH_done (by kernel_rfl) ?_ _
                  go_wp2
                  go_roundw
                  case rel => exact ⟨j + 1, _, _, by omega, by first | rfl | (congr 1), NX.out.2⟩
                  case measure => simp [intOf]; omega
                exact AllReadyH.nil
              exact AllReadyH.nil
            exact AllReadyH.nil
          refine AllReadyH.cons (o := _) rfl (fun K hK => ?_) ?_
          · go_simp
            have g := gb_alloc u6 (.cells #[.slice a5 gn c5] 34) none
            have nb := Lib.hid (IsB.new u6 34 #[.slice a5 gn c5])
            refine hK.out _ _ trivial (fun hH11 => ?_)
            clear hK K
            replace G := Lib.hid (gb_trans G.out g)
            replace R5 := Lib.hid (R5.out.keep0 g)
            obtain ⟨b5, hb5⟩ : ∃ b, b = u6.heap.size := ⟨_, rfl⟩
            rw [← hb5] at nb ⊢
            clear g hb5
            generalize u6.alloc (.cells #[.slice a5 gn c5] 34) = u11 at *
            try simp only [Act.put, List.getElem_toArray, List.getElem_cons_succ, List.getElem_cons_zero, List.setIfInBounds_toArray, List.set_cons_zero, List.set_cons_succ]
            refine wpAnyH_ready (rs := [1]) (by kernel_rfl) (by simp) ?_
            refine AllReadyH.cons (o := _) rfl (fun K hK => ?_) ?_
            · have e0 := (HS.out.box.keep0 G.out).cell 1
              dsimp at e0
              go_simp
              refine hK.out _ _ trivial (fun hH12 => ?_)
              clear hK K e0
              try simp only [Act.put, List.getElem_toArray, List.getElem_cons_succ, List.getElem_cons_zero, List.setIfInBounds_toArray, List.set_cons_zero, List.set_cons_succ]
              refine wpAnyH_ready (rs := [7]) (by kernel_rfl) (by simp) ?_
              refine AllReadyH.cons (o := _) rfl (fun K hK => ?_) ?_
              · have OUT := Lib.hid (show u11.ownsRow w3.heap.size 34 1 V Vs.length Vs by have k := own_keep0 HS.out.rows.out G.out; rw [HS.out.rows.nV]; exact k)
                refine rstep_any rfl _ _ rfl w3.heap.size V Vs rfl OUT.out ⟨b5, 0, none⟩ _ (.slice a5 gn c5) rfl (isb_cell1 nb.out) rfl VL.out (Nat.le_trans HS.out.grown.size G.out.size) ?_
                intro V2 u13 o3 g3
                have NX := Lib.hid (HS.out.next JL.out L6.out G.out rfl R5.out RG.out g3 o3)
                refine hK.out _ _ trivial (fun hH13 => ?_)
                obtain ⟨r7, hr7⟩ : ∃ r, r = (Vs ++ [Value.slice a5 gn c5]).length := ⟨_, rfl⟩
                obtain ⟨a7, c7, h7⟩ := own_shape o3
                rw [← hr7] at h7
                subst h7
                clear hK K o3 g3 OUT R5 nb hr7
                try simp only [Act.put, List.getElem_toArray, List.getElem_cons_succ, List.getElem_cons_zero, List.setIfInBounds_toArray, List.set_cons_zero, List.set_cons_succ]
                refine wpAnyH_take (i := 8) (v := ?v38) rfl (by kernel_rfl) (by kernel_rfl) (by kernel_rfl) (fun _ _ _ h => h) (Or.inl ⟨by rfl, ?hy38⟩) (by assumption) ?rest38
                case hy38 => (intro wz hSw; (try dsimp only at hSw); first | (go_simp; done) | (go_simp; with_reducible rfl))
                try simp only [Act.put, List.getElem_toArray, List.getElem_cons_succ, List.getElem_cons_zero, List.setIfInBounds_toArray, List.set_cons_zero, List.set_cons_succ]
                refine wpAnyH_ready (rs := [9]) (by kernel_rfl) (by simp) ?_
                refine AllReadyH.cons (o := _) rfl (fun K hK => ?_) ?_
                · have f0 := NX.out.1.free 1
                  have e1 := NX.out.1.cell 1
                  dsimp at e1
                  go_simp
                  refine hK.out _ _ trivial (fun hH14 => ?_)
                  clear hK K
                  try simp only [Act.put, List.getElem_toArray, List.getElem_cons_succ, List.getElem_cons_zero, List.setIfInBounds_toArray, List.set_cons_zero, List.set_cons_succ]
                  refine wpAnyH_done (by kernel_rfl) ?_ _
                  go_wp2
                  go_roundw
                  case rel => exact ⟨j + 1, _, _, by omega, by first | rfl | (congr 1), NX.out.2⟩
                  case measure => simp [intOf]; omega
                exact AllReadyH.nil
              exact AllReadyH.nil
            exact AllReadyH.nil
          exact AllReadyH.nil
        exact AllReadyH.nil
      · have i1 : ¬ (j : Int) < X.fn := by omega
        obtain rfl : j = X.fn := by omega
        obtain ⟨sa, sc, hV⟩ := HS.out.rows.shape
        rw [show ((chF g L.F).take X.fn).length = X.fn by rw [List.length_take, chF_len, FL.out]; omega] at hV
        subst hV
        obtain ⟨W', hW', oe, ib, gw⟩ := HS.out.fin HR.out HG.out WG.out (B4.out.keep0 HS.out.grown) (Nat.le_trans LB.out (Nat.le_add_right bx (1 + 1)))
        have OEh := Lib.hid oe
        have GW := Lib.hid gw
        have y0 := HS.out.box.cell 0
        have y1 := HS.out.box.cell 1
        have y2 := HS.out.box.cell 2
        have y3 := HS.out.box.cell 3
        dsimp at y0 y1 y2 y3
        have b4 := B4.out.keep0 HS.out.grown
        have z0 := b4.cell 0
        have z1 := b4.cell 1
        have z2 := b4.cell 2
        have z3 := b4.cell 3
        dsimp at z0 z1 z2 z3
        have f0 := b4.free 0
        have f1 := b4.free 1
        have f2 := b4.free 2
        have f3 := b4.free 3
        clear oe gw b4
        go_wp2
        try rw [← hW']
        have k0 := ib.cell 0
        have k1 := ib.cell 1
        have k2 := ib.cell 2
        have k3 := ib.cell 3
        dsimp at k0 k1 k2 k3
        refine bodyPost_ret (v := .agg #[.slice a1 X.vn c1, .slice sa X.fn sc, .slice a2 X.tn c2, .slice a3 X.pn c3]) (by rw [results_cell1 rfl]; go_simp; try rfl) rfl ⟨_, Vs, rfl, OEh.out, GW.out⟩
end Go.Proofs.Ytolifmpnhflegaa
