/- Env: an environment under construction, row by row; no condition but sizes. -/
import Derived.Test.YtolifmpnhflegaaEvJ
import Derived.Test.YtolifmpnhflegaaEvE
namespace Go.Proofs.Ytolifmpnhflegaa
open Go.RowKit
set_option linter.unusedVariables false
/-- An environment under construction: its first j rows stand. -/
structure BS (w w3 : World) (b6 : Nat) (s0 s2 s3 : Value) (V : List Bool) (Rows : List (List Int)) (T P : List Int) (j : Nat) (V1 : Value) (Vs : List Value) (wr : World) : Prop where
  box : IsB wr b6 37 #[s0, V1, s2, s3]
  rows : OR wr w3.heap.size V1 (Rows.take j) Vs
  r1 : NB wr w.heap.size s0 V
  r2 : NU wr w.heap.size s2 T
  r3 : NY wr w.heap.size s3 P
  dis : ∀ x, x < j → ∀ q, (Vs.getD x nilV).ownBlock = some q → s2.ownBlock ≠ some q
  grown : w3.grownBy wr none
theorem BS.keep0 {w w3 : World} {b6 : Nat} {s0 s2 s3 V1 : Value} {V : List Bool} {Rows : List (List Int)} {T P : List Int} {j : Nat} {Vs : List Value} {wr w2 : World} (h : BS w w3 b6 s0 s2 s3 V Rows T P j V1 Vs wr) (k : wr.grownBy w2 none) : BS w w3 b6 s0 s2 s3 V Rows T P j V1 Vs w2 :=
  ⟨h.box.keep0 k, h.rows.keep0 k, h.r1.keep0 k, h.r2.keep0 k, h.r3.keep0 k, h.dis, gb_trans h.grown k⟩
theorem BS.next {w w3 : World} {b6 : Nat} {s0 s2 s3 V1 V2 R : Value} {V : List Bool} {Rows : List (List Int)} {T P : List Int} {j : Nat} {Vs : List Value} {wr w1 w2 : World} {l : List Int}
    (h : BS w w3 b6 s0 s2 s3 V Rows T P j V1 Vs wr) (hj : j < Rows.length) (l6 : w3.heap.size ≤ b6) (k : wr.grownBy w1 none) (hl : l = Rows.getD j []) (o : NU w1 wr.heap.size R l) (hr : ∀ y ∈ l, 0 ≤ y ∧ y < 4294967296)
    (k2 : w1.grownBy w2 V1.ownBlock) (out : w2.ownsRow w3.heap.size 34 1 V2 (Vs ++ [R]).length (Vs ++ [R])) :
    IsB w2 b6 37 #[s0, V1, s2, s3] ∧ BS w w3 b6 s0 s2 s3 V Rows T P (j + 1) V2 (Vs ++ [R]) (w2.setCell ⟨b6, 1, none⟩ V2) := by
  have ro := own_keep0 h.rows.out k
  have rn := h.rows.nV
  have tl : (Rows.take j).length = j := by rw [List.length_take]; omega
  rw [tl] at rn
  have bx := isb_past (h.box.keep0 k) ro (by decide) k2
  have mo := OR.more h.rows k l (own_low o h.grown.size) (fun q e => (World.ownsRow.lt o q e).1) hr k2 out
  have e1 : Rows.take j ++ [l] = Rows.take (j + 1) := by rw [take_one _ [] j hj, hl]
  rw [e1] at mo
  have kp : ∀ {e : TypeId} {v : Value} {n : Nat} {xs : List Value}, wr.ownsRow w.heap.size e 1 v n xs → e ≠ 34 → e ≠ 37 → World.ownsRow (w2.setCell ⟨b6, 1, none⟩ V2) w.heap.size e 1 v n xs := fun h hn hm =>
    own_keepS (own_past (own_keep0 h k) ro hn k2) (gb_set _ _ _ _) bx hm
  refine ⟨bx, bx.set 1 V2, ?_, kp h.r1 (by decide) (by decide), kp h.r2 (by decide) (by decide), kp h.r3 (by decide) (by decide), ?_, gb_put (gb_lows (gb_trans h.grown k) k2 fun q e => (World.ownsRow.lt h.rows.out q e).1) l6⟩
  · exact ⟨own_keepS mo.out (gb_set _ _ _ _) bx (by decide), fun x hx => own_keepS (mo.own x hx) (gb_set _ _ _ _) bx (by decide), mo.dis, mo.rng⟩
  · intro x hx q e
    by_cases hx2 : x = j
    · subst hx2
      have e2 : (Vs ++ [R]).getD x nilV = R := by rw [List.getD_eq_getElem?_getD, List.getElem?_append_right (by omega)]; simp [rn]
      rw [e2] at e
      intro e3
      have l1 := (World.ownsRow.lt o q e).1
      have l2 := (World.ownsRow.lt h.r2 q e3).2
      omega
    · have e2 : (Vs ++ [R]).getD x nilV = Vs.getD x nilV := by rw [List.getD_eq_getElem?_getD, List.getElem?_append_left (by omega), ← List.getD_eq_getElem?_getD]
      rw [e2] at e
      exact h.dis x (by omega) q e
/-- The whole of it, where it lies in its box. -/
theorem BS.oe {w w3 : World} {b6 n : Nat} {a0 a1 a2 a3 : Option Addr} {n0 n1 n2 n3 c0 c1 c2 c3 : Nat} {V : List Bool} {Rows : List (List Int)} {T P : List Int} {Vs : List Value} {wr : World}
    (h : BS w w3 b6 (.slice a0 n0 c0) (.slice a2 n2 c2) (.slice a3 n3 c3) V Rows T P n (.slice a1 n1 c1) Vs wr) (hw : w.grownBy w3 none) (hn : Rows.length = n) (e0 : V.length = n0) (e1 : n1 = n) (e2 : T.length = n2) (e3 : P.length = n3) (ht : ∀ x ∈ T, 0 ≤ x ∧ x < 4294967296) (hp : ∀ x ∈ P, 0 ≤ x ∧ x < 256) :
    OE wr w.heap.size ⟨a0, a1, a2, a3, n0, c0, n1, c1, n2, c2, n3, c3⟩ ⟨V, Rows, T, P⟩ Vs := by
  have ro := h.rows
  rw [List.take_of_length_le (by omega)] at ro
  refine ⟨h.r1, ro.low hw.size, h.r2, h.r3, e0, by show Rows.length = n1; omega, e2, e3, ht, hp, ?_⟩
  intro x hx q e
  exact h.dis x (by have hx : x < Rows.length := hx; omega) q e
theorem mstep_any {ops : Array Oper} {o : Oper} {a : Act} {w : World} {K : Act → World → Prop} {Q : Exit → Act → World → Prop} {Z : Prop} (hgd : o.guard = none) (l c : Operand) (t e : TypeId) (i0 : TypeInfo) (z : Value) (by_ : Nat)
    (hop : o.op = Op.makeSlice t l c) (ht : Try.prog.underlying t = some (.slice e)) (hi : Try.prog.info? e = some i0) (hz0 : i0.zero = some z) (hz1 : i0.size = 1) (hz2 : i0.bytes = by_) (hb : by_ ≤ 4) (hzc : z.cells = #[z]) (n : Nat) (hl : a.eval l = .int .i64 n) (hc : a.eval c = .int .i64 n) (hn : n ≤ 100000)
    (h : ∀ w', w'.ownsRow w.heap.size e 1 (.slice (some ⟨w.heap.size, 0, none⟩) n n) n (List.replicate n z) → w.grownBy w' none → K (a.put o.dst (.slice (some ⟨w.heap.size, 0, none⟩) n n)) w') : if Region.wanted o (yielded ops a.tmps) = true then Oper.wp Try.prog o a w K Q else Z := by
  have hw : Region.wanted o (yielded ops a.tmps) = true := by simp [Region.wanted, hgd]
  rw [if_pos hw]
  obtain ⟨w', hrun, r1, r2⟩ := run_make_full (P := Try.prog) w w.heap.size t e i0 z 1 ht hi hz0 hz1 .i64 .i64 n (by rw [hz2]; have : by_ * n ≤ 4 * 100000 := Nat.mul_le_mul hb hn; omega) (by unfold maxLen; omega) (Nat.le_refl _)
  unfold Oper.wp
  simp [execOp, hop, hl, hc, hrun, Result.andThen]
  refine h w' ?_ r2
  rw [hzc, Nat.mul_one, made_zero] at r1
  exact r1
end Go.Proofs.Ytolifmpnhflegaa
