/- The program's Reverse: rows that grow side by side; the walk. -/
import Derived.Test.YtaikpjnegopelaaDgC
import Derived.Test.YtaikpjnegopelaaGrF
namespace Go.Proofs.Ytaikpjnegopelaa
open Go.RowKit
set_option linter.unusedVariables false

/-- Where the row lies behind an append: where it lay, or in a new block. -/
theorem npush_fresh {w : World} {ops : Array Oper} {rest : List Oper} {o : Oper} {a : Act} {Q : Exit → Act → World → Prop} (hgd : o.guard = none) (s x : Operand)
    (ho : o.op = .call { callee := .builtin .append, args := #[s, x], argTypes := #[31, 31] }) (base : Nat) (V : Value) (L : List Int) (hs : a.eval s = V) (hown : NL w base V L)
    (ad : Addr) (c : Nat) (y : Int) (hx : a.eval x = .slice (some ad) 1 c) (hM : SlR w (some ad) 1 c ([y].map (Value.int .i64))) (hlen : L.length + 1 ≤ 1000000) (hbase : base ≤ w.heap.size)
    (h : ∀ V' w', NL w' base V' (L ++ [y]) → w.grownBy w' V.ownBlock → (V'.ownBlock = V.ownBlock ∨ V'.ownBlock = some w.heap.size) → wpList Try.prog ops Q rest (a.put o.dst V') w') : wpList Try.prog ops Q (o :: rest) a w := by
  obtain ⟨i0, hi, hz0, hz1, hz2⟩ := info_parts infoI64
  refine wpList_plain hgd fun K hK => ?_
  obtain ⟨V', w', hr, h2, h3, h4⟩ := run_append_own (P := Try.prog) w base 31 o.type 3 i0 (.int .i64 0) 1 8 Try.underlying31 hi hz0 hz1 hz2 rfl (by decide) V L.length (L.map (Value.int .i64)) hown ad 1 c ([y].map (Value.int .i64)) (by simp) (hM.2.2 ad rfl) (ints_one _ _) (by unfold maxLen; omega) (by omega) hbase
  have h2' : NL w' base V' (L ++ [y]) := by unfold NL; simpa using h2
  have hb : V'.ownBlock = V.ownBlock ∨ V'.ownBlock = some w.heap.size := by
    rcases hown.2 with ⟨rfl, hn⟩ | ⟨g, cap, cur, rfl, hbg, hg, hnc, hcm, hcs, htake⟩
    · have hr2 := run_append_nil (P := Try.prog) w 31 o.type 3 i0 (.int .i64 0) Try.underlying31 hi hz0 ad 1 c ([y].map (Value.int .i64)) (by rw [hz1]; simp) (hM.2.2 ad rfl) (by omega) (by omega) (by rw [hz2]; omega)
      rw [hr] at hr2
      injection hr2 with e1 e2
      right; rw [e1]; rfl
    · by_cases hroom : L.length + 1 ≤ cap
      · have hr2 := run_append_room (P := Try.prog) w 31 o.type 3 i0 Try.underlying31 hi g L.length cap cur hg ad 1 c ([y].map (Value.int .i64)) (by rw [hz1]; simp) (hM.2.2 ad rfl) (ints_one _ _) hroom (by rw [hz1, hcs]; simp; omega)
        rw [hr] at hr2
        injection hr2 with e1 e2
        left; rw [e1]; rfl
      · have holds : ∀ j u, (L.map (Value.int .i64))[j]? = some u → w.cell? ((⟨g, 0, none⟩ : Addr).add j) = some u := World.ownsRow.cells hown (g := g) rfl
        have hr2 := run_append_grow (P := Try.prog) w 31 o.type 3 i0 (.int .i64 0) Try.underlying31 hi hz0 ⟨g, 0, none⟩ L.length cap (L.map (Value.int .i64)) (by rw [hz1]; simp) holds ad 1 c ([y].map (Value.int .i64)) (by rw [hz1]; simp) (hM.2.2 ad rfl) (by omega) (by omega) (growslice_fits (by omega) (by rw [hz2]; omega))
        rw [hr] at hr2
        injection hr2 with e1 e2
        right; rw [e1]; rfl
  unfold Oper.wp execOp
  simp only [ho, resolve, invoke, builtin, Sem.run_bind, Sem.run_pure, Result.andThen_ok, List.map_toArray, List.map_cons, List.map_nil, hs, hx, hr]
  exact hK _ _ (h V' w' h2' h3 hb)

def nilV : Value := .slice none 0 0
/-- Rows of the call's own, side by side; their heads lie in block b. -/
structure RR (W : World) (b n : Nat) (rows : List (List Int)) (Vs : List Value) (w : World) : Prop where
  blk : IsB w b 31 Vs.toArray
  nV : Vs.length = n
  nR : rows.length = n
  own : ∀ x, x < n → NL w (b + 1) (Vs.getD x nilV) (rows.getD x [])
  dis : ∀ x y, x < n → y < n → x ≠ y → ∀ q, (Vs.getD x nilV).ownBlock = some q → (Vs.getD y nilV).ownBlock ≠ some q
  grown : W.grownBy w none
  low : W.heap.size ≤ b
theorem RR.keep {W : World} {b n : Nat} {rows : List (List Int)} {Vs : List Value} {w w2 : World} (h : RR W b n rows Vs w) (k : w.grownBy w2 none) : RR W b n rows Vs w2 :=
  ⟨h.blk.keep0 k, h.nV, h.nR, fun x hx => (h.own x hx).keep0 k, h.dis, gb_trans h.grown k, h.low⟩
theorem getD_set_at {α : Type} (L : List α) (x : Nat) (v d : α) (h : x < L.length) : (L.set x v).getD x d = v := by simp [h]
theorem getD_set_off {α : Type} (L : List α) (x y : Nat) (v d : α) (h : y ≠ x) : (L.set x v).getD y d = L.getD y d := by simp [List.getD_eq_getElem?_getD, List.getElem?_set_ne (Ne.symm h)]
theorem RR.step {W : World} {b n : Nat} {rows : List (List Int)} {Vs : List Value} {w w2 : World} (h : RR W b n rows Vs w) (x : Nat) (hx : x < n) (V : Value) (L : List Int) (o : NL w2 (b + 1) V L) (k : w.grownBy w2 (Vs.getD x nilV).ownBlock)
    (hb : V.ownBlock = (Vs.getD x nilV).ownBlock ∨ V.ownBlock = some w.heap.size) : RR W b n (rows.set x L) (Vs.set x V) (w2.setCell ⟨b, x, none⟩ V) := by
  have hbl := h.blk.lt
  have hnb : some b ≠ (Vs.getD x nilV).ownBlock := fun e => by
    have := (World.ownsRow.lt (h.own x hx) b e.symm).1
    omega
  have hb2 : IsB w2 b 31 Vs.toArray := h.blk.keep k hnb
  have hg2 : W.grownBy w2 none := by
    cases e : (Vs.getD x nilV).ownBlock with
    | none => rw [e] at k; exact gb_trans h.grown k
    | some q =>
      rw [e] at k
      have := (World.ownsRow.lt (h.own x hx) q e).1
      have := h.low
      exact gb_new (gb_trans (gb_any h.grown) k) (by omega)
  refine ⟨?_, by simp [h.nV], by simp [h.nR], ?_, ?_, gb_put hg2 h.low, h.low⟩
  · have q := hb2.set x V
    simpa using q
  · intro y hy
    have e1 : NL w2 (b + 1) ((Vs.set x V).getD y nilV) ((rows.set x L).getD y []) := by
      by_cases e : y = x
      · subst e
        rw [getD_set_at _ _ _ _ (by rw [h.nV]; exact hx), getD_set_at _ _ _ _ (by rw [h.nR]; exact hx)]
        exact o
      · rw [getD_set_off _ _ _ _ _ e, getD_set_off _ _ _ _ _ e]
        exact World.ownsRow.kept (h.own y hy) k (blk_ne fun q hq e2 => h.dis y x hy hx e q hq e2)
    exact World.ownsRow.kept e1 (gb_set w2 b x V) (Or.inr (own_far e1 (Nat.lt_succ_self b)))
  · intro y z hy hz hyz q hq
    by_cases ey : y = x
    · subst ey
      rw [getD_set_at _ _ _ _ (by rw [h.nV]; exact hx)] at hq
      rw [getD_set_off _ _ _ _ _ (Ne.symm hyz)]
      rcases hb with e | e
      · rw [e] at hq; exact h.dis y z hy hz hyz q hq
      · rw [e] at hq
        injection hq with hq
        subst hq
        intro e2
        have := (World.ownsRow.lt (h.own z hz) _ e2).2
        omega
    · rw [getD_set_off _ _ _ _ _ ey] at hq
      by_cases ez : z = x
      · subst ez
        rw [getD_set_at _ _ _ _ (by rw [h.nV]; exact hx)]
        intro e2
        rcases hb with e | e
        · rw [e] at e2; exact h.dis y z hy hz hyz q hq e2
        · rw [e] at e2
          injection e2 with e2
          subst e2
          have := (World.ownsRow.lt (h.own y hy) _ hq).2
          omega
      · rw [getD_set_off _ _ _ _ _ ez]
        exact h.dis y z hy hz hyz q hq
theorem RR.cell {W : World} {b n : Nat} {rows : List (List Int)} {Vs : List Value} {w : World} (h : RR W b n rows Vs w) (x : Nat) (hx : x < n) : w.cell? ⟨b, x, none⟩ = some (Vs.getD x nilV) := by
  rw [h.blk.cell x]
  simp [h.nV, hx]
theorem addr0 (b j : Nat) : ((⟨b, 0, none⟩ : Addr).add j) = ⟨b, j, none⟩ := by unfold Addr.add; split <;> simp_all
theorem RR.slg {W : World} {b n : Nat} {rows : List (List Int)} {Vs : List Value} {w : World} (h : RR W b n rows Vs w) (hn : n ≤ 100000) (hr : ∀ x, x < n → (rows.getD x []).length ≤ 1000000) : SlG w (some ⟨b, 0, none⟩) n n rows := by
  refine ⟨h.nR, by simp, by omega, ?_⟩
  intro ad ha j zs hz
  injection ha with ha; subst ha
  have hj : j < n := by
    have := (List.getElem?_eq_some_iff.1 hz).1
    rw [h.nR] at this; exact this
  have e : zs = rows.getD j [] := by rw [List.getD_eq_getElem?_getD, hz]; rfl
  subst e
  have d := h.own j hj
  obtain ⟨A, C, hv⟩ := d.shape
  rw [hv] at d
  refine ⟨A, _, C, ?_, d.slr rfl, by have := hr j hj; omega⟩
  rw [addr0, h.cell j hj, ← hv]

/-- The reversed graph when the first v nodes are through, and of node v the successors pre. -/
def rowsP (g : List (List Int)) (v : Nat) (pre : List Int) : List (List Int) := (List.range g.length).map fun x => revUp g x v ++ if (x : Int) ∈ pre then [(v : Int)] else []
theorem rowsP_len (g : List (List Int)) (v : Nat) (pre : List Int) : (rowsP g v pre).length = g.length := by simp [rowsP]
theorem rowsP_at (g : List (List Int)) (v : Nat) (pre : List Int) (x : Nat) (hx : x < g.length) : (rowsP g v pre).getD x [] = revUp g x v ++ if (x : Int) ∈ pre then [(v : Int)] else [] := by simp [rowsP, hx]
theorem rows_ext {A B : List (List Int)} (hl : A.length = B.length) (h : ∀ x, x < A.length → A.getD x [] = B.getD x []) : A = B := by
  apply List.ext_getElem hl
  intro i h1 h2
  have k := h i h1
  simpa [h1, h2] using k
theorem rowsP_start (g : List (List Int)) : rowsP g 0 [] = List.replicate g.length [] := by
  apply rows_ext (by simp [rowsP])
  intro x hx
  rw [rowsP_len] at hx
  rw [rowsP_at g 0 [] x hx]
  simp [revUp, hx]
theorem rowsP_next (g : List (List Int)) (v : Nat) (hv : v < g.length) : rowsP g v (g.getD v []) = rowsP g (v + 1) [] := by
  apply rows_ext (by simp [rowsP])
  intro x hx
  rw [rowsP_len] at hx
  rw [rowsP_at _ _ _ _ hx, rowsP_at _ _ _ _ hx]
  have e : gEdge g (v : Int) (x : Int) = decide ((x : Int) ∈ g.getD v []) := by
    unfold gEdge
    rw [Int.toNat_natCast, decide_eq_decide]
    constructor
    · exact fun k => k.2.2.2.2
    · exact fun k => ⟨by omega, by omega, by omega, by omega, k⟩
  by_cases hm : (x : Int) ∈ g.getD v []
  · rw [if_pos hm, revUp_yes (by rw [e]; exact decide_eq_true hm)]; simp
  · rw [if_neg hm, revUp_no (by rw [e]; exact decide_eq_false hm)]; simp
theorem rowsP_end (g : List (List Int)) : rowsP g g.length [] = revG g := by
  unfold rowsP revG
  simp
theorem rowsP_off (g : List (List Int)) (v : Nat) (pre : List Int) (x : Int) (hx : ¬ (0 ≤ x ∧ x < (g.length : Int))) : rowsP g v (pre ++ [x]) = rowsP g v pre := by
  apply rows_ext (by simp [rowsP])
  intro y hy
  rw [rowsP_len] at hy
  rw [rowsP_at _ _ _ _ hy, rowsP_at _ _ _ _ hy]
  have e : ((y : Int) ∈ pre ++ [x]) ↔ (y : Int) ∈ pre := by
    rw [List.mem_append, List.mem_singleton]
    constructor
    · rintro (h | h)
      · exact h
      · exact absurd (by rw [← h]; omega) hx
    · exact Or.inl
  simp [e]
theorem rowsP_old (g : List (List Int)) (v : Nat) (pre : List Int) (x : Int) (hx : x ∈ pre) : rowsP g v (pre ++ [x]) = rowsP g v pre := by
  apply rows_ext (by simp [rowsP])
  intro y hy
  rw [rowsP_len] at hy
  rw [rowsP_at _ _ _ _ hy, rowsP_at _ _ _ _ hy]
  have e : ((y : Int) ∈ pre ++ [x]) ↔ (y : Int) ∈ pre := by
    rw [List.mem_append, List.mem_singleton]
    constructor
    · rintro (h | h)
      · exact h
      · rw [h]; exact hx
    · exact Or.inl
  simp [e]
theorem rowsP_new (g : List (List Int)) (v : Nat) (pre : List Int) (x : Nat) (hl : x < g.length) (hx : ¬ (x : Int) ∈ pre) : (rowsP g v pre).set x ((rowsP g v pre).getD x [] ++ [(v : Int)]) = rowsP g v (pre ++ [(x : Int)]) := by
  apply rows_ext (by simp [rowsP])
  intro y hy
  rw [List.length_set, rowsP_len] at hy
  by_cases e : y = x
  · subst e
    rw [getD_set_at _ _ _ _ (by rw [rowsP_len]; exact hy), rowsP_at _ _ _ _ hy, rowsP_at _ _ _ _ hy, if_neg hx, if_pos (by simp)]
    simp
  · rw [getD_set_off _ _ _ _ _ e, rowsP_at _ _ _ _ hy, rowsP_at _ _ _ _ hy]
    have e2 : ((y : Int) ∈ pre ++ [(x : Int)]) ↔ (y : Int) ∈ pre := by
      rw [List.mem_append, List.mem_singleton]
      constructor
      · rintro (h | h)
        · exact h
        · exact absurd (by omega) e
      · exact Or.inl
    simp [e2]
theorem revUp_lt (g : List (List Int)) (x v : Nat) : ∀ y ∈ revUp g x v, y < (v : Int) := by
  intro y hy
  simp only [revUp, List.mem_map, List.mem_filter, List.mem_range] at hy
  obtain ⟨u, ⟨h1, _⟩, rfl⟩ := hy
  omega
/-- The row's last number is v exactly if the edge was told before. -/
theorem rowsP_last (g : List (List Int)) (v : Nat) (pre : List Int) (x : Nat) (hl : x < g.length) (hne : (rowsP g v pre).getD x [] ≠ []) :
    ((rowsP g v pre).getD x []).getD (((rowsP g v pre).getD x []).length - 1) 0 = (v : Int) ↔ (x : Int) ∈ pre := by
  rw [rowsP_at g v pre x hl] at hne ⊢
  by_cases hm : (x : Int) ∈ pre
  · rw [if_pos hm]
    constructor
    · exact fun _ => hm
    · intro _; simp
  · rw [if_neg hm, List.append_nil] at hne ⊢
    constructor
    · intro h
      have hp := List.length_pos_iff.2 hne
      have hmem : (revUp g x v).getD ((revUp g x v).length - 1) 0 ∈ revUp g x v := getD_mem (by omega)
      have := revUp_lt g x v _ hmem
      omega
    · exact fun h => absurd h hm
theorem rowsP_small (g : List (List Int)) (v : Nat) (pre : List Int) (x : Nat) (hl : x < g.length) : ((rowsP g v pre).getD x []).length ≤ v + 1 := by
  rw [rowsP_at g v pre x hl, List.length_append]
  have := revUp_len g x v
  split <;> simp <;> omega
end Go.Proofs.Ytaikpjnegopelaa
