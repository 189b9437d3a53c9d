/- Appending numbers to a row of the call's own; a graph reversed: the reference's walk. -/
import Derived.Test.YtaikpjnegopelaaGrD
namespace Go.Proofs.Ytaikpjnegopelaa
open Go.RowKit
set_option linter.unusedVariables false

theorem npush_any {w : World} {ops : Array Oper} {rest : List Oper} {o : Oper} {a : Act} {Q : Exit → Act → World → Prop} (hgd : o.guard = none) (s x : Operand)
    (ho : o.op = .call { callee := .builtin .append, args := #[s, x], argTypes := #[31, 31] }) (base : Nat) (V : Value) (L : List Int) (hs : a.eval s = V) (hown : NL w base V L)
    (ad : Option Addr) (m c : Nat) (M : List Int) (hx : a.eval x = .slice ad m c) (hM : SlR w ad m c (M.map (Value.int .i64))) (hlen : L.length + M.length ≤ 1000000) (hbase : base ≤ w.heap.size)
    (h : ∀ V' w', NL w' base V' (L ++ M) → w.grownBy w' V.ownBlock → wpList Try.prog ops Q rest (a.put o.dst V') w') : wpList Try.prog ops Q (o :: rest) a w := by
  obtain ⟨i0, hi, hz0, hz1, hz2⟩ := info_parts infoI64
  have hl : M.length = m := by simpa using hM.1
  subst hl
  cases ad with
  | none =>
    obtain ⟨h0, rfl⟩ := hM.2.1 rfl
    have hm : M = [] := List.length_eq_zero_iff.1 h0
    subst hm
    refine wpList_append_own_none hgd s x 31 ho base 3 i0 1 Try.underlying31 hi V L.length (L.map (Value.int .i64)) hs hown hx ?_
    refine h V w (by simpa [NL] using hown) ?_
    cases V.ownBlock <;> exact gb_refl _ _
  | some ad =>
    refine wpList_append_own w hgd s x 31 ho base 3 i0 (.int .i64 0) 1 8 Try.underlying31 hi hz0 hz1 hz2 rfl (by decide) V L.length (L.map (Value.int .i64)) hs hown ad M.length c (M.map (Value.int .i64)) hx (by simp) (hM.2.2 ad rfl) (ints_one _ _) (by unfold maxLen; omega) (by omega) hbase ?_
    intro V' w' h1 h2 h3
    exact h V' w' (by simpa [NL] using h1) h2
theorem infoInts : (Try.prog.info? 31).map (fun i => (i.zero, i.size, i.bytes)) = some (some (.slice none 0 0), 1, 24) := by kernel_rfl

theorem slr_one (w : World) (k : IntKind) (x : Int) (t : TypeId) (g : Nat) (hg : g = w.heap.size) : SlR (w.alloc (.cells #[.int k x] t)) (some ⟨g, 0, none⟩) 1 1 ([x].map (Value.int k)) := by
  subst hg; exact slr_new w k [x] t
/-- What the growth of a call's own row is, to what was there before. -/
theorem gb_own {w w2 : World} {base : Nat} {e : TypeId} {size n : Nat} {v : Value} {xs : List Value} {w0 : World} (h0 : w0.grownBy w none) (hown : w.ownsRow base e size v n xs) (hb : w0.heap.size ≤ base) (k : w.grownBy w2 v.ownBlock) : w0.grownBy w2 none := by
  refine ⟨k.os.trans h0.os, k.tape.trans h0.tape, k.output.trans h0.output, Nat.le_trans h0.size k.size, fun i hi hn => ?_⟩
  refine (k.block i (Nat.lt_of_lt_of_le hi h0.size) ?_).trans (h0.block i hi (by simp))
  intro e1
  have := hown.lt i e1.symm
  omega

/-- The nodes below y with an edge to x. -/
def revUp (g : List (List Int)) (x y : Nat) : List Int := ((List.range y).filter fun v : Nat => gEdge g (v : Int) (x : Int)).map fun v : Nat => (v : Int)
def revG (g : List (List Int)) : List (List Int) := (List.range g.length).map fun x => revUp g x g.length
theorem revUp_yes {g : List (List Int)} {x y : Nat} (h : gEdge g y x = true) : revUp g x (y + 1) = revUp g x y ++ [(y : Int)] := by
  unfold revUp; rw [List.range_succ, List.filter_append, List.map_append]; simp [h]
theorem revUp_no {g : List (List Int)} {x y : Nat} (h : gEdge g y x = false) : revUp g x (y + 1) = revUp g x y := by
  unfold revUp; rw [List.range_succ, List.filter_append, List.map_append]; simp [h]
theorem revUp_len (g : List (List Int)) (x y : Nat) : (revUp g x y).length ≤ y := by
  unfold revUp; rw [List.length_map]; exact Nat.le_trans (List.length_filter_le _ _) (by simp)

theorem blk_ne {u : Value} {r : Option Nat} (h : ∀ q, u.ownBlock = some q → r ≠ some q) : u.ownBlock = none ∨ u.ownBlock ≠ r := by
  cases hu : u.ownBlock with
  | none => exact .inl rfl
  | some q => exact .inr fun e => h q hu e.symm
/-- The rows of a graph under construction: block b holds the rows' heads; the first x are done. -/
structure RV (W : World) (b n x : Nat) (g : List (List Int)) (Vs : List Value) (w : World) : Prop where
  len : Vs.length = n
  blk : IsB w b 31 Vs.toArray
  done : ∀ j, j < x → ∀ u, Vs[j]? = some u → NL w (b + 1) u (revUp g j n)
  todo : ∀ j, x ≤ j → j < n → Vs[j]? = some (.slice none 0 0)
  grown : W.grownBy w none
/-- .. row x, in the making, up to y. -/
structure RX (W : World) (b n x y : Nat) (g : List (List Int)) (Vs : List Value) (base : Nat) (V : Value) (w : World) : Prop where
  len : Vs.length = n
  blk : IsB w b 31 (Vs.set x V).toArray
  done : ∀ j, j < x → ∀ u, Vs[j]? = some u → NL w (b + 1) u (revUp g j n) ∧ ∀ k, u.ownBlock = some k → k < base
  todo : ∀ j, x ≤ j → j < n → Vs[j]? = some (.slice none 0 0)
  now : NL w base V (revUp g x y)
  low : b < base ∧ base ≤ w.heap.size
  grown : W.grownBy w none
theorem RV.start {W : World} {b n x : Nat} {g : List (List Int)} {Vs : List Value} {w : World} (h : RV W b n x g Vs w) (hx : x < n) : RX W b n x 0 g Vs w.heap.size (.slice none 0 0) w := by
  refine ⟨h.len, ?_, ?_, h.todo, ?_, ⟨h.blk.lt, Nat.le_refl _⟩, h.grown⟩
  · have e := h.todo x (Nat.le_refl _) hx
    have hl : x < Vs.length := by rw [h.len]; exact hx
    have e2 : Vs.set x (.slice none 0 0) = Vs := by
      apply List.ext_getElem (by simp)
      intro i h1 h2
      rw [List.getElem_set]
      split
      · rename_i q; subst q
        rw [List.getElem?_eq_getElem hl] at e
        injection e with e; exact e.symm
      · rfl
    rw [e2]; exact h.blk
  · intro j hj u hu
    refine ⟨h.done j hj u hu, fun k hk => ?_⟩
    exact ((h.done j hj u hu).lt k hk).2
  · exact NL.nil _ _
theorem RX.keep {W : World} {b n x y : Nat} {g : List (List Int)} {Vs : List Value} {base : Nat} {V : Value} {w w2 : World} (h : RX W b n x y g Vs base V w) (k : w.grownBy w2 none) : RX W b n x y g Vs base V w2 :=
  ⟨h.len, h.blk.keep0 k, fun j hj u hu => ⟨(h.done j hj u hu).1.keep0 k, (h.done j hj u hu).2⟩, h.todo, h.now.keep0 k, ⟨h.low.1, Nat.le_trans h.low.2 k.size⟩, gb_trans h.grown k⟩
theorem RX.skip {W : World} {b n x y : Nat} {g : List (List Int)} {Vs : List Value} {base : Nat} {V : Value} {w : World} (h : RX W b n x y g Vs base V w) (e : gEdge g y x = false) : RX W b n x (y + 1) g Vs base V w :=
  ⟨h.len, h.blk, h.done, h.todo, by rw [revUp_no e]; exact h.now, h.low, h.grown⟩
theorem RX.step {W : World} {b n x y : Nat} {g : List (List Int)} {Vs : List Value} {base : Nat} {V V2 : Value} {w w2 : World} (h : RX W b n x y g Vs base V w) (hx : x < n) (hW : W.heap.size ≤ b) (o : NL w2 base V2 (revUp g x (y + 1))) (k : w.grownBy w2 V.ownBlock) :
    RX W b n x (y + 1) g Vs base V2 (w2.setCell ⟨b, x, none⟩ V2) := by
  have hlt := fun q (hq : V.ownBlock = some q) => (h.now.lt q hq).1
  have far : ∀ q, V.ownBlock = some q → base ≤ q := hlt
  have hb2 : IsB w2 b 31 (Vs.set x V).toArray := h.blk.keep k (fun e => by have := far b e.symm; have := h.low.1; omega)
  have hs := gb_set w2 b x V2
  refine ⟨h.len, ?_, ?_, h.todo, ?_, ⟨h.low.1, ?_⟩, ?_⟩
  · have q := hb2.set x V2
    rw [List.setIfInBounds_toArray, List.set_set] at q
    exact q
  · intro j hj u hu
    obtain ⟨d1, d2⟩ := h.done j hj u hu
    refine ⟨?_, d2⟩
    have s1 : NL w2 (b + 1) u (revUp g j n) := World.ownsRow.kept d1 k (blk_ne fun q hq e => by
      have h1 := d2 q hq
      have h2 := far q e
      omega)
    exact World.ownsRow.kept s1 hs (blk_ne fun q hq e => by
      have h1 := (World.ownsRow.lt d1 q hq).1
      injection e with e
      omega)
  · exact World.ownsRow.kept o hs (blk_ne fun q hq e => by
      have h1 := (World.ownsRow.lt o q hq).1
      have := h.low.1
      injection e with e
      omega)
  · exact Nat.le_trans h.low.2 (Nat.le_trans k.size hs.size)
  · refine gb_new (g := b) (gb_trans ?_ hs) hW
    exact gb_any (gb_own h.grown h.now (Nat.le_trans hW (Nat.le_of_lt h.low.1)) k)
theorem RX.free {W : World} {b n x y : Nat} {g : List (List Int)} {Vs : List Value} {base : Nat} {V : Value} {w w2 : World} (h : RX W b n x y g Vs base V w) (k : w.grownBy w2 V.ownBlock) : w2.frozen? ⟨b, x, none⟩ = false ∧ ∃ cs, IsB w2 b 31 cs ∧ cs.size = n := by
  have hb2 : IsB w2 b 31 (Vs.set x V).toArray := h.blk.keep k (fun e => by have := (World.ownsRow.lt h.now b e.symm).1; have := h.low.1; omega)
  exact ⟨hb2.free x, _, hb2, by simp [h.len]⟩
theorem RX.end_ {W : World} {b n x : Nat} {g : List (List Int)} {Vs : List Value} {base : Nat} {V : Value} {w : World} (h : RX W b n x n g Vs base V w) (hx : x < n) : RV W b n (x + 1) g (Vs.set x V) w := by
  refine ⟨by simpa using h.len, h.blk, ?_, ?_, h.grown⟩
  · intro j hj u hu
    by_cases e : j = x
    · subst e
      rw [List.getElem?_set_self (by rw [h.len]; exact hx)] at hu
      injection hu with hu; subst hu
      exact own_low h.now h.low.1
    · rw [List.getElem?_set_ne (fun q => e q.symm)] at hu
      exact (h.done j (by omega) u hu).1
  · intro j hj hn
    rw [List.getElem?_set_ne (by omega)]
    exact h.todo j (by omega) hn
theorem RV.slg {W : World} {b n : Nat} {g : List (List Int)} {Vs : List Value} {w : World} (h : RV W b n n g Vs w) (hg : g.length = n) (hn : n ≤ 100000) : SlG w (some ⟨b, 0, none⟩) n n (revG g) := by
  refine ⟨by simp [revG, hg], by simp, by omega, ?_⟩
  intro ad ha j zs hz
  injection ha with ha; subst ha
  have hj : j < n := by
    have := (List.getElem?_eq_some_iff.1 hz).1
    simpa [revG, hg] using this
  have hl : j < Vs.length := by rw [h.len]; exact hj
  have e : zs = revUp g j n := by
    simp [revG, hg, hj] at hz; exact hz.symm
  subst e
  have d := h.done j hj Vs[j] (by simp [hl])
  obtain ⟨A, C, hv⟩ := d.shape
  rw [hv] at d
  refine ⟨A, _, C, ?_, d.slr rfl, by have := revUp_len g j n; omega⟩
  have e1 : ((⟨b, 0, none⟩ : Addr).add j) = ⟨b, j, none⟩ := by unfold Addr.add; split <;> simp_all
  rw [e1, h.blk.cell j, ← hv]
  simp [hl]
end Go.Proofs.Ytaikpjnegopelaa
