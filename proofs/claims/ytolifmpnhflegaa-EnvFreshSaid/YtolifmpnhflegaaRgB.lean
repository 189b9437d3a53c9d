/- Register: rows of the call's own: what a store, a longer row, a changed row leave; appends; no condition. -/
import Derived.Test.YtolifmpnhflegaaRgA
namespace Go.Proofs.Ytolifmpnhflegaa
open Go.RowKit
set_option linter.unusedVariables false
theorem infoU32 : (Try.prog.info? 49).map (fun i => (i.zero, i.size, i.bytes)) = some (some (.int .u32 0), 1, 4) := by kernel_rfl
theorem infoRow : (Try.prog.info? 34).map (fun i => (i.zero, i.size, i.bytes)) = some (some (.slice none 0 0), 1, 24) := by kernel_rfl
theorem own_gone {w w2 : World} {base g : Nat} {e : TypeId} {size n : Nat} {v : Value} {xs : List Value} (h : w.ownsRow base e size v n xs) (k : w.grownBy w2 (some g)) (hg : v.ownBlock ≠ some g) : w2.ownsRow base e size v n xs :=
  h.kept k (.inr hg)
theorem nu_ne {w : World} {base b2 : Nat} {V V2 : Value} {n : Nat} {xs : List Value} {L : List Int} (h : w.ownsRow base 34 1 V n xs) (o : NU w b2 V2 L) : ∀ g, V2.ownBlock = some g → V.ownBlock ≠ some g := by
  intro g hg hv
  rcases o.2 with ⟨rfl, _⟩ | ⟨g', cap, cur, rfl, _, hgg, _⟩
  · simp [Value.ownBlock] at hg
  · simp [Value.ownBlock] at hg
    subst hg
    exact own_ne h (show IsB w g' 49 cur from hgg) (by decide) hv
theorem getD_set_at {α : Type} (L : List α) (x : Nat) (v d : α) (h : x < L.length) : (L.set x v).getD x d = v := by simp [h]
theorem getD_set_off {α : Type} (L : List α) (x y : Nat) (v d : α) (h : y ≠ x) : (L.set x v).getD y d = L.getD y d := by simp [List.getD_eq_getElem?_getD, List.getElem?_set_ne (Ne.symm h)]
theorem rng_set {L : List (List Int)} (h : ∀ l ∈ L, ∀ x ∈ l, 0 ≤ x ∧ x < 4294967296) (j : Nat) (l : List Int) (hl : ∀ x ∈ l, 0 ≤ x ∧ x < 4294967296) : ∀ m ∈ L.set j l, ∀ x ∈ m, 0 ≤ x ∧ x < 4294967296 := by
  intro m hm
  rcases List.mem_or_eq_of_mem_set hm with h1 | rfl
  · exact h m h1
  · exact hl
/-- A head is stored: the row behind it is a new one. -/
theorem OR.put {w w2 : World} {base g n c : Nat} {L : List (List Int)} {Vs : List Value} (h : OR w base (.slice (some ⟨g, 0, none⟩) n c) L Vs) (hn : L.length = n) (x : Nat) (hx : x < n) (V' : Value) (l : List Int) (k : w.grownBy w2 none) (o : NU w2 base V' l)
    (hb : ∀ q, V'.ownBlock = some q → w.heap.size ≤ q) (hr : ∀ y ∈ l, 0 ≤ y ∧ y < 4294967296) : OR (w2.setCell ⟨g, x, none⟩ V') base (.slice (some ⟨g, 0, none⟩) n c) (L.set x l) (Vs.set x V') := by
  subst hn
  have h2 := h.keep0 k
  have st := World.ownsRow.stored h2.out x V'
  have hxV : x < Vs.length := by rw [h.nV]; exact hx
  refine ⟨by rw [List.length_set]; exact st.1, ?_, ?_, rng_set h.rng x l hr⟩
  · intro y hy
    have hy : y < L.length := by simpa using hy
    by_cases e : y = x
    · subst e
      rw [getD_set_at _ _ _ _ hxV, getD_set_at _ _ _ _ hx]
      exact o.kept st.2 (.inr fun q => nu_ne h2.out o g q rfl)
    · rw [getD_set_off _ _ _ _ _ e, getD_set_off _ _ _ _ _ e]
      exact (h2.own y hy).kept st.2 (.inr fun q => nu_ne h2.out (h2.own y hy) g q rfl)
  · intro y z hy hz hne q hq
    rw [List.length_set] at hy hz
    by_cases e : y = x
    · subst e
      rw [getD_set_at _ _ _ _ hxV] at hq
      rw [getD_set_off _ _ _ _ _ (Ne.symm hne)]
      intro hz2
      have := (World.ownsRow.lt (h.own z hz) q hz2).2
      have := hb q hq
      omega
    · rw [getD_set_off _ _ _ _ _ e] at hq
      by_cases e2 : z = x
      · subst e2
        rw [getD_set_at _ _ _ _ hxV]
        intro hz2
        have := (World.ownsRow.lt (h.own y hy) q hq).2
        have := hb q hz2
        omega
      · rw [getD_set_off _ _ _ _ _ e2]
        exact h.dis y z hy hz hne q hq
/-- A row is changed where it lies. -/
theorem OR.upd {w w2 : World} {base : Nat} {V : Value} {L : List (List Int)} {Vs : List Value} (h : OR w base V L Vs) (x : Nat) (hx : x < L.length) (l : List Int) (g : Nat) (hg : (Vs.getD x nilV).ownBlock = some g) (k : w.grownBy w2 (some g)) (o : NU w2 base (Vs.getD x nilV) l)
    (hr : ∀ y ∈ l, 0 ≤ y ∧ y < 4294967296) : OR w2 base V (L.set x l) Vs := by
  refine ⟨by rw [List.length_set]; exact h.out.kept k (.inr (nu_ne h.out (h.own x hx) g hg)), ?_, fun y z hy hz => h.dis y z (by simpa using hy) (by simpa using hz), rng_set h.rng x l hr⟩
  intro y hy
  have hy : y < L.length := by simpa using hy
  by_cases e : y = x
  · subst e
    rw [getD_set_at _ _ _ _ hx]
    exact o
  · rw [getD_set_off _ _ _ _ _ e]
    refine (h.own y hy).kept k (.inr fun q => ?_)
    exact h.dis y x hy hx e g q hg
/-- A longer row of heads: the new one leads to a new row. -/
theorem OR.more {w w1 w2 : World} {base : Nat} {V V2 R : Value} {L : List (List Int)} {Vs : List Value} (h : OR w base V L Vs) (k : w.grownBy w1 none) (l : List Int) (o : NU w1 base R l) (hb : ∀ q, R.ownBlock = some q → w.heap.size ≤ q) (hr : ∀ y ∈ l, 0 ≤ y ∧ y < 4294967296)
    (k2 : w1.grownBy w2 V.ownBlock) (out : w2.ownsRow base 34 1 V2 (Vs ++ [R]).length (Vs ++ [R])) : OR w2 base V2 (L ++ [l]) (Vs ++ [R]) := by
  have h1 := h.keep0 k
  have nV := h.nV
  have far : ∀ (R2 : Value) (l2 : List Int), NU w1 base R2 l2 → NU w2 base R2 l2 := by
    intro R2 l2 o2
    cases e : V.ownBlock with
    | none => rw [e] at k2; exact o2.keep0 k2
    | some g =>
      rw [e] at k2
      exact o2.kept k2 (.inr fun q => nu_ne h1.out o2 g q e)
  have atV : ∀ x, x < L.length → (Vs ++ [R]).getD x nilV = Vs.getD x nilV := by
    intro x hx
    simp [List.getD_eq_getElem?_getD, List.getElem?_append_left (show x < Vs.length by omega)]
  have atL : ∀ x, x < L.length → (L ++ [l]).getD x [] = L.getD x [] := by
    intro x hx
    simp [List.getD_eq_getElem?_getD, List.getElem?_append_left hx]
  have endV : (Vs ++ [R]).getD L.length nilV = R := by
    rw [← nV]; simp [List.getD_eq_getElem?_getD]
  have endL : (L ++ [l]).getD L.length [] = l := by simp [List.getD_eq_getElem?_getD]
  refine ⟨by simpa [nV] using out, ?_, ?_, ?_⟩
  · intro x hx
    simp at hx
    by_cases e : x = L.length
    · subst e; rw [endV, endL]; exact far _ _ o
    · rw [atV x (by omega), atL x (by omega)]; exact far _ _ (h1.own x (by omega))
  · intro x y hx hy hne q hq
    simp at hx hy
    by_cases e : x = L.length
    · subst e
      rw [endV] at hq
      rw [atV y (by omega)]
      intro h3
      have := (World.ownsRow.lt (h.own y (by omega)) q h3).2
      have := hb q hq
      omega
    · rw [atV x (by omega)] at hq
      by_cases e2 : y = L.length
      · subst e2
        rw [endV]
        intro h3
        have := (World.ownsRow.lt (h.own x (by omega)) q hq).2
        have := hb q h3
        omega
      · rw [atV y (by omega)]
        exact h.dis x y (by omega) (by omega) hne q hq
  · intro m hm
    simp at hm
    rcases hm with h2 | rfl
    · exact h.rng m h2
    · exact hr
theorem or_nil (w : World) (base : Nat) : OR w base (.slice none 0 0) [] [] :=
  ⟨World.ownsRow_nil _ _ _ _, fun x hx => by simp at hx, fun x y hx => by simp at hx, fun l hl => by cases hl⟩
/-- Rows made empty. -/
theorem or_made (w : World) (n : Nat) (hm : n ≤ maxLen) : OR (w.alloc (.cells (madeCells #[.slice none 0 0] n) 34)) w.heap.size (.slice (some ⟨w.heap.size, 0, none⟩) n n) (List.replicate n []) (List.replicate n nilV) := by
  refine ⟨?_, ?_, ?_, ?_⟩
  · have k := World.ownsRow_lit (base := w.heap.size) (e := 34) (size := 1) w (madeCells #[.slice none 0 0] n) n (Nat.le_refl _) hm (by simp [madeCells])
    rw [made_zero] at k
    simpa [nilV] using k
  · intro x hx
    simp at hx
    have e1 : (List.replicate n nilV).getD x nilV = nilV := by simp [hx]
    have e2 : (List.replicate n ([] : List Int)).getD x [] = [] := by simp [hx]
    rw [e1, e2]
    exact World.ownsRow_nil _ _ _ _
  · intro x y hx hy _ q hq
    simp at hx
    have e1 : (List.replicate n nilV).getD x nilV = nilV := by simp [hx]
    rw [e1] at hq
    simp [nilV, Value.ownBlock] at hq
  · intro l hl
    have := List.eq_of_mem_replicate hl
    subst this
    intro x hx; cases hx
theorem upush_any {w : World} {ops : Array Oper} {rest : List Oper} {o : Oper} {a : Act} {Q : Exit → Act → World → Prop} (hgd : o.guard = none) (s x : Operand)
    (ho : o.op = .call { callee := .builtin .append, args := #[s, x], argTypes := #[34, 34] }) (base : Nat) (V : Value) (L : List Int) (hs : a.eval s = V) (hown : NU w base V L)
    (ad : Option Addr) (m c : Nat) (M : List Int) (hx : a.eval x = .slice ad m c) (hM : SU w ad m c M) (hlen : L.length + M.length ≤ 1000000) (hbase : base ≤ w.heap.size)
    (h : ∀ V' w', NU w' base V' (L ++ M) → w.grownBy w' V.ownBlock → wpList Try.prog ops Q rest (a.put o.dst V') w') : wpList Try.prog ops Q (o :: rest) a w := by
  obtain ⟨i0, hi, hz0, hz1, hz2⟩ := info_parts infoU32
  have hS := hM.slr
  have hl : M.length = m := hM.len
  subst hl
  cases ad with
  | none =>
    obtain ⟨h0, rfl⟩ := hM.nil rfl
    have hm : M = [] := List.length_eq_zero_iff.1 h0
    subst hm
    refine wpList_append_own_none hgd s x 34 ho base 49 i0 1 Try.underlying34 hi V L.length (L.map (Value.int .u32)) hs hown hx ?_
    refine h V w (by simpa [NU] using hown) ?_
    cases V.ownBlock <;> exact gb_refl _ _
  | some ad =>
    refine wpList_append_own w hgd s x 34 ho base 49 i0 (.int .u32 0) 1 4 Try.underlying34 hi hz0 hz1 hz2 rfl (by decide) V L.length (L.map (Value.int .u32)) hs hown ad M.length c (M.map (Value.int .u32)) hx (by simp) (hS.2.2 ad rfl) (ints_one _ _) (by unfold maxLen; omega) (by omega) hbase ?_
    intro V' w' h1 h2 h3
    exact h V' w' (by simpa [NU] using h1) h2
theorem rpush_any {w : World} {ops : Array Oper} {rest : List Oper} {o : Oper} {a : Act} {Q : Exit → Act → World → Prop} (hgd : o.guard = none) (s x : Operand)
    (ho : o.op = .call { callee := .builtin .append, args := #[s, x], argTypes := #[33, 33] }) (base : Nat) (V : Value) (Vs : List Value) (hs : a.eval s = V) (hown : w.ownsRow base 34 1 V Vs.length Vs)
    (ad : Addr) (c : Nat) (R : Value) (hx : a.eval x = .slice (some ad) 1 c) (hM : ∀ (j : Nat) (u : Value), ([R] : List Value)[j]? = some u → w.cell? (ad.add j) = some u) (hR : R.oneCell' = true) (hlen : Vs.length + 1 ≤ 1000000) (hbase : base ≤ w.heap.size)
    (h : ∀ V' w', w'.ownsRow base 34 1 V' (Vs ++ [R]).length (Vs ++ [R]) → w.grownBy w' V.ownBlock → wpList Try.prog ops Q rest (a.put o.dst V') w') : wpList Try.prog ops Q (o :: rest) a w := by
  obtain ⟨i0, hi, hz0, hz1, hz2⟩ := info_parts infoRow
  refine wpList_append_own w hgd s x 33 ho base 34 i0 (.slice none 0 0) 1 24 Try.underlying33 hi hz0 hz1 hz2 rfl (by decide) V Vs.length Vs hs hown ad 1 c [R] hx (by simp) hM (one_one _ hR) (by unfold maxLen; omega) (by omega) hbase ?_
  intro V' w' h1 h2 h3
  exact h V' w' (by simpa using h1) h2
/-- The row of numbers that a copy fills. -/
theorem nu_zero (w : World) (n : Nat) (hm : n ≤ maxLen) : NU (w.alloc (.cells (madeCells #[.int .u32 0] n) 49)) w.heap.size (.slice (some ⟨w.heap.size, 0, none⟩) n n) (List.replicate n 0) := by
  have k := World.ownsRow_lit (base := w.heap.size) (e := 49) (size := 1) w (madeCells #[.int .u32 0] n) n (Nat.le_refl _) hm (by simp [madeCells])
  rw [made_zero] at k
  simpa [NU] using k
theorem zero_rng (n : Nat) : ∀ x ∈ List.replicate n (0 : Int), 0 ≤ x ∧ x < 4294967296 := by
  intro x hx
  have := List.eq_of_mem_replicate hx
  subst this; exact ⟨Int.le_refl _, by decide⟩
end Go.Proofs.Ytolifmpnhflegaa
