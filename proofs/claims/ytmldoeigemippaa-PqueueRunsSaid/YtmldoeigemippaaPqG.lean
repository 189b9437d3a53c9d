/- Lists of the reference's items in memory: rows of the call's own, slices that are read, append. -/
import Derived.Test.YtmldoeigemippaaPqT
import Derived.Deep.RegionWith
namespace Go.Proofs.Ytmldoeigemippaa
open Go.RowKit
set_option linter.unusedVariables false

/-- The cells of the reference's item with code c. -/
def itR (E : Int → Int) (c : Int) : List Value := [.int .i64 (kC c), .int .i64 (E (tC c))]
def RL (w : World) (base : Nat) (V : Value) (E : Int → Int) (T : List Int) : Prop := w.ownsRow base 52 2 V T.length (T.flatMap (itR E))
theorem RL.nil (w : World) (base : Nat) (E : Int → Int) : RL w base (.slice none 0 0) E [] := World.ownsRow_nil _ _ _ _
theorem RL.keep0 {w w2 : World} {base : Nat} {V : Value} {E : Int → Int} {T : List Int} (h : RL w base V E T) (k : w.grownBy w2 none) : RL w2 base V E T := own_keep0 h k
theorem RL.shape {w : World} {base : Nat} {V : Value} {E : Int → Int} {T : List Int} (h : RL w base V E T) : ∃ a c, V = .slice a T.length c := own_shape h
theorem itR_len (E : Int → Int) (T : List Int) : (T.flatMap (itR E)).length = T.length * 2 := by
  induction T with
  | nil => rfl
  | cons t s ih => rw [List.flatMap_cons, List.length_append, ih]; simp [itR]; omega
theorem itR_at (E : Int → Int) (T : List Int) (j : Nat) (h : j < T.length) : (T.flatMap (itR E))[j * 2]? = some (.int .i64 (kC (T.getD j 0))) ∧ (T.flatMap (itR E))[j * 2 + 1]? = some (.int .i64 (E (tC (T.getD j 0)))) := by
  induction T generalizing j with
  | nil => simp at h
  | cons t s ih =>
    cases j with
    | zero => simp [itR]
    | succ j =>
      have e0 : (j + 1) * 2 = j * 2 + 2 := by omega
      have e1 : (j + 1) * 2 + 1 = (j * 2 + 1) + 2 := by omega
      have k := ih j (by simpa using h)
      rw [List.flatMap_cons, e1, e0]
      simpa [itR] using k
theorem infoRI : (Try.prog.info? 52).map (fun i => (i.zero, i.size, i.bytes)) = some (some (.agg #[.int .i64 0, .int .i64 0]), 2, 16) := by kernel_rfl
theorem itR_one (E : Int → Int) (c : Int) : ∀ u ∈ itR E c, u.oneCell' = true := by
  intro u hu
  simp only [itR, List.mem_cons, List.not_mem_nil, or_false] at hu
  rcases hu with rfl | rfl <;> rfl
theorem itR_ones (E : Int → Int) (T : List Int) : ∀ u ∈ T.flatMap (itR E), u.oneCell' = true := by
  intro u hu
  obtain ⟨p, _, h⟩ := List.mem_flatMap.1 hu
  exact itR_one E p u h
theorem addr0 (g j : Nat) : ((⟨g, 0, none⟩ : Addr).add j) = ⟨g, j, none⟩ := by unfold Addr.add; split <;> simp_all
theorem addr1 (g i j : Nat) : ((⟨g, i, none⟩ : Addr).add j) = ⟨g, i + j, none⟩ := by unfold Addr.add; split <;> simp_all
theorem RL.at_ {w : World} {base g n c : Nat} {E : Int → Int} {T : List Int} (h : RL w base (.slice (some ⟨g, 0, none⟩) n c) E T) (hn : n = T.length) (j : Nat) (hj : j < n) :
    w.cell? ⟨g, j * 2, none⟩ = some (.int .i64 (kC (T.getD j 0))) ∧ w.cell? ⟨g, j * 2 + 1, none⟩ = some (.int .i64 (E (tC (T.getD j 0)))) := by
  subst hn
  obtain ⟨k1, k2⟩ := itR_at E T j hj
  exact ⟨by rw [World.ownsRow.cellAt h (j * 2) (by omega), k1], by rw [World.ownsRow.cellAt h (j * 2 + 1) (by omega), k2]⟩
theorem RL.headn {w : World} {base n : Nat} {V : Value} {E : Int → Int} {T : List Int} (h : RL w base V E T) (hn : n = T.length) (hp : 0 < n) : ∃ g c, V = .slice (some ⟨g, 0, none⟩) n c := by subst hn; exact own_head h hp
/-- One item behind the row. -/
theorem pushR {w : World} {ops : Array Oper} {rest : List Oper} {o : Oper} {a : Act} {Q : Exit → Act → World → Prop} (hgd : o.guard = none) (s x : Operand)
    (ho : o.op = .call { callee := .builtin .append, args := #[s, x], argTypes := #[28, 28] }) (base : Nat) (V : Value) (E : Int → Int) (M : List Int) (hs : a.eval s = V) (hown : RL w base V E M)
    (ad : Addr) (c : Nat) (T : Int) (hx : a.eval x = .slice (some ad) 1 c) (hT : ∀ j u, (itR E T)[j]? = some u → w.cell? (ad.add j) = some u) (hlen : M.length ≤ 1000000) (hbase : base ≤ w.heap.size)
    (h : ∀ V' w', RL w' base V' E (M ++ [T]) → w.grownBy w' V.ownBlock → wpList Try.prog ops Q rest (a.put o.dst V') w') : wpList Try.prog ops Q (o :: rest) a w := by
  obtain ⟨i0, hi, hz0, hz1, hz2⟩ := info_parts infoRI
  refine wpList_append_own w hgd s x 28 ho base 52 i0 _ 2 16 Try.underlying28 hi hz0 hz1 hz2 rfl (by decide) V M.length (M.flatMap (itR E)) hs hown ad 1 c (itR E T) hx rfl hT (itR_one E T) (by unfold maxLen; omega) (by omega) hbase ?_
  intro V' w' h1 h2 h3
  refine h V' w' ?_ h2
  unfold RL
  rw [List.flatMap_append, List.length_append]
  simpa using h1
theorem two_cell (w : World) (t : TypeId) (g : Nat) (E : Int → Int) (T : Int) (cs : Array Value) (h : IsB w g t cs) (hc : cs.toList = itR E T) : ∀ j u, (itR E T)[j]? = some u → w.cell? ((⟨g, 0, none⟩ : Addr).add j) = some u := by
  intro j u hj
  rw [addr0, h.cell j, ← hj, ← hc]
  simp
/-- A slice of items that is read: a part of a row. -/
def SR (w : World) (a : Option Addr) (n c : Nat) (E : Int → Int) (T : List Int) : Prop :=
  T.length = n ∧ (a = none → n = 0 ∧ c = 0) ∧ ∀ ad, a = some ad → ∀ j u, (T.flatMap (itR E))[j]? = some u → w.cell? (ad.add j) = some u
theorem SR.keep0 {w w2 : World} {a : Option Addr} {n c : Nat} {E : Int → Int} {T : List Int} (h : SR w a n c E T) (k : w.grownBy w2 none) : SR w2 a n c E T :=
  ⟨h.1, h.2.1, fun ad e j u hu => k.cell (h.2.2 ad e j u hu) (by simp)⟩
theorem SR.some_ {w : World} {a : Option Addr} {n c : Nat} {E : Int → Int} {T : List Int} (h : SR w a n c E T) (hn : 0 < n) : ∃ ad, a = some ad := by
  cases a with
  | none => have := (h.2.1 rfl).1; omega
  | some ad => exact ⟨ad, rfl⟩
theorem add_next (ad : Addr) (k : Nat) : (⟨(ad.add k).block, (ad.add k).off + 1, none⟩ : Addr) = ad.add (k + 1) := by
  rw [← Addr.add_add]
  rfl
theorem SR.at_ {w : World} {ad : Addr} {n c : Nat} {E : Int → Int} {T : List Int} (h : SR w (some ad) n c E T) (j : Nat) (hj : j < n) :
    w.cell? (ad.add (j * 2)) = some (.int .i64 (kC (T.getD j 0))) ∧ w.cell? ⟨(ad.add (j * 2)).block, (ad.add (j * 2)).off + 1, none⟩ = some (.int .i64 (E (tC (T.getD j 0)))) := by
  obtain ⟨k1, k2⟩ := itR_at E T j (by rw [h.1]; exact hj)
  rw [add_next]
  exact ⟨h.2.2 ad rfl _ _ k1, h.2.2 ad rfl _ _ k2⟩
theorem RL.sr {w : World} {base n c : Nat} {a : Option Addr} {E : Int → Int} {T : List Int} (h : RL w base (.slice a n c) E T) (hn : n = T.length) : SR w a n c E T := by
  subst hn
  refine ⟨rfl, ?_, ?_⟩
  · intro ha; subst ha
    rcases h.2 with ⟨k, h0⟩ | ⟨g, cap, cur, k, _⟩
    · injection k with _ _ kc; exact ⟨h0, kc⟩
    · injection k with k; cases k
  · intro ad ha j u hu; subst ha
    rcases h.2 with ⟨k, _⟩ | ⟨g, cap, cur, k, _⟩
    · injection k with k; cases k
    · injection k with k; injection k with k; subst k
      exact h.cells (g := g) rfl j u hu
theorem itR_take (E : Int → Int) (T : List Int) (m : Nat) : (T.take m).flatMap (itR E) = (T.flatMap (itR E)).take (m * 2) := by
  induction T generalizing m with
  | nil => simp
  | cons t s ih =>
    cases m with
    | zero => simp
    | succ m => rw [List.take_succ_cons, List.flatMap_cons, List.flatMap_cons, ih, show (m + 1) * 2 = (itR E t).length + m * 2 by simp [itR]; omega, List.take_length_add_append]
theorem itR_drop (E : Int → Int) (T : List Int) (m : Nat) : (T.drop m).flatMap (itR E) = (T.flatMap (itR E)).drop (m * 2) := by
  induction T generalizing m with
  | nil => simp
  | cons t s ih =>
    cases m with
    | zero => simp
    | succ m => rw [List.drop_succ_cons, List.flatMap_cons, ih, show (m + 1) * 2 = (itR E t).length + m * 2 by simp [itR]; omega, List.drop_length_add_append]
theorem SR.pre {w : World} {a : Option Addr} {n c : Nat} {E : Int → Int} {T : List Int} (h : SR w a n c E T) (m : Nat) (hm : m ≤ n) : SR w a m c E (T.take m) := by
  refine ⟨by rw [List.length_take, h.1]; omega, fun e => ⟨by have := (h.2.1 e).1; omega, (h.2.1 e).2⟩, fun ad e j u hu => ?_⟩
  rw [itR_take, List.getElem?_take] at hu
  split at hu
  · exact h.2.2 ad e j u hu
  · cases hu
theorem SR.cut {w : World} {g n c : Nat} {E : Int → Int} {T : List Int} (h : SR w (some ⟨g, 0, none⟩) n c E T) (m : Nat) (hm : m ≤ n) (hc : n ≤ c) : SR w (some (if c = m then (⟨g, 0, none⟩ : Addr) else ⟨g, m * 2, none⟩)) (n - m) (c - m) E (T.drop m) := by
  refine ⟨by rw [List.length_drop, h.1], (by intro e; cases e), fun ad e j u hu => ?_⟩
  injection e with e; subst e
  rw [itR_drop, List.getElem?_drop] at hu
  have hj := (List.getElem?_eq_some_iff.1 hu).1
  rw [itR_len, h.1] at hj
  rw [if_neg (by omega), addr1, ← addr0]
  exact h.2.2 _ rfl _ _ hu
theorem pushAllR {w : World} {ops : Array Oper} {rest : List Oper} {o : Oper} {a : Act} {Q : Exit → Act → World → Prop} (hgd : o.guard = none) (s x : Operand)
    (ho : o.op = .call { callee := .builtin .append, args := #[s, x], argTypes := #[28, 28] }) (base : Nat) (V : Value) (E : Int → Int) (M : List Int) (hs : a.eval s = V) (hown : RL w base V E M)
    (ad : Option Addr) (m c : Nat) (L : List Int) (hx : a.eval x = .slice ad m c) (hL : SR w ad m c E L) (hlen : M.length + L.length ≤ 1000000) (hbase : base ≤ w.heap.size)
    (h : ∀ V' w', RL w' base V' E (M ++ L) → w.grownBy w' V.ownBlock → wpList Try.prog ops Q rest (a.put o.dst V') w') : wpList Try.prog ops Q (o :: rest) a w := by
  obtain ⟨i0, hi, hz0, hz1, hz2⟩ := info_parts infoRI
  have hl := hL.1
  subst hl
  cases ad with
  | none =>
    obtain ⟨h0, rfl⟩ := hL.2.1 rfl
    have hm : L = [] := List.length_eq_zero_iff.1 h0
    subst hm
    refine wpList_append_own_none hgd s x 28 ho base 52 i0 2 Try.underlying28 hi V M.length (M.flatMap (itR E)) hs hown hx ?_
    refine h V w (by simpa using hown) ?_
    cases V.ownBlock <;> exact gb_refl _ _
  | some ad =>
    refine wpList_append_own w hgd s x 28 ho base 52 i0 _ 2 16 Try.underlying28 hi hz0 hz1 hz2 rfl (by decide) V M.length (M.flatMap (itR E)) hs hown ad L.length c (L.flatMap (itR E)) hx (itR_len E L) (hL.2.2 ad rfl) (itR_ones E L) (by unfold maxLen; omega) (by omega) hbase ?_
    intro V' w' h1 h2 h3
    refine h V' w' ?_ h2
    unfold RL
    rw [List.flatMap_append, List.length_append]
    exact h1
/-- A returned list of items. -/
theorem itR_upd (E : Int → Int) (p x : Int) (T : List Int) (h : ∀ c ∈ T, tC c ≠ p) : T.flatMap (itR (upd E p x)) = T.flatMap (itR E) := by
  induction T with
  | nil => rfl
  | cons a s ih =>
    rw [List.flatMap_cons, List.flatMap_cons, ih fun c hc => h c (List.mem_cons_of_mem _ hc)]
    have : upd E p x (tC a) = E (tC a) := if_neg (h a List.mem_cons_self)
    unfold itR
    rw [this]
theorem RL.upd {w : World} {base : Nat} {V : Value} {E : Int → Int} {T : List Int} (h : RL w base V E T) (p x : Int) (hp : ∀ c ∈ T, tC c ≠ p) : RL w base V (upd E p x) T := by
  unfold RL; rw [itR_upd E p x T hp]; exact h
end Go.Proofs.Ytmldoeigemippaa
