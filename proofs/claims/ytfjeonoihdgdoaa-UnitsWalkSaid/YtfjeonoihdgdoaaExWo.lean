/- Rows of numbers of the call's own, and appending to them; no condition. -/
import Derived.Test.YtfjeonoihdgdoaaExL
namespace Go.Proofs.Ytfjeonoihdgdoaa
open Go.RowKit
set_option linter.unusedVariables false
/-- A slice of numbers that the call owns. -/
def NL (w : World) (base : Nat) (V : Value) (L : List Int) : Prop := w.ownsRow base 3 1 V L.length (L.map (Value.int .i64))
theorem NL.nil (w : World) (base : Nat) : NL w base (.slice none 0 0) [] := World.ownsRow_nil _ _ _ _
theorem NL.keep0 {w w2 : World} {base : Nat} {V : Value} {L : List Int} (h : NL w base V L) (k : w.grownBy w2 none) : NL w2 base V L := own_keep0 h k
theorem NL.shape {w : World} {base : Nat} {V : Value} {L : List Int} (h : NL w base V L) : ∃ a c, V = .slice a L.length c := own_shape h
theorem NL.slr {w : World} {base c n : Nat} {a : Option Addr} {L : List Int} (h : NL w base (.slice a n c) L) (hn : n = L.length) : SlR w a n c (L.map (Value.int .i64)) := by subst hn; exact own_slr h
theorem NL.low {w : World} {base g n c : Nat} {L : List Int} (h : NL w base (.slice (some ⟨g, 0, none⟩) n c) L) : base ≤ g := (h.lt g rfl).1
theorem NL.put {w : World} {base g n c : Nat} {L : List Int} (h : NL w base (.slice (some ⟨g, 0, none⟩) n c) L) (hn : n = L.length) (p : Nat) (v : Int) :
    NL (w.setCell ⟨g, p, none⟩ (.int .i64 v)) base (.slice (some ⟨g, 0, none⟩) n c) (L.set p v) := by
  subst hn
  have k := (World.ownsRow.stored h p (.int .i64 v)).1
  unfold NL
  rw [List.map_set, List.length_set]
  exact k
theorem NL.free {w : World} {base g n c : Nat} {L : List Int} (h : NL w base (.slice (some ⟨g, 0, none⟩) n c) L) (hn : n = L.length) (p : Nat) : w.frozen? ⟨g, p, none⟩ = false := by
  subst hn
  obtain ⟨cs, hb⟩ := own_blk h
  exact hb.free p
theorem NL.at_ {w : World} {base g n c : Nat} {L : List Int} (h : NL w base (.slice (some ⟨g, 0, none⟩) n c) L) (hn : n = L.length) (p : Nat) (hp : p < L.length) : w.cell? ⟨g, p, none⟩ = some (.int .i64 (L.getD p 0)) := by
  subst hn
  exact own_cell h p hp
theorem NL.headn {w : World} {base n : Nat} {V : Value} {L : List Int} (h : NL w base V L) (hn : n = L.length) (hp : 0 < n) : ∃ g c, V = .slice (some ⟨g, 0, none⟩) n c := by subst hn; exact own_head h hp
/-- The call returns a row of numbers of its own; beside it the world only grew. -/
def RetN (base : Nat) (L : List Int) (w : World) (e : Ending) (w' : World) : Prop := ∃ V, e = .returned V ∧ NL w' base V L ∧ w.grownBy w' none
theorem infoI64 : (Try.prog.info? 3).map (fun i => (i.zero, i.size, i.bytes)) = some (some (.int .i64 0), 1, 8) := by kernel_rfl

theorem npush_any {w : World} {ops : Array Oper} {rest : List Oper} {o : Oper} {a : Act} {Q : Exit → Act → World → Prop} (hgd : o.guard = none) (s x : Operand)
    (ho : o.op = .call { callee := .builtin .append, args := #[s, x], argTypes := #[29, 29] }) (base : Nat) (V : Value) (L : List Int) (hs : a.eval s = V) (hown : NL w base V L)
    (ad : Option Addr) (m c : Nat) (M : List Int) (hx : a.eval x = .slice ad m c) (hM : SlR w ad m c (M.map (Value.int .i64))) (hlen : L.length + M.length ≤ 1000000) (hbase : base ≤ w.heap.size)
    (h : ∀ V' w', NL w' base V' (L ++ M) → w.grownBy w' V.ownBlock → wpList Try.prog ops Q rest (a.put o.dst V') w') : wpList Try.prog ops Q (o :: rest) a w := by
  obtain ⟨i0, hi, hz0, hz1, hz2⟩ := info_parts infoI64
  have hl : M.length = m := by simpa using hM.1
  subst hl
  cases ad with
  | none =>
    obtain ⟨h0, rfl⟩ := hM.2.1 rfl
    have hm : M = [] := List.length_eq_zero_iff.1 h0
    subst hm
    refine wpList_append_own_none hgd s x 29 ho base 3 i0 1 Try.underlying29 hi V L.length (L.map (Value.int .i64)) hs hown hx ?_
    refine h V w (by simpa [NL] using hown) ?_
    cases V.ownBlock <;> exact gb_refl _ _
  | some ad =>
    refine wpList_append_own w hgd s x 29 ho base 3 i0 (.int .i64 0) 1 8 Try.underlying29 hi hz0 hz1 hz2 rfl (by decide) V L.length (L.map (Value.int .i64)) hs hown ad M.length c (M.map (Value.int .i64)) hx (by simp) (hM.2.2 ad rfl) (ints_one _ _) (by unfold maxLen; omega) (by omega) hbase ?_
    intro V' w' h1 h2 h3
    exact h V' w' (by simpa [NL] using h1) h2
theorem slr_one (w : World) (k : IntKind) (x : Int) (t : TypeId) (g : Nat) (hg : g = w.heap.size) : SlR (w.alloc (.cells #[.int k x] t)) (some ⟨g, 0, none⟩) 1 1 ([x].map (Value.int k)) := by
  subst hg; exact slr_new w k [x] t
end Go.Proofs.Ytfjeonoihdgdoaa
