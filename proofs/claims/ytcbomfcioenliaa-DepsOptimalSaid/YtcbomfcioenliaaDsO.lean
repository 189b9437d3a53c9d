/- Appending numbers to a row of the call's own; no condition. -/
import Derived.Test.YtcbomfcioenliaaDsH
namespace Go.Proofs.Ytcbomfcioenliaa
open Go.RowKit
set_option linter.unusedVariables false

theorem npush_any {w : World} {ops : Array Oper} {rest : List Oper} {o : Oper} {a : Act} {Q : Exit → Act → World → Prop} (hgd : o.guard = none) (s x : Operand)
    (ho : o.op = .call { callee := .builtin .append, args := #[s, x], argTypes := #[23, 23] }) (base : Nat) (V : Value) (L : List Int) (hs : a.eval s = V) (hown : NL w base V L)
    (ad : Option Addr) (m c : Nat) (M : List Int) (hx : a.eval x = .slice ad m c) (hM : SlR w ad m c (M.map (Value.int .i64))) (hlen : L.length + M.length ≤ 1000000) (hbase : base ≤ w.heap.size)
    (h : ∀ V' w', NL w' base V' (L ++ M) → w.grownBy w' V.ownBlock → wpList Try.prog ops Q rest (a.put o.dst V') w') : wpList Try.prog ops Q (o :: rest) a w := by
  obtain ⟨i0, hi, hz0, hz1, hz2⟩ := info_parts infoI64
  have hl : M.length = m := by simpa using hM.1
  subst hl
  cases ad with
  | none =>
    obtain ⟨h0, rfl⟩ := hM.2.1 rfl
    have hm : M = [] := List.length_eq_zero_iff.1 h0
    subst hm
    refine wpList_append_own_none hgd s x 23 ho base 3 i0 1 Try.underlying23 hi V L.length (L.map (Value.int .i64)) hs hown hx ?_
    refine h V w (by simpa [NL] using hown) ?_
    cases V.ownBlock <;> exact gb_refl _ _
  | some ad =>
    refine wpList_append_own w hgd s x 23 ho base 3 i0 (.int .i64 0) 1 8 Try.underlying23 hi hz0 hz1 hz2 rfl (by decide) V L.length (L.map (Value.int .i64)) hs hown ad M.length c (M.map (Value.int .i64)) hx (by simp) (hM.2.2 ad rfl) (ints_one _ _) (by unfold maxLen; omega) (by omega) hbase ?_
    intro V' w' h1 h2 h3
    exact h V' w' (by simpa [NL] using h1) h2
theorem infoInts : (Try.prog.info? 23).map (fun i => (i.zero, i.size, i.bytes)) = some (some (.slice none 0 0), 1, 24) := by kernel_rfl

theorem slr_one (w : World) (k : IntKind) (x : Int) (t : TypeId) (g : Nat) (hg : g = w.heap.size) : SlR (w.alloc (.cells #[.int k x] t)) (some ⟨g, 0, none⟩) 1 1 ([x].map (Value.int k)) := by
  subst hg; exact slr_new w k [x] t
/-- What the growth of a call's own row is, to what was there before. -/
theorem gb_own {w w2 : World} {base : Nat} {e : TypeId} {size n : Nat} {v : Value} {xs : List Value} {w0 : World} (h0 : w0.grownBy w none) (hown : w.ownsRow base e size v n xs) (hb : w0.heap.size ≤ base) (k : w.grownBy w2 v.ownBlock) : w0.grownBy w2 none := by
  refine ⟨k.os.trans h0.os, k.tape.trans h0.tape, k.output.trans h0.output, Nat.le_trans h0.size k.size, fun i hi hn => ?_⟩
  refine (k.block i (Nat.lt_of_lt_of_le hi h0.size) ?_).trans (h0.block i hi (by simp))
  intro e1
  have := hown.lt i e1.symm
  omega

end Go.Proofs.Ytcbomfcioenliaa
