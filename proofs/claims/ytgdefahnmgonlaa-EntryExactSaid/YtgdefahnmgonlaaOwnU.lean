/- Rows of unsigned numbers of the call's own, and appending to them; no condition. -/
import Derived.Test.YtgdefahnmgonlaaTbH
namespace Go.Proofs.Ytgdefahnmgonlaa
open Go.RowKit
set_option linter.unusedVariables false
theorem SU.slr {w : World} {a : Option Addr} {n c : Nat} {L : List Int} (h : SU w a n c L) : SlR w a n c (L.map (Value.int .u32)) :=
  ⟨by simp [h.len], h.nil, fun ad e j u hu => by
    have hj : j < L.length := by
      have := (List.getElem?_eq_some_iff.1 hu).1
      simpa using this
    rw [h.cells ad e j (by rw [← h.len]; exact hj), ← hu]
    simp [hj]⟩
def NU (w : World) (base : Nat) (V : Value) (L : List Int) : Prop := w.ownsRow base 55 1 V L.length (L.map (Value.int .u32))
theorem NU.keep0 {w w2 : World} {base : Nat} {V : Value} {L : List Int} (h : NU w base V L) (k : w.grownBy w2 none) : NU w2 base V L := own_keep0 h k
theorem nu_su {w : World} {base : Nat} {a : Option Addr} {n c : Nat} {L : List Int} (h : NU w base (.slice a n c) L) (hn : L.length = n) (hr : ∀ x ∈ L, 0 ≤ x ∧ x < 4294967296) : SU w a n c L := by
  subst hn
  have s := own_slr h
  exact ⟨rfl, s.2.1, own_cap h, fun ad e j hj => s.2.2 ad e j _ (by simp [hj]), hr⟩
theorem nu_shape {w : World} {base : Nat} {V : Value} {L : List Int} (h : NU w base V L) : ∃ a c, V = .slice a L.length c := own_shape h
theorem infoU32 : (Try.prog.info? 55).map (fun i => (i.zero, i.size, i.bytes)) = some (some (.int .u32 0), 1, 4) := by kernel_rfl
theorem upush_any {w : World} {ops : Array Oper} {rest : List Oper} {o : Oper} {a : Act} {Q : Exit → Act → World → Prop} (hgd : o.guard = none) (s x : Operand)
    (ho : o.op = .call { callee := .builtin .append, args := #[s, x], argTypes := #[33, 33] }) (base : Nat) (V : Value) (L : List Int) (hs : a.eval s = V) (hown : NU w base V L)
    (ad : Option Addr) (m c : Nat) (M : List Int) (hx : a.eval x = .slice ad m c) (hM : SU w ad m c M) (hlen : L.length + M.length ≤ 1000000) (hbase : base ≤ w.heap.size)
    (h : ∀ V' w', NU w' base V' (L ++ M) → w.grownBy w' V.ownBlock → wpList Try.prog ops Q rest (a.put o.dst V') w') : wpList Try.prog ops Q (o :: rest) a w := by
  obtain ⟨i0, hi, hz0, hz1, hz2⟩ := info_parts infoU32
  have hS := hM.slr
  have hl : M.length = m := hM.len
  subst hl
  cases ad with
  | none =>
    obtain ⟨h0, rfl⟩ := hM.nil rfl
    have hm : M = [] := List.length_eq_zero_iff.1 h0
    subst hm
    refine wpList_append_own_none hgd s x 33 ho base 55 i0 1 Try.underlying33 hi V L.length (L.map (Value.int .u32)) hs hown hx ?_
    refine h V w (by simpa [NU] using hown) ?_
    cases V.ownBlock <;> exact gb_refl _ _
  | some ad =>
    refine wpList_append_own w hgd s x 33 ho base 55 i0 (.int .u32 0) 1 4 Try.underlying33 hi hz0 hz1 hz2 rfl (by decide) V L.length (L.map (Value.int .u32)) hs hown ad M.length c (M.map (Value.int .u32)) hx (by simp) (hS.2.2 ad rfl) (ints_one _ _) (by unfold maxLen; omega) (by omega) hbase ?_
    intro V' w' h1 h2 h3
    exact h V' w' (by simpa [NU] using h1) h2
theorem NU.put {w : World} {base g n c : Nat} {L : List Int} (h : NU w base (.slice (some ⟨g, 0, none⟩) n c) L) (hn : n = L.length) (p : Nat) (v : Int) :
    NU (w.setCell ⟨g, p, none⟩ (.int .u32 v)) base (.slice (some ⟨g, 0, none⟩) n c) (L.set p v) := by
  subst hn
  have k := (World.ownsRow.stored h p (.int .u32 v)).1
  unfold NU
  rw [List.map_set, List.length_set]
  exact k
theorem nu_cell {w : World} {base g fn fc : Nat} {l : List Int} (h : NU w base (.slice (some ⟨g, 0, none⟩) fn fc) l) (hn : l.length = fn) (j : Nat) (hj : j < fn) : w.cell? ⟨g, j, none⟩ = some (.int .u32 (l.getD j 0)) ∧ w.frozen? ⟨g, j, none⟩ = false := by
  subst hn
  obtain ⟨cs, hb⟩ := own_blk h
  exact ⟨own_cell h j hj, hb.free j⟩
def RetU (L : List Int) (w : World) (e : Ending) (w' : World) : Prop := ∃ a c, e = .returned (.slice a L.length c) ∧ NU w' w.heap.size (.slice a L.length c) L ∧ w.grownBy w' none
end Go.Proofs.Ytgdefahnmgonlaa
