/- Rows of numbers of the call's own; lists by a function; no condition. -/
import Derived.Test.YtcbomfcioenliaaGrB
namespace Go.Proofs.Ytcbomfcioenliaa
open Go.RowKit
set_option linter.unusedVariables false

/-- A slice of numbers that the call owns. -/
def NL (w : World) (base : Nat) (V : Value) (L : List Int) : Prop := w.ownsRow base 3 1 V L.length (L.map (Value.int .i64))
theorem NL.nil (w : World) (base : Nat) : NL w base (.slice none 0 0) [] := World.ownsRow_nil _ _ _ _
theorem NL.keep0 {w w2 : World} {base : Nat} {V : Value} {L : List Int} (h : NL w base V L) (k : w.grownBy w2 none) : NL w2 base V L := own_keep0 h k
theorem NL.shape {w : World} {base : Nat} {V : Value} {L : List Int} (h : NL w base V L) : ∃ a c, V = .slice a L.length c := own_shape h
theorem NL.slr {w : World} {base c n : Nat} {a : Option Addr} {L : List Int} (h : NL w base (.slice a n c) L) (hn : n = L.length) : SlR w a n c (L.map (Value.int .i64)) := by subst hn; exact own_slr h
theorem NL.low {w : World} {base g n c : Nat} {L : List Int} (h : NL w base (.slice (some ⟨g, 0, none⟩) n c) L) : base ≤ g := (h.lt g rfl).1
theorem NL.put {w : World} {base g n c : Nat} {L : List Int} (h : NL w base (.slice (some ⟨g, 0, none⟩) n c) L) (hn : n = L.length) (p : Nat) (v : Int) :
    NL (w.setCell ⟨g, p, none⟩ (.int .i64 v)) base (.slice (some ⟨g, 0, none⟩) n c) (L.set p v) := by
  subst hn
  have k := (World.ownsRow.stored h p (.int .i64 v)).1
  unfold NL
  rw [List.map_set, List.length_set]
  exact k
theorem NL.free {w : World} {base g n c : Nat} {L : List Int} (h : NL w base (.slice (some ⟨g, 0, none⟩) n c) L) (hn : n = L.length) (p : Nat) : w.frozen? ⟨g, p, none⟩ = false := by
  subst hn
  obtain ⟨cs, hb⟩ := own_blk h
  exact hb.free p
theorem NL.at_ {w : World} {base g n c : Nat} {L : List Int} (h : NL w base (.slice (some ⟨g, 0, none⟩) n c) L) (hn : n = L.length) (p : Nat) (hp : p < L.length) : w.cell? ⟨g, p, none⟩ = some (.int .i64 (L.getD p 0)) := by
  subst hn
  exact own_cell h p hp
theorem NL.headn {w : World} {base n : Nat} {V : Value} {L : List Int} (h : NL w base V L) (hn : n = L.length) (hp : 0 < n) : ∃ g c, V = .slice (some ⟨g, 0, none⟩) n c := by subst hn; exact own_head h hp
/-- The call returns a row of numbers of its own; beside it the world only grew. -/
def RetN (base : Nat) (L : List Int) (w : World) (e : Ending) (w' : World) : Prop := ∃ V, e = .returned V ∧ NL w' base V L ∧ w.grownBy w' none
theorem infoI64 : (Try.prog.info? 3).map (fun i => (i.zero, i.size, i.bytes)) = some (some (.int .i64 0), 1, 8) := by kernel_rfl

/-- The list of a function's values below n. -/
def tab (n : Nat) (f : Nat → Int) : List Int := (List.range n).map f
theorem tab_len (n : Nat) (f : Nat → Int) : (tab n f).length = n := by simp [tab]
theorem tab_at (n : Nat) (f : Nat → Int) (j : Nat) (h : j < n) : (tab n f).getD j 0 = f j := by simp [tab, h]
theorem tab_set (n : Nat) (f : Nat → Int) (j : Nat) (v : Int) : (tab n f).set j v = tab n fun u => if u = j then v else f u := by
  apply List.ext_getElem (by simp [tab])
  intro i h1 h2
  simp [tab, List.getElem_set]
  by_cases e : i = j
  · rw [if_pos e, if_pos e.symm]
  · rw [if_neg e, if_neg (fun h => e h.symm)]
theorem tab_congr {n : Nat} {f h : Nat → Int} (e : ∀ j, j < n → f j = h j) : tab n f = tab n h := List.map_congr_left fun j hj => e j (List.mem_range.1 hj)
theorem tab_const (n : Nat) (z : Int) : tab n (fun _ => z) = List.replicate n z := by
  apply List.ext_getElem (by simp [tab])
  intro i h1 h2
  simp [tab]

end Go.Proofs.Ytcbomfcioenliaa
