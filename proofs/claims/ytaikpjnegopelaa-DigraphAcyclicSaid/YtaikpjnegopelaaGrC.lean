/- Rows of numbers of the call's own; the distances to a node as the reference reckons them: the walk; no condition but the graph's size. -/
import Derived.Test.YtaikpjnegopelaaGrB
namespace Go.Proofs.Ytaikpjnegopelaa
open Go.RowKit
set_option linter.unusedVariables false

/-- A slice of numbers that the call owns. -/
def NL (w : World) (base : Nat) (V : Value) (L : List Int) : Prop := w.ownsRow base 3 1 V L.length (L.map (Value.int .i64))
theorem NL.nil (w : World) (base : Nat) : NL w base (.slice none 0 0) [] := World.ownsRow_nil _ _ _ _
theorem NL.keep0 {w w2 : World} {base : Nat} {V : Value} {L : List Int} (h : NL w base V L) (k : w.grownBy w2 none) : NL w2 base V L := own_keep0 h k
theorem NL.shape {w : World} {base : Nat} {V : Value} {L : List Int} (h : NL w base V L) : ∃ a c, V = .slice a L.length c := own_shape h
theorem NL.slr {w : World} {base c n : Nat} {a : Option Addr} {L : List Int} (h : NL w base (.slice a n c) L) (hn : n = L.length) : SlR w a n c (L.map (Value.int .i64)) := by subst hn; exact own_slr h
theorem NL.low {w : World} {base g n c : Nat} {L : List Int} (h : NL w base (.slice (some ⟨g, 0, none⟩) n c) L) : base ≤ g := (h.lt g rfl).1
theorem NL.put {w : World} {base g n c : Nat} {L : List Int} (h : NL w base (.slice (some ⟨g, 0, none⟩) n c) L) (hn : n = L.length) (p : Nat) (v : Int) :
    NL (w.setCell ⟨g, p, none⟩ (.int .i64 v)) base (.slice (some ⟨g, 0, none⟩) n c) (L.set p v) := by
  subst hn
  have k := (World.ownsRow.stored h p (.int .i64 v)).1
  unfold NL
  rw [List.map_set, List.length_set]
  exact k
theorem NL.free {w : World} {base g n c : Nat} {L : List Int} (h : NL w base (.slice (some ⟨g, 0, none⟩) n c) L) (hn : n = L.length) (p : Nat) : w.frozen? ⟨g, p, none⟩ = false := by
  subst hn
  obtain ⟨cs, hb⟩ := own_blk h
  exact hb.free p
theorem NL.at_ {w : World} {base g n c : Nat} {L : List Int} (h : NL w base (.slice (some ⟨g, 0, none⟩) n c) L) (hn : n = L.length) (p : Nat) (hp : p < L.length) : w.cell? ⟨g, p, none⟩ = some (.int .i64 (L.getD p 0)) := by
  subst hn
  exact own_cell h p hp
theorem NL.headn {w : World} {base n : Nat} {V : Value} {L : List Int} (h : NL w base V L) (hn : n = L.length) (hp : 0 < n) : ∃ g c, V = .slice (some ⟨g, 0, none⟩) n c := by subst hn; exact own_head h hp
/-- The call returns a row of numbers of its own; beside it the world only grew. -/
def RetN (base : Nat) (L : List Int) (w : World) (e : Ending) (w' : World) : Prop := ∃ V, e = .returned V ∧ NL w' base V L ∧ w.grownBy w' none
theorem infoI64 : (Try.prog.info? 3).map (fun i => (i.zero, i.size, i.bytes)) = some (some (.int .i64 0), 1, 8) := by kernel_rfl

/-- The list of a function's values below n. -/
def tab (n : Nat) (f : Nat → Int) : List Int := (List.range n).map f
theorem tab_len (n : Nat) (f : Nat → Int) : (tab n f).length = n := by simp [tab]
theorem tab_at (n : Nat) (f : Nat → Int) (j : Nat) (h : j < n) : (tab n f).getD j 0 = f j := by simp [tab, h]
theorem tab_set (n : Nat) (f : Nat → Int) (j : Nat) (v : Int) : (tab n f).set j v = tab n fun u => if u = j then v else f u := by
  apply List.ext_getElem (by simp [tab])
  intro i h1 h2
  simp [tab, List.getElem_set]
  by_cases e : i = j
  · rw [if_pos e, if_pos e.symm]
  · rw [if_neg e, if_neg (fun h => e h.symm)]
theorem tab_congr {n : Nat} {f h : Nat → Int} (e : ∀ j, j < n → f j = h j) : tab n f = tab n h := List.map_congr_left fun j hj => e j (List.mem_range.1 hj)
theorem tab_const (n : Nat) (z : Int) : tab n (fun _ => z) = List.replicate n z := by
  apply List.ext_getElem (by simp [tab])
  intro i h1 h2
  simp [tab]

/-- The length of the shortest path from u, if it is at most k; or -1. -/
def gD (g : List (List Int)) (to : Nat) : Nat → Nat → Int
  | 0, u => if u = to then 0 else -1
  | k + 1, u => if 0 ≤ gD g to k u then gD g to k u else if (List.range g.length).any (fun y => decide (gD g to k y = k) && gEdge g u y) then k + 1 else -1
def gMix (g : List (List Int)) (to k v : Nat) : List Int := tab g.length fun u => if u < v then gD g to (k + 1) u else gD g to k u
theorem gMix_zero (g : List (List Int)) (to k : Nat) : gMix g to k 0 = tab g.length (gD g to k) := by unfold gMix; simp
theorem gMix_full (g : List (List Int)) (to k : Nat) : gMix g to k g.length = tab g.length (gD g to (k + 1)) := tab_congr fun j hj => by rw [if_pos hj]
theorem gMix_same (g : List (List Int)) (to k v : Nat) (h : gD g to (k + 1) v = gD g to k v) : gMix g to k (v + 1) = gMix g to k v := tab_congr fun j hj => by
  by_cases e : j < v
  · rw [if_pos e, if_pos (by omega)]
  · rw [if_neg e]
    by_cases e2 : j = v
    · subst e2; rw [if_pos (by omega), h]
    · rw [if_neg (by omega)]
theorem gMix_set (g : List (List Int)) (to k v : Nat) (x : Int) (h : gD g to (k + 1) v = x) : (gMix g to k v).set v x = gMix g to k (v + 1) := by
  unfold gMix
  rw [tab_set]
  refine tab_congr fun j hj => ?_
  by_cases e2 : j = v
  · subst e2; rw [if_pos rfl, if_pos (by omega), h]
  · rw [if_neg e2]
    by_cases e : j < v
    · rw [if_pos e, if_pos (by omega)]
    · rw [if_neg e, if_neg (by omega)]
theorem gD_old (g : List (List Int)) (to k v : Nat) (h : 0 ≤ gD g to k v) : gD g to (k + 1) v = gD g to k v := by rw [gD, if_pos h]
theorem gD_new (g : List (List Int)) (to k v y : Nat) (h : gD g to k v < 0) (hy : y < g.length) (h1 : gD g to k y = k) (h2 : gEdge g v y = true) : gD g to (k + 1) v = k + 1 := by
  rw [gD, if_neg (by omega), if_pos]
  rw [List.any_eq_true]
  exact ⟨y, List.mem_range.2 hy, by simp [h1, h2]⟩
theorem gD_none (g : List (List Int)) (to k v : Nat) (h : gD g to k v < 0) (hy : ∀ y, y < g.length → ¬ (gD g to k y = k ∧ gEdge g v y = true)) : gD g to (k + 1) v = -1 := by
  rw [gD, if_neg (by omega), if_neg]
  rw [List.any_eq_true]
  rintro ⟨y, hm, hh⟩
  simp at hm hh
  exact hy y hm ⟨hh.1, hh.2⟩
theorem gD_neg (g : List (List Int)) (to k v : Nat) (h : gD g to k v < 0) : gD g to k v = -1 := by
  cases k with
  | zero => unfold gD at h ⊢; split at h <;> simp_all
  | succ k =>
    unfold gD at h ⊢
    split at h
    · omega
    · split at h
      · omega
      · rename_i h1 h2; rw [if_neg h1, if_neg h2]
theorem gD_range (g : List (List Int)) (to k v : Nat) : -1 ≤ gD g to k v ∧ gD g to k v ≤ k := by
  induction k with
  | zero => unfold gD; split <;> simp
  | succ k ih =>
    unfold gD
    split
    · omega
    · split <;> omega
theorem gMix_len (g : List (List Int)) (to k v : Nat) : (gMix g to k v).length = g.length := tab_len _ _
theorem gMix_at (g : List (List Int)) (to k v j : Nat) (h : j < g.length) : (gMix g to k v).getD j 0 = if j < v then gD g to (k + 1) j else gD g to k j := tab_at _ _ _ h
theorem gMix_is (g : List (List Int)) (to k v j : Nat) (h : j < g.length) : (gMix g to k v).getD j 0 = k ↔ gD g to k j = k := by
  rw [gMix_at g to k v j h]
  split
  · by_cases e : 0 ≤ gD g to k j
    · rw [gD_old g to k j e]
    · rw [gD, if_neg e]
      split <;> omega
  · exact Iff.rfl
/-- The distances as the reference gives them. -/
def distL (g : List (List Int)) (to : Int) : List Int := if 0 ≤ to ∧ to < g.length then tab g.length (gD g to.toNat g.length) else tab g.length fun _ => -1
end Go.Proofs.Ytaikpjnegopelaa
