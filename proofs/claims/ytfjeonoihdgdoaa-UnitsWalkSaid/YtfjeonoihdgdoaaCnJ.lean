/- Control: the reference's Tables and Node; no condition but that the tree lies in memory and is not large. -/
import Derived.Test.YtfjeonoihdgdoaaCnH
import Derived.Test.YtfjeonoihdgdoaaCnI
namespace Go.Proofs.Ytfjeonoihdgdoaa
open Go.RowKit
set_option linter.unusedVariables false
/-- A slice that reads as a list of nodes. -/
structure C5 (w : World) (a : Option Addr) (n c : Nat) (M : List CV) : Prop where
  len : M.length = n
  nil : a = none → n = 0 ∧ c = 0
  cap : n ≤ c
  cells : ∀ ad, a = some ad → ∀ j, j < n → w.cell? (ad.add (j * 5)) = some (.int .i64 (M.getD j cz).k) ∧ w.cell? ⟨(ad.add (j * 5)).block, (ad.add (j * 5)).off + 1, none⟩ = some (.int .i64 (M.getD j cz).t) ∧ w.cell? ⟨(ad.add (j * 5)).block, (ad.add (j * 5)).off + 2, none⟩ = some (.slice (M.getD j cz).c.a (M.getD j cz).c.n (M.getD j cz).c.c) ∧
    w.cell? ⟨(ad.add (j * 5)).block, (ad.add (j * 5)).off + 3, none⟩ = some (.slice (M.getD j cz).s.a (M.getD j cz).s.n (M.getD j cz).s.c) ∧ w.cell? ⟨(ad.add (j * 5)).block, (ad.add (j * 5)).off + 4, none⟩ = some (.slice (M.getD j cz).u.a (M.getD j cz).u.n (M.getD j cz).u.c)
theorem C5.keep0 {w w2 : World} {a : Option Addr} {n c : Nat} {M : List CV} (h : C5 w a n c M) (k : w.grownBy w2 none) : C5 w2 a n c M :=
  ⟨h.len, h.nil, h.cap, fun ad e j hj => ⟨k.cell (h.cells ad e j hj).1 (by simp), k.cell (h.cells ad e j hj).2.1 (by simp), k.cell (h.cells ad e j hj).2.2.1 (by simp), k.cell (h.cells ad e j hj).2.2.2.1 (by simp), k.cell (h.cells ad e j hj).2.2.2.2 (by simp)⟩⟩
theorem C5.some {w : World} {a : Option Addr} {n c : Nat} {M : List CV} (h : C5 w a n c M) (hn : 0 < n) : ∃ ad, a = some ad := by
  cases a with
  | none => have := (h.nil rfl).1; omega
  | some ad => exact ⟨ad, rfl⟩
theorem CNL.c5 {w : World} {base c n : Nat} {a : Option Addr} {M : List CV} (h : CNL w base (.slice a n c) M) (hl : n = M.length) : C5 w a n c M := by
  subst hl
  have cp := own_cap h
  refine ⟨rfl, ?_, cp, fun ad e j hj => ?_⟩
  · intro e
    subst e
    rcases h.2 with ⟨h', _⟩ | ⟨g', cap', cur, h', _⟩
    · injection h' with _ h1 h2
      exact ⟨h1, h2⟩
    · injection h' with h' _ _
      cases h'
  · obtain ⟨g, cx, hv⟩ := own_head h (by omega)
    injection hv with hv _ hc
    subst hc
    rw [e] at hv
    injection hv with hv
    subst hv e
    rw [addr0c]
    have z : ∀ r, r < 5 → w.cell? ⟨g, j * 5 + r, none⟩ = (cel (M.getD j cz))[r]? := fun r hr => (h.cellAt (j * 5 + r) (by omega)).trans (flat5 M j r hj hr)
    exact ⟨(z 0 (by decide)).trans rfl, (z 1 (by decide)).trans rfl, (z 2 (by decide)).trans rfl, (z 3 (by decide)).trans rfl, (z 4 (by decide)).trans rfl⟩
set_option maxRecDepth 100000 in
set_option maxHeartbeats 4000000 in
theorem applies_any (w : World) (x : CV) : Calls Try.prog 128 #[.agg #[.int .i64 x.k, .int .i64 x.t, .slice x.c.a x.c.n x.c.c, .slice x.s.a x.s.n x.s.c, .slice x.u.a x.u.n x.u.c]] w (RetV (.bool (appl x)) w) := by
  have G1 := Lib.hid (gb_alloc w (.cells #[.int .i64 x.k, .int .i64 x.t, .slice x.c.a x.c.n x.c.c, .slice x.s.a x.s.n x.s.c, .slice x.u.a x.u.n x.u.c] 63) none)
  obtain ⟨xk, xt, ⟨ca, cn, cc⟩, N, ⟨ta, tn, tc⟩, th, ⟨ea, en, ec⟩, el⟩ := x
  dsimp only at *
  by_cases h1 : xk = 1
  · subst h1
    go_enter Try.func128, Try.ntmps128
    go_wp2
    go_ret
    exact ⟨rfl, G1.out⟩
  have e1 : (xk == 1) = false := by rw [beq_eq_false_iff_ne]; exact h1
  have q1 : decide (xk = 1) = false := decide_eq_false h1
  by_cases h3 : xk = 3
  · subst h3
    go_enter Try.func128, Try.ntmps128
    go_wp2
    go_ret
    exact ⟨rfl, G1.out⟩
  have e3 : (xk == 3) = false := by rw [beq_eq_false_iff_ne]; exact h3
  have q3 : decide (xk = 3) = false := decide_eq_false h3
  have AP := Lib.hid (show appl ⟨xk, xt, ⟨ca, cn, cc⟩, N, ⟨ta, tn, tc⟩, th, ⟨ea, en, ec⟩, el⟩ = false by unfold appl; dsimp only; rw [e1, e3]; rfl)
  go_enter Try.func128, Try.ntmps128
  go_wp2
  go_ret
  exact ⟨by rw [AP.out] <;> rfl, G1.out⟩
theorem take_pre (L : List CV) (j : Nat) (h : j < L.length) : L.take (j + 1) = L.take j ++ [L.getD j cz] := by
  rw [List.take_add_one]; simp [h]
/-- The node at a place in the preorder. -/
def nodA (L : List CV) (i : Int) : Option CV := if 0 ≤ i ∧ i < (L.length : Int) then some (L.getD i.toNat cz) else none
/-- A copy of the node's cells, and whether there is one. -/
def RetNd (r : Option CV) (w : World) (e : Ending) (w' : World) : Prop := e = .returned (.tuple #[.agg (r.getD cz).cs, .bool r.isSome]) ∧ w.grownBy w' none
end Go.Proofs.Ytfjeonoihdgdoaa
