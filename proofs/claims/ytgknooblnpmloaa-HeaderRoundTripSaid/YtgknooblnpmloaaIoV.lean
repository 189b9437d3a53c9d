/- The walks of bitio's Unpack; no condition but sizes: at most 1000 widths, 60000 bytes. -/
import Derived.Test.YtgknooblnpmloaaIoU
namespace Go.Proofs.Ytgknooblnpmloaa
open Go.RowKit
set_option linter.unusedVariables false

/-- The numbers read one after the other, up to the first error. -/
def upRun (bs : List Int) : Nat → List Int → List Int → Int × Nat × List Int
  | pos, us, [] => (0, pos, us)
  | pos, us, n :: t => if (rdStep bs pos n).1 = 0 then upRun bs (rdStep bs pos n).2.2 (us ++ [(rdStep bs pos n).2.1]) t else ((rdStep bs pos n).1, (rdStep bs pos n).2.2, us ++ [(rdStep bs pos n).2.1])
/-- What Unpack comes to: the error code and the numbers. -/
def unpackR (bs ns : List Int) : Int × List Int :=
  if (upRun bs 0 [] ns).1 = 0 then if (upRun bs 0 [] ns).2.1 < 8 * bs.length then (4, []) else (0, (upRun bs 0 [] ns).2.2) else ((upRun bs 0 [] ns).1, [])
theorem drop_at (ns : List Int) (k : Nat) (h : k < ns.length) : ns.drop k = ns.getD k 0 :: ns.drop (k + 1) := by
  rw [List.drop_eq_getElem_cons h]; simp [h]

/-- The call returns numbers of its own and an error code. -/
def RetU (er : Int) (us : List Int) (w : World) (e : Ending) (w' : World) : Prop :=
  ∃ v', e = .returned (.tuple #[v', .int .i64 er]) ∧ Below w.heap.size w w' ∧ w'.ownsRow w.heap.size 39 1 v' us.length (us.map (Value.int .u32))
theorem RetU.nil {er : Int} {w w' : World} {v : Value} (h : Below w.heap.size w w') (hv : v = .int .i64 er) : RetU er [] w (.returned (.tuple #[.slice none 0 0, v])) w' := by
  subst hv; exact ⟨_, rfl, h, World.ownsRow_nil _ _ _ _⟩
theorem upRun_pos (bs : List Int) (pos : Nat) (us ns : List Int) (h : pos ≤ 8 * bs.length) : (upRun bs pos us ns).2.1 ≤ 8 * bs.length := by
  induction ns generalizing pos us with
  | nil => exact h
  | cons n t ih =>
    rw [upRun]
    split
    · exact ih _ _ (rdStep_pos bs pos n h)
    · exact rdStep_pos bs pos n h

end Go.Proofs.Ytgknooblnpmloaa
