/- Ternary: lists of cubes; the difference as a list. -/
import Derived.Test.YteemhabgliglmaaTeE
namespace Go.Proofs.Yteemhabgliglmaa
open Go.RowKit
set_option linter.unusedVariables false

def cubeC (p : Nat × Nat) : List Value := [.int .u64 p.1, .int .u64 p.2]
/-- A slice of cubes of the call's own. -/
def CLs (w : World) (base : Nat) (V : Value) (M : List (Nat × Nat)) : Prop := w.ownsRow base 49 2 V M.length (M.flatMap cubeC)
theorem CLs.nil (w : World) (base : Nat) : CLs w base (.slice none 0 0) [] := World.ownsRow_nil _ _ _ _
theorem CLs.keep0 {w w2 : World} {base : Nat} {V : Value} {M : List (Nat × Nat)} (h : CLs w base V M) (k : w.grownBy w2 none) : CLs w2 base V M := own_keep0 h k
theorem CLs.shape {w : World} {base : Nat} {V : Value} {M : List (Nat × Nat)} (h : CLs w base V M) : ∃ a c, V = .slice a M.length c := own_shape h
theorem cubeC_len (M : List (Nat × Nat)) : (M.flatMap cubeC).length = M.length * 2 := by
  induction M with
  | nil => rfl
  | cons t s ih => rw [List.flatMap_cons, List.length_append, ih]; simp [cubeC]; omega
theorem infoCube : (Try.prog.info? 49).map (fun i => (i.zero, i.size, i.bytes)) = some (some (.agg #[.int .u64 0, .int .u64 0]), 2, 16) := by kernel_rfl
theorem cubeC_one (t : Nat × Nat) : ∀ u ∈ cubeC t, u.oneCell' = true := by
  intro u hu
  simp only [cubeC, List.mem_cons, List.not_mem_nil, or_false] at hu
  rcases hu with rfl | rfl <;> rfl
theorem pushCube {w : World} {ops : Array Oper} {rest : List Oper} {o : Oper} {a : Act} {Q : Exit → Act → World → Prop} (hgd : o.guard = none) (s x : Operand)
    (ho : o.op = .call { callee := .builtin .append, args := #[s, x], argTypes := #[22, 22] }) (base : Nat) (V : Value) (M : List (Nat × Nat)) (hs : a.eval s = V) (hown : CLs w base V M)
    (ad : Addr) (c : Nat) (T : Nat × Nat) (hx : a.eval x = .slice (some ad) 1 c) (hT : ∀ j u, (cubeC T)[j]? = some u → w.cell? (ad.add j) = some u) (hlen : M.length ≤ 1000000) (hbase : base ≤ w.heap.size)
    (h : ∀ V' w', CLs w' base V' (M ++ [T]) → w.grownBy w' V.ownBlock → wpList Try.prog ops Q rest (a.put o.dst V') w') : wpList Try.prog ops Q (o :: rest) a w := by
  obtain ⟨i0, hi, hz0, hz1, hz2⟩ := info_parts infoCube
  refine wpList_append_own w hgd s x 22 ho base 49 i0 _ 2 16 Try.underlying22 hi hz0 hz1 hz2 rfl (by decide) V M.length (M.flatMap cubeC) hs hown ad 1 c (cubeC T) hx rfl hT (cubeC_one T) (by unfold maxLen; omega) (by omega) hbase ?_
  intro V' w' h1 h2 h3
  refine h V' w' ?_ h2
  unfold CLs
  rw [List.flatMap_append, List.length_append]
  simpa using h1
theorem two_cell (w : World) (t : TypeId) (g : Nat) (T : Nat × Nat) (cs : Array Value) (h : IsB w g t cs) (hc : cs.toList = cubeC T) : ∀ j u, (cubeC T)[j]? = some u → w.cell? ((⟨g, 0, none⟩ : Addr).add j) = some u := by
  intro j u hj
  have e : ((⟨g, 0, none⟩ : Addr).add j) = ⟨g, j, none⟩ := by unfold Addr.add; split <;> simp_all
  rw [e, h.cell j, ← hj, ← hc]
  simp
/-- From bit n - 1 down: at each bit of F the cube of those that differ there. -/
def subR (yv F : Nat) : Nat → Nat → Nat → List (Nat × Nat)
  | 0, _, _ => []
  | i + 1, xv, xm => if F.testBit i = true then (xv ||| andN (2 ^ i) yv, xm ||| 2 ^ i) :: subR yv F i (xv ||| (2 ^ i &&& yv)) (xm ||| 2 ^ i) else subR yv F i xv xm
def subC (xv xm yv ym k : Nat) : List (Nat × Nat) := if meetN xv xm yv ym = true then subR yv (andN ym xm) k xv xm else [(xv, xm)]
/-- The cubes of Subtract. -/
def subL (v m v2 m2 : Nat) (w : Int) : List (Nat × Nat) := if 1 ≤ w ∧ w ≤ 64 then subC (cutV v m w.toNat) (cutM m w.toNat) (cutV v2 m2 w.toNat) (cutM m2 w.toNat) w.toNat else []
theorem subR_zero (yv : Nat) (n : Nat) : ∀ xv xm, subR yv 0 n xv xm = [] := by
  induction n with
  | zero => intro xv xm; rfl
  | succ n ih => intro xv xm; unfold subR; rw [Nat.zero_testBit, if_neg (by simp)]; exact ih xv xm
theorem subR_len (yv F n : Nat) : ∀ xv xm, (subR yv F n xv xm).length ≤ n := by
  induction n with
  | zero => intro xv xm; exact Nat.le_refl _
  | succ n ih =>
    intro xv xm
    unfold subR
    split
    · have := ih (xv ||| (2 ^ n &&& yv)) (xm ||| 2 ^ n); rw [List.length_cons]; omega
    · have := ih xv xm; omega
theorem subL_len (v m v2 m2 : Nat) (w : Int) : (subL v m v2 m2 w).length ≤ 64 := by
  unfold subL
  split
  · unfold subC
    split
    · have := subR_len (cutV v2 m2 w.toNat) (andN (cutM m2 w.toNat) (cutM m w.toNat)) w.toNat (cutV v m w.toNat) (cutM m w.toNat)
      omega
    · simp
  · simp
/-- A subset meets, and leaves nothing. -/
theorem sub_meets (xv xm yv ym : Nat) (hxm : B64 xm) (hym : B64 ym) (h : subN xv xm yv ym = true) : meetN xv xm yv ym = true ∧ andN ym xm = 0 := by
  unfold subN at h
  rw [Bool.and_eq_true] at h
  have h1 := of_decide_eq_true h.1
  refine ⟨?_, h1⟩
  rw [andN_zero _ _ hym hxm] at h1
  unfold meetN
  rw [h1]
  exact h.2
theorem sub_nil (xv xm yv ym k : Nat) (hxm : B64 xm) (hym : B64 ym) (h : subN xv xm yv ym = true) : subC xv xm yv ym k = [] := by
  obtain ⟨h1, h2⟩ := sub_meets xv xm yv ym hxm hym h
  unfold subC
  rw [if_pos h1, h2]
  exact subR_zero _ _ _ _
/-- A returned list of cubes. -/
def RetC (L : List (Nat × Nat)) (w : World) (e : Ending) (w' : World) : Prop := ∃ V, e = .returned V ∧ CLs w' w.heap.size V L ∧ w.grownBy w' none
theorem cut_lt (v m k : Nat) (hv : B64 v) (hm : B64 m) : B64 (cutV v m k) ∧ B64 (cutM m k) := ⟨Nat.lt_of_le_of_lt Nat.and_le_left hv, Nat.lt_of_le_of_lt Nat.and_le_left hm⟩

end Go.Proofs.Yteemhabgliglmaa
