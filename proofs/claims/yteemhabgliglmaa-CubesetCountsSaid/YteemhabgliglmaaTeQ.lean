/- Ternary: words for the walks of Subtract: bits, boxes, rows of the call's own. -/
import Derived.Test.YteemhabgliglmaaTeK
namespace Go.Proofs.Yteemhabgliglmaa
open Go.RowKit
set_option linter.unusedVariables false

theorem isb_keep {w w2 : World} {b : Nat} {t : TypeId} {cs : Array Value} (k : w.grownBy w2 none) (h : IsB w b t cs) : IsB w2 b t cs := h.keep0 k
theorem gsz {w0 w : World} (h : w0.grownBy w none) : w0.heap.size ≤ w.heap.size := h.size
theorem alloc_sz (w : World) (o : Obj) : (w.alloc o).heap.size = w.heap.size + 1 := by show (w.heap.push _).size = _; simp
theorem drew_sz (w : World) : w.drew.heap.size = w.heap.size := rfl
theorem box_facts {w : World} {b : Nat} {t : TypeId} (h : IsB w b t #[.int .u64 0, .int .u64 0]) : w.cell? ⟨b, 0, none⟩ = some (.int .u64 0) ∧ w.cell? ⟨b, 1, none⟩ = some (.int .u64 0) ∧ w.frozen? ⟨b, 0, none⟩ = false ∧ w.frozen? ⟨b, 1, none⟩ = false ∧ b ≠ w.heap.size ∧ w.heap.size ≠ b ∧ (∀ o, (w.alloc o).cell? ⟨b, 0, none⟩ = some (.int .u64 0)) ∧ (∀ o, (w.alloc o).cell? ⟨b, 1, none⟩ = some (.int .u64 0)) ∧ (∀ o, (w.alloc o).frozen? ⟨b, 0, none⟩ = false) ∧ (∀ o, (w.alloc o).frozen? ⟨b, 1, none⟩ = false) :=
  ⟨h.cell 0, h.cell 1, h.free 0, h.free 1, Nat.ne_of_lt h.lt, Nat.ne_of_gt h.lt, fun o => (h.alloc o).cell 0, fun o => (h.alloc o).cell 1, fun o => (h.alloc o).free 0, fun o => (h.alloc o).free 1⟩
theorem bit_one (i j : Nat) : (2 ^ i).testBit j = decide (i = j) := Nat.testBit_two_pow
theorem one_lt (i : Nat) (h : i < 64) : B64 (2 ^ i) := Nat.pow_lt_pow_right (a := 2) (by decide) h
theorem and_bit (a j : Nat) : a &&& 2 ^ j = if a.testBit j = true then 2 ^ j else 0 := by
  apply Nat.eq_of_testBit_eq
  intro i
  rw [Nat.testBit_and, bit_one]
  split
  · rename_i h
    rw [bit_one]
    by_cases e : j = i
    · subst e; rw [h]; rfl
    · rw [decide_eq_false e, Bool.and_false]
  · rename_i h
    rw [Nat.zero_testBit]
    by_cases e : j = i
    · subst e; simpa using h
    · rw [decide_eq_false e, Bool.and_false]
theorem andN_xor (b yv : Nat) (hb : B64 b) (hy : B64 yv) : andN b yv = (yv &&& b) ^^^ b := by
  apply Nat.eq_of_testBit_eq
  intro i
  rw [tb_andN _ _ _ hb hy, Nat.testBit_xor, Nat.testBit_and]
  cases b.testBit i <;> cases yv.testBit i <;> rfl
theorem set_sz (w : World) (a : Addr) (v : Value) : (w.setCell a v).heap.size = w.heap.size := by simp [World.setCell]
theorem isb_set (w : World) (a : Addr) (v : Value) (t : TypeId) (cs : Array Value) : IsB ((w.setCell a v).alloc (.cells cs t)) w.heap.size t cs := by
  have h := IsB.new (w.setCell a v) t cs
  have e : (w.setCell a v).heap.size = w.heap.size := set_sz w a v
  rwa [e] at h
theorem gb_own {w w2 : World} {base : Nat} {e : TypeId} {size n : Nat} {v : Value} {xs : List Value} {w0 : World} (h0 : w0.grownBy w none) (hown : w.ownsRow base e size v n xs) (hb : w0.heap.size ≤ base) (k : w.grownBy w2 v.ownBlock) : w0.grownBy w2 none := by
  refine ⟨k.os.trans h0.os, k.tape.trans h0.tape, k.output.trans h0.output, Nat.le_trans h0.size k.size, fun i hi hn => ?_⟩
  refine (k.block i (Nat.lt_of_lt_of_le hi h0.size) ?_).trans (h0.block i hi (by simp))
  intro e1
  have := hown.lt i e1.symm
  omega
theorem isb_fill {w : World} {g : Nat} {t : TypeId} {v m : Int} (h : IsB w g t #[.int .u64 0, .int .u64 0]) : IsB ((w.setCell ⟨g, 0, none⟩ (.int .u64 v)).setCell ⟨g, 1, none⟩ (.int .u64 m)) g t #[.int .u64 v, .int .u64 m] := (h.set 0 _).set 1 _
theorem isb_last (w : World) (o : Obj) (t : TypeId) (cs : Array Value) : IsB ((w.alloc o).alloc (.cells cs t)) (w.heap.size + 1) t cs := by
  have h := IsB.new (w.alloc o) t cs
  rwa [alloc_sz] at h
theorem bl_lt : ∀ f x, x < 2 ^ f → x < 2 ^ Lib.bitLenAux f x := by
  intro f
  induction f with
  | zero => intro x h; exact h
  | succ f ih =>
    intro x h
    unfold Lib.bitLenAux
    split
    · rename_i e; rw [e]; decide
    · have k := ih (x / 2) (by rw [Nat.pow_succ] at h; omega)
      rw [Nat.add_comm, Nat.pow_succ]
      omega
theorem bl_top : ∀ f x, x < 2 ^ f → x ≠ 0 → 1 ≤ Lib.bitLenAux f x ∧ x.testBit (Lib.bitLenAux f x - 1) = true := by
  intro f
  induction f with
  | zero => intro x h hx; simp at h; omega
  | succ f ih =>
    intro x h hx
    unfold Lib.bitLenAux
    rw [if_neg hx]
    refine ⟨by omega, ?_⟩
    by_cases e : x / 2 = 0
    · have e1 : x = 1 := by omega
      subst e1
      have e2 : Lib.bitLenAux f (1 / 2) = 0 := by
        cases f with
        | zero => rfl
        | succ f => rfl
      rw [e2]; rfl
    · obtain ⟨k1, k2⟩ := ih (x / 2) (by rw [Nat.pow_succ] at h; omega) e
      obtain ⟨s, hs⟩ : ∃ s, Lib.bitLenAux f (x / 2) = s + 1 := ⟨Lib.bitLenAux f (x / 2) - 1, by omega⟩
      rw [hs] at k2 ⊢
      rw [show 1 + (s + 1) - 1 = s + 1 by omega, Nat.testBit_succ]
      exact k2
/-- The top bit of a number that is not zero. -/
theorem top_bit (x : Nat) (hx : B64 x) (h0 : x ≠ 0) : ∃ i, lenN x = i + 1 ∧ i < 64 ∧ x.testBit i = true ∧ x < 2 ^ (i + 1) := by
  obtain ⟨k1, k2⟩ := bl_top 64 x hx h0
  have k3 := bl_lt 64 x hx
  refine ⟨Lib.bitLenAux 64 x - 1, ?_, ?_, k2, ?_⟩
  · show Lib.bitLenAux 64 x = _; omega
  · refine Nat.lt_of_not_le fun h => ?_
    rw [tb_big x _ hx h] at k2
    cases k2
  · rwa [Nat.sub_add_cancel k1]
theorem subR_congr (yv F G n : Nat) : ∀ xv xm, (∀ j, j < n → F.testBit j = G.testBit j) → subR yv F n xv xm = subR yv G n xv xm := by
  induction n with
  | zero => intro xv xm _; rfl
  | succ i ih =>
    intro xv xm h
    unfold subR
    rw [h i (by omega), ih _ _ (fun j hj => h j (by omega)), ih _ _ (fun j hj => h j (by omega))]
theorem subR_skip (yv F : Nat) (m : Nat) : ∀ n, m ≤ n → ∀ xv xm, (∀ j, m ≤ j → j < n → F.testBit j = false) → subR yv F n xv xm = subR yv F m xv xm := by
  intro n
  induction n with
  | zero => intro hm xv xm _; rw [show m = 0 by omega]
  | succ i ih =>
    intro hm xv xm h
    by_cases e : m = i + 1
    · rw [e]
    · have hF := h i (by omega) (by omega)
      have e1 : subR yv F (i + 1) xv xm = if F.testBit i = true then (xv ||| andN (2 ^ i) yv, xm ||| 2 ^ i) :: subR yv F i (xv ||| (2 ^ i &&& yv)) (xm ||| 2 ^ i) else subR yv F i xv xm := rfl
      rw [e1, hF, if_neg (by decide)]
      exact ih (by omega) xv xm fun j h1 h2 => h j h1 (by omega)
/-- One step from the top bit. -/
theorem subR_top (yv F i xv xm : Nat) (hi : i < 64) (hF : B64 F) (hb : F.testBit i = true) (hl : F < 2 ^ (i + 1)) : subR yv F 64 xv xm = (xv ||| andN (2 ^ i) yv, xm ||| 2 ^ i) :: subR yv (andN F (2 ^ i)) 64 (xv ||| (2 ^ i &&& yv)) (xm ||| 2 ^ i) := by
  rw [subR_skip yv F (i + 1) 64 (by omega) xv xm (fun j h1 _ => Nat.testBit_lt_two_pow (Nat.lt_of_lt_of_le hl (Nat.pow_le_pow_right (by decide) h1)))]
  show (if F.testBit i = true then _ else _) = _
  rw [if_pos hb]
  congr 1
  rw [subR_skip yv (andN F (2 ^ i)) i 64 (by omega) _ _ (fun j h1 _ => ?_)]
  · exact subR_congr yv _ _ i _ _ fun j hj => by rw [tb_andN _ _ _ hF (one_lt i hi), bit_one, decide_eq_false (by omega)]; simp
  · rw [tb_andN _ _ _ hF (one_lt i hi), bit_one]
    by_cases e : i = j
    · rw [decide_eq_true e]; simp
    · rw [decide_eq_false e, Nat.testBit_lt_two_pow (Nat.lt_of_lt_of_le hl (Nat.pow_le_pow_right (by decide) (by omega)))]; rfl
theorem andN_less (F i : Nat) (hi : i < 64) (hF : B64 F) (hb : F.testBit i = true) : andN F (2 ^ i) < F := by
  refine Nat.lt_of_le_of_ne Nat.and_le_left fun e => ?_
  have k := congrArg (fun x => x.testBit i) e
  simp only [tb_andN _ _ _ hF (one_lt i hi), bit_one, hb, decide_true] at k
  cases k
end Go.Proofs.Yteemhabgliglmaa
