/- The laws on Concat and Slice: their walks; no condition but that numbers are of their kind. -/
import Derived.Test.YtgknooblnpmloaaBvV
import Derived.Deep.RegionHeld3
namespace Go.Proofs.Ytgknooblnpmloaa
open Go.RowKit

theorem sliceB_range (a lo w : Int) : 0 ≤ sliceB a lo w ∧ sliceB a lo w ≤ 4294967295 := by
  unfold sliceB; split
  · exact redB_range _ _
  · omega
theorem sliceB_lt (a lo w : Int) : sliceB a lo w < 4294967296 := by have := sliceB_range a lo w; omega
theorem catB_range (a wa b wb : Int) : 0 ≤ catB a wa b wb ∧ catB a wa b wb < 4294967296 := by
  by_cases h : (1 ≤ wa ∧ wa ≤ 32) ∧ (1 ≤ wb ∧ wb ≤ 32) ∧ wa + wb ≤ 32
  · have := rcat_bd a wa b wb h.1.1 h.1.2 h.2.1.1 h.2.1.2 h.2.2
    have := redB_range b wb
    omega
  · rw [← cat_out a wa b wb h]; omega
/-- Two neighbouring remainders make the remainder by the product. -/
theorem mod_join (A : Int) (d e : Int) (hd : 0 < d) (he : 0 < e) : A / d % e * d + A % d = A % (d * e) := by
  have h1 := Int.emod_add_mul_ediv A d
  have h2 := Int.emod_add_mul_ediv (A / d) e
  have r1 := Int.emod_nonneg A (Int.ne_of_gt hd)
  have r2 := Int.emod_lt_of_pos A hd
  have s1 := Int.emod_nonneg (A / d) (Int.ne_of_gt he)
  have s2 := Int.emod_lt_of_pos (A / d) he
  have key : A = (A / d % e * d + A % d) + d * e * (A / d / e) := by
    have x : d * (A / d) = d * (A / d % e) + d * (e * (A / d / e)) := by rw [← Int.mul_add, h2]
    rw [Int.mul_assoc, Int.mul_comm (A / d % e) d]; omega
  have lo : 0 ≤ A / d % e * d + A % d := by have := Int.mul_nonneg s1 (Int.le_of_lt hd); omega
  have hi : A / d % e * d + A % d < d * e := by
    have : (A / d % e + 1) * d ≤ e * d := Int.mul_le_mul_of_nonneg_right (by omega) (Int.le_of_lt hd)
    rw [Int.add_mul, Int.mul_comm e d] at this; omega
  have fin : (A / d % e * d + A % d + d * e * (A / d / e)) % (d * e) = A / d % e * d + A % d := by
    rw [Int.add_mul_emod_self_left, Int.emod_eq_of_lt lo hi]
  rw [← key] at fin
  exact fin.symm
theorem slices_eq (a lo p q : Int) (h0 : 0 ≤ lo) (hp : 1 ≤ p) (hq : 1 ≤ q) (hs : lo + p + q ≤ 32) :
    catB (sliceB a (lo + q) p) p (sliceB a lo q) q = sliceB a lo (p + q) := by
  unfold catB sliceB
  rw [if_pos ⟨⟨hp, by omega⟩, ⟨hq, by omega⟩, by omega⟩, if_pos ⟨⟨hp, by omega⟩, by omega, by omega⟩, if_pos ⟨⟨hq, by omega⟩, h0, by omega⟩, if_pos ⟨⟨by omega, by omega⟩, h0, by omega⟩,
    redB_idem, redB_idem, redB_in _ p ⟨hp, by omega⟩, redB_in _ q ⟨hq, by omega⟩, redB_in _ (p + q) ⟨by omega, by omega⟩,
    show (lo + q).toNat = lo.toNat + q.toNat by omega, Int.pow_add, ← Int.ediv_ediv_of_nonneg (Int.le_of_lt (pow_pos' _)), show (p + q).toNat = q.toNat + p.toNat by omega, Int.pow_add]
  exact mod_join _ _ _ (pow_pos' _) (pow_pos' _)
theorem cats_lo (a wa b wb : Int) (ha1 : 1 ≤ wa) (hb1 : 1 ≤ wb) (hs : wa + wb ≤ 32) : sliceB (catB a wa b wb) 0 wb = redB b wb := by
  have rb := redB_lt b wb ⟨hb1, by omega⟩
  unfold sliceB catB
  rw [if_pos ⟨⟨hb1, by omega⟩, by omega, by omega⟩, if_pos ⟨⟨ha1, by omega⟩, ⟨hb1, by omega⟩, hs⟩, redB_in _ wb ⟨hb1, by omega⟩]
  simp only [show (0 : Int).toNat = 0 from rfl, Int.pow_zero, Int.ediv_one]
  rw [Int.add_comm, Int.add_mul_emod_self_right, Int.emod_eq_of_lt rb.1 rb.2]
theorem cats_hi (a wa b wb : Int) (ha1 : 1 ≤ wa) (hb1 : 1 ≤ wb) (hs : wa + wb ≤ 32) : sliceB (catB a wa b wb) wb wa = redB a wa := by
  have rb := redB_lt b wb ⟨hb1, by omega⟩
  unfold sliceB catB
  rw [if_pos ⟨⟨ha1, by omega⟩, by omega, by omega⟩, if_pos ⟨⟨ha1, by omega⟩, ⟨hb1, by omega⟩, hs⟩, Int.add_comm, Int.add_mul_ediv_right _ _ (Int.ne_of_gt (pow_pos' _)), Int.ediv_eq_zero_of_lt rb.1 rb.2, Int.zero_add, redB_idem]
theorem cats_fit (a wa b wb : Int) (ha1 : 1 ≤ wa) (hb1 : 1 ≤ wb) (hs : wa + wb ≤ 32) : fitsB (catB a wa b wb) (wa + wb) = true := by
  have ra := redB_lt a wa ⟨ha1, by omega⟩
  have rb := redB_lt b wb ⟨hb1, by omega⟩
  refine decide_eq_true ⟨by omega, by omega, ?_⟩
  unfold catB
  rw [if_pos ⟨⟨ha1, by omega⟩, ⟨hb1, by omega⟩, hs⟩, show (wa + wb).toNat = wa.toNat + wb.toNat by omega, Int.pow_add]
  have : (redB a wa + 1) * 2 ^ wb.toNat ≤ 2 ^ wa.toNat * 2 ^ wb.toNat := Int.mul_le_mul_of_nonneg_right (by omega) (Int.le_of_lt (pow_pos' _))
  rw [Int.add_mul] at this
  omega

/-- The two cells of a boxed array, still there. -/
theorem box_step {w w2 : World} {g : Nat} {x y : Value} (h : w.cell? ⟨g, 0, none⟩ = some x ∧ w.cell? ⟨g, 1, none⟩ = some y) (k : Gr w w2) : w2.cell? ⟨g, 0, none⟩ = some x ∧ w2.cell? ⟨g, 1, none⟩ = some y := by
  have hg : g < w.heap.size := by
    have := h.1
    simp only [World.cell?] at this
    rcases Nat.lt_or_ge g w.heap.size with hl | hl
    · exact hl
    · rw [Array.getElem?_eq_none hl] at this; simp at this
  have e := k.2.2.2.2 g hg
  simp only [World.cell?, e]
  exact h

theorem box_step3 {W w w2 : World} {g : Nat} {x y : Value} (h : w.cell? ⟨g, 0, none⟩ = some x ∧ w.cell? ⟨g, 1, none⟩ = some y ∧ Gr W w) (k : Gr w w2) : w2.cell? ⟨g, 0, none⟩ = some x ∧ w2.cell? ⟨g, 1, none⟩ = some y ∧ Gr W w2 :=
  ⟨(box_step ⟨h.1, h.2.1⟩ k).1, (box_step ⟨h.1, h.2.1⟩ k).2, grown_trans h.2.2 k⟩
theorem box_start (W : World) (x y : Value) (t : TypeId) : (W.alloc (.cells #[x, y] t)).cell? ⟨W.heap.size, 0, none⟩ = some x ∧ (W.alloc (.cells #[x, y] t)).cell? ⟨W.heap.size, 1, none⟩ = some y ∧ Gr W (W.alloc (.cells #[x, y] t)) :=
  ⟨by simp [go_sem], by simp [go_sem], (Gr.refl _).alloc _ _⟩

end Go.Proofs.Ytgknooblnpmloaa
