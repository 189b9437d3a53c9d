/- How a program is opened as an argument; no condition. -/
import Derived.Test.YtjhknmklejkknaaTpA
import Derived.Deep.SlicePairs
import Derived.Deep.Slices
import Derived.Deep.Fields
import Derived.ChangeSame
namespace Go.Proofs.Ytjhknmklejkknaa
open Go.ChangeShapes Go.WideShapes Go.ChangeAt Go.RowKit Go.Joins Go.Deep
set_option linter.unusedVariables false
section
variable {H : Type} {enc : TypeId × Value → H} {w : World}
theorem open_ones {t e : TypeId} {n : Nat} {v : Value} {x : DataW H × List MemPlace} (ht : Try.prog.underlying t = some (.slice e)) (ce : Try.prog.cellsOf e = 1) (h : DataW.trod enc Try.prog w 0 (fun _ => true) true n t [v] = some x) :
    v = .slice none 0 0 ∨ ∃ (a : Addr) (l c k : Nat) (V : Nat → Value), v = .slice (some a) l c ∧ l ≤ c ∧ ∀ i, i < l → w.cell? (a.add i) = some (V i) ∧ ∃ y, DataW.trod enc Try.prog w 0 (fun _ => true) true k e [V i] = some y := by
  rcases open_slice ht h with ⟨hcs, _⟩ | ⟨a, len, cap, m, k, D, Pl, hcs, _, hl, _, hm, _, hx⟩
  · injection hcs with h1 _; exact .inl h1
  · injection hcs with h1 _
    have each : ∀ i, i < len → ∃ q : Value, w.cell? (a.add i) = some q ∧ ∃ y, DataW.trod enc Try.prog w 0 (fun _ => true) true k e [q] = some y := by
      intro i hi
      obtain ⟨cs', hc, ht'⟩ := hx i (by rw [hm]; simp; omega)
      rw [ce] at hc
      obtain ⟨_, hcl, hat⟩ := World.cells?_some hc
      match cs', hcl with
      | [q], _ =>
        have h0 := hat (i := 0) (by decide)
        rw [Nat.mul_one, Go.Deep.add_add] at h0
        exact ⟨q, by simpa using h0, _, ht'⟩
    obtain ⟨V, hV⟩ := choose_lt each
    exact .inr ⟨a, len, cap, k, V, h1, hl, hV⟩
theorem open_su {n : Nat} {v : Value} {x : DataW H × List MemPlace} (h : DataW.trod enc Try.prog w 0 (fun _ => true) true n 40 [v] = some x) : ∃ a l c L, v = .slice a l c ∧ SU w a l c L := by
  rcases open_ones Try.underlying40 (by kernel_rfl) h with rfl | ⟨a, l, c, k, V, rfl, hl, hV⟩
  · exact ⟨_, _, _, [], rfl, su_nil _⟩
  · have each : ∀ i, i < l → ∃ z : Int, w.cell? (a.add i) = some (.int .u32 z) ∧ 0 ≤ z ∧ z < 4294967296 := by
      intro i hi
      obtain ⟨h1, y, h2⟩ := hV i hi
      obtain ⟨z, e, _, wf⟩ := DataW.trod_int Try.underlying58 h2
      injection e with e _
      rw [e] at h1
      have := u32_bd wf
      exact ⟨z, h1, this.1, this.2⟩
    obtain ⟨Z, hZ⟩ := choose_lt each
    refine ⟨_, _, _, (List.range l).map Z, rfl, by simp, (fun e => by cases e), hl, fun ad e j hj => ?_, fun y hy => ?_⟩
    · cases e
      have e : ((List.range l).map Z).getD j 0 = Z j := by simp [hj]
      rw [e]; exact (hZ j hj).1
    · obtain ⟨j, hj, rfl⟩ := List.mem_map.1 hy
      exact (hZ j (List.mem_range.1 hj)).2
theorem open_sb {n : Nat} {v : Value} {x : DataW H × List MemPlace} (h : DataW.trod enc Try.prog w 0 (fun _ => true) true n 38 [v] = some x) : ∃ a l c L, v = .slice a l c ∧ SB w a l c L := by
  rcases open_ones Try.underlying38 (by kernel_rfl) h with rfl | ⟨a, l, c, k, V, rfl, hl, hV⟩
  · exact ⟨_, _, _, [], rfl, rfl, fun _ => ⟨rfl, rfl⟩, Nat.le_refl _, fun ad e => by cases e⟩
  · have each : ∀ i, i < l → ∃ z : Bool, w.cell? (a.add i) = some (.bool z) := by
      intro i hi
      obtain ⟨h1, y, h2⟩ := hV i hi
      obtain ⟨z, e, _⟩ := DataW.trod_bool Try.underlying4 h2
      injection e with e _
      rw [e] at h1
      exact ⟨z, h1⟩
    obtain ⟨Z, hZ⟩ := choose_lt each
    refine ⟨_, _, _, (List.range l).map Z, rfl, by simp, (fun e => by cases e), hl, fun ad e j hj => ?_⟩
    cases e
    have e : ((List.range l).map Z).getD j false = Z j := by simp [hj]
    rw [e]; exact hZ j hj
theorem open_sr {n : Nat} {v : Value} {x : DataW H × List MemPlace} (h : DataW.trod enc Try.prog w 0 (fun _ => true) true n 39 [v] = some x) : ∃ a l c L, v = .slice a l c ∧ SR w a l c L := by
  rcases open_ones Try.underlying39 (by kernel_rfl) h with rfl | ⟨a, l, c, k, V, rfl, hl, hV⟩
  · exact ⟨_, _, _, [], rfl, rfl, fun _ => ⟨rfl, rfl⟩, Nat.le_refl _, fun ad e => by cases e⟩
  · have each : ∀ i, i < l → ∃ z : List Int, ∃ fa fn fc, w.cell? (a.add i) = some (.slice fa fn fc) ∧ SU w fa fn fc z := by
      intro i hi
      obtain ⟨h1, y, h2⟩ := hV i hi
      obtain ⟨fa, fn, fc, L, e, su⟩ := open_su h2
      rw [e] at h1
      exact ⟨L, fa, fn, fc, h1, su⟩
    obtain ⟨Z, hZ⟩ := choose_lt each
    refine ⟨_, _, _, (List.range l).map Z, rfl, by simp, (fun e => by cases e), hl, fun ad e j hj => ?_⟩
    cases e
    have e : ((List.range l).map Z).getD j [] = Z j := by simp [hj]
    rw [e]; exact hZ j hj
theorem add_n' (ad : Addr) (k : Nat) : (⟨(ad.add k).block, (ad.add k).off + 1, none⟩ : Addr) = ad.add (k + 1) := by
  rw [← Addr.add_add]
  rfl
theorem open_si {n : Nat} {v : Value} {x : DataW H × List MemPlace} (h : DataW.trod enc Try.prog w 0 (fun _ => true) true n 29 [v] = some x) : ∃ a l c L, v = .slice a l c ∧ SI w a l c L := by
  rcases open_ones Try.underlying29 (by kernel_rfl) h with rfl | ⟨a, l, c, k, V, rfl, hl, hV⟩
  · exact ⟨_, _, _, [], rfl, si_nil _⟩
  · have each : ∀ i, i < l → ∃ z : Int, w.cell? (a.add i) = some (.int .i64 z) ∧ -9223372036854775808 ≤ z ∧ z ≤ 9223372036854775807 := by
      intro i hi
      obtain ⟨h1, y, h2⟩ := hV i hi
      obtain ⟨z, e, _, wf⟩ := DataW.trod_int Try.underlying3 h2
      injection e with e _
      rw [e] at h1
      exact ⟨z, h1, i64_bd wf⟩
    obtain ⟨Z, hZ⟩ := choose_lt each
    refine ⟨_, _, _, (List.range l).map Z, rfl, by simp, (fun e => by cases e), hl, fun ad e j hj => ?_, fun y hy => ?_⟩
    · cases e
      have e : ((List.range l).map Z).getD j 0 = Z j := by simp [hj]
      rw [e]; exact (hZ j hj).1
    · obtain ⟨j, hj, rfl⟩ := List.mem_map.1 hy
      exact (hZ j (List.mem_range.1 hj)).2
end
end Go.Proofs.Ytjhknmklejkknaa
