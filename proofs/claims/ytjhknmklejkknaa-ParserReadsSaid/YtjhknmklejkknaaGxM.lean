/- Several texts in one: FrY, FrR. -/
import Derived.Test.YtjhknmklejkknaaTpB
import Derived.Test.YtjhknmklejkknaaGxB
section
namespace Go.Proofs.Ytjhknmklejkknaa
open Go.ChangeShapes Go.WideShapes Go.ChangeAt Go.RowKit Go.Joins Go.Deep
set_option linter.unusedVariables false
section
variable {H : Type} {enc : TypeId × Value → H} {w : World}
theorem open_sfz {n : Nat} {v : Value} {x : DataW H × List MemPlace} (h : DataW.trod enc Try.prog w 0 (fun _ => true) true n 23 [v] = some x) : ∃ a l c L, v = .slice a l c ∧ SF w a l c L ∧ ∀ p ∈ L, p.1.size ≤ 9223372036854775807 := by
  rcases open_slice_pairs Try.underlying23 Try.underlying94 (by kernel_rfl) rfl rfl (by kernel_rfl) (by kernel_rfl) h with ⟨hcs, _⟩ | ⟨a, len, cap, m, n, V0, V1, D0, D1, P0, P1, hcs, _, hl, _, hm, _, hx⟩
  · injection hcs with h1 _
    exact ⟨_, _, _, [], h1, sf_nil _, fun p hp => by cases hp⟩
  · injection hcs with h1 _
    have each : ∀ i, i < len → ∃ q : Fld, w.cell? (a.add (i * 2)) = some (.string q.1) ∧ w.cell? (a.add (i * 2 + 1)) = some (.int .i64 q.2) ∧ q.1.size ≤ 9223372036854775807 := by
      intro i hi
      obtain ⟨k0, k1, g0, g1⟩ := hx i (by rw [hm]; simp; omega)
      obtain ⟨x, e0, _, w0⟩ := DataW.trod_string Try.underlying9 g0
      obtain ⟨y, e1, _, w1⟩ := DataW.trod_int Try.underlying3 g1
      injection e0 with e0 _
      injection e1 with e1 _
      rw [e0] at k0
      rw [e1] at k1
      exact ⟨(x, y), k0, k1, Nat.le_trans w0 (by decide)⟩
    obtain ⟨q, hq⟩ := choose_lt each
    refine ⟨_, _, _, (List.range len).map q, h1, ⟨by simp, (fun e => by cases e), hl, fun ad e j hj => ?_⟩, fun p hp => by obtain ⟨i, hi, rfl⟩ := List.mem_map.1 hp; exact (hq i (List.mem_range.1 hi)).2.2⟩
    cases e
    rw [add_n']
    have e : ((List.range len).map q).getD j fz = q j := by simp [hj]
    rw [e]
    exact ⟨(hq j hj).1, (hq j hj).2.1⟩
theorem open_shz {n : Nat} {v : Value} {x : DataW H × List MemPlace} (h : DataW.trod enc Try.prog w 0 (fun _ => true) true n 22 [v] = some x) : ∃ a l c L, v = .slice a l c ∧ SH w a l c L ∧ ∀ x ∈ L, x.1.size ≤ 9223372036854775807 ∧ ∀ p ∈ x.2, p.1.size ≤ 9223372036854775807 := by
  rcases open_slice_pairs Try.underlying22 Try.underlying66 (by kernel_rfl) rfl rfl (by kernel_rfl) (by kernel_rfl) h with ⟨hcs, _⟩ | ⟨a, len, cap, m, n, V0, V1, D0, D1, P0, P1, hcs, _, hl, _, hm, _, hx⟩
  · injection hcs with h1 _
    exact ⟨_, _, _, [], h1, ⟨rfl, fun _ => ⟨rfl, rfl⟩, Nat.le_refl _, fun ad e => by cases e⟩, fun p hp => by cases hp⟩
  · injection hcs with h1 _
    have each : ∀ i, i < len → ∃ q : ByteArray × List Fld, w.cell? (a.add (i * 2)) = some (.string q.1) ∧ ∃ fa fn fc, w.cell? (a.add (i * 2 + 1)) = some (.slice fa fn fc) ∧ SF w fa fn fc q.2 ∧ q.1.size ≤ 9223372036854775807 ∧ ∀ p ∈ q.2, p.1.size ≤ 9223372036854775807 := by
      intro i hi
      obtain ⟨k0, k1, g0, g1⟩ := hx i (by rw [hm]; simp; omega)
      obtain ⟨x, e0, _, w0⟩ := DataW.trod_string Try.underlying9 g0
      obtain ⟨fa, fn, fc, L, e1, sf, lz⟩ := open_sfz g1
      injection e0 with e0 _
      rw [e0] at k0
      rw [e1] at k1
      exact ⟨(x, L), k0, fa, fn, fc, k1, sf, Nat.le_trans w0 (by decide), lz⟩
    obtain ⟨q, hq⟩ := choose_lt each
    refine ⟨_, _, _, (List.range len).map q, h1, ⟨by simp, (fun e => by cases e), hl, fun ad e j hj => ?_⟩, fun p hp => by obtain ⟨i, hi, rfl⟩ := List.mem_map.1 hp; obtain ⟨_, _, _, _, _, _, z⟩ := hq i (List.mem_range.1 hi); exact z⟩
    cases e
    rw [add_n']
    have e : ((List.range len).map q).getD j hz = q j := by simp [hj]
    rw [e]
    obtain ⟨c0, f0, f1, f2, c1, s, _⟩ := hq j hj
    exact ⟨c0, f0, f1, f2, c1, s⟩
theorem open_sy {n : Nat} {v : Value} {x : DataW H × List MemPlace} (h : DataW.trod enc Try.prog w 0 (fun _ => true) true n 37 [v] = some x) : ∃ a l c L, v = .slice a l c ∧ SY w a l c L := by
  rcases open_ones Try.underlying37 (by kernel_rfl) h with rfl | ⟨a, l, c, k, V, rfl, hl, hV⟩
  · exact ⟨_, _, _, [], rfl, ⟨rfl, fun _ => ⟨rfl, rfl⟩, fun ad e j u hu => by cases e⟩, Nat.le_refl _, fun x hx => by cases hx⟩
  · have each : ∀ i, i < l → ∃ z : Int, w.cell? (a.add i) = some (.int .u8 z) ∧ 0 ≤ z ∧ z < 256 := by
      intro i hi
      obtain ⟨h1, y, h2⟩ := hV i hi
      obtain ⟨z, e, _, wf⟩ := DataW.trod_int Try.underlying5 h2
      injection e with e _
      rw [e] at h1
      have := u8_bd wf
      exact ⟨z, h1, this.1, by omega⟩
    obtain ⟨Z, hZ⟩ := choose_lt each
    refine ⟨_, _, _, (List.range l).map Z, rfl, ⟨by simp, (fun e => by cases e), fun ad e j u hu => ?_⟩, hl, fun y hy => ?_⟩
    · cases e
      obtain ⟨hj, e2⟩ := List.getElem?_eq_some_iff.1 hu
      have hj : j < l := by simpa using hj
      have e2 : u = .int .u8 (Z j) := by rw [← e2]; simp
      rw [e2]; exact (hZ j hj).1
    · obtain ⟨j, hj, rfl⟩ := List.mem_map.1 hy
      exact (hZ j (List.mem_range.1 hj)).2
set_option maxRecDepth 100000 in
theorem open_env {r : Reach} {b0 : Nat} {v : Value} {d : DataW H} {p : List MemPlace} (hv : Value.okWide Try.prog w r b0 42 v) (h : DataW.Trod enc Try.prog w 0 (fun _ => true) true 42 v d p) :
    ∃ (X : EX) (L : EL), v = .agg #[.slice X.va X.vn X.vc, .slice X.fa X.fn X.fc, .slice X.ta X.tn X.tc, .slice X.pa X.pn X.pc] ∧ ER w X L := by
  have z10 : Try.prog.cellsOf 38 = 1 := by kernel_rfl
  have z11 : Try.prog.cellsOf 39 = 1 := by kernel_rfl
  have z12 : Try.prog.cellsOf 40 = 1 := by kernel_rfl
  have z13 : Try.prog.cellsOf 37 = 1 := by kernel_rfl
  obtain ⟨cs, rfl, hsz⟩ := okWide_struct Try.underlying42 hv
  obtain ⟨l⟩ := cs
  have hl : l.length = 4 := hsz.trans (by kernel_rfl)
  match l, hl with
  | [c0, c1, c2, c3], _ =>
    obtain ⟨fuel, hf⟩ := h
    obtain ⟨xs, n, _, _, _, hlen, pg⟩ := DataW.trod_struct Try.underlying42 hf
    match xs, hlen with
    | [q0, q1, q2, q3], _ =>
      have e0 := pg 0 _ rfl
      have e1 := pg 1 _ rfl
      have e2 := pg 2 _ rfl
      have e3 := pg 3 _ rfl
      simp [Value.cells, z10] at e0
      simp [Value.cells, z11] at e1
      simp [Value.cells, z12] at e2
      simp [Value.cells, z13] at e3
      obtain ⟨va, vn, vc, LV, rfl, sv⟩ := open_sb e0
      obtain ⟨fa, fn, fc, LF, rfl, sf⟩ := open_sr e1
      obtain ⟨ta, tn, tc, LT, rfl, st⟩ := open_su e2
      obtain ⟨pa, pn, pc, LP, rfl, sp⟩ := open_sy e3
      exact ⟨⟨va, fa, ta, pa, vn, vc, fn, fc, tn, tc, pn, pc⟩, ⟨LV, LF, LT, LP⟩, rfl, sv, sf, st, sp⟩
end
theorem low19 {W W' : World} {e : Ending} (h : RetV (.bool true) W e W') : e = .returned (.bool true) ∧ Below W.heap.size W W' := ⟨h.1, ⟨h.2.os, h.2.tape, h.2.output, h.2.size, fun i hi => h.2.block i hi (by simp)⟩⟩
end Go.Proofs.Ytjhknmklejkknaa
end
section
namespace Go.Proofs.Ytjhknmklejkknaa
open Go.ChangeShapes Go.WideShapes Go.ChangeAt Go.RowKit Go.Joins Go.Deep
set_option linter.unusedVariables false
section
variable {H : Type} {enc : TypeId × Value → H} {w : World}
set_option maxRecDepth 100000 in
theorem open_hdrs {r : Reach} {b0 : Nat} {v : Value} {d : DataW H} {p : List MemPlace} (hv : Value.okWide Try.prog w r b0 22 v) (h : DataW.Trod enc Try.prog w 0 (fun _ => true) true 22 v d p) :
    ∃ a l c L, v = .slice a l c ∧ SH w a l c L ∧ ∀ x ∈ L, x.1.size ≤ 9223372036854775807 ∧ ∀ p ∈ x.2, p.1.size ≤ 9223372036854775807 := by
  obtain ⟨a0, len0, cap0, rfl⟩ := okWide_slice Try.underlying22 hv
  obtain ⟨fuel, hf⟩ := h
  exact open_shz (v := .slice a0 len0 cap0) hf
set_option maxRecDepth 100000 in
theorem open_irow {r : Reach} {b0 : Nat} {v : Value} {d : DataW H} {p : List MemPlace} (hv : Value.okWide Try.prog w r b0 29 v) (h : DataW.Trod enc Try.prog w 0 (fun _ => true) true 29 v d p) :
    ∃ a l c L, v = .slice a l c ∧ SI w a l c L := by
  obtain ⟨a0, len0, cap0, rfl⟩ := okWide_slice Try.underlying29 hv
  obtain ⟨fuel, hf⟩ := h
  exact open_si (v := .slice a0 len0 cap0) hf
end
end Go.Proofs.Ytjhknmklejkknaa
end
