/- Env: how the arguments of the laws are opened: a program, an environment, accesses; no condition. -/
import Derived.Test.YtolifmpnhflegaaEwE
import Derived.Test.YtolifmpnhflegaaEwD
import Derived.Test.YtolifmpnhflegaaEwB
import Derived.Deep.SlicePairs
import Derived.Deep.Slices
import Derived.Deep.Fields
import Derived.ChangeSame
namespace Go.Proofs.Ytolifmpnhflegaa
open Go.ChangeShapes Go.WideShapes Go.ChangeAt Go.RowKit Go.Joins Go.Deep
set_option linter.unusedVariables false
section
variable {H : Type} {enc : TypeId × Value → H} {w : World}
theorem shape_sl {t e : TypeId} {n : Nat} {v : Value} {x : DataW H × List MemPlace} (ht : Try.prog.underlying t = some (.slice e)) (h : DataW.trod enc Try.prog w 0 (fun _ => true) true n t [v] = some x) : ∃ a l c, v = .slice a l c := by
  rcases open_slice ht h with ⟨hcs, _⟩ | ⟨a, len, cap, m, n, D, Pl, hcs, _⟩
  · injection hcs with h1 _; exact ⟨_, _, _, h1⟩
  · injection hcs with h1 _; exact ⟨_, _, _, h1⟩
theorem open_ones {t e : TypeId} {n : Nat} {v : Value} {x : DataW H × List MemPlace} (ht : Try.prog.underlying t = some (.slice e)) (ce : Try.prog.cellsOf e = 1) (h : DataW.trod enc Try.prog w 0 (fun _ => true) true n t [v] = some x) :
    v = .slice none 0 0 ∨ ∃ (a : Addr) (l c k : Nat) (V : Nat → Value), v = .slice (some a) l c ∧ l ≤ c ∧ ∀ i, i < l → w.cell? (a.add i) = some (V i) ∧ ∃ y, DataW.trod enc Try.prog w 0 (fun _ => true) true k e [V i] = some y := by
  rcases open_slice ht h with ⟨hcs, _⟩ | ⟨a, len, cap, m, k, D, Pl, hcs, _, hl, _, hm, _, hx⟩
  · injection hcs with h1 _; exact .inl h1
  · injection hcs with h1 _
    have each : ∀ i, i < len → ∃ q : Value, w.cell? (a.add i) = some q ∧ ∃ y, DataW.trod enc Try.prog w 0 (fun _ => true) true k e [q] = some y := by
      intro i hi
      obtain ⟨cs', hc, ht'⟩ := hx i (by rw [hm]; simp; omega)
      rw [ce] at hc
      obtain ⟨_, hcl, hat⟩ := World.cells?_some hc
      match cs', hcl with
      | [q], _ =>
        have h0 := hat (i := 0) (by decide)
        rw [Nat.mul_one, Go.Deep.add_add] at h0
        exact ⟨q, by simpa using h0, _, ht'⟩
    obtain ⟨V, hV⟩ := choose_lt each
    exact .inr ⟨a, len, cap, k, V, h1, hl, hV⟩
theorem open_su {n : Nat} {v : Value} {x : DataW H × List MemPlace} (h : DataW.trod enc Try.prog w 0 (fun _ => true) true n 34 [v] = some x) : ∃ a l c L, v = .slice a l c ∧ SU w a l c L := by
  rcases open_ones Try.underlying34 (by kernel_rfl) h with rfl | ⟨a, l, c, k, V, rfl, hl, hV⟩
  · exact ⟨_, _, _, [], rfl, su_nil _⟩
  · have each : ∀ i, i < l → ∃ z : Int, w.cell? (a.add i) = some (.int .u32 z) ∧ 0 ≤ z ∧ z < 4294967296 := by
      intro i hi
      obtain ⟨h1, y, h2⟩ := hV i hi
      obtain ⟨z, e, _, wf⟩ := DataW.trod_int Try.underlying49 h2
      injection e with e _
      rw [e] at h1
      have := u32_bd wf
      exact ⟨z, h1, this.1, this.2⟩
    obtain ⟨Z, hZ⟩ := choose_lt each
    refine ⟨_, _, _, (List.range l).map Z, rfl, by simp, (fun e => by cases e), hl, fun ad e j hj => ?_, fun y hy => ?_⟩
    · cases e
      have e : ((List.range l).map Z).getD j 0 = Z j := by simp [hj]
      rw [e]; exact (hZ j hj).1
    · obtain ⟨j, hj, rfl⟩ := List.mem_map.1 hy
      exact (hZ j (List.mem_range.1 hj)).2
theorem open_sb {n : Nat} {v : Value} {x : DataW H × List MemPlace} (h : DataW.trod enc Try.prog w 0 (fun _ => true) true n 32 [v] = some x) : ∃ a l c L, v = .slice a l c ∧ SB w a l c L := by
  rcases open_ones Try.underlying32 (by kernel_rfl) h with rfl | ⟨a, l, c, k, V, rfl, hl, hV⟩
  · exact ⟨_, _, _, [], rfl, rfl, fun _ => ⟨rfl, rfl⟩, Nat.le_refl _, fun ad e => by cases e⟩
  · have each : ∀ i, i < l → ∃ z : Bool, w.cell? (a.add i) = some (.bool z) := by
      intro i hi
      obtain ⟨h1, y, h2⟩ := hV i hi
      obtain ⟨z, e, _⟩ := DataW.trod_bool Try.underlying4 h2
      injection e with e _
      rw [e] at h1
      exact ⟨z, h1⟩
    obtain ⟨Z, hZ⟩ := choose_lt each
    refine ⟨_, _, _, (List.range l).map Z, rfl, by simp, (fun e => by cases e), hl, fun ad e j hj => ?_⟩
    cases e
    have e : ((List.range l).map Z).getD j false = Z j := by simp [hj]
    rw [e]; exact hZ j hj
theorem open_sr {n : Nat} {v : Value} {x : DataW H × List MemPlace} (h : DataW.trod enc Try.prog w 0 (fun _ => true) true n 33 [v] = some x) : ∃ a l c L, v = .slice a l c ∧ SR w a l c L := by
  rcases open_ones Try.underlying33 (by kernel_rfl) h with rfl | ⟨a, l, c, k, V, rfl, hl, hV⟩
  · exact ⟨_, _, _, [], rfl, rfl, fun _ => ⟨rfl, rfl⟩, Nat.le_refl _, fun ad e => by cases e⟩
  · have each : ∀ i, i < l → ∃ z : List Int, ∃ fa fn fc, w.cell? (a.add i) = some (.slice fa fn fc) ∧ SU w fa fn fc z := by
      intro i hi
      obtain ⟨h1, y, h2⟩ := hV i hi
      obtain ⟨fa, fn, fc, L, e, su⟩ := open_su h2
      rw [e] at h1
      exact ⟨L, fa, fn, fc, h1, su⟩
    obtain ⟨Z, hZ⟩ := choose_lt each
    refine ⟨_, _, _, (List.range l).map Z, rfl, by simp, (fun e => by cases e), hl, fun ad e j hj => ?_⟩
    cases e
    have e : ((List.range l).map Z).getD j [] = Z j := by simp [hj]
    rw [e]; exact hZ j hj
theorem add_n' (ad : Addr) (k : Nat) : (⟨(ad.add k).block, (ad.add k).off + 1, none⟩ : Addr) = ad.add (k + 1) := by
  rw [← Addr.add_add]
  rfl
theorem add_n2 (ad : Addr) (k : Nat) : (⟨(ad.add k).block, (ad.add k).off + 2, none⟩ : Addr) = ad.add (k + 2) := by
  rw [← Addr.add_add]
  rfl
theorem open_sf {n : Nat} {v : Value} {x : DataW H × List MemPlace} (h : DataW.trod enc Try.prog w 0 (fun _ => true) true n 23 [v] = some x) : ∃ a l c L, v = .slice a l c ∧ SF w a l c L := by
  rcases open_slice_pairs Try.underlying23 Try.underlying73 (by kernel_rfl) rfl rfl (by kernel_rfl) (by kernel_rfl) h with ⟨hcs, _⟩ | ⟨a, len, cap, m, n, V0, V1, D0, D1, P0, P1, hcs, _, hl, _, hm, _, hx⟩
  · injection hcs with h1 _
    exact ⟨_, _, _, [], h1, sf_nil _⟩
  · injection hcs with h1 _
    have each : ∀ i, i < len → ∃ q : Fld, w.cell? (a.add (i * 2)) = some (.string q.1) ∧ w.cell? (a.add (i * 2 + 1)) = some (.int .i64 q.2) := by
      intro i hi
      obtain ⟨k0, k1, g0, g1⟩ := hx i (by rw [hm]; simp; omega)
      obtain ⟨x, e0, _, w0⟩ := DataW.trod_string Try.underlying9 g0
      obtain ⟨y, e1, _, w1⟩ := DataW.trod_int Try.underlying3 g1
      injection e0 with e0 _
      injection e1 with e1 _
      rw [e0] at k0
      rw [e1] at k1
      exact ⟨(x, y), k0, k1⟩
    obtain ⟨q, hq⟩ := choose_lt each
    refine ⟨_, _, _, (List.range len).map q, h1, by simp, (fun e => by cases e), hl, fun ad e j hj => ?_⟩
    cases e
    rw [add_n']
    have e : ((List.range len).map q).getD j fz = q j := by simp [hj]
    rw [e]
    exact hq j hj
theorem open_sh {n : Nat} {v : Value} {x : DataW H × List MemPlace} (h : DataW.trod enc Try.prog w 0 (fun _ => true) true n 22 [v] = some x) : ∃ a l c L, v = .slice a l c ∧ SH w a l c L := by
  rcases open_slice_pairs Try.underlying22 Try.underlying68 (by kernel_rfl) rfl rfl (by kernel_rfl) (by kernel_rfl) h with ⟨hcs, _⟩ | ⟨a, len, cap, m, n, V0, V1, D0, D1, P0, P1, hcs, _, hl, _, hm, _, hx⟩
  · injection hcs with h1 _
    exact ⟨_, _, _, [], h1, rfl, fun _ => ⟨rfl, rfl⟩, Nat.le_refl _, fun ad e => by cases e⟩
  · injection hcs with h1 _
    have each : ∀ i, i < len → ∃ q : ByteArray × List Fld, w.cell? (a.add (i * 2)) = some (.string q.1) ∧ ∃ fa fn fc, w.cell? (a.add (i * 2 + 1)) = some (.slice fa fn fc) ∧ SF w fa fn fc q.2 := by
      intro i hi
      obtain ⟨k0, k1, g0, g1⟩ := hx i (by rw [hm]; simp; omega)
      obtain ⟨x, e0, _, w0⟩ := DataW.trod_string Try.underlying9 g0
      obtain ⟨fa, fn, fc, L, e1, sf⟩ := open_sf g1
      injection e0 with e0 _
      rw [e0] at k0
      rw [e1] at k1
      exact ⟨(x, L), k0, fa, fn, fc, k1, sf⟩
    obtain ⟨q, hq⟩ := choose_lt each
    refine ⟨_, _, _, (List.range len).map q, h1, by simp, (fun e => by cases e), hl, fun ad e j hj => ?_⟩
    cases e
    rw [add_n']
    have e : ((List.range len).map q).getD j hz = q j := by simp [hj]
    rw [e]
    exact hq j hj
theorem open_sy {n : Nat} {v : Value} {x : DataW H × List MemPlace} (h : DataW.trod enc Try.prog w 0 (fun _ => true) true n 35 [v] = some x) : ∃ a l c L, v = .slice a l c ∧ SY w a l c L := by
  rcases open_ones Try.underlying35 (by kernel_rfl) h with rfl | ⟨a, l, c, k, V, rfl, hl, hV⟩
  · exact ⟨_, _, _, [], rfl, ⟨rfl, fun _ => ⟨rfl, rfl⟩, fun ad e j u hu => by cases e⟩, Nat.le_refl _, fun x hx => by cases hx⟩
  · have each : ∀ i, i < l → ∃ z : Int, w.cell? (a.add i) = some (.int .u8 z) ∧ 0 ≤ z ∧ z < 256 := by
      intro i hi
      obtain ⟨h1, y, h2⟩ := hV i hi
      obtain ⟨z, e, _, wf⟩ := DataW.trod_int Try.underlying5 h2
      injection e with e _
      rw [e] at h1
      have := u8_bd wf
      exact ⟨z, h1, this.1, by omega⟩
    obtain ⟨Z, hZ⟩ := choose_lt each
    refine ⟨_, _, _, (List.range l).map Z, rfl, ⟨by simp, (fun e => by cases e), fun ad e j u hu => ?_⟩, hl, fun y hy => ?_⟩
    · cases e
      obtain ⟨hj, e2⟩ := List.getElem?_eq_some_iff.1 hu
      have hj : j < l := by simpa using hj
      have e2 : u = .int .u8 (Z j) := by rw [← e2]; simp
      rw [e2]; exact (hZ j hj).1
    · obtain ⟨j, hj, rfl⟩ := List.mem_map.1 hy
      exact (hZ j (List.mem_range.1 hj)).2
set_option maxRecDepth 100000 in
theorem open_eprog {r : Reach} {b0 : Nat} {v : Value} {d : DataW H} {p : List MemPlace} (hv : Value.okWide Try.prog w r b0 31 v) (h : DataW.Trod enc Try.prog w 0 (fun _ => true) true 31 v d p) :
    ∃ (nm v3 v4 v5 v6 v7 v8 : Value) (ha ma : Option Addr) (hn hc mn mc : Nat) (LH : List (ByteArray × List Fld)) (LM : List Fld), v = .agg #[nm, .slice ha hn hc, .slice ma mn mc, v3, v4, v5, v6, v7, v8] ∧ SH w ha hn hc LH ∧ SF w ma mn mc LM := by
  have z0 : Try.prog.cellsOf 9 = 1 := by kernel_rfl
  have z1 : Try.prog.cellsOf 22 = 1 := by kernel_rfl
  have z2 : Try.prog.cellsOf 23 = 1 := by kernel_rfl
  have z3 : Try.prog.cellsOf 24 = 1 := by kernel_rfl
  have z4 : Try.prog.cellsOf 25 = 1 := by kernel_rfl
  have z5 : Try.prog.cellsOf 26 = 1 := by kernel_rfl
  have z6 : Try.prog.cellsOf 27 = 1 := by kernel_rfl
  have z7 : Try.prog.cellsOf 28 = 1 := by kernel_rfl
  have z8 : Try.prog.cellsOf 29 = 1 := by kernel_rfl
  obtain ⟨cs, rfl, hsz⟩ := okWide_struct Try.underlying31 hv
  obtain ⟨l⟩ := cs
  have hl : l.length = 9 := hsz.trans (by kernel_rfl)
  match l, hl with
  | [c0, c1, c2, c3, c4, c5, c6, c7, c8], _ =>
    obtain ⟨fuel, hf⟩ := h
    obtain ⟨xs, n, _, _, _, hlen, pg⟩ := DataW.trod_struct Try.underlying31 hf
    match xs, hlen with
    | [q0, q1, q2, q3, q4, q5, q6, q7, q8], _ =>
      have p0 := pg 0 _ rfl
      have p1 := pg 1 _ rfl
      have p2 := pg 2 _ rfl
      simp [Value.cells, z0] at p0
      simp [Value.cells, z1] at p1
      simp [Value.cells, z2] at p2
      obtain ⟨a1, n1, d1, LH, rfl, sh⟩ := open_sh p1
      obtain ⟨a2, n2, d2, LM, rfl, sm⟩ := open_sf p2
      exact ⟨c0, c3, c4, c5, c6, c7, c8, a1, a2, n1, d1, n2, d2, LH, LM, rfl, sh, sm⟩
set_option maxRecDepth 100000 in
theorem open_env {r : Reach} {b0 : Nat} {v : Value} {d : DataW H} {p : List MemPlace} (hv : Value.okWide Try.prog w r b0 37 v) (h : DataW.Trod enc Try.prog w 0 (fun _ => true) true 37 v d p) :
    ∃ (X : EX) (L : EL), v = .agg #[.slice X.va X.vn X.vc, .slice X.fa X.fn X.fc, .slice X.ta X.tn X.tc, .slice X.pa X.pn X.pc] ∧ ER w X L := by
  have z10 : Try.prog.cellsOf 32 = 1 := by kernel_rfl
  have z11 : Try.prog.cellsOf 33 = 1 := by kernel_rfl
  have z12 : Try.prog.cellsOf 34 = 1 := by kernel_rfl
  have z13 : Try.prog.cellsOf 35 = 1 := by kernel_rfl
  obtain ⟨cs, rfl, hsz⟩ := okWide_struct Try.underlying37 hv
  obtain ⟨l⟩ := cs
  have hl : l.length = 4 := hsz.trans (by kernel_rfl)
  match l, hl with
  | [c0, c1, c2, c3], _ =>
    obtain ⟨fuel, hf⟩ := h
    obtain ⟨xs, n, _, _, _, hlen, pg⟩ := DataW.trod_struct Try.underlying37 hf
    match xs, hlen with
    | [q0, q1, q2, q3], _ =>
      have e0 := pg 0 _ rfl
      have e1 := pg 1 _ rfl
      have e2 := pg 2 _ rfl
      have e3 := pg 3 _ rfl
      simp [Value.cells, z10] at e0
      simp [Value.cells, z11] at e1
      simp [Value.cells, z12] at e2
      simp [Value.cells, z13] at e3
      obtain ⟨va, vn, vc, LV, rfl, sv⟩ := open_sb e0
      obtain ⟨fa, fn, fc, LF, rfl, sf⟩ := open_sr e1
      obtain ⟨ta, tn, tc, LT, rfl, st⟩ := open_su e2
      obtain ⟨pa, pn, pc, LP, rfl, sp⟩ := open_sy e3
      exact ⟨⟨va, fa, ta, pa, vn, vc, fn, fc, tn, tc, pn, pc⟩, ⟨LV, LF, LT, LP⟩, rfl, sv, sf, st, sp⟩
set_option maxRecDepth 100000 in
theorem open_fref {r : Reach} {b0 : Nat} {v : Value} {d : DataW H} {p : List MemPlace} (hv : Value.okWide Try.prog w r b0 39 v) (h : DataW.Trod enc Try.prog w 0 (fun _ => true) true 39 v d p) :
    ∃ (x y : Int), v = .agg #[.int .i64 x, .int .i64 y] := by
  have ci : Try.prog.cellsOf 3 = 1 := by kernel_rfl
  obtain ⟨l, rfl, hsz⟩ := okWide_struct Try.underlying39 hv
  obtain ⟨l⟩ := l
  have hl : l.length = 2 := hsz.trans (by kernel_rfl)
  match l, hl with
  | [c0, c1], _ =>
    obtain ⟨fuel, hf⟩ := h
    obtain ⟨xs, n, _, _, _, hlen, hg⟩ := DataW.trod_struct Try.underlying39 hf
    match xs, hlen with
    | [y0, y1], _ =>
      have p0 := hg 0 _ rfl
      have p1 := hg 1 _ rfl
      simp [Value.cells, ci] at p0 p1
      obtain ⟨a0, e0, _, w0⟩ := DataW.trod_int Try.underlying3 p0
      obtain ⟨a1, e1, _, w1⟩ := DataW.trod_int Try.underlying3 p1
      injection e0 with e0 _
      injection e1 with e1 _
      subst e0 e1
      exact ⟨a0, a1, rfl⟩
/-- The four cells of an access. -/
theorem cells_acc {n : Nat} {c0 c1 c2 c3 : Value} {x : DataW H × List MemPlace} (h : DataW.trod enc Try.prog w 0 (fun _ => true) true n 51 [c0, c1, c2, c3] = some x) :
    ∃ (a b v g : Int), c0 = .int .i64 a ∧ c1 = .int .i64 b ∧ c2 = .int .u32 v ∧ c3 = .int .i64 g ∧ 0 ≤ v ∧ v < 4294967296 := by
  have ci : Try.prog.cellsOf 3 = 1 := by kernel_rfl
  have cu : Try.prog.cellsOf 49 = 1 := by kernel_rfl
  have cr : Try.prog.cellsOf 39 = 2 := by kernel_rfl
  obtain ⟨xs, n', _, _, _, hlen, hg⟩ := DataW.trod_struct Try.underlying51 h
  match xs, hlen with
  | [y0, y1, y2], _ =>
    have p0 := hg 0 _ rfl
    have p1 := hg 1 _ rfl
    have p2 := hg 2 _ rfl
    simp [cr] at p0
    simp [cu] at p1
    simp [ci] at p2
    obtain ⟨ys, n2, _, _, _, hlen2, hg2⟩ := DataW.trod_struct Try.underlying39 p0
    match ys, hlen2 with
    | [z0, z1], _ =>
      have r0 := hg2 0 _ rfl
      have r1 := hg2 1 _ rfl
      simp [ci] at r0 r1
      obtain ⟨a0, e0, _, w0⟩ := DataW.trod_int Try.underlying3 r0
      obtain ⟨a1, e1, _, w1⟩ := DataW.trod_int Try.underlying3 r1
      obtain ⟨a2, e2, _, w2⟩ := DataW.trod_int Try.underlying49 p1
      obtain ⟨a3, e3, _, w3⟩ := DataW.trod_int Try.underlying3 p2
      injection e0 with e0 _
      injection e1 with e1 _
      injection e2 with e2 _
      injection e3 with e3 _
      have := u32_bd w2
      exact ⟨a0, a1, a2, a3, e0, e1, e2, e3, this.1, this.2⟩
set_option maxRecDepth 100000 in
theorem open_acc {r : Reach} {b0 : Nat} {v : Value} {d : DataW H} {p : List MemPlace} (hv : Value.okWide Try.prog w r b0 51 v) (h : DataW.Trod enc Try.prog w 0 (fun _ => true) true 51 v d p) :
    ∃ (a b y g : Int), v = .agg #[.int .i64 a, .int .i64 b, .int .u32 y, .int .i64 g] ∧ 0 ≤ y ∧ y < 4294967296 := by
  obtain ⟨l, rfl, hsz⟩ := okWide_struct Try.underlying51 hv
  obtain ⟨l⟩ := l
  have hl : l.length = 4 := hsz.trans (by kernel_rfl)
  match l, hl with
  | [c0, c1, c2, c3], _ =>
    obtain ⟨fuel, hf⟩ := h
    obtain ⟨a, b, y, g, rfl, rfl, rfl, rfl, y0, y1⟩ := cells_acc hf
    exact ⟨a, b, y, g, rfl, y0, y1⟩
end
end Go.Proofs.Ytolifmpnhflegaa
