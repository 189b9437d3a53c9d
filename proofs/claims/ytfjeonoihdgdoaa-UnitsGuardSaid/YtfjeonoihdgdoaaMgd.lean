/- The texts FrE, FrV, FrK, FrB in one; no condition. -/
import Derived.Test.YtfjeonoihdgdoaaExJ
import Derived.Deep.SlicePairs
import Derived.Deep.Slices
import Derived.Deep.Fields
import Derived.ChangeSame
import Derived.Test.YtfjeonoihdgdoaaUnB
import Derived.Test.YtfjeonoihdgdoaaCnM
import Derived.Test.YtfjeonoihdgdoaaCnA
section
/- Expr: how the arguments of the laws are opened: a program, nodes, an environment; no condition. -/
namespace Go.Proofs.Ytfjeonoihdgdoaa
open Go.ChangeShapes Go.WideShapes Go.ChangeAt Go.RowKit Go.Joins Go.Deep
set_option linter.unusedVariables false
section
variable {H : Type} {enc : TypeId × Value → H} {w : World}
theorem shape_sl {t e : TypeId} {n : Nat} {v : Value} {x : DataW H × List MemPlace} (ht : Try.prog.underlying t = some (.slice e)) (h : DataW.trod enc Try.prog w 0 (fun _ => true) true n t [v] = some x) : ∃ a l c, v = .slice a l c := by
  rcases open_slice ht h with ⟨hcs, _⟩ | ⟨a, len, cap, m, n, D, Pl, hcs, _⟩
  · injection hcs with h1 _; exact ⟨_, _, _, h1⟩
  · injection hcs with h1 _; exact ⟨_, _, _, h1⟩
theorem open_ones {t e : TypeId} {n : Nat} {v : Value} {x : DataW H × List MemPlace} (ht : Try.prog.underlying t = some (.slice e)) (ce : Try.prog.cellsOf e = 1) (h : DataW.trod enc Try.prog w 0 (fun _ => true) true n t [v] = some x) :
    v = .slice none 0 0 ∨ ∃ (a : Addr) (l c k : Nat) (V : Nat → Value), v = .slice (some a) l c ∧ l ≤ c ∧ ∀ i, i < l → w.cell? (a.add i) = some (V i) ∧ ∃ y, DataW.trod enc Try.prog w 0 (fun _ => true) true k e [V i] = some y := by
  rcases open_slice ht h with ⟨hcs, _⟩ | ⟨a, len, cap, m, k, D, Pl, hcs, _, hl, _, hm, _, hx⟩
  · injection hcs with h1 _; exact .inl h1
  · injection hcs with h1 _
    have each : ∀ i, i < len → ∃ q : Value, w.cell? (a.add i) = some q ∧ ∃ y, DataW.trod enc Try.prog w 0 (fun _ => true) true k e [q] = some y := by
      intro i hi
      obtain ⟨cs', hc, ht'⟩ := hx i (by rw [hm]; simp; omega)
      rw [ce] at hc
      obtain ⟨_, hcl, hat⟩ := World.cells?_some hc
      match cs', hcl with
      | [q], _ =>
        have h0 := hat (i := 0) (by decide)
        rw [Nat.mul_one, Go.Deep.add_add] at h0
        exact ⟨q, by simpa using h0, _, ht'⟩
    obtain ⟨V, hV⟩ := choose_lt each
    exact .inr ⟨a, len, cap, k, V, h1, hl, hV⟩
theorem open_su {n : Nat} {v : Value} {x : DataW H × List MemPlace} (h : DataW.trod enc Try.prog w 0 (fun _ => true) true n 35 [v] = some x) : ∃ a l c L, v = .slice a l c ∧ SU w a l c L := by
  rcases open_ones Try.underlying35 (by kernel_rfl) h with rfl | ⟨a, l, c, k, V, rfl, hl, hV⟩
  · exact ⟨_, _, _, [], rfl, su_nil _⟩
  · have each : ∀ i, i < l → ∃ z : Int, w.cell? (a.add i) = some (.int .u32 z) ∧ 0 ≤ z ∧ z < 4294967296 := by
      intro i hi
      obtain ⟨h1, y, h2⟩ := hV i hi
      obtain ⟨z, e, _, wf⟩ := DataW.trod_int Try.underlying86 h2
      injection e with e _
      rw [e] at h1
      have := u32_bd wf
      exact ⟨z, h1, this.1, this.2⟩
    obtain ⟨Z, hZ⟩ := choose_lt each
    refine ⟨_, _, _, (List.range l).map Z, rfl, by simp, (fun e => by cases e), hl, fun ad e j hj => ?_, fun y hy => ?_⟩
    · cases e
      have e : ((List.range l).map Z).getD j 0 = Z j := by simp [hj]
      rw [e]; exact (hZ j hj).1
    · obtain ⟨j, hj, rfl⟩ := List.mem_map.1 hy
      exact (hZ j (List.mem_range.1 hj)).2
theorem open_sb {n : Nat} {v : Value} {x : DataW H × List MemPlace} (h : DataW.trod enc Try.prog w 0 (fun _ => true) true n 33 [v] = some x) : ∃ a l c L, v = .slice a l c ∧ SB w a l c L := by
  rcases open_ones Try.underlying33 (by kernel_rfl) h with rfl | ⟨a, l, c, k, V, rfl, hl, hV⟩
  · exact ⟨_, _, _, [], rfl, rfl, fun _ => ⟨rfl, rfl⟩, Nat.le_refl _, fun ad e => by cases e⟩
  · have each : ∀ i, i < l → ∃ z : Bool, w.cell? (a.add i) = some (.bool z) := by
      intro i hi
      obtain ⟨h1, y, h2⟩ := hV i hi
      obtain ⟨z, e, _⟩ := DataW.trod_bool Try.underlying4 h2
      injection e with e _
      rw [e] at h1
      exact ⟨z, h1⟩
    obtain ⟨Z, hZ⟩ := choose_lt each
    refine ⟨_, _, _, (List.range l).map Z, rfl, by simp, (fun e => by cases e), hl, fun ad e j hj => ?_⟩
    cases e
    have e : ((List.range l).map Z).getD j false = Z j := by simp [hj]
    rw [e]; exact hZ j hj
theorem open_sr {n : Nat} {v : Value} {x : DataW H × List MemPlace} (h : DataW.trod enc Try.prog w 0 (fun _ => true) true n 34 [v] = some x) : ∃ a l c L, v = .slice a l c ∧ SR w a l c L := by
  rcases open_ones Try.underlying34 (by kernel_rfl) h with rfl | ⟨a, l, c, k, V, rfl, hl, hV⟩
  · exact ⟨_, _, _, [], rfl, rfl, fun _ => ⟨rfl, rfl⟩, Nat.le_refl _, fun ad e => by cases e⟩
  · have each : ∀ i, i < l → ∃ z : List Int, ∃ fa fn fc, w.cell? (a.add i) = some (.slice fa fn fc) ∧ SU w fa fn fc z := by
      intro i hi
      obtain ⟨h1, y, h2⟩ := hV i hi
      obtain ⟨fa, fn, fc, L, e, su⟩ := open_su h2
      rw [e] at h1
      exact ⟨L, fa, fn, fc, h1, su⟩
    obtain ⟨Z, hZ⟩ := choose_lt each
    refine ⟨_, _, _, (List.range l).map Z, rfl, by simp, (fun e => by cases e), hl, fun ad e j hj => ?_⟩
    cases e
    have e : ((List.range l).map Z).getD j [] = Z j := by simp [hj]
    rw [e]; exact hZ j hj
theorem add_n' (ad : Addr) (k : Nat) : (⟨(ad.add k).block, (ad.add k).off + 1, none⟩ : Addr) = ad.add (k + 1) := by
  rw [← Addr.add_add]
  rfl
theorem add_n2 (ad : Addr) (k : Nat) : (⟨(ad.add k).block, (ad.add k).off + 2, none⟩ : Addr) = ad.add (k + 2) := by
  rw [← Addr.add_add]
  rfl
theorem open_sf {n : Nat} {v : Value} {x : DataW H × List MemPlace} (h : DataW.trod enc Try.prog w 0 (fun _ => true) true n 23 [v] = some x) : ∃ a l c L, v = .slice a l c ∧ SF w a l c L := by
  rcases open_slice_pairs Try.underlying23 Try.underlying92 (by kernel_rfl) rfl rfl (by kernel_rfl) (by kernel_rfl) h with ⟨hcs, _⟩ | ⟨a, len, cap, m, n, V0, V1, D0, D1, P0, P1, hcs, _, hl, _, hm, _, hx⟩
  · injection hcs with h1 _
    exact ⟨_, _, _, [], h1, sf_nil _⟩
  · injection hcs with h1 _
    have each : ∀ i, i < len → ∃ q : Fld, w.cell? (a.add (i * 2)) = some (.string q.1) ∧ w.cell? (a.add (i * 2 + 1)) = some (.int .i64 q.2) := by
      intro i hi
      obtain ⟨k0, k1, g0, g1⟩ := hx i (by rw [hm]; simp; omega)
      obtain ⟨x, e0, _, w0⟩ := DataW.trod_string Try.underlying9 g0
      obtain ⟨y, e1, _, w1⟩ := DataW.trod_int Try.underlying3 g1
      injection e0 with e0 _
      injection e1 with e1 _
      rw [e0] at k0
      rw [e1] at k1
      exact ⟨(x, y), k0, k1⟩
    obtain ⟨q, hq⟩ := choose_lt each
    refine ⟨_, _, _, (List.range len).map q, h1, by simp, (fun e => by cases e), hl, fun ad e j hj => ?_⟩
    cases e
    rw [add_n']
    have e : ((List.range len).map q).getD j fz = q j := by simp [hj]
    rw [e]
    exact hq j hj
theorem open_sh {n : Nat} {v : Value} {x : DataW H × List MemPlace} (h : DataW.trod enc Try.prog w 0 (fun _ => true) true n 22 [v] = some x) : ∃ a l c L, v = .slice a l c ∧ SH w a l c L := by
  rcases open_slice_pairs Try.underlying22 Try.underlying94 (by kernel_rfl) rfl rfl (by kernel_rfl) (by kernel_rfl) h with ⟨hcs, _⟩ | ⟨a, len, cap, m, n, V0, V1, D0, D1, P0, P1, hcs, _, hl, _, hm, _, hx⟩
  · injection hcs with h1 _
    exact ⟨_, _, _, [], h1, rfl, fun _ => ⟨rfl, rfl⟩, Nat.le_refl _, fun ad e => by cases e⟩
  · injection hcs with h1 _
    have each : ∀ i, i < len → ∃ q : ByteArray × List Fld, w.cell? (a.add (i * 2)) = some (.string q.1) ∧ ∃ fa fn fc, w.cell? (a.add (i * 2 + 1)) = some (.slice fa fn fc) ∧ SF w fa fn fc q.2 := by
      intro i hi
      obtain ⟨k0, k1, g0, g1⟩ := hx i (by rw [hm]; simp; omega)
      obtain ⟨x, e0, _, w0⟩ := DataW.trod_string Try.underlying9 g0
      obtain ⟨fa, fn, fc, L, e1, sf⟩ := open_sf g1
      injection e0 with e0 _
      rw [e0] at k0
      rw [e1] at k1
      exact ⟨(x, L), k0, fa, fn, fc, k1, sf⟩
    obtain ⟨q, hq⟩ := choose_lt each
    refine ⟨_, _, _, (List.range len).map q, h1, by simp, (fun e => by cases e), hl, fun ad e j hj => ?_⟩
    cases e
    rw [add_n']
    have e : ((List.range len).map q).getD j hz = q j := by simp [hj]
    rw [e]
    exact hq j hj
theorem open_sn {n : Nat} {v : Value} {x : DataW H × List MemPlace} (h : DataW.trod enc Try.prog w 0 (fun _ => true) true n 32 [v] = some x) : ∃ a l c L, v = .slice a l c ∧ SN w a l c L := by
  rcases open_slice Try.underlying32 h with ⟨hcs, _⟩ | ⟨a, len, cap, m, k, D, Pl, hcs, _, hl, _, hm, _, hx⟩
  · injection hcs with h1 _
    exact ⟨_, _, _, [], h1, rfl, fun _ => ⟨rfl, rfl⟩, Nat.le_refl _, (fun ad e => by cases e), (fun x hx => by cases hx)⟩
  · injection hcs with h1 _
    have ce : Try.prog.cellsOf 51 = 3 := by kernel_rfl
    have ci : Try.prog.cellsOf 3 = 1 := by kernel_rfl
    rw [ce] at hx
    have each : ∀ i, i < len → ∃ q : Nd, w.cell? (a.add (i * 3)) = some (.int .i64 q.1) ∧ w.cell? (a.add (i * 3 + 1)) = some (.int .i64 q.2.1) ∧ w.cell? (a.add (i * 3 + 2)) = some (.int .i64 q.2.2) ∧ -9223372036854775808 ≤ q.2.1 ∧ q.2.1 ≤ 9223372036854775807 := by
      intro i hi
      obtain ⟨cs', hc, ht'⟩ := hx i (by rw [hm]; simp; omega)
      obtain ⟨_, hcl, hat⟩ := World.cells?_some hc
      match cs', hcl with
      | [q0, q1, q2], _ =>
        have g0 := hat (i := 0) (by decide)
        have g1 := hat (i := 1) (by decide)
        have g2 := hat (i := 2) (by decide)
        rw [Go.Deep.add_add] at g0 g1 g2
        obtain ⟨xs, n', _, _, _, hlen, hg⟩ := DataW.trod_struct Try.underlying51 ht'
        match xs, hlen with
        | [y0, y1, y2], _ =>
          have f0 := hg 0 _ rfl
          have f1 := hg 1 _ rfl
          have f2 := hg 2 _ rfl
          simp [ci] at f0 f1 f2
          obtain ⟨a0, e0, _, _⟩ := DataW.trod_int Try.underlying3 f0
          obtain ⟨a1, e1, _, w1⟩ := DataW.trod_int Try.underlying3 f1
          obtain ⟨a2, e2, _, _⟩ := DataW.trod_int Try.underlying3 f2
          injection e0 with e0 _
          injection e1 with e1 _
          injection e2 with e2 _
          subst e0 e1 e2
          exact ⟨(a0, a1, a2), by simpa using g0, by simpa using g1, by simpa using g2, i64_bd w1⟩
    obtain ⟨q, hq⟩ := choose_lt each
    refine ⟨_, _, _, (List.range len).map q, h1, by simp, (fun e => by cases e), hl, fun ad e j hj => ?_, fun y hy => ?_⟩
    · cases e
      rw [add_n', add_n2]
      have e : ((List.range len).map q).getD j nz = q j := by simp [hj]
      rw [e]
      exact ⟨(hq j hj).1, (hq j hj).2.1, (hq j hj).2.2.1⟩
    · obtain ⟨j, hj, rfl⟩ := List.mem_map.1 hy
      exact (hq j (List.mem_range.1 hj)).2.2.2
set_option maxRecDepth 100000 in
theorem open_xargs {r : Reach} {b0 : Nat} {v : Value} {d : DataW H} {p : List MemPlace} (hv : Value.okWide Try.prog w r b0 40 v) (h : DataW.Trod enc Try.prog w 0 (fun _ => true) true 40 v d p) :
    ∃ (X : KX) (C : Cx) (N : List Nd), v = .agg #[.string X.nm, .slice X.ha X.hn X.hc, .slice X.ma X.mn X.mc, .slice X.a0 X.n0 X.c0, .slice X.a1 X.n1 X.c1, .slice X.a2 X.n2 X.c2, .slice X.a3 X.n3 X.c3, .slice X.a4 X.n4 X.c4, .slice X.a5 X.n5 X.c5, .slice X.pa X.pn X.pc, .slice X.na X.nn X.nc, .slice X.va X.vn X.vc, .slice X.fa X.fn X.fc, .slice X.ta X.tn X.tc, .slice X.la X.ln X.lc, .slice X.aa X.an X.ac] ∧ CR w X C N := by
  have zP : Try.prog.cellsOf 31 = 9 := by kernel_rfl
  have zE : Try.prog.cellsOf 38 = 4 := by kernel_rfl
  have z0 : Try.prog.cellsOf 9 = 1 := by kernel_rfl
  have z1 : Try.prog.cellsOf 22 = 1 := by kernel_rfl
  have z2 : Try.prog.cellsOf 23 = 1 := by kernel_rfl
  have z3 : Try.prog.cellsOf 24 = 1 := by kernel_rfl
  have z4 : Try.prog.cellsOf 25 = 1 := by kernel_rfl
  have z5 : Try.prog.cellsOf 26 = 1 := by kernel_rfl
  have z6 : Try.prog.cellsOf 27 = 1 := by kernel_rfl
  have z7 : Try.prog.cellsOf 28 = 1 := by kernel_rfl
  have z8 : Try.prog.cellsOf 29 = 1 := by kernel_rfl
  have z9 : Try.prog.cellsOf 32 = 1 := by kernel_rfl
  have z10 : Try.prog.cellsOf 33 = 1 := by kernel_rfl
  have z11 : Try.prog.cellsOf 34 = 1 := by kernel_rfl
  have z12 : Try.prog.cellsOf 35 = 1 := by kernel_rfl
  have z13 : Try.prog.cellsOf 36 = 1 := by kernel_rfl
  obtain ⟨cs, rfl, hsz⟩ := okWide_struct Try.underlying40 hv
  obtain ⟨l⟩ := cs
  have hl : l.length = 16 := hsz.trans (by kernel_rfl)
  match l, hl with
  | [c0, c1, c2, c3, c4, c5, c6, c7, c8, c9, c10, c11, c12, c13, c14, c15], _ =>
    obtain ⟨fuel, hf⟩ := h
    obtain ⟨xs, n, _, _, _, hlen, hg⟩ := DataW.trod_struct Try.underlying40 hf
    match xs, hlen with
    | [y0, y1, y2, y3, y4], _ =>
      have h0 := hg 0 _ rfl
      have h1 := hg 1 _ rfl
      have h2 := hg 2 _ rfl
      have h3 := hg 3 _ rfl
      have h4 := hg 4 _ rfl
      simp [Value.cells, zP] at h0
      simp [Value.cells, z2] at h1
      simp [Value.cells, z9] at h2
      simp [Value.cells, zE] at h3
      simp [Value.cells, z12] at h4
      obtain ⟨ps, n1, _, _, _, plen, pg⟩ := DataW.trod_struct Try.underlying31 h0
      match ps, plen with
      | [q0, q1, q2, q3, q4, q5, q6, q7, q8], _ =>
        have p0 := pg 0 _ rfl
        have p1 := pg 1 _ rfl
        have p2 := pg 2 _ rfl
        have p3 := pg 3 _ rfl
        have p4 := pg 4 _ rfl
        have p5 := pg 5 _ rfl
        have p6 := pg 6 _ rfl
        have p7 := pg 7 _ rfl
        have p8 := pg 8 _ rfl
        simp [z0] at p0
        simp [z1] at p1
        simp [z2] at p2
        simp [z3] at p3
        simp [z4] at p4
        simp [z5] at p5
        simp [z6] at p6
        simp [z7] at p7
        simp [z8] at p8
        obtain ⟨es, n2, _, _, _, elen, eg⟩ := DataW.trod_struct Try.underlying38 h3
        match es, elen with
        | [u0, u1, u2, u3], _ =>
          have e0 := eg 0 _ rfl
          have e1 := eg 1 _ rfl
          have e2 := eg 2 _ rfl
          have e3 := eg 3 _ rfl
          simp [z10] at e0
          simp [z11] at e1
          simp [z12] at e2
          simp [z13] at e3
          obtain ⟨s, es, _, _⟩ := DataW.trod_string Try.underlying9 p0
          injection es with es _
          obtain ⟨ha, hn, hc, LH, rfl, sh⟩ := open_sh p1
          obtain ⟨ma, mn, mc, LM, rfl, sm⟩ := open_sf p2
          obtain ⟨a0, n0, d0, rfl⟩ := shape_sl Try.underlying24 p3
          obtain ⟨a1, n1', d1, rfl⟩ := shape_sl Try.underlying25 p4
          obtain ⟨a2, n2', d2, rfl⟩ := shape_sl Try.underlying26 p5
          obtain ⟨a3, n3, d3, rfl⟩ := shape_sl Try.underlying27 p6
          obtain ⟨a4, n4, d4, rfl⟩ := shape_sl Try.underlying28 p7
          obtain ⟨a5, n5, d5, rfl⟩ := shape_sl Try.underlying29 p8
          obtain ⟨pa, pn, pc, LP, rfl, sp⟩ := open_sf h1
          obtain ⟨na, nn, nc, LN, rfl, sn⟩ := open_sn h2
          obtain ⟨va, vn, vc, LV, rfl, sv⟩ := open_sb e0
          obtain ⟨fa, fn, fc, LF, rfl, sf⟩ := open_sr e1
          obtain ⟨ta, tn, tc, LT, rfl, st⟩ := open_su e2
          obtain ⟨la, ln, lc, rfl⟩ := shape_sl Try.underlying36 e3
          obtain ⟨aa, an, ac, LA, rfl, sa⟩ := open_su h4
          subst es
          exact ⟨⟨na, nn, nc, s, ha, hn, hc, ma, mn, mc, a0, n0, d0, a1, n1', d1, a2, n2', d2, a3, n3, d3, a4, n4, d4, a5, n5, d5, pa, pn, pc, va, vn, vc, fa, fn, fc, ta, tn, tc, la, ln, lc, aa, an, ac⟩, ⟨LH, LM, LP, LV, LF, LT, LA⟩, LN, rfl, ⟨sn, sh, sm, sp, sv, sf, st, sa⟩⟩
end
end Go.Proofs.Ytfjeonoihdgdoaa
end
section
/- Units: how a list of units as an argument is opened; no condition. -/
namespace Go.Proofs.Ytfjeonoihdgdoaa
open Go.ChangeShapes Go.WideShapes Go.ChangeAt Go.RowKit Go.Joins Go.Deep
set_option linter.unusedVariables false
section
instance : Inhabited Un := ⟨uz⟩
variable {H : Type} {enc : TypeId × Value → H} {w : World}
theorem open_sgd {n : Nat} {v : Value} {x : DataW H × List MemPlace} (h : DataW.trod enc Try.prog w 0 (fun _ => true) true n 76 [v] = some x) : ∃ (s : Sl) (L : List Gd), v = .slice s.a s.n s.c ∧ SGd w s L := by
  rcases open_slice_pairs Try.underlying76 Try.underlying80 (by kernel_rfl) rfl rfl (by kernel_rfl) (by kernel_rfl) h with ⟨hcs, _⟩ | ⟨a, len, cap, m, n, V0, V1, D0, D1, P0, P1, hcs, _, hl, _, hm, _, hx⟩
  · injection hcs with h1 _
    exact ⟨⟨none, 0, 0⟩, [], h1, rfl, fun _ => ⟨rfl, rfl⟩, Nat.le_refl _, (fun ad e => by cases e), (fun x hx => by cases hx)⟩
  · injection hcs with h1 _
    have each : ∀ i, i < len → ∃ q : Gd, w.cell? (a.add (i * 2)) = some (.int .i64 q.1) ∧ w.cell? (a.add (i * 2 + 1)) = some (.bool q.2) ∧ -9223372036854775808 ≤ q.1 ∧ q.1 ≤ 9223372036854775807 := by
      intro i hi
      obtain ⟨k0, k1, g0, g1⟩ := hx i (by rw [hm]; simp; omega)
      obtain ⟨x, e0, _, w0⟩ := DataW.trod_int Try.underlying3 g0
      obtain ⟨y, e1, _⟩ := DataW.trod_bool Try.underlying4 g1
      injection e0 with e0 _
      injection e1 with e1 _
      rw [e0] at k0
      rw [e1] at k1
      exact ⟨(x, y), k0, k1, i64_bd w0⟩
    obtain ⟨q, hq⟩ := choose_lt each
    refine ⟨⟨some a, len, cap⟩, (List.range len).map q, h1, by simp, (fun e => by cases e), hl, fun ad e j hj => ?_, fun y hy => ?_⟩
    · cases e
      rw [add_n']
      dsimp only at hj
      have e : ((List.range len).map q).getD j (0, false) = q j := by simp [hj]
      rw [e]
      exact ⟨(hq j hj).1, (hq j hj).2.1⟩
    · obtain ⟨j, hj, rfl⟩ := List.mem_map.1 hy
      exact (hq j (List.mem_range.1 hj)).2.2
set_option maxRecDepth 100000 in
theorem open_un {n : Nat} {v : Value} {x : DataW H × List MemPlace} (h : DataW.trod enc Try.prog w 0 (fun _ => true) true n 69 [v] = some x) : ∃ (s : Sl) (L : List Un), v = .slice s.a s.n s.c ∧ SUn w s L := by
  rcases open_slice Try.underlying69 h with ⟨hcs, _⟩ | ⟨a, len, cap, m, k, D, Pl, hcs, _, hl, _, hm, _, hx⟩
  · injection hcs with h1 _
    exact ⟨⟨none, 0, 0⟩, [], h1, rfl, fun _ => ⟨rfl, rfl⟩, Nat.le_refl _, (fun ad e => by cases e), fun j hj => absurd hj (Nat.not_lt_zero _)⟩
  · injection hcs with h1 _
    have ce : Try.prog.cellsOf 78 = 3 := by kernel_rfl
    have ci : Try.prog.cellsOf 3 = 1 := by kernel_rfl
    have cx : Try.prog.cellsOf 32 = 1 := by kernel_rfl
    have cg : Try.prog.cellsOf 76 = 1 := by kernel_rfl
    rw [ce] at hx
    have each : ∀ i, i < len → ∃ q : Un, (w.cell? (a.add (i * 3)) = some (.int .i64 q.t) ∧ w.cell? (a.add (i * 3 + 1)) = some q.c.v ∧ w.cell? (a.add (i * 3 + 2)) = some q.g.v) ∧ SN w q.c.a q.c.n q.c.c q.N ∧ SGd w q.g q.G := by
      intro i hi
      obtain ⟨cs', hc, ht'⟩ := hx i (by rw [hm]; simp; omega)
      obtain ⟨_, hcl, hat⟩ := World.cells?_some hc
      match cs', hcl with
      | [q0, q1, q2], _ =>
        have g0 := hat (i := 0) (by decide)
        have g1 := hat (i := 1) (by decide)
        have g2 := hat (i := 2) (by decide)
        rw [Go.Deep.add_add] at g0 g1 g2
        obtain ⟨xs, n', _, _, _, hlen, hg⟩ := DataW.trod_struct Try.underlying78 ht'
        match xs, hlen with
        | [y0, y1, y2], _ =>
          have f0 := hg 0 _ rfl
          have f1 := hg 1 _ rfl
          have f2 := hg 2 _ rfl
          simp [ci] at f0
          simp [cx] at f1
          simp [cg] at f2
          obtain ⟨a0, e0, _, _⟩ := DataW.trod_int Try.underlying3 f0
          injection e0 with e0 _
          obtain ⟨na, nn, nc, N, e1, sn⟩ := open_sn f1
          obtain ⟨s2, G, e2, sg⟩ := open_sgd f2
          subst e0 e1 e2
          exact ⟨⟨a0, ⟨na, nn, nc⟩, N, s2, G⟩, ⟨by simpa using g0, by simpa using g1, by simpa using g2⟩, sn, sg⟩
    obtain ⟨q, hq⟩ := choose_lt each
    have e : ∀ j, j < len → ((List.range len).map q).getD j uz = q j := fun j hj => by simp [hj]
    refine ⟨⟨some a, len, cap⟩, (List.range len).map q, h1, by simp, (fun e => by cases e), hl, fun ad ea j hj => ?_, fun j hj => ?_⟩
    · cases ea
      rw [add_n', add_n2, e j hj]
      exact (hq j hj).1
    · rw [e j hj]
      exact (hq j hj).2
set_option maxRecDepth 100000 in
theorem open_units {r : Reach} {b0 : Nat} {v : Value} {d : DataW H} {p : List MemPlace} (hv : Value.okWide Try.prog w r b0 69 v) (h : DataW.Trod enc Try.prog w 0 (fun _ => true) true 69 v d p) :
    ∃ (s : Sl) (L : List Un), v = .slice s.a s.n s.c ∧ SUn w s L := by
  obtain ⟨a0, len0, cap0, rfl⟩ := okWide_slice Try.underlying69 hv
  obtain ⟨fuel, hf⟩ := h
  exact open_un hf
end
end Go.Proofs.Ytfjeonoihdgdoaa
end
section
/- Control: how a control flow as an argument is opened; no condition. -/
namespace Go.Proofs.Ytfjeonoihdgdoaa
open Go.ChangeShapes Go.WideShapes Go.ChangeAt Go.RowKit Go.Joins Go.Deep
set_option linter.unusedVariables false
section
variable {H : Type} {enc : TypeId × Value → H} {w : World}
instance : Inhabited CV := ⟨cz⟩
set_option maxRecDepth 100000 in
theorem open_ct : ∀ (m n : Nat) (v : Value) (x : DataW H × List MemPlace), n < m → DataW.trod enc Try.prog w 0 (fun _ => true) true n 28 [v] = some x → ∃ (s : Sl) (T : CT), v = .slice s.a s.n s.c ∧ ST w s T := by
  intro m
  induction m with
  | zero => intro n v x h; omega
  | succ m ih =>
    intro n v x hm h
    rcases DataW.trod_slice Try.underlying28 h with ⟨hcs, _⟩ | ⟨a, len, cap, elems, rest, k, rfl, hcs, _, _, hl, _, hlen, hel, _, _⟩
    · injection hcs with h1 _
      exact ⟨⟨none, 0, 0⟩, .nil, h1, ST.nilv w⟩
    · injection hcs with h1 _
      have ce : Try.prog.cellsOf 63 = 5 := by kernel_rfl
      have ci : Try.prog.cellsOf 3 = 1 := by kernel_rfl
      have cx : Try.prog.cellsOf 32 = 1 := by kernel_rfl
      have cc : Try.prog.cellsOf 28 = 1 := by kernel_rfl
      rw [ce] at hel
      have each : ∀ i, i < len → ∃ q : CV, (w.cell? (a.add (i * 5)) = some (.int .i64 q.k) ∧ w.cell? (a.add (i * 5 + 1)) = some (.int .i64 q.t) ∧ w.cell? (a.add (i * 5 + 2)) = some q.c.v ∧ w.cell? (a.add (i * 5 + 3)) = some q.s.v ∧ w.cell? (a.add (i * 5 + 4)) = some q.u.v) ∧ VM w q := by
        intro i hi
        have e := hel i hi
        rw [List.getElem?_eq_getElem (show i < elems.length by omega)] at e
        obtain ⟨cs', hc, ht'⟩ := Option.bind_eq_some_iff.1 e
        obtain ⟨_, hcl, hat⟩ := World.cells?_some hc
        match cs', hcl with
        | [q0, q1, q2, q3, q4], _ =>
          have g0 := hat (i := 0) (by decide)
          have g1 := hat (i := 1) (by decide)
          have g2 := hat (i := 2) (by decide)
          have g3 := hat (i := 3) (by decide)
          have g4 := hat (i := 4) (by decide)
          rw [Go.Deep.add_add] at g0 g1 g2 g3 g4
          obtain ⟨xs, n', hn', _, _, hlen2, hg⟩ := DataW.trod_struct Try.underlying63 ht'
          match xs, hlen2 with
          | [y0, y1, y2, y3, y4], _ =>
            have f0 := hg 0 _ rfl
            have f1 := hg 1 _ rfl
            have f2 := hg 2 _ rfl
            have f3 := hg 3 _ rfl
            have f4 := hg 4 _ rfl
            simp [ci] at f0 f1
            simp [cx] at f2
            simp [cc] at f3 f4
            obtain ⟨a0, e0, _, _⟩ := DataW.trod_int Try.underlying3 f0
            obtain ⟨a1, e1, _, _⟩ := DataW.trod_int Try.underlying3 f1
            injection e0 with e0 _
            injection e1 with e1 _
            obtain ⟨na, nn, nc, N, e2, sn⟩ := open_sn f2
            obtain ⟨s3, T3, e3, st3⟩ := ih n' q3 _ (by omega) f3
            obtain ⟨s4, T4, e4, st4⟩ := ih n' q4 _ (by omega) f4
            subst e0 e1 e2 e3 e4
            exact ⟨⟨a0, a1, ⟨na, nn, nc⟩, N, s3, T3, s4, T4⟩, ⟨by simpa using g0, by simpa using g1, by simpa using g2, by simpa using g3, by simpa using g4⟩, ⟨sn, st3, st4⟩⟩
      obtain ⟨q, hq⟩ := choose_lt each
      refine ⟨⟨some a, len, cap⟩, CT.ofL ((List.range len).map q), h1, by rw [CT.ofL_len]; simp, (fun e => by cases e), hl, fun ad e => ?_⟩
      cases e
      refine ctm_ofL _ 0 (fun i hi => ?_)
      have hi' : i < len := by simpa using hi
      have e : ((List.range len).map q).getD i cz = q i := by
        rw [List.getD_eq_getElem?_getD, List.getElem?_map, List.getElem?_range hi']; rfl
      rw [e, Nat.zero_add, add_nr _ _ 1 (by decide), add_nr _ _ 2 (by decide), add_nr _ _ 3 (by decide), add_nr _ _ 4 (by decide)]
      exact hq i hi'
set_option maxRecDepth 100000 in
theorem open_ctree {r : Reach} {b0 : Nat} {v : Value} {d : DataW H} {p : List MemPlace} (hv : Value.okWide Try.prog w r b0 28 v) (h : DataW.Trod enc Try.prog w 0 (fun _ => true) true 28 v d p) :
    ∃ (s : Sl) (T : CT), v = .slice s.a s.n s.c ∧ ST w s T := by
  obtain ⟨a0, len0, cap0, rfl⟩ := okWide_slice Try.underlying28 hv
  obtain ⟨fuel, hf⟩ := h
  exact open_ct (fuel + 1) fuel _ _ (by omega) hf
theorem lowD2 {W W' : World} {e : Ending} (h : RetV (.bool true) W e W') : e = .returned (.bool true) ∧ Below W.heap.size W W' := ⟨h.1, ⟨h.2.os, h.2.tape, h.2.output, h.2.size, fun i hi => h.2.block i hi (by simp)⟩⟩
end
end Go.Proofs.Ytfjeonoihdgdoaa
end
section
/- How a row of truth values as an argument is opened; no condition. -/
namespace Go.Proofs.Ytfjeonoihdgdoaa
open Go.ChangeShapes Go.WideShapes Go.ChangeAt Go.RowKit Go.Joins Go.Deep
set_option linter.unusedVariables false
set_option maxRecDepth 100000 in
theorem open_bools {H : Type} {enc : TypeId × Value → H} {w : World} {r : Reach} {b0 : Nat} {v : Value} {d : DataW H} {p : List MemPlace} (hv : Value.okWide Try.prog w r b0 33 v) (h : DataW.Trod enc Try.prog w 0 (fun _ => true) true 33 v d p) :
    ∃ (s : Sl) (L : List Bool), v = .slice s.a s.n s.c ∧ SB w s.a s.n s.c L := by
  obtain ⟨a0, len0, cap0, rfl⟩ := okWide_slice Try.underlying33 hv
  obtain ⟨fuel, hf⟩ := h
  obtain ⟨a, l, c, L, e, sb⟩ := open_sb hf
  exact ⟨⟨a, l, c⟩, L, e, sb⟩
end Go.Proofs.Ytfjeonoihdgdoaa
end
