/- Register: how the arguments of the laws are opened; no condition. -/
import Derived.Test.YtjbimeahcldaoaaRgQ
import Derived.Deep.SlicePairs
import Derived.Deep.Slices
import Derived.Deep.Fields
import Derived.ChangeSame
namespace Go.Proofs.Ytjbimeahcldaoaa
open Go.ChangeShapes Go.WideShapes Go.ChangeAt Go.RowKit Go.Joins Go.Deep
set_option linter.unusedVariables false
abbrev Ac := Int × Int × Int
def az : Ac := (0, 0, 0)
def AcOk (x : Ac) : Prop := (-9223372036854775808 ≤ x.1 ∧ x.1 ≤ 9223372036854775807) ∧ (0 ≤ x.2.1 ∧ x.2.1 < 4294967296) ∧ 0 ≤ x.2.2 ∧ x.2.2 < 4294967296
/-- A slice that reads as a list of accesses. -/
structure SA (w : World) (a : Option Addr) (n c : Nat) (L : List Ac) : Prop where
  len : L.length = n
  nil : a = none → n = 0 ∧ c = 0
  cap : n ≤ c
  cells : ∀ ad, a = some ad → ∀ j, j < n → w.cell? (ad.add (j * 3)) = some (.int .i64 (L.getD j az).1) ∧ w.cell? ⟨(ad.add (j * 3)).block, (ad.add (j * 3)).off + 1, none⟩ = some (.int .u32 (L.getD j az).2.1) ∧ w.cell? ⟨(ad.add (j * 3)).block, (ad.add (j * 3)).off + 2, none⟩ = some (.int .u32 (L.getD j az).2.2)
  rng : ∀ x ∈ L, AcOk x
theorem SA.keep0 {w w2 : World} {a : Option Addr} {n c : Nat} {L : List Ac} (h : SA w a n c L) (k : w.grownBy w2 none) : SA w2 a n c L :=
  ⟨h.len, h.nil, h.cap, fun ad e j hj => ⟨k.cell (h.cells ad e j hj).1 (by simp), k.cell (h.cells ad e j hj).2.1 (by simp), k.cell (h.cells ad e j hj).2.2 (by simp)⟩, h.rng⟩
theorem SA.some {w : World} {a : Option Addr} {n c : Nat} {L : List Ac} (h : SA w a n c L) (hn : 0 < n) : ∃ ad, a = some ad := by
  cases a with
  | none => have := (h.nil rfl).1; omega
  | some ad => exact ⟨ad, rfl⟩
theorem SA.at_ {w : World} {a : Option Addr} {n c : Nat} {L : List Ac} (h : SA w a n c L) (j : Nat) (hj : j < n) : AcOk (L.getD j az) := by
  have hj : j < L.length := by rw [h.len]; exact hj
  rw [List.getD_eq_getElem?_getD, List.getElem?_eq_getElem hj]; exact h.rng _ (List.getElem_mem _)
section
variable {H : Type} {enc : TypeId × Value → H} {w : World}
theorem shape_sl {t e : TypeId} {n : Nat} {v : Value} {x : DataW H × List MemPlace} (ht : Try.prog.underlying t = some (.slice e)) (h : DataW.trod enc Try.prog w 0 (fun _ => true) true n t [v] = some x) : ∃ a l c, v = .slice a l c := by
  rcases open_slice ht h with ⟨hcs, _⟩ | ⟨a, len, cap, m, n, D, Pl, hcs, _⟩
  · injection hcs with h1 _; exact ⟨_, _, _, h1⟩
  · injection hcs with h1 _; exact ⟨_, _, _, h1⟩
theorem open_ones {t e : TypeId} {n : Nat} {v : Value} {x : DataW H × List MemPlace} (ht : Try.prog.underlying t = some (.slice e)) (ce : Try.prog.cellsOf e = 1) (h : DataW.trod enc Try.prog w 0 (fun _ => true) true n t [v] = some x) :
    v = .slice none 0 0 ∨ ∃ (a : Addr) (l c k : Nat) (V : Nat → Value), v = .slice (some a) l c ∧ l ≤ c ∧ ∀ i, i < l → w.cell? (a.add i) = some (V i) ∧ ∃ y, DataW.trod enc Try.prog w 0 (fun _ => true) true k e [V i] = some y := by
  rcases open_slice ht h with ⟨hcs, _⟩ | ⟨a, len, cap, m, k, D, Pl, hcs, _, hl, _, hm, _, hx⟩
  · injection hcs with h1 _; exact .inl h1
  · injection hcs with h1 _
    have each : ∀ i, i < len → ∃ q : Value, w.cell? (a.add i) = some q ∧ ∃ y, DataW.trod enc Try.prog w 0 (fun _ => true) true k e [q] = some y := by
      intro i hi
      obtain ⟨cs', hc, ht'⟩ := hx i (by rw [hm]; simp; omega)
      rw [ce] at hc
      obtain ⟨_, hcl, hat⟩ := World.cells?_some hc
      match cs', hcl with
      | [q], _ =>
        have h0 := hat (i := 0) (by decide)
        rw [Nat.mul_one, Go.Deep.add_add] at h0
        exact ⟨q, by simpa using h0, _, ht'⟩
    obtain ⟨V, hV⟩ := choose_lt each
    exact .inr ⟨a, len, cap, k, V, h1, hl, hV⟩
theorem open_su {n : Nat} {v : Value} {x : DataW H × List MemPlace} (h : DataW.trod enc Try.prog w 0 (fun _ => true) true n 53 [v] = some x) : ∃ a l c L, v = .slice a l c ∧ SU w a l c L := by
  rcases open_ones Try.underlying53 (by kernel_rfl) h with rfl | ⟨a, l, c, k, V, rfl, hl, hV⟩
  · exact ⟨_, _, _, [], rfl, su_nil _⟩
  · have each : ∀ i, i < l → ∃ z : Int, w.cell? (a.add i) = some (.int .u32 z) ∧ 0 ≤ z ∧ z < 4294967296 := by
      intro i hi
      obtain ⟨h1, y, h2⟩ := hV i hi
      obtain ⟨z, e, _, wf⟩ := DataW.trod_int Try.underlying44 h2
      injection e with e _
      rw [e] at h1
      have := u32_bd wf
      exact ⟨z, h1, this.1, this.2⟩
    obtain ⟨Z, hZ⟩ := choose_lt each
    refine ⟨_, _, _, (List.range l).map Z, rfl, by simp, (fun e => by cases e), hl, fun ad e j hj => ?_, fun y hy => ?_⟩
    · cases e
      have e : ((List.range l).map Z).getD j 0 = Z j := by simp [hj]
      rw [e]; exact (hZ j hj).1
    · obtain ⟨j, hj, rfl⟩ := List.mem_map.1 hy
      exact (hZ j (List.mem_range.1 hj)).2
theorem open_sr {n : Nat} {v : Value} {x : DataW H × List MemPlace} (h : DataW.trod enc Try.prog w 0 (fun _ => true) true n 38 [v] = some x) : ∃ a l c L, v = .slice a l c ∧ SR w a l c L := by
  rcases open_ones Try.underlying38 (by kernel_rfl) h with rfl | ⟨a, l, c, k, V, rfl, hl, hV⟩
  · exact ⟨_, _, _, [], rfl, rfl, fun _ => ⟨rfl, rfl⟩, Nat.le_refl _, fun ad e => by cases e⟩
  · have each : ∀ i, i < l → ∃ z : List Int, ∃ fa fn fc, w.cell? (a.add i) = some (.slice fa fn fc) ∧ SU w fa fn fc z := by
      intro i hi
      obtain ⟨h1, y, h2⟩ := hV i hi
      obtain ⟨fa, fn, fc, L, e, su⟩ := open_su h2
      rw [e] at h1
      exact ⟨L, fa, fn, fc, h1, su⟩
    obtain ⟨Z, hZ⟩ := choose_lt each
    refine ⟨_, _, _, (List.range l).map Z, rfl, by simp, (fun e => by cases e), hl, fun ad e j hj => ?_⟩
    cases e
    have e : ((List.range l).map Z).getD j [] = Z j := by simp [hj]
    rw [e]; exact hZ j hj
theorem add_n' (ad : Addr) (k : Nat) : (⟨(ad.add k).block, (ad.add k).off + 1, none⟩ : Addr) = ad.add (k + 1) := by
  rw [← Addr.add_add]
  rfl
theorem add_n2 (ad : Addr) (k : Nat) : (⟨(ad.add k).block, (ad.add k).off + 2, none⟩ : Addr) = ad.add (k + 2) := by
  rw [← Addr.add_add]
  rfl
theorem open_sg {n : Nat} {v : Value} {x : DataW H × List MemPlace} (h : DataW.trod enc Try.prog w 0 (fun _ => true) true n 30 [v] = some x) : ∃ a l c L, v = .slice a l c ∧ SG w a l c L := by
  rcases open_slice Try.underlying30 h with ⟨hcs, _⟩ | ⟨a, len, cap, m, k, D, Pl, hcs, _, hl, _, hm, _, hx⟩
  · injection hcs with h1 _
    exact ⟨_, _, _, [], h1, rfl, fun _ => ⟨rfl, rfl⟩, Nat.le_refl _, (fun ad e => by cases e), (fun x hx => by cases hx)⟩
  · injection hcs with h1 _
    have ce : Try.prog.cellsOf 23 = 3 := by kernel_rfl
    have ci : Try.prog.cellsOf 3 = 1 := by kernel_rfl
    have cs : Try.prog.cellsOf 9 = 1 := by kernel_rfl
    have cu : Try.prog.cellsOf 44 = 1 := by kernel_rfl
    rw [ce] at hx
    have each : ∀ i, i < len → ∃ q : Rg, w.cell? (a.add (i * 3)) = some (.string q.1) ∧ w.cell? (a.add (i * 3 + 1)) = some (.int .i64 q.2.1) ∧ w.cell? (a.add (i * 3 + 2)) = some (.int .i64 q.2.2) ∧ (-9223372036854775808 ≤ q.2.1 ∧ q.2.1 ≤ 9223372036854775807) ∧ -9223372036854775808 ≤ q.2.2 ∧ q.2.2 ≤ 9223372036854775807 := by
      intro i hi
      obtain ⟨cs', hc, ht'⟩ := hx i (by rw [hm]; simp; omega)
      obtain ⟨_, hcl, hat⟩ := World.cells?_some hc
      match cs', hcl with
      | [q0, q1, q2], _ =>
        have g0 := hat (i := 0) (by decide)
        have g1 := hat (i := 1) (by decide)
        have g2 := hat (i := 2) (by decide)
        rw [Go.Deep.add_add] at g0 g1 g2
        obtain ⟨xs, n', _, _, _, hlen, hg⟩ := DataW.trod_struct Try.underlying23 ht'
        match xs, hlen with
        | [y0, y1, y2], _ =>
          have p0 := hg 0 _ rfl
          have p1 := hg 1 _ rfl
          have p2 := hg 2 _ rfl
          simp [ci, cs] at p0 p1 p2
          obtain ⟨a0, e0, _, w0⟩ := DataW.trod_string Try.underlying9 p0
          obtain ⟨a1, e1, _, w1⟩ := DataW.trod_int Try.underlying3 p1
          obtain ⟨a2, e2, _, w2⟩ := DataW.trod_int Try.underlying3 p2
          injection e0 with e0 _
          injection e1 with e1 _
          injection e2 with e2 _
          subst e0 e1 e2
          exact ⟨(a0, a1, a2), by simpa using g0, by simpa using g1, by simpa using g2, i64_bd w1, i64_bd w2⟩
    obtain ⟨q, hq⟩ := choose_lt each
    refine ⟨_, _, _, (List.range len).map q, h1, by simp, (fun e => by cases e), hl, fun ad e j hj => ?_, fun y hy => ?_⟩
    · cases e
      rw [add_n', add_n2]
      have e : ((List.range len).map q).getD j rz = q j := by simp [hj]
      rw [e]
      exact ⟨(hq j hj).1, (hq j hj).2.1, (hq j hj).2.2.1⟩
    · obtain ⟨j, hj, rfl⟩ := List.mem_map.1 hy
      exact (hq j (List.mem_range.1 hj)).2.2.2
theorem open_sa {n : Nat} {v : Value} {x : DataW H × List MemPlace} (h : DataW.trod enc Try.prog w 0 (fun _ => true) true n 50 [v] = some x) : ∃ a l c L, v = .slice a l c ∧ SA w a l c L := by
  rcases open_slice Try.underlying50 h with ⟨hcs, _⟩ | ⟨a, len, cap, m, k, D, Pl, hcs, _, hl, _, hm, _, hx⟩
  · injection hcs with h1 _
    exact ⟨_, _, _, [], h1, rfl, fun _ => ⟨rfl, rfl⟩, Nat.le_refl _, (fun ad e => by cases e), (fun x hx => by cases hx)⟩
  · injection hcs with h1 _
    have ce : Try.prog.cellsOf 46 = 3 := by kernel_rfl
    have ci : Try.prog.cellsOf 3 = 1 := by kernel_rfl
    have cs : Try.prog.cellsOf 9 = 1 := by kernel_rfl
    have cu : Try.prog.cellsOf 44 = 1 := by kernel_rfl
    rw [ce] at hx
    have each : ∀ i, i < len → ∃ q : Ac, w.cell? (a.add (i * 3)) = some (.int .i64 q.1) ∧ w.cell? (a.add (i * 3 + 1)) = some (.int .u32 q.2.1) ∧ w.cell? (a.add (i * 3 + 2)) = some (.int .u32 q.2.2) ∧ AcOk q := by
      intro i hi
      obtain ⟨cs', hc, ht'⟩ := hx i (by rw [hm]; simp; omega)
      obtain ⟨_, hcl, hat⟩ := World.cells?_some hc
      match cs', hcl with
      | [q0, q1, q2], _ =>
        have g0 := hat (i := 0) (by decide)
        have g1 := hat (i := 1) (by decide)
        have g2 := hat (i := 2) (by decide)
        rw [Go.Deep.add_add] at g0 g1 g2
        obtain ⟨xs, n', _, _, _, hlen, hg⟩ := DataW.trod_struct Try.underlying46 ht'
        match xs, hlen with
        | [y0, y1, y2], _ =>
          have p0 := hg 0 _ rfl
          have p1 := hg 1 _ rfl
          have p2 := hg 2 _ rfl
          simp [ci, cu] at p0 p1 p2
          obtain ⟨a0, e0, _, w0⟩ := DataW.trod_int Try.underlying3 p0
          obtain ⟨a1, e1, _, w1⟩ := DataW.trod_int Try.underlying44 p1
          obtain ⟨a2, e2, _, w2⟩ := DataW.trod_int Try.underlying44 p2
          injection e0 with e0 _
          injection e1 with e1 _
          injection e2 with e2 _
          subst e0 e1 e2
          exact ⟨(a0, a1, a2), by simpa using g0, by simpa using g1, by simpa using g2, i64_bd w0, u32_bd w1, u32_bd w2⟩
    obtain ⟨q, hq⟩ := choose_lt each
    refine ⟨_, _, _, (List.range len).map q, h1, by simp, (fun e => by cases e), hl, fun ad e j hj => ?_, fun y hy => ?_⟩
    · cases e
      rw [add_n', add_n2]
      have e : ((List.range len).map q).getD j az = q j := by simp [hj]
      rw [e]
      exact ⟨(hq j hj).1, (hq j hj).2.1, (hq j hj).2.2.1⟩
    · obtain ⟨j, hj, rfl⟩ := List.mem_map.1 hy
      exact (hq j (List.mem_range.1 hj)).2.2.2
set_option maxRecDepth 100000 in
theorem open_greg {r : Reach} {b0 : Nat} {v : Value} {d : DataW H} {p : List MemPlace} (hv : Value.okWide Try.prog w r b0 23 v) (h : DataW.Trod enc Try.prog w 0 (fun _ => true) true 23 v d p) :
    ∃ (s : ByteArray) (a b : Int), v = .agg #[.string s, .int .i64 a, .int .i64 b] := by
  have ci : Try.prog.cellsOf 3 = 1 := by kernel_rfl
  have cs : Try.prog.cellsOf 9 = 1 := by kernel_rfl
  obtain ⟨l, rfl, hsz⟩ := okWide_struct Try.underlying23 hv
  obtain ⟨l⟩ := l
  have hl : l.length = 3 := hsz.trans (by kernel_rfl)
  match l, hl with
  | [c0, c1, c2], _ =>
    obtain ⟨fuel, hf⟩ := h
    obtain ⟨xs, n, _, _, _, hlen, hg⟩ := DataW.trod_struct Try.underlying23 hf
    match xs, hlen with
    | [y0, y1, y2], _ =>
      have p0 := hg 0 _ rfl
      have p1 := hg 1 _ rfl
      have p2 := hg 2 _ rfl
      simp [Value.cells, ci, cs] at p0 p1 p2
      obtain ⟨a0, e0, _, w0⟩ := DataW.trod_string Try.underlying9 p0
      obtain ⟨a1, e1, _, w1⟩ := DataW.trod_int Try.underlying3 p1
      obtain ⟨a2, e2, _, w2⟩ := DataW.trod_int Try.underlying3 p2
      injection e0 with e0 _
      injection e1 with e1 _
      injection e2 with e2 _
      subst e0 e1 e2
      exact ⟨_, _, _, rfl⟩
set_option maxRecDepth 100000 in
theorem open_access {r : Reach} {b0 : Nat} {v : Value} {d : DataW H} {p : List MemPlace} (hv : Value.okWide Try.prog w r b0 46 v) (h : DataW.Trod enc Try.prog w 0 (fun _ => true) true 46 v d p) :
    ∃ (x : Ac), v = .agg #[.int .i64 x.1, .int .u32 x.2.1, .int .u32 x.2.2] ∧ AcOk x := by
  have ci : Try.prog.cellsOf 3 = 1 := by kernel_rfl
  have cu : Try.prog.cellsOf 44 = 1 := by kernel_rfl
  obtain ⟨l, rfl, hsz⟩ := okWide_struct Try.underlying46 hv
  obtain ⟨l⟩ := l
  have hl : l.length = 3 := hsz.trans (by kernel_rfl)
  match l, hl with
  | [c0, c1, c2], _ =>
    obtain ⟨fuel, hf⟩ := h
    obtain ⟨xs, n, _, _, _, hlen, hg⟩ := DataW.trod_struct Try.underlying46 hf
    match xs, hlen with
    | [y0, y1, y2], _ =>
      have p0 := hg 0 _ rfl
      have p1 := hg 1 _ rfl
      have p2 := hg 2 _ rfl
      simp [Value.cells, ci, cu] at p0 p1 p2
      obtain ⟨a0, e0, _, w0⟩ := DataW.trod_int Try.underlying3 p0
      obtain ⟨a1, e1, _, w1⟩ := DataW.trod_int Try.underlying44 p1
      obtain ⟨a2, e2, _, w2⟩ := DataW.trod_int Try.underlying44 p2
      injection e0 with e0 _
      injection e1 with e1 _
      injection e2 with e2 _
      subst e0 e1 e2
      exact ⟨(a0, a1, a2), rfl, i64_bd w0, u32_bd w1, u32_bd w2⟩
set_option maxRecDepth 100000 in
theorem open_rows {r : Reach} {b0 : Nat} {v : Value} {d : DataW H} {p : List MemPlace} (hv : Value.okWide Try.prog w r b0 38 v) (h : DataW.Trod enc Try.prog w 0 (fun _ => true) true 38 v d p) :
    ∃ a l c L, v = .slice a l c ∧ SR w a l c L := by
  obtain ⟨a0, len0, cap0, rfl⟩ := okWide_slice Try.underlying38 hv
  obtain ⟨fuel, hf⟩ := h
  simp [Value.cells] at hf
  exact open_sr hf
set_option maxRecDepth 100000 in
theorem open_accs {r : Reach} {b0 : Nat} {v : Value} {d : DataW H} {p : List MemPlace} (hv : Value.okWide Try.prog w r b0 50 v) (h : DataW.Trod enc Try.prog w 0 (fun _ => true) true 50 v d p) :
    ∃ a l c L, v = .slice a l c ∧ SA w a l c L := by
  obtain ⟨a0, len0, cap0, rfl⟩ := okWide_slice Try.underlying50 hv
  obtain ⟨fuel, hf⟩ := h
  simp [Value.cells] at hf
  exact open_sa hf
set_option maxRecDepth 100000 in
theorem open_prog {r : Reach} {b0 : Nat} {v : Value} {d : DataW H} {p : List MemPlace} (hv : Value.okWide Try.prog w r b0 37 v) (h : DataW.Trod enc Try.prog w 0 (fun _ => true) true 37 v d p) :
    ∃ (X : PX) (L : List Rg), v = .agg #[.string X.nm, .slice X.ha X.hn X.hc, .slice X.ma X.mn X.mc, .slice X.ra X.rn X.rc, .slice X.aa X.an X.ac, .slice X.ta X.tn X.tc, .slice X.sa X.sn X.sc, .slice X.ca X.cn X.cc, .slice X.da X.dn X.dc] ∧ SG w X.ra X.rn X.rc L := by
  have z0 : Try.prog.cellsOf 9 = 1 := by kernel_rfl
  have z1 : Try.prog.cellsOf 28 = 1 := by kernel_rfl
  have z2 : Try.prog.cellsOf 29 = 1 := by kernel_rfl
  have z3 : Try.prog.cellsOf 30 = 1 := by kernel_rfl
  have z4 : Try.prog.cellsOf 31 = 1 := by kernel_rfl
  have z5 : Try.prog.cellsOf 32 = 1 := by kernel_rfl
  have z6 : Try.prog.cellsOf 33 = 1 := by kernel_rfl
  have z7 : Try.prog.cellsOf 34 = 1 := by kernel_rfl
  have z8 : Try.prog.cellsOf 35 = 1 := by kernel_rfl
  obtain ⟨cs, rfl, hsz⟩ := okWide_struct Try.underlying37 hv
  obtain ⟨l⟩ := cs
  have hl : l.length = 9 := hsz.trans (by kernel_rfl)
  match l, hl with
  | [c0, c1, c2, c3, c4, c5, c6, c7, c8], _ =>
    obtain ⟨fuel, hf⟩ := h
    obtain ⟨xs, n, _, _, _, hlen, pg⟩ := DataW.trod_struct Try.underlying37 hf
    match xs, hlen with
    | [q0, q1, q2, q3, q4, q5, q6, q7, q8], _ =>
      have p0 := pg 0 _ rfl
      have p1 := pg 1 _ rfl
      have p2 := pg 2 _ rfl
      have p3 := pg 3 _ rfl
      have p4 := pg 4 _ rfl
      have p5 := pg 5 _ rfl
      have p6 := pg 6 _ rfl
      have p7 := pg 7 _ rfl
      have p8 := pg 8 _ rfl
      simp [Value.cells, z0] at p0
      simp [Value.cells, z1] at p1
      simp [Value.cells, z2] at p2
      simp [Value.cells, z3] at p3
      simp [Value.cells, z4] at p4
      simp [Value.cells, z5] at p5
      simp [Value.cells, z6] at p6
      simp [Value.cells, z7] at p7
      simp [Value.cells, z8] at p8
      obtain ⟨s, es, _, _⟩ := DataW.trod_string Try.underlying9 p0
      injection es with es _
      obtain ⟨a1, n1, d1, rfl⟩ := shape_sl Try.underlying28 p1
      obtain ⟨a2, n2, d2, rfl⟩ := shape_sl Try.underlying29 p2
      obtain ⟨a3, n3, d3, L, rfl, sg⟩ := open_sg p3
      obtain ⟨a4, n4, d4, rfl⟩ := shape_sl Try.underlying31 p4
      obtain ⟨a5, n5, d5, rfl⟩ := shape_sl Try.underlying32 p5
      obtain ⟨a6, n6, d6, rfl⟩ := shape_sl Try.underlying33 p6
      obtain ⟨a7, n7, d7, rfl⟩ := shape_sl Try.underlying34 p7
      obtain ⟨a8, n8, d8, rfl⟩ := shape_sl Try.underlying35 p8
      subst es
      exact ⟨⟨s, a1, n1, d1, a2, n2, d2, a3, n3, d3, a4, n4, d4, a5, n5, d5, a6, n6, d6, a7, n7, d7, a8, n8, d8⟩, L, rfl, sg⟩
end
end Go.Proofs.Ytjbimeahcldaoaa
