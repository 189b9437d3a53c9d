/- How a program is opened as an argument; no condition. -/
import Derived.Test.YtngobkghcogahaaTpA
import Derived.Deep.SlicePairs
import Derived.Deep.Slices
import Derived.Deep.Fields
import Derived.ChangeSame
namespace Go.Proofs.Ytngobkghcogahaa
open Go.ChangeShapes Go.WideShapes Go.ChangeAt Go.RowKit Go.Joins Go.Deep
set_option linter.unusedVariables false
section
variable {H : Type} {enc : TypeId × Value → H} {w : World}
theorem shape_sl {t e : TypeId} {n : Nat} {v : Value} {x : DataW H × List MemPlace} (ht : Try.prog.underlying t = some (.slice e)) (h : DataW.trod enc Try.prog w 0 (fun _ => true) true n t [v] = some x) : ∃ a l c, v = .slice a l c := by
  rcases open_slice ht h with ⟨hcs, _⟩ | ⟨a, len, cap, m, n, D, Pl, hcs, _⟩
  · injection hcs with h1 _; exact ⟨_, _, _, h1⟩
  · injection hcs with h1 _; exact ⟨_, _, _, h1⟩
theorem open_ones {t e : TypeId} {n : Nat} {v : Value} {x : DataW H × List MemPlace} (ht : Try.prog.underlying t = some (.slice e)) (ce : Try.prog.cellsOf e = 1) (h : DataW.trod enc Try.prog w 0 (fun _ => true) true n t [v] = some x) :
    v = .slice none 0 0 ∨ ∃ (a : Addr) (l c k : Nat) (V : Nat → Value), v = .slice (some a) l c ∧ l ≤ c ∧ ∀ i, i < l → w.cell? (a.add i) = some (V i) ∧ ∃ y, DataW.trod enc Try.prog w 0 (fun _ => true) true k e [V i] = some y := by
  rcases open_slice ht h with ⟨hcs, _⟩ | ⟨a, len, cap, m, k, D, Pl, hcs, _, hl, _, hm, _, hx⟩
  · injection hcs with h1 _; exact .inl h1
  · injection hcs with h1 _
    have each : ∀ i, i < len → ∃ q : Value, w.cell? (a.add i) = some q ∧ ∃ y, DataW.trod enc Try.prog w 0 (fun _ => true) true k e [q] = some y := by
      intro i hi
      obtain ⟨cs', hc, ht'⟩ := hx i (by rw [hm]; simp; omega)
      rw [ce] at hc
      obtain ⟨_, hcl, hat⟩ := World.cells?_some hc
      match cs', hcl with
      | [q], _ =>
        have h0 := hat (i := 0) (by decide)
        rw [Nat.mul_one, Go.Deep.add_add] at h0
        exact ⟨q, by simpa using h0, _, ht'⟩
    obtain ⟨V, hV⟩ := choose_lt each
    exact .inr ⟨a, len, cap, k, V, h1, hl, hV⟩
theorem open_su {n : Nat} {v : Value} {x : DataW H × List MemPlace} (h : DataW.trod enc Try.prog w 0 (fun _ => true) true n 40 [v] = some x) : ∃ a l c L, v = .slice a l c ∧ SU w a l c L := by
  rcases open_ones Try.underlying40 (by kernel_rfl) h with rfl | ⟨a, l, c, k, V, rfl, hl, hV⟩
  · exact ⟨_, _, _, [], rfl, su_nil _⟩
  · have each : ∀ i, i < l → ∃ z : Int, w.cell? (a.add i) = some (.int .u32 z) ∧ 0 ≤ z ∧ z < 4294967296 := by
      intro i hi
      obtain ⟨h1, y, h2⟩ := hV i hi
      obtain ⟨z, e, _, wf⟩ := DataW.trod_int Try.underlying58 h2
      injection e with e _
      rw [e] at h1
      have := u32_bd wf
      exact ⟨z, h1, this.1, this.2⟩
    obtain ⟨Z, hZ⟩ := choose_lt each
    refine ⟨_, _, _, (List.range l).map Z, rfl, by simp, (fun e => by cases e), hl, fun ad e j hj => ?_, fun y hy => ?_⟩
    · cases e
      have e : ((List.range l).map Z).getD j 0 = Z j := by simp [hj]
      rw [e]; exact (hZ j hj).1
    · obtain ⟨j, hj, rfl⟩ := List.mem_map.1 hy
      exact (hZ j (List.mem_range.1 hj)).2
theorem add_n' (ad : Addr) (k : Nat) : (⟨(ad.add k).block, (ad.add k).off + 1, none⟩ : Addr) = ad.add (k + 1) := by
  rw [← Addr.add_add]
  rfl
theorem add_n2 (ad : Addr) (k : Nat) : (⟨(ad.add k).block, (ad.add k).off + 2, none⟩ : Addr) = ad.add (k + 2) := by
  rw [← Addr.add_add]
  rfl
theorem open_sf {n : Nat} {v : Value} {x : DataW H × List MemPlace} (h : DataW.trod enc Try.prog w 0 (fun _ => true) true n 23 [v] = some x) : ∃ a l c L, v = .slice a l c ∧ SF w a l c L := by
  rcases open_slice_pairs Try.underlying23 Try.underlying94 (by kernel_rfl) rfl rfl (by kernel_rfl) (by kernel_rfl) h with ⟨hcs, _⟩ | ⟨a, len, cap, m, n, V0, V1, D0, D1, P0, P1, hcs, _, hl, _, hm, _, hx⟩
  · injection hcs with h1 _
    exact ⟨_, _, _, [], h1, sf_nil _⟩
  · injection hcs with h1 _
    have each : ∀ i, i < len → ∃ q : Fld, w.cell? (a.add (i * 2)) = some (.string q.1) ∧ w.cell? (a.add (i * 2 + 1)) = some (.int .i64 q.2) := by
      intro i hi
      obtain ⟨k0, k1, g0, g1⟩ := hx i (by rw [hm]; simp; omega)
      obtain ⟨x, e0, _, w0⟩ := DataW.trod_string Try.underlying9 g0
      obtain ⟨y, e1, _, w1⟩ := DataW.trod_int Try.underlying3 g1
      injection e0 with e0 _
      injection e1 with e1 _
      rw [e0] at k0
      rw [e1] at k1
      exact ⟨(x, y), k0, k1⟩
    obtain ⟨q, hq⟩ := choose_lt each
    refine ⟨_, _, _, (List.range len).map q, h1, by simp, (fun e => by cases e), hl, fun ad e j hj => ?_⟩
    cases e
    rw [add_n']
    have e : ((List.range len).map q).getD j fz = q j := by simp [hj]
    rw [e]
    exact hq j hj
theorem open_sn {n : Nat} {v : Value} {x : DataW H × List MemPlace} (h : DataW.trod enc Try.prog w 0 (fun _ => true) true n 202 [v] = some x) : ∃ a l c L, v = .slice a l c ∧ SN w a l c L := by
  rcases open_slice Try.underlying202 h with ⟨hcs, _⟩ | ⟨a, len, cap, m, k, D, Pl, hcs, _, hl, _, hm, _, hx⟩
  · injection hcs with h1 _
    exact ⟨_, _, _, [], h1, rfl, fun _ => ⟨rfl, rfl⟩, Nat.le_refl _, (fun ad e => by cases e), (fun x hx => by cases hx)⟩
  · injection hcs with h1 _
    have ce : Try.prog.cellsOf 211 = 3 := by kernel_rfl
    have ci : Try.prog.cellsOf 3 = 1 := by kernel_rfl
    rw [ce] at hx
    have each : ∀ i, i < len → ∃ q : Nd, w.cell? (a.add (i * 3)) = some (.int .i64 q.1) ∧ w.cell? (a.add (i * 3 + 1)) = some (.int .i64 q.2.1) ∧ w.cell? (a.add (i * 3 + 2)) = some (.int .i64 q.2.2) ∧ -9223372036854775808 ≤ q.2.1 ∧ q.2.1 ≤ 9223372036854775807 := by
      intro i hi
      obtain ⟨cs', hc, ht'⟩ := hx i (by rw [hm]; simp; omega)
      obtain ⟨_, hcl, hat⟩ := World.cells?_some hc
      match cs', hcl with
      | [q0, q1, q2], _ =>
        have g0 := hat (i := 0) (by decide)
        have g1 := hat (i := 1) (by decide)
        have g2 := hat (i := 2) (by decide)
        rw [Go.Deep.add_add] at g0 g1 g2
        obtain ⟨xs, n', _, _, _, hlen, hg⟩ := DataW.trod_struct Try.underlying211 ht'
        match xs, hlen with
        | [y0, y1, y2], _ =>
          have f0 := hg 0 _ rfl
          have f1 := hg 1 _ rfl
          have f2 := hg 2 _ rfl
          simp [ci] at f0 f1 f2
          obtain ⟨a0, e0, _, _⟩ := DataW.trod_int Try.underlying3 f0
          obtain ⟨a1, e1, _, w1⟩ := DataW.trod_int Try.underlying3 f1
          obtain ⟨a2, e2, _, _⟩ := DataW.trod_int Try.underlying3 f2
          injection e0 with e0 _
          injection e1 with e1 _
          injection e2 with e2 _
          subst e0 e1 e2
          exact ⟨(a0, a1, a2), by simpa using g0, by simpa using g1, by simpa using g2, i64_bd w1⟩
    obtain ⟨q, hq⟩ := choose_lt each
    refine ⟨_, _, _, (List.range len).map q, h1, by simp, (fun e => by cases e), hl, fun ad e j hj => ?_, fun y hy => ?_⟩
    · cases e
      rw [add_n', add_n2]
      have e : ((List.range len).map q).getD j nz = q j := by simp [hj]
      rw [e]
      exact ⟨(hq j hj).1, (hq j hj).2.1, (hq j hj).2.2.1⟩
    · obtain ⟨j, hj, rfl⟩ := List.mem_map.1 hy
      exact (hq j (List.mem_range.1 hj)).2.2.2
theorem open_si {n : Nat} {v : Value} {x : DataW H × List MemPlace} (h : DataW.trod enc Try.prog w 0 (fun _ => true) true n 29 [v] = some x) : ∃ a l c L, v = .slice a l c ∧ SI w a l c L := by
  rcases open_ones Try.underlying29 (by kernel_rfl) h with rfl | ⟨a, l, c, k, V, rfl, hl, hV⟩
  · exact ⟨_, _, _, [], rfl, si_nil _⟩
  · have each : ∀ i, i < l → ∃ z : Int, w.cell? (a.add i) = some (.int .i64 z) ∧ -9223372036854775808 ≤ z ∧ z ≤ 9223372036854775807 := by
      intro i hi
      obtain ⟨h1, y, h2⟩ := hV i hi
      obtain ⟨z, e, _, wf⟩ := DataW.trod_int Try.underlying3 h2
      injection e with e _
      rw [e] at h1
      exact ⟨z, h1, i64_bd wf⟩
    obtain ⟨Z, hZ⟩ := choose_lt each
    refine ⟨_, _, _, (List.range l).map Z, rfl, by simp, (fun e => by cases e), hl, fun ad e j hj => ?_, fun y hy => ?_⟩
    · cases e
      have e : ((List.range l).map Z).getD j 0 = Z j := by simp [hj]
      rw [e]; exact (hZ j hj).1
    · obtain ⟨j, hj, rfl⟩ := List.mem_map.1 hy
      exact (hZ j (List.mem_range.1 hj)).2
/-- A slice of structs, by how one of them is opened. -/
theorem open_sl {α : Type} {K : Nat} {z : α} {C : World → Addr → α → Prop} {t e : TypeId} (ht : Try.prog.underlying t = some (.slice e)) (ce : Try.prog.cellsOf e = K)
    (hE : ∀ (n : Nat) (cs : List Value) (y : DataW H × List MemPlace) (b : Addr), cs.length = K → (∀ i u, cs[i]? = some u → w.cell? (b.add i) = some u) → DataW.trod enc Try.prog w 0 (fun _ => true) true n e cs = some y → ∃ x : α, C w b x)
    {n : Nat} {v : Value} {x : DataW H × List MemPlace} (h : DataW.trod enc Try.prog w 0 (fun _ => true) true n t [v] = some x) : ∃ a l c L, v = .slice a l c ∧ SL K z C w a l c L := by
  rcases open_slice ht h with ⟨hcs, _⟩ | ⟨a, len, cap, m, k, D, Pl, hcs, _, hl, _, hm, _, hx⟩
  · injection hcs with h1 _
    exact ⟨_, _, _, [], h1, sl_nil _⟩
  · injection hcs with h1 _
    rw [ce] at hx
    have each : ∀ i, i < len → ∃ q : α, C w (a.add (i * K)) q := by
      intro i hi
      obtain ⟨cs', hc, ht'⟩ := hx i (by rw [hm]; simp; omega)
      obtain ⟨_, hcl, hat⟩ := World.cells?_some hc
      refine hE _ cs' _ _ hcl (fun j u hu => ?_) ht'
      have hj : j < cs'.length := (List.getElem?_eq_some_iff.1 hu).1
      have g := hat (i := j) (by omega)
      rw [g, hu]
    haveI : Inhabited α := ⟨z⟩
    obtain ⟨q, hq⟩ := choose_lt each
    refine ⟨_, _, _, (List.range len).map q, h1, by simp, (fun e => by cases e), hl, fun ad e j hj => ?_⟩
    cases e
    have e : ((List.range len).map q).getD j z = q j := by simp [hj]
    rw [e]
    exact hq j hj
theorem el_TKy (n : Nat) (cs : List Value) (y : DataW H × List MemPlace) (b : Addr) (hl : cs.length = 3) (hat : ∀ i u, cs[i]? = some u → w.cell? (b.add i) = some u) (h : DataW.trod enc Try.prog w 0 (fun _ => true) true n 209 cs = some y) : ∃ x : TKy, CKy w b x := by
  match cs, hl with
  | [q0, q1, q2], _ =>
    have g0 := hat 0 q0 rfl
    have g1 := hat 1 q1 rfl
    have g2 := hat 2 q2 rfl
    obtain ⟨xs, n1, _, _, _, hlen, hg⟩ := DataW.trod_struct Try.underlying209 h
    match xs, hlen with
    | [y0, y1], _ =>
      have p0 : DataW.trod enc Try.prog w 0 (fun _ => true) true n1 52 [q0, q1] = some y0 := by
        have q : DataW.trod enc Try.prog w 0 (fun _ => true) true n1 52 (([q0, q1, q2].drop 0).take (Try.prog.cellsOf 52)) = some y0 := hg 0 _ rfl
        rw [show Try.prog.cellsOf 52 = 2 from by kernel_rfl] at q
        exact q
      obtain ⟨zs0, m0, _, _, _, zlen0, zg0⟩ := DataW.trod_struct Try.underlying52 p0
      match zs0, zlen0 with
      | [z0_0, z0_1], _ =>
      have p0_0 : DataW.trod enc Try.prog w 0 (fun _ => true) true m0 3 [q0] = some z0_0 := by
        have q : DataW.trod enc Try.prog w 0 (fun _ => true) true m0 3 (([q0, q1].drop 0).take (Try.prog.cellsOf 3)) = some z0_0 := zg0 0 _ rfl
        rw [show Try.prog.cellsOf 3 = 1 from by kernel_rfl] at q
        exact q
      have p0_1 : DataW.trod enc Try.prog w 0 (fun _ => true) true m0 3 [q1] = some z0_1 := by
        have q : DataW.trod enc Try.prog w 0 (fun _ => true) true m0 3 (([q0, q1].drop 1).take (Try.prog.cellsOf 3)) = some z0_1 := zg0 1 _ rfl
        rw [show Try.prog.cellsOf 3 = 1 from by kernel_rfl] at q
        exact q
      have p1 : DataW.trod enc Try.prog w 0 (fun _ => true) true n1 3 [q2] = some y1 := by
        have q : DataW.trod enc Try.prog w 0 (fun _ => true) true n1 3 (([q0, q1, q2].drop 2).take (Try.prog.cellsOf 3)) = some y1 := hg 1 _ rfl
        rw [show Try.prog.cellsOf 3 = 1 from by kernel_rfl] at q
        exact q
      obtain ⟨a0, e0, _, w0⟩ := DataW.trod_int Try.underlying3 p0_0
      injection e0 with e0 _
      subst e0
      obtain ⟨a1, e1, _, w1⟩ := DataW.trod_int Try.underlying3 p0_1
      injection e1 with e1 _
      subst e1
      obtain ⟨a2, e2, _, w2⟩ := DataW.trod_int Try.underlying3 p1
      injection e2 with e2 _
      subst e2
      exact ⟨⟨a0, a1, a2⟩, g0, g1, g2⟩
theorem open_sky {n : Nat} {v : Value} {x : DataW H × List MemPlace} (h : DataW.trod enc Try.prog w 0 (fun _ => true) true n 197 [v] = some x) : ∃ a l c L, v = .slice a l c ∧ SKy w a l c L := open_sl Try.underlying197 (by kernel_rfl) el_TKy h
theorem el_Cse (n : Nat) (cs : List Value) (y : DataW H × List MemPlace) (b : Addr) (hl : cs.length = 3) (hat : ∀ i u, cs[i]? = some u → w.cell? (b.add i) = some u) (h : DataW.trod enc Try.prog w 0 (fun _ => true) true n 114 cs = some y) : ∃ x : Cse, CCa w b x := by
  match cs, hl with
  | [q0, q1, q2], _ =>
    have g0 := hat 0 q0 rfl
    have g1 := hat 1 q1 rfl
    have g2 := hat 2 q2 rfl
    obtain ⟨xs, n1, _, _, _, hlen, hg⟩ := DataW.trod_struct Try.underlying114 h
    match xs, hlen with
    | [y0, y1, y2], _ =>
      have p0 : DataW.trod enc Try.prog w 0 (fun _ => true) true n1 58 [q0] = some y0 := by
        have q : DataW.trod enc Try.prog w 0 (fun _ => true) true n1 58 (([q0, q1, q2].drop 0).take (Try.prog.cellsOf 58)) = some y0 := hg 0 _ rfl
        rw [show Try.prog.cellsOf 58 = 1 from by kernel_rfl] at q
        exact q
      have p1 : DataW.trod enc Try.prog w 0 (fun _ => true) true n1 58 [q1] = some y1 := by
        have q : DataW.trod enc Try.prog w 0 (fun _ => true) true n1 58 (([q0, q1, q2].drop 1).take (Try.prog.cellsOf 58)) = some y1 := hg 1 _ rfl
        rw [show Try.prog.cellsOf 58 = 1 from by kernel_rfl] at q
        exact q
      have p2 : DataW.trod enc Try.prog w 0 (fun _ => true) true n1 3 [q2] = some y2 := by
        have q : DataW.trod enc Try.prog w 0 (fun _ => true) true n1 3 (([q0, q1, q2].drop 2).take (Try.prog.cellsOf 3)) = some y2 := hg 2 _ rfl
        rw [show Try.prog.cellsOf 3 = 1 from by kernel_rfl] at q
        exact q
      obtain ⟨a0, e0, _, w0⟩ := DataW.trod_int Try.underlying58 p0
      injection e0 with e0 _
      subst e0
      obtain ⟨a1, e1, _, w1⟩ := DataW.trod_int Try.underlying58 p1
      injection e1 with e1 _
      subst e1
      obtain ⟨a2, e2, _, w2⟩ := DataW.trod_int Try.underlying3 p2
      injection e2 with e2 _
      subst e2
      exact ⟨⟨a0, a1, a2⟩, ⟨g0, (u32_bd w0).1, (u32_bd w0).2⟩, ⟨g1, (u32_bd w1).1, (u32_bd w1).2⟩, g2⟩
theorem open_sca {n : Nat} {v : Value} {x : DataW H × List MemPlace} (h : DataW.trod enc Try.prog w 0 (fun _ => true) true n 53 [v] = some x) : ∃ a l c L, v = .slice a l c ∧ SCa w a l c L := open_sl Try.underlying53 (by kernel_rfl) el_Cse h
theorem el_Stm (n : Nat) (cs : List Value) (y : DataW H × List MemPlace) (b : Addr) (hl : cs.length = 7) (hat : ∀ i u, cs[i]? = some u → w.cell? (b.add i) = some u) (h : DataW.trod enc Try.prog w 0 (fun _ => true) true n 207 cs = some y) : ∃ x : Stm, CSm w b x := by
  match cs, hl with
  | [q0, q1, q2, q3, q4, q5, q6], _ =>
    have g0 := hat 0 q0 rfl
    have g1 := hat 1 q1 rfl
    have g2 := hat 2 q2 rfl
    have g3 := hat 3 q3 rfl
    have g4 := hat 4 q4 rfl
    have g5 := hat 5 q5 rfl
    have g6 := hat 6 q6 rfl
    obtain ⟨xs, n1, _, _, _, hlen, hg⟩ := DataW.trod_struct Try.underlying207 h
    match xs, hlen with
    | [y0, y1, y2, y3, y4, y5], _ =>
      have p0 : DataW.trod enc Try.prog w 0 (fun _ => true) true n1 3 [q0] = some y0 := by
        have q : DataW.trod enc Try.prog w 0 (fun _ => true) true n1 3 (([q0, q1, q2, q3, q4, q5, q6].drop 0).take (Try.prog.cellsOf 3)) = some y0 := hg 0 _ rfl
        rw [show Try.prog.cellsOf 3 = 1 from by kernel_rfl] at q
        exact q
      have p1 : DataW.trod enc Try.prog w 0 (fun _ => true) true n1 52 [q1, q2] = some y1 := by
        have q : DataW.trod enc Try.prog w 0 (fun _ => true) true n1 52 (([q0, q1, q2, q3, q4, q5, q6].drop 1).take (Try.prog.cellsOf 52)) = some y1 := hg 1 _ rfl
        rw [show Try.prog.cellsOf 52 = 2 from by kernel_rfl] at q
        exact q
      obtain ⟨zs1, m1, _, _, _, zlen1, zg1⟩ := DataW.trod_struct Try.underlying52 p1
      match zs1, zlen1 with
      | [z1_0, z1_1], _ =>
      have p1_0 : DataW.trod enc Try.prog w 0 (fun _ => true) true m1 3 [q1] = some z1_0 := by
        have q : DataW.trod enc Try.prog w 0 (fun _ => true) true m1 3 (([q1, q2].drop 0).take (Try.prog.cellsOf 3)) = some z1_0 := zg1 0 _ rfl
        rw [show Try.prog.cellsOf 3 = 1 from by kernel_rfl] at q
        exact q
      have p1_1 : DataW.trod enc Try.prog w 0 (fun _ => true) true m1 3 [q2] = some z1_1 := by
        have q : DataW.trod enc Try.prog w 0 (fun _ => true) true m1 3 (([q1, q2].drop 1).take (Try.prog.cellsOf 3)) = some z1_1 := zg1 1 _ rfl
        rw [show Try.prog.cellsOf 3 = 1 from by kernel_rfl] at q
        exact q
      have p2 : DataW.trod enc Try.prog w 0 (fun _ => true) true n1 3 [q3] = some y2 := by
        have q : DataW.trod enc Try.prog w 0 (fun _ => true) true n1 3 (([q0, q1, q2, q3, q4, q5, q6].drop 3).take (Try.prog.cellsOf 3)) = some y2 := hg 2 _ rfl
        rw [show Try.prog.cellsOf 3 = 1 from by kernel_rfl] at q
        exact q
      have p3 : DataW.trod enc Try.prog w 0 (fun _ => true) true n1 3 [q4] = some y3 := by
        have q : DataW.trod enc Try.prog w 0 (fun _ => true) true n1 3 (([q0, q1, q2, q3, q4, q5, q6].drop 4).take (Try.prog.cellsOf 3)) = some y3 := hg 3 _ rfl
        rw [show Try.prog.cellsOf 3 = 1 from by kernel_rfl] at q
        exact q
      have p4 : DataW.trod enc Try.prog w 0 (fun _ => true) true n1 202 [q5] = some y4 := by
        have q : DataW.trod enc Try.prog w 0 (fun _ => true) true n1 202 (([q0, q1, q2, q3, q4, q5, q6].drop 5).take (Try.prog.cellsOf 202)) = some y4 := hg 4 _ rfl
        rw [show Try.prog.cellsOf 202 = 1 from by kernel_rfl] at q
        exact q
      have p5 : DataW.trod enc Try.prog w 0 (fun _ => true) true n1 202 [q6] = some y5 := by
        have q : DataW.trod enc Try.prog w 0 (fun _ => true) true n1 202 (([q0, q1, q2, q3, q4, q5, q6].drop 6).take (Try.prog.cellsOf 202)) = some y5 := hg 5 _ rfl
        rw [show Try.prog.cellsOf 202 = 1 from by kernel_rfl] at q
        exact q
      obtain ⟨a0, e0, _, w0⟩ := DataW.trod_int Try.underlying3 p0
      injection e0 with e0 _
      subst e0
      obtain ⟨a1, e1, _, w1⟩ := DataW.trod_int Try.underlying3 p1_0
      injection e1 with e1 _
      subst e1
      obtain ⟨a2, e2, _, w2⟩ := DataW.trod_int Try.underlying3 p1_1
      injection e2 with e2 _
      subst e2
      obtain ⟨a3, e3, _, w3⟩ := DataW.trod_int Try.underlying3 p2
      injection e3 with e3 _
      subst e3
      obtain ⟨a4, e4, _, w4⟩ := DataW.trod_int Try.underlying3 p3
      injection e4 with e4 _
      subst e4
      obtain ⟨a5, l5, c5, L5, e5, s5⟩ := open_sn p4
      subst e5
      obtain ⟨a6, l6, c6, L6, e6, s6⟩ := open_sn p5
      subst e6
      exact ⟨⟨a0, a1, a2, a3, a4, L5, L6⟩, g0, g1, g2, g3, g4, ⟨_, _, _, g5, s5⟩, ⟨_, _, _, g6, s6⟩⟩
theorem open_ssm {n : Nat} {v : Value} {x : DataW H × List MemPlace} (h : DataW.trod enc Try.prog w 0 (fun _ => true) true n 194 [v] = some x) : ∃ a l c L, v = .slice a l c ∧ SSm w a l c L := open_sl Try.underlying194 (by kernel_rfl) el_Stm h
theorem el_Rgr (n : Nat) (cs : List Value) (y : DataW H × List MemPlace) (b : Addr) (hl : cs.length = 3) (hat : ∀ i u, cs[i]? = some u → w.cell? (b.add i) = some u) (h : DataW.trod enc Try.prog w 0 (fun _ => true) true n 193 cs = some y) : ∃ x : Rgr, CRg w b x := by
  match cs, hl with
  | [q0, q1, q2], _ =>
    have g0 := hat 0 q0 rfl
    have g1 := hat 1 q1 rfl
    have g2 := hat 2 q2 rfl
    obtain ⟨xs, n1, _, _, _, hlen, hg⟩ := DataW.trod_struct Try.underlying193 h
    match xs, hlen with
    | [y0, y1, y2], _ =>
      have p0 : DataW.trod enc Try.prog w 0 (fun _ => true) true n1 9 [q0] = some y0 := by
        have q : DataW.trod enc Try.prog w 0 (fun _ => true) true n1 9 (([q0, q1, q2].drop 0).take (Try.prog.cellsOf 9)) = some y0 := hg 0 _ rfl
        rw [show Try.prog.cellsOf 9 = 1 from by kernel_rfl] at q
        exact q
      have p1 : DataW.trod enc Try.prog w 0 (fun _ => true) true n1 3 [q1] = some y1 := by
        have q : DataW.trod enc Try.prog w 0 (fun _ => true) true n1 3 (([q0, q1, q2].drop 1).take (Try.prog.cellsOf 3)) = some y1 := hg 1 _ rfl
        rw [show Try.prog.cellsOf 3 = 1 from by kernel_rfl] at q
        exact q
      have p2 : DataW.trod enc Try.prog w 0 (fun _ => true) true n1 3 [q2] = some y2 := by
        have q : DataW.trod enc Try.prog w 0 (fun _ => true) true n1 3 (([q0, q1, q2].drop 2).take (Try.prog.cellsOf 3)) = some y2 := hg 2 _ rfl
        rw [show Try.prog.cellsOf 3 = 1 from by kernel_rfl] at q
        exact q
      obtain ⟨a0, e0, _, _⟩ := DataW.trod_string Try.underlying9 p0
      injection e0 with e0 _
      subst e0
      obtain ⟨a1, e1, _, w1⟩ := DataW.trod_int Try.underlying3 p1
      injection e1 with e1 _
      subst e1
      obtain ⟨a2, e2, _, w2⟩ := DataW.trod_int Try.underlying3 p2
      injection e2 with e2 _
      subst e2
      exact ⟨⟨a0, a1, a2⟩, g0, g1, g2⟩
theorem open_srg {n : Nat} {v : Value} {x : DataW H × List MemPlace} (h : DataW.trod enc Try.prog w 0 (fun _ => true) true n 24 [v] = some x) : ∃ a l c L, v = .slice a l c ∧ SRg w a l c L := open_sl Try.underlying24 (by kernel_rfl) el_Rgr h
theorem el_Actn (n : Nat) (cs : List Value) (y : DataW H × List MemPlace) (b : Addr) (hl : cs.length = 3) (hat : ∀ i u, cs[i]? = some u → w.cell? (b.add i) = some u) (h : DataW.trod enc Try.prog w 0 (fun _ => true) true n 196 cs = some y) : ∃ x : Actn, CAn w b x := by
  match cs, hl with
  | [q0, q1, q2], _ =>
    have g0 := hat 0 q0 rfl
    have g1 := hat 1 q1 rfl
    have g2 := hat 2 q2 rfl
    obtain ⟨xs, n1, _, _, _, hlen, hg⟩ := DataW.trod_struct Try.underlying196 h
    match xs, hlen with
    | [y0, y1, y2], _ =>
      have p0 : DataW.trod enc Try.prog w 0 (fun _ => true) true n1 9 [q0] = some y0 := by
        have q : DataW.trod enc Try.prog w 0 (fun _ => true) true n1 9 (([q0, q1, q2].drop 0).take (Try.prog.cellsOf 9)) = some y0 := hg 0 _ rfl
        rw [show Try.prog.cellsOf 9 = 1 from by kernel_rfl] at q
        exact q
      have p1 : DataW.trod enc Try.prog w 0 (fun _ => true) true n1 23 [q1] = some y1 := by
        have q : DataW.trod enc Try.prog w 0 (fun _ => true) true n1 23 (([q0, q1, q2].drop 1).take (Try.prog.cellsOf 23)) = some y1 := hg 1 _ rfl
        rw [show Try.prog.cellsOf 23 = 1 from by kernel_rfl] at q
        exact q
      have p2 : DataW.trod enc Try.prog w 0 (fun _ => true) true n1 194 [q2] = some y2 := by
        have q : DataW.trod enc Try.prog w 0 (fun _ => true) true n1 194 (([q0, q1, q2].drop 2).take (Try.prog.cellsOf 194)) = some y2 := hg 2 _ rfl
        rw [show Try.prog.cellsOf 194 = 1 from by kernel_rfl] at q
        exact q
      obtain ⟨a0, e0, _, _⟩ := DataW.trod_string Try.underlying9 p0
      injection e0 with e0 _
      subst e0
      obtain ⟨a1, l1, c1, L1, e1, s1⟩ := open_sf p1
      subst e1
      obtain ⟨a2, l2, c2, L2, e2, s2⟩ := open_ssm p2
      subst e2
      exact ⟨⟨a0, L1, L2⟩, g0, ⟨_, _, _, g1, s1⟩, ⟨_, _, _, g2, s2⟩⟩
theorem open_san {n : Nat} {v : Value} {x : DataW H × List MemPlace} (h : DataW.trod enc Try.prog w 0 (fun _ => true) true n 25 [v] = some x) : ∃ a l c L, v = .slice a l c ∧ SAn w a l c L := open_sl Try.underlying25 (by kernel_rfl) el_Actn h
theorem el_Tbl (n : Nat) (cs : List Value) (y : DataW H × List MemPlace) (b : Addr) (hl : cs.length = 6) (hat : ∀ i u, cs[i]? = some u → w.cell? (b.add i) = some u) (h : DataW.trod enc Try.prog w 0 (fun _ => true) true n 201 cs = some y) : ∃ x : Tbl, CTb w b x := by
  match cs, hl with
  | [q0, q1, q2, q3, q4, q5], _ =>
    have g0 := hat 0 q0 rfl
    have g1 := hat 1 q1 rfl
    have g2 := hat 2 q2 rfl
    have g3 := hat 3 q3 rfl
    have g4 := hat 4 q4 rfl
    have g5 := hat 5 q5 rfl
    obtain ⟨xs, n1, _, _, _, hlen, hg⟩ := DataW.trod_struct Try.underlying201 h
    match xs, hlen with
    | [y0, y1, y2, y3, y4], _ =>
      have p0 : DataW.trod enc Try.prog w 0 (fun _ => true) true n1 9 [q0] = some y0 := by
        have q : DataW.trod enc Try.prog w 0 (fun _ => true) true n1 9 (([q0, q1, q2, q3, q4, q5].drop 0).take (Try.prog.cellsOf 9)) = some y0 := hg 0 _ rfl
        rw [show Try.prog.cellsOf 9 = 1 from by kernel_rfl] at q
        exact q
      have p1 : DataW.trod enc Try.prog w 0 (fun _ => true) true n1 197 [q1] = some y1 := by
        have q : DataW.trod enc Try.prog w 0 (fun _ => true) true n1 197 (([q0, q1, q2, q3, q4, q5].drop 1).take (Try.prog.cellsOf 197)) = some y1 := hg 1 _ rfl
        rw [show Try.prog.cellsOf 197 = 1 from by kernel_rfl] at q
        exact q
      have p2 : DataW.trod enc Try.prog w 0 (fun _ => true) true n1 29 [q2] = some y2 := by
        have q : DataW.trod enc Try.prog w 0 (fun _ => true) true n1 29 (([q0, q1, q2, q3, q4, q5].drop 2).take (Try.prog.cellsOf 29)) = some y2 := hg 2 _ rfl
        rw [show Try.prog.cellsOf 29 = 1 from by kernel_rfl] at q
        exact q
      have p3 : DataW.trod enc Try.prog w 0 (fun _ => true) true n1 199 [q3, q4] = some y3 := by
        have q : DataW.trod enc Try.prog w 0 (fun _ => true) true n1 199 (([q0, q1, q2, q3, q4, q5].drop 3).take (Try.prog.cellsOf 199)) = some y3 := hg 3 _ rfl
        rw [show Try.prog.cellsOf 199 = 2 from by kernel_rfl] at q
        exact q
      obtain ⟨zs3, m3, _, _, _, zlen3, zg3⟩ := DataW.trod_struct Try.underlying199 p3
      match zs3, zlen3 with
      | [z3_0, z3_1], _ =>
      have p3_0 : DataW.trod enc Try.prog w 0 (fun _ => true) true m3 3 [q3] = some z3_0 := by
        have q : DataW.trod enc Try.prog w 0 (fun _ => true) true m3 3 (([q3, q4].drop 0).take (Try.prog.cellsOf 3)) = some z3_0 := zg3 0 _ rfl
        rw [show Try.prog.cellsOf 3 = 1 from by kernel_rfl] at q
        exact q
      have p3_1 : DataW.trod enc Try.prog w 0 (fun _ => true) true m3 40 [q4] = some z3_1 := by
        have q : DataW.trod enc Try.prog w 0 (fun _ => true) true m3 40 (([q3, q4].drop 1).take (Try.prog.cellsOf 40)) = some z3_1 := zg3 1 _ rfl
        rw [show Try.prog.cellsOf 40 = 1 from by kernel_rfl] at q
        exact q
      have p4 : DataW.trod enc Try.prog w 0 (fun _ => true) true n1 3 [q5] = some y4 := by
        have q : DataW.trod enc Try.prog w 0 (fun _ => true) true n1 3 (([q0, q1, q2, q3, q4, q5].drop 5).take (Try.prog.cellsOf 3)) = some y4 := hg 4 _ rfl
        rw [show Try.prog.cellsOf 3 = 1 from by kernel_rfl] at q
        exact q
      obtain ⟨a0, e0, _, _⟩ := DataW.trod_string Try.underlying9 p0
      injection e0 with e0 _
      subst e0
      obtain ⟨a1, l1, c1, L1, e1, s1⟩ := open_sky p1
      subst e1
      obtain ⟨a2, l2, c2, L2, e2, s2⟩ := open_si p2
      subst e2
      obtain ⟨a3, e3, _, w3⟩ := DataW.trod_int Try.underlying3 p3_0
      injection e3 with e3 _
      subst e3
      obtain ⟨a4, l4, c4, L4, e4, s4⟩ := open_su p3_1
      subst e4
      obtain ⟨a5, e5, _, w5⟩ := DataW.trod_int Try.underlying3 p4
      injection e5 with e5 _
      subst e5
      exact ⟨⟨a0, L1, L2, a3, L4, a5⟩, g0, ⟨_, _, _, g1, s1⟩, ⟨_, _, _, g2, s2⟩, ⟨g3, (i64_bd w3).1, (i64_bd w3).2⟩, ⟨_, _, _, g4, s4⟩, g5⟩
theorem open_stb {n : Nat} {v : Value} {x : DataW H × List MemPlace} (h : DataW.trod enc Try.prog w 0 (fun _ => true) true n 26 [v] = some x) : ∃ a l c L, v = .slice a l c ∧ STb w a l c L := open_sl Try.underlying26 (by kernel_rfl) el_Tbl h
theorem el_Pst (n : Nat) (cs : List Value) (y : DataW H × List MemPlace) (b : Addr) (hl : cs.length = 7) (hat : ∀ i u, cs[i]? = some u → w.cell? (b.add i) = some u) (h : DataW.trod enc Try.prog w 0 (fun _ => true) true n 55 cs = some y) : ∃ x : Pst, CPs w b x := by
  match cs, hl with
  | [q0, q1, q2, q3, q4, q5, q6], _ =>
    have g0 := hat 0 q0 rfl
    have g1 := hat 1 q1 rfl
    have g2 := hat 2 q2 rfl
    have g3 := hat 3 q3 rfl
    have g4 := hat 4 q4 rfl
    have g5 := hat 5 q5 rfl
    have g6 := hat 6 q6 rfl
    obtain ⟨xs, n1, _, _, _, hlen, hg⟩ := DataW.trod_struct Try.underlying55 h
    match xs, hlen with
    | [y0, y1, y2, y3, y4, y5], _ =>
      have p0 : DataW.trod enc Try.prog w 0 (fun _ => true) true n1 9 [q0] = some y0 := by
        have q : DataW.trod enc Try.prog w 0 (fun _ => true) true n1 9 (([q0, q1, q2, q3, q4, q5, q6].drop 0).take (Try.prog.cellsOf 9)) = some y0 := hg 0 _ rfl
        rw [show Try.prog.cellsOf 9 = 1 from by kernel_rfl] at q
        exact q
      have p1 : DataW.trod enc Try.prog w 0 (fun _ => true) true n1 29 [q1] = some y1 := by
        have q : DataW.trod enc Try.prog w 0 (fun _ => true) true n1 29 (([q0, q1, q2, q3, q4, q5, q6].drop 1).take (Try.prog.cellsOf 29)) = some y1 := hg 1 _ rfl
        rw [show Try.prog.cellsOf 29 = 1 from by kernel_rfl] at q
        exact q
      have p2 : DataW.trod enc Try.prog w 0 (fun _ => true) true n1 4 [q2] = some y2 := by
        have q : DataW.trod enc Try.prog w 0 (fun _ => true) true n1 4 (([q0, q1, q2, q3, q4, q5, q6].drop 2).take (Try.prog.cellsOf 4)) = some y2 := hg 2 _ rfl
        rw [show Try.prog.cellsOf 4 = 1 from by kernel_rfl] at q
        exact q
      have p3 : DataW.trod enc Try.prog w 0 (fun _ => true) true n1 52 [q3, q4] = some y3 := by
        have q : DataW.trod enc Try.prog w 0 (fun _ => true) true n1 52 (([q0, q1, q2, q3, q4, q5, q6].drop 3).take (Try.prog.cellsOf 52)) = some y3 := hg 3 _ rfl
        rw [show Try.prog.cellsOf 52 = 2 from by kernel_rfl] at q
        exact q
      obtain ⟨zs3, m3, _, _, _, zlen3, zg3⟩ := DataW.trod_struct Try.underlying52 p3
      match zs3, zlen3 with
      | [z3_0, z3_1], _ =>
      have p3_0 : DataW.trod enc Try.prog w 0 (fun _ => true) true m3 3 [q3] = some z3_0 := by
        have q : DataW.trod enc Try.prog w 0 (fun _ => true) true m3 3 (([q3, q4].drop 0).take (Try.prog.cellsOf 3)) = some z3_0 := zg3 0 _ rfl
        rw [show Try.prog.cellsOf 3 = 1 from by kernel_rfl] at q
        exact q
      have p3_1 : DataW.trod enc Try.prog w 0 (fun _ => true) true m3 3 [q4] = some z3_1 := by
        have q : DataW.trod enc Try.prog w 0 (fun _ => true) true m3 3 (([q3, q4].drop 1).take (Try.prog.cellsOf 3)) = some z3_1 := zg3 1 _ rfl
        rw [show Try.prog.cellsOf 3 = 1 from by kernel_rfl] at q
        exact q
      have p4 : DataW.trod enc Try.prog w 0 (fun _ => true) true n1 53 [q5] = some y4 := by
        have q : DataW.trod enc Try.prog w 0 (fun _ => true) true n1 53 (([q0, q1, q2, q3, q4, q5, q6].drop 5).take (Try.prog.cellsOf 53)) = some y4 := hg 4 _ rfl
        rw [show Try.prog.cellsOf 53 = 1 from by kernel_rfl] at q
        exact q
      have p5 : DataW.trod enc Try.prog w 0 (fun _ => true) true n1 3 [q6] = some y5 := by
        have q : DataW.trod enc Try.prog w 0 (fun _ => true) true n1 3 (([q0, q1, q2, q3, q4, q5, q6].drop 6).take (Try.prog.cellsOf 3)) = some y5 := hg 5 _ rfl
        rw [show Try.prog.cellsOf 3 = 1 from by kernel_rfl] at q
        exact q
      obtain ⟨a0, e0, _, _⟩ := DataW.trod_string Try.underlying9 p0
      injection e0 with e0 _
      subst e0
      obtain ⟨a1, l1, c1, L1, e1, s1⟩ := open_si p1
      subst e1
      obtain ⟨a2, e2, _⟩ := DataW.trod_bool Try.underlying4 p2
      injection e2 with e2 _
      subst e2
      obtain ⟨a3, e3, _, w3⟩ := DataW.trod_int Try.underlying3 p3_0
      injection e3 with e3 _
      subst e3
      obtain ⟨a4, e4, _, w4⟩ := DataW.trod_int Try.underlying3 p3_1
      injection e4 with e4 _
      subst e4
      obtain ⟨a5, l5, c5, L5, e5, s5⟩ := open_sca p4
      subst e5
      obtain ⟨a6, e6, _, w6⟩ := DataW.trod_int Try.underlying3 p5
      injection e6 with e6 _
      subst e6
      exact ⟨⟨a0, L1, a2, a3, a4, L5, a6⟩, g0, ⟨_, _, _, g1, s1⟩, g2, g3, g4, ⟨_, _, _, g5, s5⟩, g6⟩
theorem open_sps {n : Nat} {v : Value} {x : DataW H × List MemPlace} (h : DataW.trod enc Try.prog w 0 (fun _ => true) true n 27 [v] = some x) : ∃ a l c L, v = .slice a l c ∧ SPs w a l c L := open_sl Try.underlying27 (by kernel_rfl) el_Pst h
end
end Go.Proofs.Ytngobkghcogahaa
