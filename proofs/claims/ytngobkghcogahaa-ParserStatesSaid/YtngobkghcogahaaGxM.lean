/- Several texts in one: FrY, FrW. -/
import Derived.Test.YtngobkghcogahaaTpB
import Derived.Test.YtngobkghcogahaaGxB
section
namespace Go.Proofs.Ytngobkghcogahaa
open Go.ChangeShapes Go.WideShapes Go.ChangeAt Go.RowKit Go.Joins Go.Deep
set_option linter.unusedVariables false
section
variable {H : Type} {enc : TypeId × Value → H} {w : World}
theorem open_sfz {n : Nat} {v : Value} {x : DataW H × List MemPlace} (h : DataW.trod enc Try.prog w 0 (fun _ => true) true n 23 [v] = some x) : ∃ a l c L, v = .slice a l c ∧ SF w a l c L ∧ ∀ p ∈ L, p.1.size ≤ 9223372036854775807 := by
  rcases open_slice_pairs Try.underlying23 Try.underlying94 (by kernel_rfl) rfl rfl (by kernel_rfl) (by kernel_rfl) h with ⟨hcs, _⟩ | ⟨a, len, cap, m, n, V0, V1, D0, D1, P0, P1, hcs, _, hl, _, hm, _, hx⟩
  · injection hcs with h1 _
    exact ⟨_, _, _, [], h1, sf_nil _, fun p hp => by cases hp⟩
  · injection hcs with h1 _
    have each : ∀ i, i < len → ∃ q : Fld, w.cell? (a.add (i * 2)) = some (.string q.1) ∧ w.cell? (a.add (i * 2 + 1)) = some (.int .i64 q.2) ∧ q.1.size ≤ 9223372036854775807 := by
      intro i hi
      obtain ⟨k0, k1, g0, g1⟩ := hx i (by rw [hm]; simp; omega)
      obtain ⟨x, e0, _, w0⟩ := DataW.trod_string Try.underlying9 g0
      obtain ⟨y, e1, _, w1⟩ := DataW.trod_int Try.underlying3 g1
      injection e0 with e0 _
      injection e1 with e1 _
      rw [e0] at k0
      rw [e1] at k1
      exact ⟨(x, y), k0, k1, Nat.le_trans w0 (by decide)⟩
    obtain ⟨q, hq⟩ := choose_lt each
    refine ⟨_, _, _, (List.range len).map q, h1, ⟨by simp, (fun e => by cases e), hl, fun ad e j hj => ?_⟩, fun p hp => by obtain ⟨i, hi, rfl⟩ := List.mem_map.1 hp; exact (hq i (List.mem_range.1 hi)).2.2⟩
    cases e
    rw [add_n']
    have e : ((List.range len).map q).getD j fz = q j := by simp [hj]
    rw [e]
    exact ⟨(hq j hj).1, (hq j hj).2.1⟩
theorem open_shz {n : Nat} {v : Value} {x : DataW H × List MemPlace} (h : DataW.trod enc Try.prog w 0 (fun _ => true) true n 22 [v] = some x) : ∃ a l c L, v = .slice a l c ∧ SH w a l c L ∧ ∀ x ∈ L, x.1.size ≤ 9223372036854775807 ∧ ∀ p ∈ x.2, p.1.size ≤ 9223372036854775807 := by
  rcases open_slice_pairs Try.underlying22 Try.underlying66 (by kernel_rfl) rfl rfl (by kernel_rfl) (by kernel_rfl) h with ⟨hcs, _⟩ | ⟨a, len, cap, m, n, V0, V1, D0, D1, P0, P1, hcs, _, hl, _, hm, _, hx⟩
  · injection hcs with h1 _
    exact ⟨_, _, _, [], h1, ⟨rfl, fun _ => ⟨rfl, rfl⟩, Nat.le_refl _, fun ad e => by cases e⟩, fun p hp => by cases hp⟩
  · injection hcs with h1 _
    have each : ∀ i, i < len → ∃ q : ByteArray × List Fld, w.cell? (a.add (i * 2)) = some (.string q.1) ∧ ∃ fa fn fc, w.cell? (a.add (i * 2 + 1)) = some (.slice fa fn fc) ∧ SF w fa fn fc q.2 ∧ q.1.size ≤ 9223372036854775807 ∧ ∀ p ∈ q.2, p.1.size ≤ 9223372036854775807 := by
      intro i hi
      obtain ⟨k0, k1, g0, g1⟩ := hx i (by rw [hm]; simp; omega)
      obtain ⟨x, e0, _, w0⟩ := DataW.trod_string Try.underlying9 g0
      obtain ⟨fa, fn, fc, L, e1, sf, lz⟩ := open_sfz g1
      injection e0 with e0 _
      rw [e0] at k0
      rw [e1] at k1
      exact ⟨(x, L), k0, fa, fn, fc, k1, sf, Nat.le_trans w0 (by decide), lz⟩
    obtain ⟨q, hq⟩ := choose_lt each
    refine ⟨_, _, _, (List.range len).map q, h1, ⟨by simp, (fun e => by cases e), hl, fun ad e j hj => ?_⟩, fun p hp => by obtain ⟨i, hi, rfl⟩ := List.mem_map.1 hp; obtain ⟨_, _, _, _, _, _, z⟩ := hq i (List.mem_range.1 hi); exact z⟩
    cases e
    rw [add_n']
    have e : ((List.range len).map q).getD j hz = q j := by simp [hj]
    rw [e]
    obtain ⟨c0, f0, f1, f2, c1, s, _⟩ := hq j hj
    exact ⟨c0, f0, f1, f2, c1, s⟩
set_option maxRecDepth 100000 in
theorem open_pgz {r : Reach} {b0 : Nat} {v : Value} {d : DataW H} {p : List MemPlace} (hv : Value.okWide Try.prog w r b0 31 v) (h : DataW.Trod enc Try.prog w 0 (fun _ => true) true 31 v d p) :
    ∃ (X : PX) (P : Pg), v = .agg #[.string X.nm, .slice X.ha X.hn X.hc, .slice X.ma X.mn X.mc, .slice X.ra X.rn X.rc, .slice X.aa X.an X.ac, .slice X.ta X.tn X.tc, .slice X.sa X.sn X.sc, .slice X.ca X.cn X.cc, .slice X.da X.dn X.dc] ∧ SP w X P ∧ ∀ x ∈ P.H, x.1.size ≤ 9223372036854775807 ∧ ∀ p ∈ x.2, p.1.size ≤ 9223372036854775807 := by
  obtain ⟨cs, rfl, hsz⟩ := okWide_struct Try.underlying31 hv
  obtain ⟨l⟩ := cs
  have hl : l.length = 9 := hsz.trans (by kernel_rfl)
  match l, hl with
  | [c0, c1, c2, c3, c4, c5, c6, c7, c8], _ =>
    obtain ⟨fuel, hf⟩ := h
    obtain ⟨xs, n, _, _, _, hlen, pg⟩ := DataW.trod_struct Try.underlying31 hf
    match xs, hlen with
    | [q0, q1, q2, q3, q4, q5, q6, q7, q8], _ =>
      have p0 : DataW.trod enc Try.prog w 0 (fun _ => true) true n 9 [c0] = some q0 := by
        have q : DataW.trod enc Try.prog w 0 (fun _ => true) true n 9 (([c0, c1, c2, c3, c4, c5, c6, c7, c8].drop 0).take (Try.prog.cellsOf 9)) = some q0 := pg 0 _ rfl
        rw [show Try.prog.cellsOf 9 = 1 from by kernel_rfl] at q
        exact q
      have p1 : DataW.trod enc Try.prog w 0 (fun _ => true) true n 22 [c1] = some q1 := by
        have q : DataW.trod enc Try.prog w 0 (fun _ => true) true n 22 (([c0, c1, c2, c3, c4, c5, c6, c7, c8].drop 1).take (Try.prog.cellsOf 22)) = some q1 := pg 1 _ rfl
        rw [show Try.prog.cellsOf 22 = 1 from by kernel_rfl] at q
        exact q
      have p2 : DataW.trod enc Try.prog w 0 (fun _ => true) true n 23 [c2] = some q2 := by
        have q : DataW.trod enc Try.prog w 0 (fun _ => true) true n 23 (([c0, c1, c2, c3, c4, c5, c6, c7, c8].drop 2).take (Try.prog.cellsOf 23)) = some q2 := pg 2 _ rfl
        rw [show Try.prog.cellsOf 23 = 1 from by kernel_rfl] at q
        exact q
      have p3 : DataW.trod enc Try.prog w 0 (fun _ => true) true n 24 [c3] = some q3 := by
        have q : DataW.trod enc Try.prog w 0 (fun _ => true) true n 24 (([c0, c1, c2, c3, c4, c5, c6, c7, c8].drop 3).take (Try.prog.cellsOf 24)) = some q3 := pg 3 _ rfl
        rw [show Try.prog.cellsOf 24 = 1 from by kernel_rfl] at q
        exact q
      have p4 : DataW.trod enc Try.prog w 0 (fun _ => true) true n 25 [c4] = some q4 := by
        have q : DataW.trod enc Try.prog w 0 (fun _ => true) true n 25 (([c0, c1, c2, c3, c4, c5, c6, c7, c8].drop 4).take (Try.prog.cellsOf 25)) = some q4 := pg 4 _ rfl
        rw [show Try.prog.cellsOf 25 = 1 from by kernel_rfl] at q
        exact q
      have p5 : DataW.trod enc Try.prog w 0 (fun _ => true) true n 26 [c5] = some q5 := by
        have q : DataW.trod enc Try.prog w 0 (fun _ => true) true n 26 (([c0, c1, c2, c3, c4, c5, c6, c7, c8].drop 5).take (Try.prog.cellsOf 26)) = some q5 := pg 5 _ rfl
        rw [show Try.prog.cellsOf 26 = 1 from by kernel_rfl] at q
        exact q
      have p6 : DataW.trod enc Try.prog w 0 (fun _ => true) true n 27 [c6] = some q6 := by
        have q : DataW.trod enc Try.prog w 0 (fun _ => true) true n 27 (([c0, c1, c2, c3, c4, c5, c6, c7, c8].drop 6).take (Try.prog.cellsOf 27)) = some q6 := pg 6 _ rfl
        rw [show Try.prog.cellsOf 27 = 1 from by kernel_rfl] at q
        exact q
      have p7 : DataW.trod enc Try.prog w 0 (fun _ => true) true n 28 [c7] = some q7 := by
        have q : DataW.trod enc Try.prog w 0 (fun _ => true) true n 28 (([c0, c1, c2, c3, c4, c5, c6, c7, c8].drop 7).take (Try.prog.cellsOf 28)) = some q7 := pg 7 _ rfl
        rw [show Try.prog.cellsOf 28 = 1 from by kernel_rfl] at q
        exact q
      have p8 : DataW.trod enc Try.prog w 0 (fun _ => true) true n 29 [c8] = some q8 := by
        have q : DataW.trod enc Try.prog w 0 (fun _ => true) true n 29 (([c0, c1, c2, c3, c4, c5, c6, c7, c8].drop 8).take (Try.prog.cellsOf 29)) = some q8 := pg 8 _ rfl
        rw [show Try.prog.cellsOf 29 = 1 from by kernel_rfl] at q
        exact q
      obtain ⟨s, es, _, _⟩ := DataW.trod_string Try.underlying9 p0
      injection es with es _
      subst es
      obtain ⟨a1, n1, d1, L1, rfl, s1, nz⟩ := open_shz p1
      obtain ⟨a2, n2, d2, L2, rfl, s2⟩ := open_sf p2
      obtain ⟨a3, n3, d3, L3, rfl, s3⟩ := open_srg p3
      obtain ⟨a4, n4, d4, L4, rfl, s4⟩ := open_san p4
      obtain ⟨a5, n5, d5, L5, rfl, s5⟩ := open_stb p5
      obtain ⟨a6, n6, d6, L6, rfl, s6⟩ := open_sps p6
      obtain ⟨a7, n7, d7, rfl⟩ := shape_sl Try.underlying28 p7
      obtain ⟨a8, n8, d8, L8, rfl, s8⟩ := open_si p8
      exact ⟨⟨s, a1, n1, d1, a2, n2, d2, a3, n3, d3, a4, n4, d4, a5, n5, d5, a6, n6, d6, a7, n7, d7, a8, n8, d8⟩, ⟨L1, L2, L3, L4, L5, L6, L8⟩, rfl, ⟨s1, s2, s3, s4, s5, s6, s8⟩, nz⟩
theorem open_sy {n : Nat} {v : Value} {x : DataW H × List MemPlace} (h : DataW.trod enc Try.prog w 0 (fun _ => true) true n 37 [v] = some x) : ∃ a l c L, v = .slice a l c ∧ SY w a l c L := by
  rcases open_ones Try.underlying37 (by kernel_rfl) h with rfl | ⟨a, l, c, k, V, rfl, hl, hV⟩
  · exact ⟨_, _, _, [], rfl, ⟨rfl, fun _ => ⟨rfl, rfl⟩, fun ad e j u hu => by cases e⟩, Nat.le_refl _, fun x hx => by cases hx⟩
  · have each : ∀ i, i < l → ∃ z : Int, w.cell? (a.add i) = some (.int .u8 z) ∧ 0 ≤ z ∧ z < 256 := by
      intro i hi
      obtain ⟨h1, y, h2⟩ := hV i hi
      obtain ⟨z, e, _, wf⟩ := DataW.trod_int Try.underlying5 h2
      injection e with e _
      rw [e] at h1
      have := u8_bd wf
      exact ⟨z, h1, this.1, by omega⟩
    obtain ⟨Z, hZ⟩ := choose_lt each
    refine ⟨_, _, _, (List.range l).map Z, rfl, ⟨by simp, (fun e => by cases e), fun ad e j u hu => ?_⟩, hl, fun y hy => ?_⟩
    · cases e
      obtain ⟨hj, e2⟩ := List.getElem?_eq_some_iff.1 hu
      have hj : j < l := by simpa using hj
      have e2 : u = .int .u8 (Z j) := by rw [← e2]; simp
      rw [e2]; exact (hZ j hj).1
    · obtain ⟨j, hj, rfl⟩ := List.mem_map.1 hy
      exact (hZ j (List.mem_range.1 hj)).2
end
theorem low19 {W W' : World} {e : Ending} (h : RetV (.bool true) W e W') : e = .returned (.bool true) ∧ Below W.heap.size W W' := ⟨h.1, ⟨h.2.os, h.2.tape, h.2.output, h.2.size, fun i hi => h.2.block i hi (by simp)⟩⟩
end Go.Proofs.Ytngobkghcogahaa
end
section
namespace Go.Proofs.Ytngobkghcogahaa
open Go.ChangeShapes Go.WideShapes Go.ChangeAt Go.RowKit Go.Joins Go.Deep
set_option linter.unusedVariables false
section
variable {H : Type} {enc : TypeId × Value → H} {w : World}
set_option maxRecDepth 100000 in
theorem open_ybytes {r : Reach} {b0 : Nat} {v : Value} {d : DataW H} {p : List MemPlace} (hv : Value.okWide Try.prog w r b0 37 v) (h : DataW.Trod enc Try.prog w 0 (fun _ => true) true 37 v d p) :
    ∃ a l c L, v = .slice a l c ∧ SY w a l c L := by
  obtain ⟨a0, len0, cap0, rfl⟩ := okWide_slice Try.underlying37 hv
  obtain ⟨fuel, hf⟩ := h
  exact open_sy (v := .slice a0 len0 cap0) hf
end
end Go.Proofs.Ytngobkghcogahaa
end
