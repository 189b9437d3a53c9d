/- How entries and rows are opened as arguments; no condition. -/
import Derived.Test.YtgdefahnmgonlaaEnA
import Derived.Test.YtgdefahnmgonlaaTpB
namespace Go.Proofs.Ytgdefahnmgonlaa
open Go.ChangeShapes Go.WideShapes Go.ChangeAt Go.RowKit Go.Joins Go.Deep
set_option linter.unusedVariables false
section
variable {H : Type} {enc : TypeId × Value → H} {w : World}
theorem el_Km (n : Nat) (cs : List Value) (y : DataW H × List MemPlace) (b : Addr) (hl : cs.length = 2) (hat : ∀ i u, cs[i]? = some u → w.cell? (b.add i) = some u) (h : DataW.trod enc Try.prog w 0 (fun _ => true) true n 57 cs = some y) : ∃ x : Km, CKm w b x := by
  match cs, hl with
  | [q0, q1], _ =>
    have g0 := hat 0 q0 rfl
    have g1 := hat 1 q1 rfl
    obtain ⟨xs, n1, _, _, _, hlen, hg⟩ := DataW.trod_struct Try.underlying57 h
    match xs, hlen with
    | [y0, y1], _ =>
      have p0 : DataW.trod enc Try.prog w 0 (fun _ => true) true n1 55 [q0] = some y0 := by
        have q : DataW.trod enc Try.prog w 0 (fun _ => true) true n1 55 (([q0, q1].drop 0).take (Try.prog.cellsOf 55)) = some y0 := hg 0 _ rfl
        rw [show Try.prog.cellsOf 55 = 1 from by kernel_rfl] at q
        exact q
      have p1 : DataW.trod enc Try.prog w 0 (fun _ => true) true n1 55 [q1] = some y1 := by
        have q : DataW.trod enc Try.prog w 0 (fun _ => true) true n1 55 (([q0, q1].drop 1).take (Try.prog.cellsOf 55)) = some y1 := hg 1 _ rfl
        rw [show Try.prog.cellsOf 55 = 1 from by kernel_rfl] at q
        exact q
      obtain ⟨a0, e0, _, w0⟩ := DataW.trod_int Try.underlying55 p0
      injection e0 with e0 _
      subst e0
      obtain ⟨a1, e1, _, w1⟩ := DataW.trod_int Try.underlying55 p1
      injection e1 with e1 _
      subst e1
      exact ⟨⟨a0, a1⟩, ⟨g0, (u32_bd w0).1, (u32_bd w0).2⟩, g1, (u32_bd w1).1, (u32_bd w1).2⟩
theorem open_skm {n : Nat} {v : Value} {x : DataW H × List MemPlace} (h : DataW.trod enc Try.prog w 0 (fun _ => true) true n 32 [v] = some x) : ∃ a l c L, v = .slice a l c ∧ SKm w a l c L := open_sl Try.underlying32 (by kernel_rfl) el_Km h
theorem el_En (n : Nat) (q0 q1 q2 q3 : Value) (y : DataW H × List MemPlace) (h : DataW.trod enc Try.prog w 0 (fun _ => true) true n 37 [q0, q1, q2, q3] = some y) : ∃ (Y : EX) (x : En), q0 = .slice Y.ka Y.kn Y.kc ∧ q1 = .int .i64 x.pr ∧ q2 = .int .i64 x.ac ∧ q3 = .slice Y.ra Y.rn Y.rc ∧ SE w Y x := by
  obtain ⟨xs, n1, _, _, _, hlen, hg⟩ := DataW.trod_struct Try.underlying37 h
  match xs, hlen with
  | [y0, y1, y2], _ =>
    have p0 : DataW.trod enc Try.prog w 0 (fun _ => true) true n1 32 [q0] = some y0 := by
      have q : DataW.trod enc Try.prog w 0 (fun _ => true) true n1 32 (([q0, q1, q2, q3].drop 0).take (Try.prog.cellsOf 32)) = some y0 := hg 0 _ rfl
      rw [show Try.prog.cellsOf 32 = 1 from by kernel_rfl] at q
      exact q
    have p1 : DataW.trod enc Try.prog w 0 (fun _ => true) true n1 3 [q1] = some y1 := by
      have q : DataW.trod enc Try.prog w 0 (fun _ => true) true n1 3 (([q0, q1, q2, q3].drop 1).take (Try.prog.cellsOf 3)) = some y1 := hg 1 _ rfl
      rw [show Try.prog.cellsOf 3 = 1 from by kernel_rfl] at q
      exact q
    have p2 : DataW.trod enc Try.prog w 0 (fun _ => true) true n1 35 [q2, q3] = some y2 := by
      have q : DataW.trod enc Try.prog w 0 (fun _ => true) true n1 35 (([q0, q1, q2, q3].drop 2).take (Try.prog.cellsOf 35)) = some y2 := hg 2 _ rfl
      rw [show Try.prog.cellsOf 35 = 2 from by kernel_rfl] at q
      exact q
    obtain ⟨zs, m3, _, _, _, zlen, zg⟩ := DataW.trod_struct Try.underlying35 p2
    match zs, zlen with
    | [z0, z1], _ =>
      have r0 : DataW.trod enc Try.prog w 0 (fun _ => true) true m3 3 [q2] = some z0 := by
        have q : DataW.trod enc Try.prog w 0 (fun _ => true) true m3 3 (([q2, q3].drop 0).take (Try.prog.cellsOf 3)) = some z0 := zg 0 _ rfl
        rw [show Try.prog.cellsOf 3 = 1 from by kernel_rfl] at q
        exact q
      have r1 : DataW.trod enc Try.prog w 0 (fun _ => true) true m3 33 [q3] = some z1 := by
        have q : DataW.trod enc Try.prog w 0 (fun _ => true) true m3 33 (([q2, q3].drop 1).take (Try.prog.cellsOf 33)) = some z1 := zg 1 _ rfl
        rw [show Try.prog.cellsOf 33 = 1 from by kernel_rfl] at q
        exact q
      obtain ⟨a0, l0, c0, L0, e0, s0⟩ := open_skm p0
      subst e0
      obtain ⟨a1, e1, _, w1⟩ := DataW.trod_int Try.underlying3 p1
      injection e1 with e1 _
      subst e1
      obtain ⟨a2, e2, _, w2⟩ := DataW.trod_int Try.underlying3 r0
      injection e2 with e2 _
      subst e2
      obtain ⟨a3, l3, c3, L3, e3, s3⟩ := open_su r1
      subst e3
      exact ⟨⟨a0, l0, c0, a3, l3, c3⟩, ⟨L0, a1, a2, L3⟩, rfl, rfl, rfl, rfl, s0, s3, i64_bd w1, i64_bd w2⟩
theorem el_Row (n : Nat) (r q0 q1 q2 q3 : Value) (y : DataW H × List MemPlace) (h : DataW.trod enc Try.prog w 0 (fun _ => true) true n 46 [r, q0, q1, q2, q3] = some y) : ∃ (i : Int) (Y : EX) (x : En), r = .int .i64 i ∧ q0 = .slice Y.ka Y.kn Y.kc ∧ q1 = .int .i64 x.pr ∧ q2 = .int .i64 x.ac ∧ q3 = .slice Y.ra Y.rn Y.rc ∧ SE w Y x := by
  obtain ⟨xs, n1, _, _, _, hlen, hg⟩ := DataW.trod_struct Try.underlying46 h
  match xs, hlen with
  | [y0, y1], _ =>
    have p0 : DataW.trod enc Try.prog w 0 (fun _ => true) true n1 3 [r] = some y0 := by
      have q : DataW.trod enc Try.prog w 0 (fun _ => true) true n1 3 (([r, q0, q1, q2, q3].drop 0).take (Try.prog.cellsOf 3)) = some y0 := hg 0 _ rfl
      rw [show Try.prog.cellsOf 3 = 1 from by kernel_rfl] at q
      exact q
    have p1 : DataW.trod enc Try.prog w 0 (fun _ => true) true n1 37 [q0, q1, q2, q3] = some y1 := by
      have q : DataW.trod enc Try.prog w 0 (fun _ => true) true n1 37 (([r, q0, q1, q2, q3].drop 1).take (Try.prog.cellsOf 37)) = some y1 := hg 1 _ rfl
      rw [show Try.prog.cellsOf 37 = 4 from by kernel_rfl] at q
      exact q
    obtain ⟨a1, e1, _, w1⟩ := DataW.trod_int Try.underlying3 p0
    injection e1 with e1 _
    obtain ⟨Y, x, k0, k1, k2, k3, s⟩ := el_En _ _ _ _ _ _ p1
    exact ⟨a1, Y, x, e1, k0, k1, k2, k3, s⟩
set_option maxRecDepth 100000 in
theorem open_en {r : Reach} {b0 : Nat} {v : Value} {d : DataW H} {p : List MemPlace} (hv : Value.okWide Try.prog w r b0 37 v) (h : DataW.Trod enc Try.prog w 0 (fun _ => true) true 37 v d p) :
    ∃ (Y : EX) (x : En), v = .agg #[.slice Y.ka Y.kn Y.kc, .int .i64 x.pr, .int .i64 x.ac, .slice Y.ra Y.rn Y.rc] ∧ SE w Y x := by
  obtain ⟨cs, rfl, hsz⟩ := okWide_struct Try.underlying37 hv
  obtain ⟨l⟩ := cs
  have hl : l.length = 4 := hsz.trans (by kernel_rfl)
  match l, hl with
  | [c0, c1, c2, c3], _ =>
    obtain ⟨fuel, hf⟩ := h
    obtain ⟨Y, x, k0, k1, k2, k3, s⟩ := el_En _ _ _ _ _ _ hf
    subst k0 k1 k2 k3
    exact ⟨Y, x, rfl, s⟩
set_option maxRecDepth 100000 in
theorem open_urow {r : Reach} {b0 : Nat} {v : Value} {d : DataW H} {p : List MemPlace} (hv : Value.okWide Try.prog w r b0 33 v) (h : DataW.Trod enc Try.prog w 0 (fun _ => true) true 33 v d p) :
    ∃ a l c L, v = .slice a l c ∧ SU w a l c L := by
  obtain ⟨a0, len0, cap0, rfl⟩ := okWide_slice Try.underlying33 hv
  obtain ⟨fuel, hf⟩ := h
  exact open_su (v := .slice a0 len0 cap0) hf
set_option maxRecDepth 100000 in
theorem open_row2 {r : Reach} {b0 : Nat} {v : Value} {d : DataW H} {p : List MemPlace} (hv : Value.okWide Try.prog w r b0 47 v) (h : DataW.Trod enc Try.prog w 0 (fun _ => true) true 47 v d p) :
    ∃ (i0 : Int) (Y0 : EX) (x0 : En) (i1 : Int) (Y1 : EX) (x1 : En), v = .agg #[.int .i64 i0, .slice Y0.ka Y0.kn Y0.kc, .int .i64 x0.pr, .int .i64 x0.ac, .slice Y0.ra Y0.rn Y0.rc, .int .i64 i1, .slice Y1.ka Y1.kn Y1.kc, .int .i64 x1.pr, .int .i64 x1.ac, .slice Y1.ra Y1.rn Y1.rc] ∧ SE w Y0 x0 ∧ SE w Y1 x1 := by
  obtain ⟨cs, rfl, hsz⟩ := okWide_arr Try.underlying47 hv
  obtain ⟨l⟩ := cs
  have hl : l.length = 10 := hsz.trans (by kernel_rfl)
  match l, hl with
  | [c0, c1, c2, c3, c4, c5, c6, c7, c8, c9], _ =>
    obtain ⟨fuel, hf⟩ := h
    obtain ⟨xs, m, _, _, _, hlen, hi⟩ := DataW.trod_array Try.underlying47 hf
    match xs, hlen with
    | [y0, y1], _ =>
      have p0 : DataW.trod enc Try.prog w 0 (fun _ => true) true m 46 [c0, c1, c2, c3, c4] = some y0 := by
        have q : DataW.trod enc Try.prog w 0 (fun _ => true) true m 46 (([c0, c1, c2, c3, c4, c5, c6, c7, c8, c9].drop (0 * Try.prog.cellsOf 46)).take (Try.prog.cellsOf 46)) = some y0 := hi 0 (by omega)
        rw [show Try.prog.cellsOf 46 = 5 from by kernel_rfl] at q
        exact q
      have p1 : DataW.trod enc Try.prog w 0 (fun _ => true) true m 46 [c5, c6, c7, c8, c9] = some y1 := by
        have q : DataW.trod enc Try.prog w 0 (fun _ => true) true m 46 (([c0, c1, c2, c3, c4, c5, c6, c7, c8, c9].drop (1 * Try.prog.cellsOf 46)).take (Try.prog.cellsOf 46)) = some y1 := hi 1 (by omega)
        rw [show Try.prog.cellsOf 46 = 5 from by kernel_rfl] at q
        exact q
      obtain ⟨i0, Y0, x0, j0, k00, k01, k02, k03, s0⟩ := el_Row _ _ _ _ _ _ _ p0
      obtain ⟨i1, Y1, x1, j1, k10, k11, k12, k13, s1⟩ := el_Row _ _ _ _ _ _ _ p1
      subst j0 k00 k01 k02 k03
      subst j1 k10 k11 k12 k13
      exact ⟨i0, Y0, x0, i1, Y1, x1, rfl, s0, s1⟩
set_option maxRecDepth 100000 in
theorem open_row3 {r : Reach} {b0 : Nat} {v : Value} {d : DataW H} {p : List MemPlace} (hv : Value.okWide Try.prog w r b0 51 v) (h : DataW.Trod enc Try.prog w 0 (fun _ => true) true 51 v d p) :
    ∃ (i0 : Int) (Y0 : EX) (x0 : En) (i1 : Int) (Y1 : EX) (x1 : En) (i2 : Int) (Y2 : EX) (x2 : En), v = .agg #[.int .i64 i0, .slice Y0.ka Y0.kn Y0.kc, .int .i64 x0.pr, .int .i64 x0.ac, .slice Y0.ra Y0.rn Y0.rc, .int .i64 i1, .slice Y1.ka Y1.kn Y1.kc, .int .i64 x1.pr, .int .i64 x1.ac, .slice Y1.ra Y1.rn Y1.rc, .int .i64 i2, .slice Y2.ka Y2.kn Y2.kc, .int .i64 x2.pr, .int .i64 x2.ac, .slice Y2.ra Y2.rn Y2.rc] ∧ SE w Y0 x0 ∧ SE w Y1 x1 ∧ SE w Y2 x2 := by
  obtain ⟨cs, rfl, hsz⟩ := okWide_arr Try.underlying51 hv
  obtain ⟨l⟩ := cs
  have hl : l.length = 15 := hsz.trans (by kernel_rfl)
  match l, hl with
  | [c0, c1, c2, c3, c4, c5, c6, c7, c8, c9, c10, c11, c12, c13, c14], _ =>
    obtain ⟨fuel, hf⟩ := h
    obtain ⟨xs, m, _, _, _, hlen, hi⟩ := DataW.trod_array Try.underlying51 hf
    match xs, hlen with
    | [y0, y1, y2], _ =>
      have p0 : DataW.trod enc Try.prog w 0 (fun _ => true) true m 46 [c0, c1, c2, c3, c4] = some y0 := by
        have q : DataW.trod enc Try.prog w 0 (fun _ => true) true m 46 (([c0, c1, c2, c3, c4, c5, c6, c7, c8, c9, c10, c11, c12, c13, c14].drop (0 * Try.prog.cellsOf 46)).take (Try.prog.cellsOf 46)) = some y0 := hi 0 (by omega)
        rw [show Try.prog.cellsOf 46 = 5 from by kernel_rfl] at q
        exact q
      have p1 : DataW.trod enc Try.prog w 0 (fun _ => true) true m 46 [c5, c6, c7, c8, c9] = some y1 := by
        have q : DataW.trod enc Try.prog w 0 (fun _ => true) true m 46 (([c0, c1, c2, c3, c4, c5, c6, c7, c8, c9, c10, c11, c12, c13, c14].drop (1 * Try.prog.cellsOf 46)).take (Try.prog.cellsOf 46)) = some y1 := hi 1 (by omega)
        rw [show Try.prog.cellsOf 46 = 5 from by kernel_rfl] at q
        exact q
      have p2 : DataW.trod enc Try.prog w 0 (fun _ => true) true m 46 [c10, c11, c12, c13, c14] = some y2 := by
        have q : DataW.trod enc Try.prog w 0 (fun _ => true) true m 46 (([c0, c1, c2, c3, c4, c5, c6, c7, c8, c9, c10, c11, c12, c13, c14].drop (2 * Try.prog.cellsOf 46)).take (Try.prog.cellsOf 46)) = some y2 := hi 2 (by omega)
        rw [show Try.prog.cellsOf 46 = 5 from by kernel_rfl] at q
        exact q
      obtain ⟨i0, Y0, x0, j0, k00, k01, k02, k03, s0⟩ := el_Row _ _ _ _ _ _ _ p0
      obtain ⟨i1, Y1, x1, j1, k10, k11, k12, k13, s1⟩ := el_Row _ _ _ _ _ _ _ p1
      obtain ⟨i2, Y2, x2, j2, k20, k21, k22, k23, s2⟩ := el_Row _ _ _ _ _ _ _ p2
      subst j0 k00 k01 k02 k03
      subst j1 k10 k11 k12 k13
      subst j2 k20 k21 k22 k23
      exact ⟨i0, Y0, x0, i1, Y1, x1, i2, Y2, x2, rfl, s0, s1, s2⟩
set_option maxRecDepth 100000 in
theorem open_pair {r : Reach} {b0 : Nat} {v : Value} {d : DataW H} {p : List MemPlace} (hv : Value.okWide Try.prog w r b0 54 v) (h : DataW.Trod enc Try.prog w 0 (fun _ => true) true 54 v d p) :
    ∃ (Y Z : EX) (x y : En) (ka : Option Addr) (kn kc : Nat) (key : List Int), v = .agg #[.slice Y.ka Y.kn Y.kc, .int .i64 x.pr, .int .i64 x.ac, .slice Y.ra Y.rn Y.rc, .slice Z.ka Z.kn Z.kc, .int .i64 y.pr, .int .i64 y.ac, .slice Z.ra Z.rn Z.rc, .slice ka kn kc] ∧ SE w Y x ∧ SE w Z y ∧ SU w ka kn kc key := by
  obtain ⟨cs, rfl, hsz⟩ := okWide_struct Try.underlying54 hv
  obtain ⟨l⟩ := cs
  have hl : l.length = 9 := hsz.trans (by kernel_rfl)
  match l, hl with
  | [c0, c1, c2, c3, c4, c5, c6, c7, c8], _ =>
    obtain ⟨fuel, hf⟩ := h
    obtain ⟨xs, n1, _, _, _, hlen, hg⟩ := DataW.trod_struct Try.underlying54 hf
    match xs, hlen with
    | [y0, y1, y2], _ =>
      have p0 : DataW.trod enc Try.prog w 0 (fun _ => true) true n1 37 [c0, c1, c2, c3] = some y0 := by
        have q : DataW.trod enc Try.prog w 0 (fun _ => true) true n1 37 (([c0, c1, c2, c3, c4, c5, c6, c7, c8].drop 0).take (Try.prog.cellsOf 37)) = some y0 := hg 0 _ rfl
        rw [show Try.prog.cellsOf 37 = 4 from by kernel_rfl] at q
        exact q
      have p1 : DataW.trod enc Try.prog w 0 (fun _ => true) true n1 37 [c4, c5, c6, c7] = some y1 := by
        have q : DataW.trod enc Try.prog w 0 (fun _ => true) true n1 37 (([c0, c1, c2, c3, c4, c5, c6, c7, c8].drop 4).take (Try.prog.cellsOf 37)) = some y1 := hg 1 _ rfl
        rw [show Try.prog.cellsOf 37 = 4 from by kernel_rfl] at q
        exact q
      have p2 : DataW.trod enc Try.prog w 0 (fun _ => true) true n1 33 [c8] = some y2 := by
        have q : DataW.trod enc Try.prog w 0 (fun _ => true) true n1 33 (([c0, c1, c2, c3, c4, c5, c6, c7, c8].drop 8).take (Try.prog.cellsOf 33)) = some y2 := hg 2 _ rfl
        rw [show Try.prog.cellsOf 33 = 1 from by kernel_rfl] at q
        exact q
      obtain ⟨Y, x, k0, k1, k2, k3, s⟩ := el_En _ _ _ _ _ _ p0
      obtain ⟨Z, y, m0, m1, m2, m3, s2⟩ := el_En _ _ _ _ _ _ p1
      obtain ⟨a3, l3, c3, L3, e3, s3⟩ := open_su p2
      subst k0 k1 k2 k3 m0 m1 m2 m3 e3
      exact ⟨Y, Z, x, y, a3, l3, c3, L3, rfl, s, s2, s3⟩
end
end Go.Proofs.Ytgdefahnmgonlaa
