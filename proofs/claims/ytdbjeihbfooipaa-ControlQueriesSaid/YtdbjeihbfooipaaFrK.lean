/- Control: how a control flow as an argument is opened; no condition. -/
import Derived.Test.YtdbjeihbfooipaaFrE
import Derived.Test.YtdbjeihbfooipaaCnM
namespace Go.Proofs.Ytdbjeihbfooipaa
open Go.ChangeShapes Go.WideShapes Go.ChangeAt Go.RowKit Go.Joins Go.Deep
set_option linter.unusedVariables false
section
variable {H : Type} {enc : TypeId × Value → H} {w : World}
instance : Inhabited CV := ⟨cz⟩
set_option maxRecDepth 100000 in
theorem open_ct : ∀ (m n : Nat) (v : Value) (x : DataW H × List MemPlace), n < m → DataW.trod enc Try.prog w 0 (fun _ => true) true n 28 [v] = some x → ∃ (s : Sl) (T : CT), v = .slice s.a s.n s.c ∧ ST w s T := by
  intro m
  induction m with
  | zero => intro n v x h; omega
  | succ m ih =>
    intro n v x hm h
    rcases DataW.trod_slice Try.underlying28 h with ⟨hcs, _⟩ | ⟨a, len, cap, elems, rest, k, rfl, hcs, _, _, hl, _, hlen, hel, _, _⟩
    · injection hcs with h1 _
      exact ⟨⟨none, 0, 0⟩, .nil, h1, ST.nilv w⟩
    · injection hcs with h1 _
      have ce : Try.prog.cellsOf 67 = 5 := by kernel_rfl
      have ci : Try.prog.cellsOf 3 = 1 := by kernel_rfl
      have cx : Try.prog.cellsOf 32 = 1 := by kernel_rfl
      have cc : Try.prog.cellsOf 28 = 1 := by kernel_rfl
      rw [ce] at hel
      have each : ∀ i, i < len → ∃ q : CV, (w.cell? (a.add (i * 5)) = some (.int .i64 q.k) ∧ w.cell? (a.add (i * 5 + 1)) = some (.int .i64 q.t) ∧ w.cell? (a.add (i * 5 + 2)) = some q.c.v ∧ w.cell? (a.add (i * 5 + 3)) = some q.s.v ∧ w.cell? (a.add (i * 5 + 4)) = some q.u.v) ∧ VM w q := by
        intro i hi
        have e := hel i hi
        rw [List.getElem?_eq_getElem (show i < elems.length by omega)] at e
        obtain ⟨cs', hc, ht'⟩ := Option.bind_eq_some_iff.1 e
        obtain ⟨_, hcl, hat⟩ := World.cells?_some hc
        match cs', hcl with
        | [q0, q1, q2, q3, q4], _ =>
          have g0 := hat (i := 0) (by decide)
          have g1 := hat (i := 1) (by decide)
          have g2 := hat (i := 2) (by decide)
          have g3 := hat (i := 3) (by decide)
          have g4 := hat (i := 4) (by decide)
          rw [Go.Deep.add_add] at g0 g1 g2 g3 g4
          obtain ⟨xs, n', hn', _, _, hlen2, hg⟩ := DataW.trod_struct Try.underlying67 ht'
          match xs, hlen2 with
          | [y0, y1, y2, y3, y4], _ =>
            have f0 := hg 0 _ rfl
            have f1 := hg 1 _ rfl
            have f2 := hg 2 _ rfl
            have f3 := hg 3 _ rfl
            have f4 := hg 4 _ rfl
            simp [ci] at f0 f1
            simp [cx] at f2
            simp [cc] at f3 f4
            obtain ⟨a0, e0, _, _⟩ := DataW.trod_int Try.underlying3 f0
            obtain ⟨a1, e1, _, _⟩ := DataW.trod_int Try.underlying3 f1
            injection e0 with e0 _
            injection e1 with e1 _
            obtain ⟨na, nn, nc, N, e2, sn⟩ := open_sn f2
            obtain ⟨s3, T3, e3, st3⟩ := ih n' q3 _ (by omega) f3
            obtain ⟨s4, T4, e4, st4⟩ := ih n' q4 _ (by omega) f4
            subst e0 e1 e2 e3 e4
            exact ⟨⟨a0, a1, ⟨na, nn, nc⟩, N, s3, T3, s4, T4⟩, ⟨by simpa using g0, by simpa using g1, by simpa using g2, by simpa using g3, by simpa using g4⟩, ⟨sn, st3, st4⟩⟩
      obtain ⟨q, hq⟩ := choose_lt each
      refine ⟨⟨some a, len, cap⟩, CT.ofL ((List.range len).map q), h1, by rw [CT.ofL_len]; simp, (fun e => by cases e), hl, fun ad e => ?_⟩
      cases e
      refine ctm_ofL _ 0 (fun i hi => ?_)
      have hi' : i < len := by simpa using hi
      have e : ((List.range len).map q).getD i cz = q i := by
        rw [List.getD_eq_getElem?_getD, List.getElem?_map, List.getElem?_range hi']; rfl
      rw [e, Nat.zero_add, add_nr _ _ 1 (by decide), add_nr _ _ 2 (by decide), add_nr _ _ 3 (by decide), add_nr _ _ 4 (by decide)]
      exact hq i hi'
set_option maxRecDepth 100000 in
theorem open_ctree {r : Reach} {b0 : Nat} {v : Value} {d : DataW H} {p : List MemPlace} (hv : Value.okWide Try.prog w r b0 28 v) (h : DataW.Trod enc Try.prog w 0 (fun _ => true) true 28 v d p) :
    ∃ (s : Sl) (T : CT), v = .slice s.a s.n s.c ∧ ST w s T := by
  obtain ⟨a0, len0, cap0, rfl⟩ := okWide_slice Try.underlying28 hv
  obtain ⟨fuel, hf⟩ := h
  exact open_ct (fuel + 1) fuel _ _ (by omega) hf
theorem lowD2 {W W' : World} {e : Ending} (h : RetV (.bool true) W e W') : e = .returned (.bool true) ∧ Below W.heap.size W W' := ⟨h.1, ⟨h.2.os, h.2.tape, h.2.output, h.2.size, fun i hi => h.2.block i hi (by simp)⟩⟩
end
end Go.Proofs.Ytdbjeihbfooipaa
