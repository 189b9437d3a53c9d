/- Small lemmas by which cubes, and structs that hold them, are opened. -/
import Derived.Test.YteemhabgliglmaaFrame
import Derived.Test.YteemhabgliglmaaTeA
namespace Go.Proofs.Yteemhabgliglmaa
open Go.ChangeShapes Go.WideShapes Go.ChangeAt Go.RowKit Go.Joins Go.Deep

section
variable {H : Type} {enc : TypeId × Value → H} {P : Program} {w : World} {base : Nat} {spare : Nat → Bool} {held : Bool}
theorem u64_nat {a : Int} (h : (Lit.int .u64 a).wf = true) : ∃ n : Nat, a = (n : Int) ∧ B64 n := by
  have := bounds_u64 h
  exact ⟨a.toNat, by omega, by unfold B64; omega⟩
theorem array6 {α : Type} {cs : Array α} (h : cs.size = 6) : ∃ c0 c1 c2 c3 c4 c5, cs = #[c0, c1, c2, c3, c4, c5] := by
  obtain ⟨l⟩ := cs
  match l, h with
  | [c0, c1, c2, c3, c4, c5], _ => exact ⟨c0, c1, c2, c3, c4, c5, rfl⟩
theorem cube_of {n : Nat} {t : TypeId} {f0 f1 : Field} {k0 k1 : IntKind} {c0 c1 : Value} {y : DataW H × List MemPlace} (hs : P.underlying t = some (.struct #[f0, f1])) (hone : oneCellFields P #[f0, f1] = true)
    (u0 : P.underlying f0.type = some (.int k0)) (u1 : P.underlying f1.type = some (.int k1)) (h : DataW.trod enc P w base spare held n t [c0, c1] = some y) :
    ∃ a b, c0 = .int k0 a ∧ c1 = .int k1 b ∧ (Lit.int k0 a).wf = true ∧ (Lit.int k1 b).wf = true := by
  obtain ⟨y0, y1, m, hx, _, h0, h1⟩ := trod_struct2 hs h
  obtain ⟨o0, q0⟩ := hone_of hone 0 f0 rfl
  obtain ⟨o1, q1⟩ := hone_of hone 1 f1 rfl
  obtain ⟨a, e0, _, w0⟩ := DataW.trod_int u0 (by simpa [o0, q0] using h0)
  obtain ⟨b, e1, _, w1⟩ := DataW.trod_int u1 (by simpa [o1, q1] using h1)
  simp at e0 e1
  exact ⟨a, b, e0, e1, w0, w1⟩
theorem open_cube {r : Reach} {b0 : Nat} {t : TypeId} {f0 f1 : Field} {v : Value} {d : DataW H} {p : List MemPlace} (hs : P.underlying t = some (.struct #[f0, f1])) (hone : oneCellFields P #[f0, f1] = true) (hC : P.cellsOf t = 2)
    (u0 : P.underlying f0.type = some (.int .u64)) (u1 : P.underlying f1.type = some (.int .u64)) (hv : Value.okWide P w r b0 t v) (h : DataW.Trod enc P w base spare held t v d p) :
    ∃ a b : Nat, v = .agg #[.int .u64 a, .int .u64 b] ∧ B64 a ∧ B64 b := by
  obtain ⟨cs, rfl, hsz⟩ := okWide_struct hs hv
  obtain ⟨c0, c1, rfl⟩ := array2 (hsz.trans hC)
  obtain ⟨fuel, hf⟩ := h
  obtain ⟨a, b, rfl, rfl, wa, wb⟩ := cube_of hs hone u0 u1 (by simpa [Value.cells] using hf)
  obtain ⟨a, rfl, ha⟩ := u64_nat wa
  obtain ⟨b, rfl, hb⟩ := u64_nat wb
  exact ⟨a, b, rfl, ha, hb⟩
/-- Two cubes, a number of 64 bits and an int. -/
theorem open_cargs {r : Reach} {b0 : Nat} {t tc : TypeId} {f0 f1 f2 f3 g0 g1 : Field} {v : Value} {d : DataW H} {p : List MemPlace} (hs : P.underlying t = some (.struct #[f0, f1, f2, f3])) (hC : P.cellsOf t = 6)
    (t0 : f0.type = tc ∧ f0.offset = 0) (t1 : f1.type = tc ∧ f1.offset = 2) (t2 : f2.offset = 4 ∧ P.cellsOf f2.type = 1) (t3 : f3.offset = 5 ∧ P.cellsOf f3.type = 1)
    (hc : P.underlying tc = some (.struct #[g0, g1])) (hone : oneCellFields P #[g0, g1] = true) (hCc : P.cellsOf tc = 2) (u0 : P.underlying g0.type = some (.int .u64)) (u1 : P.underlying g1.type = some (.int .u64))
    (u2 : P.underlying f2.type = some (.int .u64)) (u3 : P.underlying f3.type = some (.int .i64)) (hv : Value.okWide P w r b0 t v) (h : DataW.Trod enc P w base spare held t v d p) :
    ∃ (a b c e n : Nat) (x : Int), v = .agg #[.int .u64 a, .int .u64 b, .int .u64 c, .int .u64 e, .int .u64 n, .int .i64 x] ∧ B64 a ∧ B64 b ∧ B64 c ∧ B64 e ∧ B64 n ∧ (Lit.int .i64 x).wf = true := by
  obtain ⟨cs, rfl, hsz⟩ := okWide_struct hs hv
  obtain ⟨c0, c1, c2, c3, c4, c5, rfl⟩ := array6 (hsz.trans hC)
  obtain ⟨fuel, hf⟩ := h
  obtain ⟨y0, y1, y2, y3, m, hx, _, h0, h1, h2, h3⟩ := trod_struct4 hs hf
  rw [t0.2, t0.1, hCc] at h0
  rw [t1.2, t1.1, hCc] at h1
  rw [t2.1, t2.2] at h2
  rw [t3.1, t3.2] at h3
  obtain ⟨a, b, rfl, rfl, wa, wb⟩ := cube_of hc hone u0 u1 (by simpa [Value.cells] using h0)
  obtain ⟨c, e, rfl, rfl, wc, we⟩ := cube_of hc hone u0 u1 (by simpa [Value.cells] using h1)
  obtain ⟨n, e2, _, wn⟩ := DataW.trod_int u2 h2
  obtain ⟨x, e3, _, wx⟩ := DataW.trod_int u3 h3
  simp [Value.cells] at e2 e3
  subst e2 e3
  obtain ⟨a, rfl, ha⟩ := u64_nat wa
  obtain ⟨b, rfl, hb⟩ := u64_nat wb
  obtain ⟨c, rfl, hc'⟩ := u64_nat wc
  obtain ⟨e, rfl, he⟩ := u64_nat we
  obtain ⟨n, rfl, hn⟩ := u64_nat wn
  exact ⟨a, b, c, e, n, x, rfl, ha, hb, hc', he, hn, wx⟩
end
end Go.Proofs.Yteemhabgliglmaa
