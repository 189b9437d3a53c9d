/- Expr: how an environment as an argument is opened; no condition. -/
import Derived.Test.YtdbjeihbfooipaaFrE
import Derived.Test.YtdbjeihbfooipaaExWd
namespace Go.Proofs.Ytdbjeihbfooipaa
open Go.ChangeShapes Go.WideShapes Go.ChangeAt Go.RowKit Go.Joins Go.Deep
set_option linter.unusedVariables false
section
variable {H : Type} {enc : TypeId × Value → H} {w : World}
set_option maxRecDepth 100000 in
theorem open_env {r : Reach} {b0 : Nat} {v : Value} {d : DataW H} {p : List MemPlace} (hv : Value.okWide Try.prog w r b0 38 v) (h : DataW.Trod enc Try.prog w 0 (fun _ => true) true 38 v d p) :
    ∃ (va fa ta pa : Option Addr) (vn vc fn fc tn tc pn pc : Nat) (L : EL), v = .agg #[.slice va vn vc, .slice fa fn fc, .slice ta tn tc, .slice pa pn pc] ∧ SB w va vn vc L.V ∧ SR w fa fn fc L.F ∧ SU w ta tn tc L.T := by
  have z10 : Try.prog.cellsOf 33 = 1 := by kernel_rfl
  have z11 : Try.prog.cellsOf 34 = 1 := by kernel_rfl
  have z12 : Try.prog.cellsOf 35 = 1 := by kernel_rfl
  have z13 : Try.prog.cellsOf 36 = 1 := by kernel_rfl
  obtain ⟨cs, rfl, hsz⟩ := okWide_struct Try.underlying38 hv
  obtain ⟨l⟩ := cs
  have hl : l.length = 4 := hsz.trans (by kernel_rfl)
  match l, hl with
  | [c0, c1, c2, c3], _ =>
    obtain ⟨fuel, hf⟩ := h
    obtain ⟨xs, n, _, _, _, hlen, pg⟩ := DataW.trod_struct Try.underlying38 hf
    match xs, hlen with
    | [q0, q1, q2, q3], _ =>
      have e0 := pg 0 _ rfl
      have e1 := pg 1 _ rfl
      have e2 := pg 2 _ rfl
      have e3 := pg 3 _ rfl
      simp [Value.cells, z10] at e0
      simp [Value.cells, z11] at e1
      simp [Value.cells, z12] at e2
      simp [Value.cells, z13] at e3
      obtain ⟨va, vn, vc, LV, rfl, sv⟩ := open_sb e0
      obtain ⟨fa, fn, fc, LF, rfl, sf⟩ := open_sr e1
      obtain ⟨ta, tn, tc, LT, rfl, st⟩ := open_su e2
      obtain ⟨pa, pn, pc, rfl⟩ := shape_sl Try.underlying36 e3
      exact ⟨va, fa, ta, pa, vn, vc, fn, fc, tn, tc, pn, pc, ⟨LV, LF, LT, []⟩, rfl, sv, sf, st⟩
end
end Go.Proofs.Ytdbjeihbfooipaa
