/- How an environment is opened as an argument; no condition. -/
import Derived.Test.YtaiemcpkiegdiaaTbR
import Derived.Test.YtaiemcpkiegdiaaTbF
namespace Go.Proofs.Ytaiemcpkiegdiaa
open Go.ChangeShapes Go.WideShapes Go.ChangeAt Go.RowKit Go.Joins Go.Deep
set_option linter.unusedVariables false
theorem rng_wf {a : Int} (h : (Lit.int .i64 a).wf = true) : Rng a := i64_bd h
section
variable {H : Type} {enc : TypeId × Value → H} {w : World}
set_option maxRecDepth 100000 in
theorem open_env {r : Reach} {b0 : Nat} {v : Value} {d : DataW H} {p : List MemPlace} (hv : Value.okWide Try.prog w r b0 47 v) (h : DataW.Trod enc Try.prog w 0 (fun _ => true) true 47 v d p) :
    ∃ (va fa ta pa : Option Addr) (vn vc fn fc tn tc pn pc : Nat) (L : EL), v = .agg #[.slice va vn vc, .slice fa fn fc, .slice ta tn tc, .slice pa pn pc] ∧ SB w va vn vc L.V ∧ SR w fa fn fc L.F ∧ SU w ta tn tc L.T := by
  obtain ⟨cs, rfl, hsz⟩ := okWide_struct Try.underlying47 hv
  obtain ⟨l⟩ := cs
  have hl : l.length = 4 := hsz.trans (by kernel_rfl)
  match l, hl with
  | [c0, c1, c2, c3], _ =>
    obtain ⟨fuel, hf⟩ := h
    obtain ⟨xs, n, _, _, _, hlen, pg⟩ := DataW.trod_struct Try.underlying47 hf
    match xs, hlen with
    | [q0, q1, q2, q3], _ =>
      have p0 : DataW.trod enc Try.prog w 0 (fun _ => true) true n 42 [c0] = some q0 := by
        have q : DataW.trod enc Try.prog w 0 (fun _ => true) true n 42 (([c0, c1, c2, c3].drop 0).take (Try.prog.cellsOf 42)) = some q0 := pg 0 _ rfl
        rw [show Try.prog.cellsOf 42 = 1 from by kernel_rfl] at q
        exact q
      have p1 : DataW.trod enc Try.prog w 0 (fun _ => true) true n 43 [c1] = some q1 := by
        have q : DataW.trod enc Try.prog w 0 (fun _ => true) true n 43 (([c0, c1, c2, c3].drop 1).take (Try.prog.cellsOf 43)) = some q1 := pg 1 _ rfl
        rw [show Try.prog.cellsOf 43 = 1 from by kernel_rfl] at q
        exact q
      have p2 : DataW.trod enc Try.prog w 0 (fun _ => true) true n 44 [c2] = some q2 := by
        have q : DataW.trod enc Try.prog w 0 (fun _ => true) true n 44 (([c0, c1, c2, c3].drop 2).take (Try.prog.cellsOf 44)) = some q2 := pg 2 _ rfl
        rw [show Try.prog.cellsOf 44 = 1 from by kernel_rfl] at q
        exact q
      have p3 : DataW.trod enc Try.prog w 0 (fun _ => true) true n 45 [c3] = some q3 := by
        have q : DataW.trod enc Try.prog w 0 (fun _ => true) true n 45 (([c0, c1, c2, c3].drop 3).take (Try.prog.cellsOf 45)) = some q3 := pg 3 _ rfl
        rw [show Try.prog.cellsOf 45 = 1 from by kernel_rfl] at q
        exact q
      obtain ⟨va, vn, vc, LV, rfl, sv⟩ := open_sb p0
      obtain ⟨fa, fn, fc, LF, rfl, sf⟩ := open_sr p1
      obtain ⟨ta, tn, tc, LT, rfl, st⟩ := open_su p2
      obtain ⟨pa, pn, pc, rfl⟩ := shape_sl Try.underlying45 p3
      exact ⟨va, fa, ta, pa, vn, vc, fn, fc, tn, tc, pn, pc, ⟨LV, LF, LT, []⟩, rfl, sv, sf, st⟩
end
end Go.Proofs.Ytaiemcpkiegdiaa
