/- How three numbers are opened as an argument; no condition. -/
import Derived.Test.YtaiemcpkiegdiaaFrU
namespace Go.Proofs.Ytaiemcpkiegdiaa
open Go.ChangeShapes Go.WideShapes Go.ChangeAt Go.RowKit Go.Joins Go.Deep
set_option linter.unusedVariables false
section
variable {H : Type} {enc : TypeId × Value → H} {w : World}
set_option maxRecDepth 100000 in
theorem open_arr3u {r : Reach} {b0 : Nat} {v : Value} {d : DataW H} {p : List MemPlace} (hv : Value.okWide Try.prog w r b0 58 v) (h : DataW.Trod enc Try.prog w 0 (fun _ => true) true 58 v d p) :
    ∃ x y z : Nat, v = .agg #[.int .u32 (x : Nat), .int .u32 (y : Nat), .int .u32 (z : Nat)] ∧ z < 4294967296 := by
  obtain ⟨cs, rfl, hsz⟩ := okWide_arr Try.underlying58 hv
  obtain ⟨l⟩ := cs
  have hl : l.length = 3 := hsz.trans (by kernel_rfl)
  match l, hl with
  | [c0, c1, c2], _ =>
    obtain ⟨fuel, hf⟩ := h
    obtain ⟨xs, m, _, _, _, hlen, hi⟩ := DataW.trod_array Try.underlying58 hf
    match xs, hlen with
    | [y0, y1, y2], _ =>
      have p0 : DataW.trod enc Try.prog w 0 (fun _ => true) true m 57 [c0] = some y0 := by
        have q : DataW.trod enc Try.prog w 0 (fun _ => true) true m 57 (([c0, c1, c2].drop (0 * Try.prog.cellsOf 57)).take (Try.prog.cellsOf 57)) = some y0 := hi 0 (by omega)
        rw [show Try.prog.cellsOf 57 = 1 from by kernel_rfl] at q
        exact q
      obtain ⟨x0, e0, _, w0⟩ := DataW.trod_int Try.underlying57 p0
      injection e0 with e0 _
      have b0 := u32_bd w0
      obtain ⟨n0, hn0⟩ : ∃ k : Nat, x0 = k := ⟨x0.toNat, by omega⟩
      have p1 : DataW.trod enc Try.prog w 0 (fun _ => true) true m 57 [c1] = some y1 := by
        have q : DataW.trod enc Try.prog w 0 (fun _ => true) true m 57 (([c0, c1, c2].drop (1 * Try.prog.cellsOf 57)).take (Try.prog.cellsOf 57)) = some y1 := hi 1 (by omega)
        rw [show Try.prog.cellsOf 57 = 1 from by kernel_rfl] at q
        exact q
      obtain ⟨x1, e1, _, w1⟩ := DataW.trod_int Try.underlying57 p1
      injection e1 with e1 _
      have b1 := u32_bd w1
      obtain ⟨n1, hn1⟩ : ∃ k : Nat, x1 = k := ⟨x1.toNat, by omega⟩
      have p2 : DataW.trod enc Try.prog w 0 (fun _ => true) true m 57 [c2] = some y2 := by
        have q : DataW.trod enc Try.prog w 0 (fun _ => true) true m 57 (([c0, c1, c2].drop (2 * Try.prog.cellsOf 57)).take (Try.prog.cellsOf 57)) = some y2 := hi 2 (by omega)
        rw [show Try.prog.cellsOf 57 = 1 from by kernel_rfl] at q
        exact q
      obtain ⟨x2, e2, _, w2⟩ := DataW.trod_int Try.underlying57 p2
      injection e2 with e2 _
      have b2 := u32_bd w2
      obtain ⟨n2, hn2⟩ : ∃ k : Nat, x2 = k := ⟨x2.toNat, by omega⟩
      subst e0 e1 e2 hn0 hn1 hn2
      exact ⟨n0, n1, n2, rfl, by omega⟩
end
end Go.Proofs.Ytaiemcpkiegdiaa
