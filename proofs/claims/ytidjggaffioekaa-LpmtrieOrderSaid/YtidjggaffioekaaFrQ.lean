/- Tries: how an act is opened; no condition. -/
import Derived.Test.YtidjggaffioekaaLuE
namespace Go.Proofs.Ytidjggaffioekaa
open Go.ChangeShapes Go.WideShapes Go.ChangeAt Go.RowKit Go.Joins Go.Deep
set_option linter.unusedVariables false

section
variable {H : Type} {enc : TypeId × Value → H} {w : World}
set_option maxRecDepth 100000 in
theorem open_tact {r : Reach} {b0 : Nat} {v : Value} {d : DataW H} {p : List MemPlace} (hv : Value.okWide Try.prog w r b0 37 v) (h : DataW.Trod enc Try.prog w 0 (fun _ => true) true 37 v d p) :
    ∃ (gd : Int) (gv : Nat) (gm gx : Int), v = .agg #[.int .i64 gd, .int .u32 (gv : Nat), .int .i64 gm, .int .i64 gx] ∧ AcOk (gd, gv, gm, gx) := by
  obtain ⟨cs, rfl, hsz⟩ := okWide_struct Try.underlying37 hv
  obtain ⟨l⟩ := cs
  have hl : l.length = 4 := hsz.trans (by kernel_rfl)
  have ci : Try.prog.cellsOf 3 = 1 := by kernel_rfl
  have cu : Try.prog.cellsOf 35 = 1 := by kernel_rfl
  match l, hl with
  | [c0, c1, c2, c3], _ =>
    obtain ⟨fuel, hf⟩ := h
    obtain ⟨xs, n', _, _, _, hlen, hg⟩ := DataW.trod_struct Try.underlying37 hf
    match xs, hlen with
    | [y0, y1, y2, y3], _ =>
      have p0 := hg 0 _ rfl
      have p1 := hg 1 _ rfl
      have p2 := hg 2 _ rfl
      have p3 := hg 3 _ rfl
      simp [ci, cu, Value.cells] at p0 p1 p2 p3
      obtain ⟨a0, e0, _, w0⟩ := DataW.trod_int Try.underlying3 p0
      obtain ⟨a1, e1, _, w1⟩ := DataW.trod_int Try.underlying35 p1
      obtain ⟨a2, e2, _, w2⟩ := DataW.trod_int Try.underlying3 p2
      obtain ⟨a3, e3, _, w3⟩ := DataW.trod_int Try.underlying3 p3
      injection e0 with e0 _
      injection e1 with e1 _
      injection e2 with e2 _
      injection e3 with e3 _
      subst e0 e1 e2 e3
      have hb := u32_bd w1
      obtain ⟨v, rfl⟩ : ∃ v : Nat, a1 = v := ⟨a1.toNat, by omega⟩
      exact ⟨a0, v, a2, a3, rfl, i64_bd w0, by show v < 4294967296; omega⟩
end
end Go.Proofs.Ytidjggaffioekaa
