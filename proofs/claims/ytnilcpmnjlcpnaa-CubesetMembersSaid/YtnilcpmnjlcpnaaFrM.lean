/- The struct Members among the arguments: a small number, and a slice of numbers. -/
import Derived.Test.YtnilcpmnjlcpnaaFrC
import Derived.Test.YtnilcpmnjlcpnaaCsS
import Derived.Deep.SlicePairs
namespace Go.Proofs.Ytnilcpmnjlcpnaa
open Go.ChangeShapes Go.WideShapes Go.ChangeAt Go.RowKit Go.Joins Go.Deep
section
variable {H : Type} {enc : TypeId × Value → H} {P : Program} {w : World}
theorem row_u64 {a : Option Addr} {len cap : Nat} {zs : List Int} (h : IsRow .u64 w a len cap zs) : ∃ N : List Nat, SlR w a len cap (N.map u64V) ∧ ∀ y ∈ N, B64 y := by
  have hs := row_slr h
  have hw := row_wf h
  refine ⟨(zs.take len).map Int.toNat, ?_, ?_⟩
  · have e : ((zs.take len).map Int.toNat).map u64V = (zs.take len).map (Value.int .u64) := by
      rw [List.map_map]
      apply List.map_congr_left
      intro z hz
      have := bounds_u64 (hw z hz)
      show Value.int .u64 ((z.toNat : Nat) : Int) = Value.int .u64 z
      rw [Int.toNat_of_nonneg this.1]
    rw [e]; exact hs
  · intro y hy
    obtain ⟨z, hz, rfl⟩ := List.mem_map.1 hy
    have := bounds_u64 (hw z hz)
    unfold B64; omega
theorem open_members {r : Reach} {b0 : Nat} {t e : TypeId} {f0 f1 : Field} {v : Value} {d : DataW H} {p : List MemPlace} (ht : P.underlying t = some (.struct #[f0, f1])) (hone : oneCellFields P #[f0, f1] = true) (hC : P.cellsOf t = 2)
    (u0 : P.underlying f0.type = some (.int .u8)) (u1 : P.underlying f1.type = some (.slice e)) (he : P.underlying e = some (.int .u64)) (hE : P.cellsOf e = 1)
    (hv : Value.okWide P w r b0 t v) (h : DataW.Trod enc P w 0 (fun _ => true) true t v d p) : ∃ (x : Nat) (a : Option Addr) (n c : Nat) (N : List Nat), v = .agg #[.int .u8 (x : Int), .slice a n c] ∧ x ≤ 255 ∧ SlR w a n c (N.map u64V) ∧ ∀ y ∈ N, B64 y := by
  obtain ⟨x0, x1, y0, y1, m, rfl, _, _, h0, h1⟩ := open_agg2 ht hone hC hv h
  obtain ⟨s, e0, _, w0⟩ := DataW.trod_int u0 h0
  simp at e0
  subst e0
  have hs := u8_bd w0
  obtain ⟨x, rfl⟩ : ∃ x : Nat, s = (x : Int) := ⟨s.toNat, by omega⟩
  rcases open_ints u1 he hE h1 with ⟨hcs, _⟩ | ⟨x2, l, c, zs, hcs, _, hl, hm, hz, _, hcell, hwz⟩
  · simp at hcs
    subst hcs
    exact ⟨x, _, _, _, [], rfl, by omega, ⟨rfl, fun _ => ⟨rfl, rfl⟩, fun ad e => by cases e⟩, fun y hy => by cases hy⟩
  · simp at hcs
    subst hcs
    obtain ⟨N, h2, h3⟩ := row_u64 (w := w) (a := some x2) (len := l) (cap := c) (zs := zs) (.inr ⟨_, rfl, hl, hm, by simpa using hz, hcell, hwz⟩)
    exact ⟨x, _, _, _, N, rfl, by omega, h2, h3⟩
end
end Go.Proofs.Ytnilcpmnjlcpnaa
