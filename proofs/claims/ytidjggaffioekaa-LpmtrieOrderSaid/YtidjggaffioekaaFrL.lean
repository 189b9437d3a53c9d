/- Tries: how the laws' list of acts is opened; no condition. -/
import Derived.Test.YtidjggaffioekaaLtY
import Derived.Deep.SlicePairs
import Derived.Deep.Slices
import Derived.Deep.Fields
import Derived.ChangeSame
namespace Go.Proofs.Ytidjggaffioekaa
open Go.ChangeShapes Go.WideShapes Go.ChangeAt Go.RowKit Go.Joins Go.Deep
set_option linter.unusedVariables false
abbrev Ac := Int × Nat × Int × Int
def az : Ac := (0, 0, 0, 0)
def AcOk (x : Ac) : Prop := (-9223372036854775808 ≤ x.1 ∧ x.1 ≤ 9223372036854775807) ∧ x.2.1 < 4294967296
/-- A slice that reads as a list of calls. -/
structure SA (w : World) (a : Option Addr) (n c : Nat) (L : List Ac) : Prop where
  len : L.length = n
  nil : a = none → n = 0 ∧ c = 0
  cap : n ≤ c
  cells : ∀ ad, a = some ad → ∀ j, j < n → w.cell? (ad.add (j * 4)) = some (.int .i64 (L.getD j az).1) ∧ w.cell? ⟨(ad.add (j * 4)).block, (ad.add (j * 4)).off + 1, none⟩ = some (.int .u32 ((L.getD j az).2.1 : Nat)) ∧ w.cell? ⟨(ad.add (j * 4)).block, (ad.add (j * 4)).off + 2, none⟩ = some (.int .i64 (L.getD j az).2.2.1) ∧ w.cell? ⟨(ad.add (j * 4)).block, (ad.add (j * 4)).off + 3, none⟩ = some (.int .i64 (L.getD j az).2.2.2)
  rng : ∀ x ∈ L, AcOk x
theorem SA.keep0 {w w2 : World} {a : Option Addr} {n c : Nat} {L : List Ac} (h : SA w a n c L) (k : w.grownBy w2 none) : SA w2 a n c L :=
  ⟨h.len, h.nil, h.cap, fun ad e j hj => ⟨k.cell (h.cells ad e j hj).1 (by simp), k.cell (h.cells ad e j hj).2.1 (by simp), k.cell (h.cells ad e j hj).2.2.1 (by simp), k.cell (h.cells ad e j hj).2.2.2 (by simp)⟩, h.rng⟩
theorem SA.some {w : World} {a : Option Addr} {n c : Nat} {L : List Ac} (h : SA w a n c L) (hn : 0 < n) : ∃ ad, a = some ad := by
  cases a with
  | none => have := (h.nil rfl).1; omega
  | some ad => exact ⟨ad, rfl⟩
theorem SA.at_ {w : World} {a : Option Addr} {n c : Nat} {L : List Ac} (h : SA w a n c L) (j : Nat) (hj : j < n) : AcOk (L.getD j az) := by
  have hj : j < L.length := by rw [h.len]; exact hj
  rw [List.getD_eq_getElem?_getD, List.getElem?_eq_getElem hj]; exact h.rng _ (List.getElem_mem _)
section
variable {H : Type} {enc : TypeId × Value → H} {w : World}
theorem add_n' (ad : Addr) (k : Nat) : (⟨(ad.add k).block, (ad.add k).off + 1, none⟩ : Addr) = ad.add (k + 1) := by
  rw [← Addr.add_add]
  rfl
theorem add_n2 (ad : Addr) (k : Nat) : (⟨(ad.add k).block, (ad.add k).off + 2, none⟩ : Addr) = ad.add (k + 2) := by
  rw [← Addr.add_add]
  rfl
theorem add_n3 (ad : Addr) (k : Nat) : (⟨(ad.add k).block, (ad.add k).off + 3, none⟩ : Addr) = ad.add (k + 3) := by
  rw [← Addr.add_add]
  rfl
theorem open_sa {n : Nat} {v : Value} {x : DataW H × List MemPlace} (h : DataW.trod enc Try.prog w 0 (fun _ => true) true n 22 [v] = some x) : ∃ a l c L, v = .slice a l c ∧ SA w a l c L := by
  rcases open_slice Try.underlying22 h with ⟨hcs, _⟩ | ⟨a, len, cap, m, k, D, Pl, hcs, _, hl, _, hm, _, hx⟩
  · injection hcs with h1 _
    exact ⟨_, _, _, [], h1, rfl, fun _ => ⟨rfl, rfl⟩, Nat.le_refl _, (fun ad e => by cases e), (fun x hx => by cases hx)⟩
  · injection hcs with h1 _
    have ce : Try.prog.cellsOf 37 = 4 := by kernel_rfl
    have ci : Try.prog.cellsOf 3 = 1 := by kernel_rfl
    have cu : Try.prog.cellsOf 35 = 1 := by kernel_rfl
    rw [ce] at hx
    have each : ∀ i, i < len → ∃ q : Ac, w.cell? (a.add (i * 4)) = some (.int .i64 q.1) ∧ w.cell? (a.add (i * 4 + 1)) = some (.int .u32 (q.2.1 : Nat)) ∧ w.cell? (a.add (i * 4 + 2)) = some (.int .i64 q.2.2.1) ∧ w.cell? (a.add (i * 4 + 3)) = some (.int .i64 q.2.2.2) ∧ AcOk q := by
      intro i hi
      obtain ⟨cs', hc, ht'⟩ := hx i (by rw [hm]; simp; omega)
      obtain ⟨_, hcl, hat⟩ := World.cells?_some hc
      match cs', hcl with
      | [q0, q1, q2, q3], _ =>
        have g0 := hat (i := 0) (by decide)
        have g1 := hat (i := 1) (by decide)
        have g2 := hat (i := 2) (by decide)
        have g3 := hat (i := 3) (by decide)
        rw [Go.Deep.add_add] at g0 g1 g2 g3
        obtain ⟨xs, n', _, _, _, hlen, hg⟩ := DataW.trod_struct Try.underlying37 ht'
        match xs, hlen with
        | [y0, y1, y2, y3], _ =>
          have p0 := hg 0 _ rfl
          have p1 := hg 1 _ rfl
          have p2 := hg 2 _ rfl
          have p3 := hg 3 _ rfl
          simp [ci, cu] at p0 p1 p2 p3
          obtain ⟨a0, e0, _, w0⟩ := DataW.trod_int Try.underlying3 p0
          obtain ⟨a1, e1, _, w1⟩ := DataW.trod_int Try.underlying35 p1
          obtain ⟨a2, e2, _, w2⟩ := DataW.trod_int Try.underlying3 p2
          obtain ⟨a3, e3, _, w3⟩ := DataW.trod_int Try.underlying3 p3
          injection e0 with e0 _
          injection e1 with e1 _
          injection e2 with e2 _
          injection e3 with e3 _
          subst e0 e1 e2 e3
          have hb := u32_bd w1
          obtain ⟨v, rfl⟩ : ∃ v : Nat, a1 = v := ⟨a1.toNat, by omega⟩
          exact ⟨(a0, v, a2, a3), by simpa using g0, by simpa using g1, by simpa using g2, by simpa using g3, i64_bd w0, by show v < 4294967296; omega⟩
    obtain ⟨q, hq⟩ := choose_lt each
    refine ⟨_, _, _, (List.range len).map q, h1, by simp, (fun e => by cases e), hl, fun ad e j hj => ?_, fun y hy => ?_⟩
    · cases e
      rw [add_n', add_n2, add_n3]
      have e : ((List.range len).map q).getD j az = q j := by simp [hj]
      rw [e]
      exact ⟨(hq j hj).1, (hq j hj).2.1, (hq j hj).2.2.1, (hq j hj).2.2.2.1⟩
    · obtain ⟨j, hj, rfl⟩ := List.mem_map.1 hy
      exact (hq j (List.mem_range.1 hj)).2.2.2.2
set_option maxRecDepth 100000 in
theorem open_tacts {r : Reach} {b0 : Nat} {v : Value} {d : DataW H} {p : List MemPlace} (hv : Value.okWide Try.prog w r b0 22 v) (h : DataW.Trod enc Try.prog w 0 (fun _ => true) true 22 v d p) :
    ∃ a l c L, v = .slice a l c ∧ SA w a l c L := by
  obtain ⟨a0, len0, cap0, rfl⟩ := okWide_slice Try.underlying22 hv
  obtain ⟨fuel, hf⟩ := h
  simp [Value.cells] at hf
  exact open_sa hf
end
end Go.Proofs.Ytidjggaffioekaa
