/- Env: how the arguments of the laws Isolated and Runs are opened: two accesses, a list of acts; no condition. -/
import Derived.Test.YtolifmpnhflegaaFrV
namespace Go.Proofs.Ytolifmpnhflegaa
open Go.ChangeShapes Go.WideShapes Go.ChangeAt Go.RowKit Go.Joins Go.Deep
set_option linter.unusedVariables false
/-- An act: what is done, a field's header and number, a value, a header. -/
abbrev At := Int × Int × Int × Int × Int
def atz : At := (0, 0, 0, 0, 0)
/-- A slice that reads as a list of acts. -/
structure SAt (w : World) (a : Option Addr) (n c : Nat) (L : List At) : Prop where
  len : L.length = n
  nil : a = none → n = 0 ∧ c = 0
  cap : n ≤ c
  cells : ∀ ad, a = some ad → ∀ j, j < n → w.cell? (ad.add (j * 5)) = some (.int .i64 (L.getD j atz).1) ∧ w.cell? ⟨(ad.add (j * 5)).block, (ad.add (j * 5)).off + 1, none⟩ = some (.int .i64 (L.getD j atz).2.1) ∧ w.cell? ⟨(ad.add (j * 5)).block, (ad.add (j * 5)).off + 2, none⟩ = some (.int .i64 (L.getD j atz).2.2.1) ∧ w.cell? ⟨(ad.add (j * 5)).block, (ad.add (j * 5)).off + 3, none⟩ = some (.int .u32 (L.getD j atz).2.2.2.1) ∧ w.cell? ⟨(ad.add (j * 5)).block, (ad.add (j * 5)).off + 4, none⟩ = some (.int .i64 (L.getD j atz).2.2.2.2)
  rng : ∀ x ∈ L, 0 ≤ x.2.2.2.1 ∧ x.2.2.2.1 < 4294967296
theorem SAt.keep0 {w w2 : World} {a : Option Addr} {n c : Nat} {L : List At} (h : SAt w a n c L) (k : w.grownBy w2 none) : SAt w2 a n c L :=
  ⟨h.len, h.nil, h.cap, fun ad e j hj => ⟨k.cell (h.cells ad e j hj).1 (by simp), k.cell (h.cells ad e j hj).2.1 (by simp), k.cell (h.cells ad e j hj).2.2.1 (by simp), k.cell (h.cells ad e j hj).2.2.2.1 (by simp), k.cell (h.cells ad e j hj).2.2.2.2 (by simp)⟩, h.rng⟩
theorem SAt.some {w : World} {a : Option Addr} {n c : Nat} {L : List At} (h : SAt w a n c L) (hn : 0 < n) : ∃ ad, a = some ad := by
  cases a with
  | none => have := (h.nil rfl).1; omega
  | some ad => exact ⟨ad, rfl⟩
theorem SAt.at_ {w : World} {a : Option Addr} {n c : Nat} {L : List At} (h : SAt w a n c L) (j : Nat) (hj : j < n) : 0 ≤ (L.getD j atz).2.2.2.1 ∧ (L.getD j atz).2.2.2.1 < 4294967296 := by
  have hj : j < L.length := by rw [h.len]; exact hj
  rw [List.getD_eq_getElem?_getD, List.getElem?_eq_getElem hj]; exact h.rng _ (List.getElem_mem _)
section
variable {H : Type} {enc : TypeId × Value → H} {w : World}
theorem add_n3 (ad : Addr) (k : Nat) : (⟨(ad.add k).block, (ad.add k).off + 3, none⟩ : Addr) = ad.add (k + 3) := by
  rw [← Addr.add_add]
  rfl
theorem add_n4 (ad : Addr) (k : Nat) : (⟨(ad.add k).block, (ad.add k).off + 4, none⟩ : Addr) = ad.add (k + 4) := by
  rw [← Addr.add_add]
  rfl
set_option maxRecDepth 100000 in
theorem open_acc2 {r : Reach} {b0 : Nat} {v : Value} {d : DataW H} {p : List MemPlace} (hv : Value.okWide Try.prog w r b0 60 v) (h : DataW.Trod enc Try.prog w 0 (fun _ => true) true 60 v d p) :
    ∃ (a b y g a2 b2 y2 g2 : Int), v = .agg #[.int .i64 a, .int .i64 b, .int .u32 y, .int .i64 g, .int .i64 a2, .int .i64 b2, .int .u32 y2, .int .i64 g2] ∧ 0 ≤ y ∧ y < 4294967296 ∧ 0 ≤ y2 ∧ y2 < 4294967296 := by
  have ca : Try.prog.cellsOf 51 = 4 := by kernel_rfl
  obtain ⟨l, rfl, hsz⟩ := okWide_arr Try.underlying60 hv
  obtain ⟨l⟩ := l
  have hl : l.length = 8 := hsz.trans (by kernel_rfl)
  match l, hl with
  | [c0, c1, c2, c3, c4, c5, c6, c7], _ =>
    obtain ⟨fuel, hf⟩ := h
    obtain ⟨xs, m, _, _, _, hl, hi⟩ := DataW.trod_array Try.underlying60 hf
    match xs, hl with
    | [y0, y1], _ =>
      have h0 := hi 0 (by omega)
      have h1 := hi 1 (by omega)
      simp [ca, Value.cells] at h0 h1
      obtain ⟨a, b, y, g, rfl, rfl, rfl, rfl, u0, u1⟩ := cells_acc h0
      obtain ⟨a2, b2, y2, g2, rfl, rfl, rfl, rfl, w0, w1⟩ := cells_acc h1
      exact ⟨a, b, y, g, a2, b2, y2, g2, rfl, u0, u1, w0, w1⟩
theorem open_sat {n : Nat} {v : Value} {x : DataW H × List MemPlace} (h : DataW.trod enc Try.prog w 0 (fun _ => true) true n 56 [v] = some x) : ∃ a l c L, v = .slice a l c ∧ SAt w a l c L := by
  rcases open_slice Try.underlying56 h with ⟨hcs, _⟩ | ⟨a, len, cap, m, k, D, Pl, hcs, _, hl, _, hm, _, hx⟩
  · injection hcs with h1 _
    exact ⟨_, _, _, [], h1, rfl, fun _ => ⟨rfl, rfl⟩, Nat.le_refl _, (fun ad e => by cases e), (fun x hx => by cases hx)⟩
  · injection hcs with h1 _
    have ce : Try.prog.cellsOf 58 = 5 := by kernel_rfl
    have ci : Try.prog.cellsOf 3 = 1 := by kernel_rfl
    have ca : Try.prog.cellsOf 51 = 4 := by kernel_rfl
    rw [ce] at hx
    have each : ∀ i, i < len → ∃ q : At, w.cell? (a.add (i * 5)) = some (.int .i64 q.1) ∧ w.cell? (a.add (i * 5 + 1)) = some (.int .i64 q.2.1) ∧ w.cell? (a.add (i * 5 + 2)) = some (.int .i64 q.2.2.1) ∧ w.cell? (a.add (i * 5 + 3)) = some (.int .u32 q.2.2.2.1) ∧ w.cell? (a.add (i * 5 + 4)) = some (.int .i64 q.2.2.2.2) ∧ 0 ≤ q.2.2.2.1 ∧ q.2.2.2.1 < 4294967296 := by
      intro i hi
      obtain ⟨cs', hc, ht'⟩ := hx i (by rw [hm]; simp; omega)
      obtain ⟨_, hcl, hat⟩ := World.cells?_some hc
      match cs', hcl with
      | [q0, q1, q2, q3, q4], _ =>
        have g0 := hat (i := 0) (by decide)
        have g1 := hat (i := 1) (by decide)
        have g2 := hat (i := 2) (by decide)
        have g3 := hat (i := 3) (by decide)
        have g4 := hat (i := 4) (by decide)
        rw [Go.Deep.add_add] at g0 g1 g2 g3 g4
        obtain ⟨xs, n', _, _, _, hlen, hg⟩ := DataW.trod_struct Try.underlying58 ht'
        match xs, hlen with
        | [y0, y1], _ =>
          have f0 := hg 0 _ rfl
          have f1 := hg 1 _ rfl
          simp [ci] at f0
          simp [ca] at f1
          obtain ⟨a0, e0, _, _⟩ := DataW.trod_int Try.underlying3 f0
          injection e0 with e0 _
          obtain ⟨b1, b2, b3, b4, e1, e2, e3, e4, u0, u1⟩ := cells_acc f1
          subst e0 e1 e2 e3 e4
          exact ⟨(a0, b1, b2, b3, b4), by simpa using g0, by simpa using g1, by simpa using g2, by simpa using g3, by simpa using g4, u0, u1⟩
    obtain ⟨q, hq⟩ := choose_lt each
    refine ⟨_, _, _, (List.range len).map q, h1, by simp, (fun e => by cases e), hl, fun ad e j hj => ?_, fun y hy => ?_⟩
    · cases e
      rw [add_n', add_n2, add_n3, add_n4]
      have e : ((List.range len).map q).getD j atz = q j := by simp [hj]
      rw [e]
      exact ⟨(hq j hj).1, (hq j hj).2.1, (hq j hj).2.2.1, (hq j hj).2.2.2.1, (hq j hj).2.2.2.2.1⟩
    · obtain ⟨j, hj, rfl⟩ := List.mem_map.1 hy
      exact (hq j (List.mem_range.1 hj)).2.2.2.2.2
set_option maxRecDepth 100000 in
theorem open_eacts {r : Reach} {b0 : Nat} {v : Value} {d : DataW H} {p : List MemPlace} (hv : Value.okWide Try.prog w r b0 56 v) (h : DataW.Trod enc Try.prog w 0 (fun _ => true) true 56 v d p) :
    ∃ a l c L, v = .slice a l c ∧ SAt w a l c L := by
  obtain ⟨a0, len0, cap0, rfl⟩ := okWide_slice Try.underlying56 hv
  obtain ⟨fuel, hf⟩ := h
  simp [Value.cells] at hf
  exact open_sat hf
end
end Go.Proofs.Ytolifmpnhflegaa
