/- Rows of fields, and the library sort of them; no condition. -/
import Derived.Test.YtdbjeihbfooipaaSqF
import Derived.Shelf.Small.Bits
namespace Go.Proofs.Ytdbjeihbfooipaa
open Go.RowKit
set_option linter.unusedVariables false
def rC (x : Int × Int) : List Value := [.int .i64 x.1, .int .i64 x.2]
def rz : Int × Int := (0, 0)
/-- Fields of the call's own. -/
def FL (w : World) (base : Nat) (V : Value) (L : List (Int × Int)) : Prop := w.ownsRow base 48 2 V L.length (L.flatMap rC)
theorem FL.nil (w : World) (base : Nat) : FL w base (.slice none 0 0) [] := World.ownsRow_nil _ _ _ _
theorem FL.keep0 {w w2 : World} {base : Nat} {V : Value} {L : List (Int × Int)} (h : FL w base V L) (k : w.grownBy w2 none) : FL w2 base V L := own_keep0 h k
theorem FL.shape {w : World} {base : Nat} {V : Value} {L : List (Int × Int)} (h : FL w base V L) : ∃ a c, V = .slice a L.length c := own_shape h
theorem rC_one (p : Int × Int) : ∀ u ∈ rC p, u.oneCell' = true := by intro u hu; simp [rC] at hu; rcases hu with rfl | rfl <;> rfl
theorem flat2 (M : List (Int × Int)) : ∀ (i r : Nat), i < M.length → r < 2 → (M.flatMap rC)[i * 2 + r]? = (rC (M.getD i rz))[r]? := by
  induction M with
  | nil => intro i r h; cases h
  | cons p M ih =>
    intro i r h hr
    rw [List.flatMap_cons]
    cases i with
    | zero =>
      rw [Nat.zero_mul, Nat.zero_add, List.getElem?_append_left (by simpa [rC] using hr)]
      rfl
    | succ i =>
      rw [List.getElem?_append_right (by simp [rC]; omega)]
      have e : (i + 1) * 2 + r - (rC p).length = i * 2 + r := by simp [rC]; omega
      rw [e, ih i r (by simpa using h) hr]
      rfl
theorem flat2_len (M : List (Int × Int)) : (M.flatMap rC).length = M.length * 2 := by
  induction M with
  | nil => rfl
  | cons p M ih => rw [List.flatMap_cons, List.length_append, ih]; simp [rC]; omega
theorem FL.at_ {w : World} {base g c : Nat} {M : List (Int × Int)} (h : FL w base (.slice (some ⟨g, 0, none⟩) M.length c) M) (i : Nat) (hi : i < M.length) : w.cell? ⟨g, i * 2, none⟩ = some (.int .i64 (M.getD i rz).1) ∧ w.cell? ⟨g, i * 2 + 1, none⟩ = some (.int .i64 (M.getD i rz).2) := by
  have a := h.cellAt (i * 2) (by omega)
  have b := h.cellAt (i * 2 + 1) (by omega)
  have fa := flat2 M i 0 hi (by decide)
  have fb := flat2 M i 1 hi (by decide)
  rw [Nat.add_zero] at fa
  exact ⟨a.trans fa, b.trans fb⟩
theorem FL.free {w : World} {base g c : Nat} {M : List (Int × Int)} (h : FL w base (.slice (some ⟨g, 0, none⟩) M.length c) M) (j : Nat) : w.frozen? ⟨g, j, none⟩ = false := h.frozenAt j
theorem flat2_set (M : List (Int × Int)) : ∀ (i : Nat) (x : Int × Int), i < M.length → (M.set i x).flatMap rC = ((M.flatMap rC).set (i * 2) (.int .i64 x.1)).set (i * 2 + 1) (.int .i64 x.2) := by
  induction M with
  | nil => intro i x h; cases h
  | cons p M ih =>
    intro i x h
    cases i with
    | zero => simp [rC]
    | succ i =>
      rw [List.set_cons_succ, List.flatMap_cons, List.flatMap_cons, ih i x (by simpa using h)]
      have e : (i + 1) * 2 = i * 2 + 2 := by omega
      rw [e]
      rfl
/-- A field is stored. -/
theorem FL.put {w : World} {base g c : Nat} {M : List (Int × Int)} (h : FL w base (.slice (some ⟨g, 0, none⟩) M.length c) M) (i : Nat) (hi : i < M.length) (x : Int × Int) :
    FL ((w.setCell ⟨g, i * 2, none⟩ (.int .i64 x.1)).setCell ⟨g, i * 2 + 1, none⟩ (.int .i64 x.2)) base (.slice (some ⟨g, 0, none⟩) M.length c) (M.set i x) ∧ w.grownBy ((w.setCell ⟨g, i * 2, none⟩ (.int .i64 x.1)).setCell ⟨g, i * 2 + 1, none⟩ (.int .i64 x.2)) (some g) := by
  have a := World.ownsRow.stored h (i * 2) (.int .i64 x.1)
  have b := World.ownsRow.stored a.1 (i * 2 + 1) (.int .i64 x.2)
  refine ⟨?_, gb_trans a.2 b.2⟩
  unfold FL
  rw [List.length_set, flat2_set M i x hi]
  exact b.1
theorem flatK_rC (L : List (Int × Int)) : (Go.Sort.flatK rC 2 L.toArray).toList = L.flatMap rC := by
  apply List.ext_getElem?
  intro t
  by_cases ht : t < L.length * 2
  · have h1 : t / 2 < L.length := by omega
    have h2 : t % 2 < 2 := Nat.mod_lt _ (by decide)
    have e := flat2 L (t / 2) (t % 2) h1 h2
    rw [show t / 2 * 2 + t % 2 = t by omega] at e
    rw [e]
    have q : (rC (L.getD (t / 2) rz)).length = 2 := rfl
    simp [Go.Sort.flatK, ht, h1]
    rw [List.getElem?_eq_getElem (by simp [rC]; omega)]
    rfl
  · rw [List.getElem?_eq_none (by simp; omega), List.getElem?_eq_none (by rw [flat2_len]; omega)]
theorem holdsK_own {w : World} {base g cap : Nat} {M : List (Int × Int)} (h : FL w base (.slice (some ⟨g, 0, none⟩) M.length cap) M) : Go.Sort.HoldsK rC 2 w g 0 M.toArray := by
  intro j hj
  have hj : j < M.length * 2 := by simpa using hj
  rw [Nat.zero_add]
  refine ⟨?_, h.frozenAt j⟩
  rw [h.cellAt j hj, ← flatK_rC]
  have hs : j < (Go.Sort.flatK rC 2 M.toArray).size := by simpa using hj
  rw [Array.getElem?_toList, Array.getElem?_eq_getElem hs, getElem!_pos _ j hs]
  rfl
set_option maxRecDepth 100000 in
set_option maxHeartbeats 8000000 in
theorem ksortR_one (w : World) (base g cap : Nat) (M : List (Int × Int)) (ho : FL w base (.slice (some ⟨g, 0, none⟩) M.length cap) M) (h1 : M.length ≤ 1000) (h0 : 0 < M.length) :
    Calls Try.prog 61 #[.slice (some ⟨g, 0, none⟩) M.length cap, .func (.func 62) #[] #[]] w fun e w' => e = .returned (.tuple #[]) ∧ ∃ L : List (Int × Int), L.length = M.length ∧ (∀ x, x ∈ L ↔ x ∈ M) ∧ (∀ i j, i < j → j < L.length → ¬ ltR (L.getD j rz) (L.getD i rz)) ∧ FL w' base (.slice (some ⟨g, 0, none⟩) L.length cap) L ∧ w.grownBy w' (some g) := by
  have lt := (World.ownsRow.lt ho g rfl).2
  have eg : ∀ args w, (callFunc 62 args).run Try.prog w = .ok (.enter 62 args) w := Go.Proofs.enters_of Try.func62 (by kernel_rfl) rfl
  have hcmp : Go.Proofs.CmpLays Try.prog 62 #[] rC 2 cR g 0 M.toArray.size w := fun _ _ _ _ x y => cref_any _ x y
  refine (Go.Proofs.AnyQ.slices_SortFunc sortR 2 Try.isAgg48 Try.sizeOf48 rC (fun _ => rfl) (fun x v hv => rC_one x v hv) cR cR_swo 62 #[] g 0 cap M.toArray w eg hcmp (holdsK_own ho) lt (by simp; omega)).mono ?_
  rintro e w' ⟨rfl, d', n, os, hp, hs, rfl⟩
  obtain ⟨hp1, _, hp3⟩ := hp
  have hd : d'.size = M.length := by simpa using hp1
  obtain ⟨o, k⟩ := sort_own ho (Go.Sort.flatK rC 2 d') (by simp [hd]) n os
  refine ⟨rfl, d'.toList, by simp [hd], fun x => ?_, fun i j hij hj => ?_, ?_, k⟩
  · have q := hp3.mem_iff (a := x)
    rw [show d'.extract 0 M.toArray.size = d' by rw [show M.toArray.size = d'.size by simp [hd]]; simp] at q
    simpa using q
  · have q := hs i j (Nat.zero_le _) hij (by simp [← hd]; simpa using hj)
    rw [cR_lt] at q
    have q := of_decide_eq_false q
    have hj' : j < d'.size := by simpa using hj
    rw [getElem!_pos _ j hj', getElem!_pos _ i (by omega)] at q
    simpa [hj', show i < d'.size by omega] using q
  · have z := o
    have e : (Go.Sort.flatK rC 2 d').toList = d'.toList.flatMap rC := by
      have y := flatK_rC d'.toList
      simpa using y
    rw [e, ← hd] at z
    show World.ownsRow (Go.Sort.grow (Go.Sort.putRow id (Go.Sort.ahead w n) g 0 (Go.Sort.flatK rC 2 d')) os) base 48 2 (.slice (some ⟨g, 0, none⟩) d'.toList.length cap) d'.toList.length (d'.toList.flatMap rC)
    simpa using z
end Go.Proofs.Ytdbjeihbfooipaa
