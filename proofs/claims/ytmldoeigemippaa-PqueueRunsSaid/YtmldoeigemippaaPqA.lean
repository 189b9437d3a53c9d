/- The queue's items in memory, by codes: a code holds the key and the turn; precedes, swap. -/
import Derived.Test.YtmldoeigemippaaMem
import Derived.Deep.RegionHeld3
namespace Go.Proofs.Ytmldoeigemippaa
open Go.RowKit
set_option linter.unusedVariables false

def RetV (v : Value) (w : World) (e : Ending) (w' : World) : Prop := e = .returned v ∧ w.grownBy w' none
/-- The key and the turn of a code. -/
def kC (c : Int) : Int := c / 18446744073709551616
def tC (c : Int) : Int := c % 18446744073709551616
theorem code_lt (c d : Int) : c < d ↔ kC c < kC d ∨ (kC c = kC d ∧ tC c < tC d) := by unfold kC tC; omega
theorem code_eq (c d : Int) : c = d ↔ kC c = kC d ∧ tC c = tC d := by unfold kC tC; omega
/-- The cells of the item with code c; E: the element of a turn. -/
def itC (E : Int → Int) (c : Int) : List Value := [.int .i64 (kC c), .int .u64 (tC c), .int .i64 (E (tC c))]
theorem itC_one (E : Int → Int) (c : Int) : ∀ u ∈ itC E c, u.oneCell' = true := by
  intro u hu
  simp only [itC, List.mem_cons, List.not_mem_nil, or_false] at hu
  rcases hu with rfl | rfl | rfl <;> rfl
/-- A slice of items that the call owns. -/
def PL (w : World) (base : Nat) (V : Value) (E : Int → Int) (L : List Int) : Prop := w.ownsRow base 65 3 V L.length (L.flatMap (itC E))
theorem PL.nil (w : World) (base : Nat) (E : Int → Int) : PL w base (.slice none 0 0) E [] := World.ownsRow_nil _ _ _ _
theorem PL.keep0 {w w2 : World} {base : Nat} {V : Value} {E : Int → Int} {L : List Int} (h : PL w base V E L) (k : w.grownBy w2 none) : PL w2 base V E L := own_keep0 h k
theorem PL.shape {w : World} {base : Nat} {V : Value} {E : Int → Int} {L : List Int} (h : PL w base V E L) : ∃ a c, V = .slice a L.length c := own_shape h
theorem it_len (E : Int → Int) (L : List Int) : (L.flatMap (itC E)).length = L.length * 3 := by
  induction L with
  | nil => rfl
  | cons t s ih => rw [List.flatMap_cons, List.length_append, ih]; simp [itC]; omega
theorem it_at (E : Int → Int) (L : List Int) (j : Nat) (h : j < L.length) : (L.flatMap (itC E))[j * 3]? = some (.int .i64 (kC (L.getD j 0))) ∧ (L.flatMap (itC E))[j * 3 + 1]? = some (.int .u64 (tC (L.getD j 0))) ∧ (L.flatMap (itC E))[j * 3 + 2]? = some (.int .i64 (E (tC (L.getD j 0)))) := by
  induction L generalizing j with
  | nil => simp at h
  | cons t s ih =>
    cases j with
    | zero => simp [itC]
    | succ j =>
      have e0 : (j + 1) * 3 = j * 3 + 3 := by omega
      have e1 : (j + 1) * 3 + 1 = (j * 3 + 1) + 3 := by omega
      have e2 : (j + 1) * 3 + 2 = (j * 3 + 2) + 3 := by omega
      have k := ih j (by simpa using h)
      rw [List.flatMap_cons, e2, e1, e0]
      simpa [itC] using k
theorem it_set (E : Int → Int) (L : List Int) (p : Nat) (c : Int) : (((L.flatMap (itC E)).set (p * 3) (.int .i64 (kC c))).set (p * 3 + 1) (.int .u64 (tC c))).set (p * 3 + 2) (.int .i64 (E (tC c))) = (L.set p c).flatMap (itC E) := by
  induction L generalizing p with
  | nil => simp
  | cons t s ih =>
    cases p with
    | zero => simp [itC]
    | succ p =>
      have e0 : (p + 1) * 3 = p * 3 + 3 := by omega
      have e1 : (p + 1) * 3 + 1 = (p * 3 + 1) + 3 := by omega
      have e2 : (p + 1) * 3 + 2 = (p * 3 + 2) + 3 := by omega
      rw [List.set_cons_succ, List.flatMap_cons, List.flatMap_cons, ← ih p, e2, e1, e0]
      simp [itC]
theorem PL.put {w : World} {base g n c : Nat} {E : Int → Int} {L : List Int} (h : PL w base (.slice (some ⟨g, 0, none⟩) n c) E L) (hn : n = L.length) (p : Nat) (v : Int) :
    PL (((w.setCell ⟨g, p * 3, none⟩ (.int .i64 (kC v))).setCell ⟨g, p * 3 + 1, none⟩ (.int .u64 (tC v))).setCell ⟨g, p * 3 + 2, none⟩ (.int .i64 (E (tC v)))) base (.slice (some ⟨g, 0, none⟩) n c) E (L.set p v) := by
  subst hn
  have k1 := (World.ownsRow.stored h (p * 3) (.int .i64 (kC v))).1
  have k2 := (World.ownsRow.stored k1 (p * 3 + 1) (.int .u64 (tC v))).1
  have k3 := (World.ownsRow.stored k2 (p * 3 + 2) (.int .i64 (E (tC v)))).1
  unfold PL
  rw [← it_set, List.length_set]
  exact k3
theorem PL.free {w : World} {base g n c : Nat} {E : Int → Int} {L : List Int} (h : PL w base (.slice (some ⟨g, 0, none⟩) n c) E L) (hn : n = L.length) (p : Nat) : w.frozen? ⟨g, p, none⟩ = false := by
  subst hn
  obtain ⟨cs, hb⟩ := own_blk h
  exact hb.free p
theorem PL.at_ {w : World} {base g n c : Nat} {E : Int → Int} {L : List Int} (h : PL w base (.slice (some ⟨g, 0, none⟩) n c) E L) (hn : n = L.length) (p : Nat) (hp : p < L.length) :
    w.cell? ⟨g, p * 3, none⟩ = some (.int .i64 (kC (L.getD p 0))) ∧ w.cell? ⟨g, p * 3 + 1, none⟩ = some (.int .u64 (tC (L.getD p 0))) ∧ w.cell? ⟨g, p * 3 + 2, none⟩ = some (.int .i64 (E (tC (L.getD p 0)))) := by
  subst hn
  obtain ⟨k1, k2, k3⟩ := it_at E L p hp
  refine ⟨?_, ?_, ?_⟩
  · rw [World.ownsRow.cellAt h (p * 3) (by omega), k1]
  · rw [World.ownsRow.cellAt h (p * 3 + 1) (by omega), k2]
  · rw [World.ownsRow.cellAt h (p * 3 + 2) (by omega), k3]
theorem PL.headn {w : World} {base n : Nat} {V : Value} {E : Int → Int} {L : List Int} (h : PL w base V E L) (hn : n = L.length) (hp : 0 < n) : ∃ g c, V = .slice (some ⟨g, 0, none⟩) n c := by subst hn; exact own_head h hp
theorem infoItem : (Try.prog.info? 65).map (fun i => (i.zero, i.size, i.bytes)) = some (some (.agg #[.int .i64 0, .int .u64 0, .int .i64 0]), 3, 24) := by kernel_rfl
set_option maxRecDepth 100000 in
theorem prec_any (w : World) (k t e k2 t2 e2 : Int) : Calls Try.prog 25 #[.agg #[.int .i64 k, .int .u64 t, .int .i64 e], .agg #[.int .i64 k2, .int .u64 t2, .int .i64 e2]] w (RetV (.bool (if k = k2 then decide (t < t2) else decide (k < k2))) w) := by
  by_cases h : k = k2
  · subst h
    rw [if_pos rfl]
    have d1 : (k != k) = false := by simp
    go_enter Try.func25, Try.ntmps25
    go_wp2
    go_ret
    exact ⟨rfl, gb_trans (gb_alloc _ _ none) (gb_alloc _ _ none)⟩
  · rw [if_neg h]
    have d1 : (k != k2) = true := by rw [bne_iff_ne]; exact h
    go_enter Try.func25, Try.ntmps25
    go_wp2
    go_ret
    exact ⟨rfl, gb_trans (gb_alloc _ _ none) (gb_alloc _ _ none)⟩
theorem prec_code (w : World) (E : Int → Int) (c d : Int) : Calls Try.prog 25 #[.agg #[.int .i64 (kC c), .int .u64 (tC c), .int .i64 (E (tC c))], .agg #[.int .i64 (kC d), .int .u64 (tC d), .int .i64 (E (tC d))]] w (RetV (.bool (decide (c < d))) w) := by
  have k := prec_any w (kC c) (tC c) (E (tC c)) (kC d) (tC d) (E (tC d))
  have e : (if kC c = kC d then decide (tC c < tC d) else decide (kC c < kC d)) = decide (c < d) := by
    split
    · rename_i h
      rw [decide_eq_decide, code_lt c d]
      omega
    · rename_i h
      rw [decide_eq_decide, code_lt c d]
      omega
  rwa [e] at k
/-- Two numbers exchanged. -/
def swapL (H : List Int) (i j : Nat) : List Int := (H.set i (H.getD j 0)).set j (H.getD i 0)
set_option maxRecDepth 100000 in
set_option maxHeartbeats 4000000 in
theorem swap_any (w : World) (base b n c : Nat) (E : Int → Int) (H : List Int) (i j : Nat) (h : PL w base (.slice (some ⟨b, 0, none⟩) n c) E H) (hl : n = H.length) (hi : i < n) (hj : j < n) (hij : i ≠ j) :
    Calls Try.prog 26 #[.slice (some ⟨b, 0, none⟩) n c, .int .i64 i, .int .i64 j] w fun e w' => e = .returned (.tuple #[]) ∧ PL w' base (.slice (some ⟨b, 0, none⟩) n c) E (swapL H i j) ∧ w.grownBy w' (some b) := by
  obtain ⟨ci, ci1, ci2⟩ := h.at_ hl i (by omega)
  obtain ⟨cj, cj1, cj2⟩ := h.at_ hl j (by omega)
  have fi := h.free hl (i * 3)
  have fi1 := h.free hl (i * 3 + 1)
  have fi2 := h.free hl (i * 3 + 2)
  have fj := h.free hl (j * 3)
  have fj1 := h.free hl (j * 3 + 1)
  have fj2 := h.free hl (j * 3 + 2)
  have ii : (i : Int) < n := by omega
  have ij : (j : Int) < n := by omega
  have P := Lib.hid ((h.put hl i (H.getD j 0)).put (by simp [hl]) j (H.getD i 0))
  obtain ⟨x, hx⟩ : ∃ x, x = H.getD i 0 := ⟨_, rfl⟩
  obtain ⟨y, hy⟩ : ∃ y, y = H.getD j 0 := ⟨_, rfl⟩
  have HS := Lib.hid (show (H.set i y).set j x = swapL H i j by rw [hx, hy]; rfl)
  rw [← hx] at ci ci1 ci2 P
  rw [← hy] at cj cj1 cj2 P
  clear h hx hy
  go_enter Try.func26, Try.ntmps26
  go_region
  all_goals (try go_wp2)
  all_goals go_end0
  all_goals first
    | exact ⟨rfl, by rw [← HS.out]; exact P.out.keep0 (gb_drew _ none), gb_trans (gb_trans (gb_trans (gb_trans (gb_trans (gb_trans (gb_set _ _ _ _) (gb_set _ _ _ _)) (gb_set _ _ _ _)) (gb_set _ _ _ _)) (gb_set _ _ _ _)) (gb_set _ _ _ _)) (gb_drew _ _)⟩
    | exact ⟨rfl, by rw [← HS.out]; exact P.out, gb_trans (gb_trans (gb_trans (gb_trans (gb_trans (gb_set _ _ _ _) (gb_set _ _ _ _)) (gb_set _ _ _ _)) (gb_set _ _ _ _)) (gb_set _ _ _ _)) (gb_set _ _ _ _)⟩
end Go.Proofs.Ytmldoeigemippaa
