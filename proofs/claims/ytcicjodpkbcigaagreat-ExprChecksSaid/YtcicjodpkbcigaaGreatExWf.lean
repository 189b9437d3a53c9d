/- Expr: the reference's evaluation; no condition but that the nodes are few. -/
import Derived.Test.YtcicjodpkbcigaaGreatExWe
import Derived.Test.YtcicjodpkbcigaaGreatExWd
namespace Go.Proofs.YtcicjodpkbcigaaGreat
open Go.RowKit
set_option linter.unusedVariables false
/-- A value of the reference: a term, and where it ends. -/
def vC (p : Tm × Nat) : List Value := [.int .u32 p.1.2, .int .i64 p.1.1, .int .i64 (p.2 : Int)]
def vz : Tm × Nat := (tz, 0)
/-- Values of the call's own. -/
def VL (w : World) (base : Nat) (V : Value) (M : List (Tm × Nat)) : Prop := w.ownsRow base 91 3 V M.length (M.flatMap vC)
theorem VL.nil (w : World) (base : Nat) : VL w base (.slice none 0 0) [] := World.ownsRow_nil _ _ _ _
theorem VL.keep0 {w w2 : World} {base : Nat} {V : Value} {M : List (Tm × Nat)} (h : VL w base V M) (k : w.grownBy w2 none) : VL w2 base V M := own_keep0 h k
theorem VL.shape {w : World} {base : Nat} {V : Value} {M : List (Tm × Nat)} (h : VL w base V M) : ∃ a c, V = .slice a M.length c := own_shape h
theorem vC_one (p : Tm × Nat) : ∀ u ∈ vC p, u.oneCell' = true := by intro u hu; simp [vC] at hu; rcases hu with rfl | rfl | rfl <;> rfl
theorem flat3 (M : List (Tm × Nat)) : ∀ (i r : Nat), i < M.length → r < 3 → (M.flatMap vC)[i * 3 + r]? = (vC (M.getD i vz))[r]? := by
  induction M with
  | nil => intro i r h; cases h
  | cons p M ih =>
    intro i r h hr
    rw [List.flatMap_cons]
    cases i with
    | zero =>
      rw [Nat.zero_mul, Nat.zero_add, List.getElem?_append_left (by simpa [vC] using hr)]
      rfl
    | succ i =>
      rw [List.getElem?_append_right (by simp [vC]; omega)]
      have e : (i + 1) * 3 + r - (vC p).length = i * 3 + r := by simp [vC]; omega
      rw [e, ih i r (by simpa using h) hr]
      rfl
theorem flat3_len (M : List (Tm × Nat)) : (M.flatMap vC).length = M.length * 3 := by
  induction M with
  | nil => rfl
  | cons p M ih => rw [List.flatMap_cons, List.length_append, ih]; simp [vC]; omega
theorem VL.at_ {w : World} {base g c : Nat} {M : List (Tm × Nat)} (h : VL w base (.slice (some ⟨g, 0, none⟩) M.length c) M) (i : Nat) (hi : i < M.length) : w.cell? ⟨g, i * 3, none⟩ = some (.int .u32 (M.getD i vz).1.2) ∧ w.cell? ⟨g, i * 3 + 1, none⟩ = some (.int .i64 (M.getD i vz).1.1) := by
  have a := h.cellAt (i * 3) (by omega)
  have b := h.cellAt (i * 3 + 1) (by omega)
  have fa := flat3 M i 0 hi (by decide)
  have fb := flat3 M i 1 hi (by decide)
  have la : i * 3 < (M.flatMap vC).length := by rw [flat3_len]; omega
  have lb : i * 3 + 1 < (M.flatMap vC).length := by rw [flat3_len]; omega
  rw [Nat.add_zero] at fa
  refine ⟨a.trans ?_, b.trans ?_⟩
  · first
      | exact fa
      | (rw [List.getD_eq_getElem?_getD, fa]; rfl)
  · first
      | exact fb
      | (rw [List.getD_eq_getElem?_getD, fb]; rfl)
theorem infoVal : (Tryz.prog.info? 91).map (fun i => (i.zero, i.size, i.bytes)) = some (some (.agg #[.int .u32 0, .int .i64 0, .int .i64 0]), 3, 24) := by kernel_rfl
theorem pushVal {w : World} {ops : Array Oper} {rest : List Oper} {o : Oper} {a : Act} {Q : Exit → Act → World → Prop} (hgd : o.guard = none) (s x : Operand)
    (ho : o.op = .call { callee := .builtin .append, args := #[s, x], argTypes := #[107, 107] }) (base : Nat) (V : Value) (M : List (Tm × Nat)) (hs : a.eval s = V) (hown : VL w base V M)
    (ad : Addr) (c : Nat) (p : Tm × Nat) (hx : a.eval x = .slice (some ad) 1 c) (hT : ∀ j u, (vC p)[j]? = some u → w.cell? (ad.add j) = some u) (hlen : M.length ≤ 1000000) (hbase : base ≤ w.heap.size)
    (h : ∀ V' w', VL w' base V' (M ++ [p]) → w.grownBy w' V.ownBlock → wpList Tryz.prog ops Q rest (a.put o.dst V') w') : wpList Tryz.prog ops Q (o :: rest) a w := by
  obtain ⟨i0, hi, hz0, hz1, hz2⟩ := info_parts infoVal
  refine wpList_append_own w hgd s x 107 ho base 91 i0 _ 3 24 Tryz.underlying107 hi hz0 hz1 hz2 rfl (by decide) V M.length (M.flatMap vC) hs hown ad 1 c (vC p) hx rfl hT (vC_one p) (by unfold maxLen; omega) (by omega) hbase ?_
  intro V' w' h1 h2 h3
  refine h V' w' ?_ h2
  unfold VL
  rw [List.flatMap_append, List.length_append]
  simpa using h1
theorem three_cell (w : World) (t : TypeId) (g : Nat) (p : Tm × Nat) (h : IsB w g t #[.int .u32 p.1.2, .int .i64 p.1.1, .int .i64 (p.2 : Int)]) : ∀ j u, (vC p)[j]? = some u → w.cell? ((⟨g, 0, none⟩ : Addr).add j) = some u := by
  intro j u hj
  have e : ((⟨g, 0, none⟩ : Addr).add j) = ⟨g, j, none⟩ := by unfold Addr.add; split <;> simp_all
  rw [e, h.cell j, ← hj]
  simp [vC]
theorem many_nth {C : Cx} {f : Nat} : ∀ {k : Nat} {l : List Nd} {ts : List Tm} {l2 : List Nd}, manyT (subT C f) (k + 1) l = .ok (ts, l2) → ∃ (us : List Tm) (l1 : List Nd) (t : Tm), manyT (subT C f) k l = .ok (us, l1) ∧ subT C f l1 = .ok (t, l2) ∧ ts = us ++ [t] := by
  intro k l ts l2 h
  unfold manyT at h
  split at h
  · cases h
  · rename_i us l1 h1
    split at h
    · cases h
    · rename_i t l3 h2
      injection h with h
      injection h with ha hb
      subst ha hb
      exact ⟨us, l1, t, h1, h2, rfl⟩
/-- Fewer operands of those that are all right are all right. -/
theorem many_less {C : Cx} {f : Nat} : ∀ (n : Nat) {l : List Nd} {ts : List Tm} {l2 : List Nd}, manyT (subT C f) n l = .ok (ts, l2) → ∀ k, k < n → ∃ (us : List Tm) (l1 : List Nd) (t : Tm) (l3 : List Nd), manyT (subT C f) k l = .ok (us, l1) ∧ subT C f l1 = .ok (t, l3) := by
  intro n
  induction n with
  | zero => intro l ts l2 h k hk; omega
  | succ n ih =>
    intro l ts l2 h k hk
    obtain ⟨us, l1, t, h1, h2, _⟩ := many_nth h
    rcases (show k < n ∨ k = n by omega) with q | rfl
    · exact ih h1 k q
    · exact ⟨us, l1, t, l2, h1, h2⟩
def RetEv (t : Tm) (l : List Nd) (w : World) (N : List Nd) (e : Ending) (w' : World) : Prop := w.grownBy w' none ∧ ∃ k2 : Nat, k2 ≤ N.length ∧ l = N.drop k2 ∧ e = .returned (.agg #[.int .u32 t.2, .int .i64 t.1, .int .i64 (k2 : Int)])
theorem put3 {w : World} {b : Nat} {t : TypeId} {z0 z1 z2 : Value} (h : IsB w b t #[z0, z1, z2]) (a0 a1 a2 : Value) : IsB (((w.setCell ⟨b, 0, none⟩ a0).setCell ⟨b, 1, none⟩ a1).setCell ⟨b, 2, none⟩ a2) b t #[a0, a1, a2] := by
  have h0 : IsB (w.setCell ⟨b, 0, none⟩ a0) b t #[a0, z1, z2] := h.set 0 a0
  have h1 : IsB ((w.setCell ⟨b, 0, none⟩ a0).setCell ⟨b, 1, none⟩ a1) b t #[a0, a1, z2] := h0.set 1 a1
  exact h1.set 2 a2
end Go.Proofs.YtcicjodpkbcigaaGreat
