/- Expr: the laws' join and same; no condition but the lengths. -/
import Derived.Test.YtlbigajhkcnemaaExN
import Derived.Test.YtlbigajhkcnemaaExO
namespace Go.Proofs.Ytlbigajhkcnemaa
open Go.RowKit
set_option linter.unusedVariables false
def ndC (x : Nd) : List Value := [.int .i64 x.1, .int .i64 x.2.1, .int .i64 x.2.2]
/-- A slice of nodes of the call's own. -/
def OL (w : World) (base : Nat) (V : Value) (M : List Nd) : Prop := w.ownsRow base 55 3 V M.length (M.flatMap ndC)
theorem OL.nil (w : World) (base : Nat) : OL w base (.slice none 0 0) [] := World.ownsRow_nil _ _ _ _
theorem OL.keep0 {w w2 : World} {base : Nat} {V : Value} {M : List Nd} (h : OL w base V M) (k : w.grownBy w2 none) : OL w2 base V M := own_keep0 h k
theorem OL.shape {w : World} {base : Nat} {V : Value} {M : List Nd} (h : OL w base V M) : ∃ a c, V = .slice a M.length c := own_shape h
theorem infoNd : (Try.prog.info? 55).map (fun i => (i.zero, i.size, i.bytes)) = some (some (.agg #[.int .i64 0, .int .i64 0, .int .i64 0]), 3, 24) := by kernel_rfl
theorem ndC_one (t : Nd) : ∀ u ∈ ndC t, u.oneCell' = true := by
  intro u hu
  simp only [ndC, List.mem_cons, List.not_mem_nil, or_false] at hu
  rcases hu with rfl | rfl | rfl <;> rfl
theorem nds_one (L : List Nd) : ∀ u ∈ L.flatMap ndC, u.oneCell' = true := by
  intro u hu
  obtain ⟨p, _, h⟩ := List.mem_flatMap.1 hu
  exact ndC_one p u h
theorem ndC_len (M : List Nd) : (M.flatMap ndC).length = M.length * 3 := by
  induction M with
  | nil => rfl
  | cons p L ih => rw [List.flatMap_cons, List.length_append, ih, List.length_cons]; show 3 + _ = _; omega
theorem ndC_at (L : List Nd) (j : Nat) (h : j < L.length) : (L.flatMap ndC)[j * 3]? = some (.int .i64 (L.getD j nz).1) ∧ (L.flatMap ndC)[j * 3 + 1]? = some (.int .i64 (L.getD j nz).2.1) ∧ (L.flatMap ndC)[j * 3 + 2]? = some (.int .i64 (L.getD j nz).2.2) := by
  induction L generalizing j with
  | nil => simp at h
  | cons t s ih =>
    cases j with
    | zero => simp [ndC]
    | succ j =>
      have e1 : (j + 1) * 3 = j * 3 + 3 := by omega
      have e2 : (j + 1) * 3 + 1 = (j * 3 + 1) + 3 := by omega
      have e3 : (j + 1) * 3 + 2 = (j * 3 + 2) + 3 := by omega
      have k := ih j (by simpa using h)
      rw [List.flatMap_cons, e2, e3, e1]
      simpa [ndC] using k
theorem sn_flat {w : World} {ad : Addr} {n c : Nat} {L : List Nd} (h : SN w (some ad) n c L) : ∀ j u, (L.flatMap ndC)[j]? = some u → w.cell? (ad.add j) = some u := by
  intro j u hu
  have hj : j < n * 3 := by
    have := (List.getElem?_eq_some_iff.1 hu).1
    rwa [ndC_len, h.len] at this
  obtain ⟨c1, c2, c3⟩ := h.cells ad rfl (j / 3) (by omega)
  obtain ⟨k1, k2, k3⟩ := ndC_at L (j / 3) (by rw [h.len]; omega)
  rw [add_nextR] at c2
  have a2 : (⟨(ad.add (j / 3 * 3)).block, (ad.add (j / 3 * 3)).off + 2, none⟩ : Addr) = ad.add (j / 3 * 3 + 2) := by rw [← Addr.add_add]; rfl
  rw [a2] at c3
  rcases (show j % 3 = 0 ∨ j % 3 = 1 ∨ j % 3 = 2 by omega) with e | e | e
  · have e2 : j / 3 * 3 = j := by omega
    rw [e2] at c1 k1
    rw [c1, ← hu, k1]
  · have e2 : j / 3 * 3 + 1 = j := by omega
    rw [e2] at c2 k2
    rw [c2, ← hu, k2]
  · have e2 : j / 3 * 3 + 2 = j := by omega
    rw [e2] at c3 k3
    rw [c3, ← hu, k3]
theorem pushNds {w : World} {ops : Array Oper} {rest : List Oper} {o : Oper} {a : Act} {Q : Exit → Act → World → Prop} (hgd : o.guard = none) (s x : Operand)
    (ho : o.op = .call { callee := .builtin .append, args := #[s, x], argTypes := #[32, 32] }) (base : Nat) (V : Value) (M : List Nd) (hs : a.eval s = V) (hown : OL w base V M)
    (ad : Option Addr) (m c : Nat) (L : List Nd) (hx : a.eval x = .slice ad m c) (hL : SN w ad m c L) (hlen : M.length + L.length ≤ 1000000) (hbase : base ≤ w.heap.size)
    (h : ∀ V' w', OL w' base V' (M ++ L) → w.grownBy w' V.ownBlock → wpList Try.prog ops Q rest (a.put o.dst V') w') : wpList Try.prog ops Q (o :: rest) a w := by
  obtain ⟨i0, hi, hz0, hz1, hz2⟩ := info_parts infoNd
  have hl := hL.len
  subst hl
  cases ad with
  | none =>
    obtain ⟨h0, rfl⟩ := hL.nil rfl
    have hm : L = [] := List.length_eq_zero_iff.1 h0
    subst hm
    refine wpList_append_own_none hgd s x 32 ho base 55 i0 3 Try.underlying32 hi V M.length (M.flatMap ndC) hs hown hx ?_
    refine h V w (by simpa using hown) ?_
    cases V.ownBlock <;> exact gb_refl _ _
  | some ad =>
    refine wpList_append_own w hgd s x 32 ho base 55 i0 _ 3 24 Try.underlying32 hi hz0 hz1 hz2 rfl (by decide) V M.length (M.flatMap ndC) hs hown ad L.length c (L.flatMap ndC) hx (ndC_len L) (sn_flat hL) (nds_one L) (by unfold maxLen; omega) (by omega) hbase ?_
    intro V' w' h1 h2 h3
    refine h V' w' ?_ h2
    unfold OL
    rw [List.flatMap_append, List.length_append]
    exact h1
theorem OL.at_ {w : World} {base g c : Nat} {L : List Nd} (h : OL w base (.slice (some ⟨g, 0, none⟩) L.length c) L) (j : Nat) (hj : j < L.length) :
    w.cell? ⟨g, j * 3, none⟩ = some (.int .i64 (L.getD j nz).1) ∧ w.cell? ⟨g, j * 3 + 1, none⟩ = some (.int .i64 (L.getD j nz).2.1) ∧ w.cell? ⟨g, j * 3 + 2, none⟩ = some (.int .i64 (L.getD j nz).2.2) := by
  obtain ⟨k1, k2, k3⟩ := ndC_at L j hj
  have hl := ndC_len L
  refine ⟨?_, ?_, ?_⟩
  · rw [World.ownsRow.cellAt h (j * 3) (by omega), k1]
  · rw [World.ownsRow.cellAt h (j * 3 + 1) (by omega), k2]
  · rw [World.ownsRow.cellAt h (j * 3 + 2) (by omega), k3]
theorem sn_own {w : World} {base c : Nat} {a : Option Addr} {L : List Nd} (h : OL w base (.slice a L.length c) L) (hr : ∀ x ∈ L, -9223372036854775808 ≤ x.2.1 ∧ x.2.1 ≤ 9223372036854775807) : SN w a L.length c L := by
  refine ⟨rfl, ?_, own_cap h, ?_, hr⟩
  · intro ha
    subst ha
    rcases h.2 with ⟨k, h0⟩ | ⟨g, cap, cur, k, _⟩
    · injection k with _ _ kc; exact ⟨h0, kc⟩
    · injection k with k; cases k
  · intro ad ha j hj
    subst ha
    obtain ⟨g, d, hV⟩ := own_head h (by omega)
    injection hV with hV1 hV2 hV3
    injection hV1 with hV1
    subst hV1
    obtain ⟨k1, k2, k3⟩ := OL.at_ h j hj
    rw [addR0]
    exact ⟨k1, k2, k3⟩
theorem sn_nil (w : World) : SN w none 0 0 [] := ⟨rfl, fun _ => ⟨rfl, rfl⟩, Nat.le_refl _, (fun ad e => by cases e), (fun x hx => by cases hx)⟩
set_option maxRecDepth 100000 in
set_option maxHeartbeats 4000000 in
theorem join_any (w : World) (a b d : Option Addr) (n c m e l f : Nat) (A B D : List Nd) (hA : SN w a n c A) (hB : SN w b m e B) (hD : SN w d l f D) (h1 : n ≤ 1000) (h2 : m ≤ 1000) (h3 : l ≤ 1000) :
    Calls Try.prog 11 #[.slice a n c, .slice b m e, .slice d l f] w (fun en w' => ∃ ra rc, en = .returned (.slice ra (A ++ (B ++ D)).length rc) ∧ SN w' ra (A ++ (B ++ D)).length rc (A ++ (B ++ D)) ∧ w.grownBy w' none) := by
  have HA := Lib.hid hA
  have HB := Lib.hid hB
  have HD := Lib.hid hD
  have LA := hA.len
  have LB := hB.len
  have LD := hD.len
  have RG := Lib.hid (show ∀ x ∈ A ++ (B ++ D), -9223372036854775808 ≤ x.2.1 ∧ x.2.1 ≤ 9223372036854775807 from fun x hx => by
    rcases List.mem_append.1 hx with hx | hx
    · exact hA.rng x hx
    · rcases List.mem_append.1 hx with hx | hx
      · exact hB.rng x hx
      · exact hD.rng x hx)
  have g1 := Lib.hid (show A.length ≤ 1000 by omega)
  have g2 := Lib.hid (show B.length ≤ 1000 by omega)
  have g3 := Lib.hid (show D.length ≤ 1000 by omega)
  clear hA hB hD LA LB LD
  go_enter Try.func11, Try.ntmps11
  go_wp2_with (at_builtin; refine pushNds rfl _ _ rfl w.heap.size _ [] rfl (OL.nil _ _) a n c A rfl HA.out (by have := g1.out; simp; omega) (Nat.le_refl _) ?_)
  intro V1 w1 o1 k1
  have o1 : OL w1 w.heap.size V1 A := o1
  have G1 := Lib.hid (show w.grownBy w1 none from k1)
  have O1 := Lib.hid o1
  clear o1 k1
  go_wp2_with (at_builtin; refine pushNds rfl _ _ rfl w.heap.size _ A rfl O1.out b m e B rfl (HB.out.keep0 G1.out) (by have := g1.out; have := g2.out; omega) G1.out.size ?_)
  intro V2 w2 o2 k2
  have G2 := Lib.hid (gb_own G1.out O1.out (Nat.le_refl _) k2)
  have O2 := Lib.hid o2
  clear o2 k2
  go_wp2_with (at_builtin; refine pushNds rfl _ _ rfl w.heap.size _ (A ++ B) rfl O2.out d l f D rfl (HD.out.keep0 G2.out) (by have := g1.out; have := g2.out; have := g3.out; rw [List.length_append]; omega) G2.out.size ?_)
  intro V3 w3 o3 k3
  have G3 := Lib.hid (gb_own G2.out O2.out (Nat.le_refl _) k3)
  have o3 : OL w3 w.heap.size V3 (A ++ (B ++ D)) := by first | exact o3 | (rw [← List.append_assoc]; exact o3)
  obtain ⟨ra, rc, rfl⟩ := o3.shape
  have S3 := Lib.hid (sn_own o3 RG.out)
  clear o3 k3
  go_wp2
  go_ret
  exact ⟨_, _, rfl, S3.out, G3.out⟩
end Go.Proofs.Ytlbigajhkcnemaa
