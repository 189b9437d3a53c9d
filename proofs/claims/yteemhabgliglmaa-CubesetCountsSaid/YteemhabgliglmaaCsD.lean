/- Cubeset: a row of cubes appended whole; the reference's step, Union, lowBits. -/
import Derived.Test.YteemhabgliglmaaCsC
import Derived.Test.YteemhabgliglmaaTeV
namespace Go.Proofs.Yteemhabgliglmaa
open Go.RowKit
set_option linter.unusedVariables false

theorem addr0 (g j : Nat) : ((⟨g, 0, none⟩ : Addr).add j) = ⟨g, j, none⟩ := by unfold Addr.add; split <;> simp_all
theorem add_next (ad : Addr) (k : Nat) : (⟨(ad.add k).block, (ad.add k).off + 1, none⟩ : Addr) = ad.add (k + 1) := by
  rw [← Addr.add_add]
  rfl
theorem sc_flat {w : World} {ad : Addr} {n c : Nat} {L : List (Nat × Nat)} (h : SC w (some ad) n c L) : ∀ j u, (L.flatMap cubeC)[j]? = some u → w.cell? (ad.add j) = some u := by
  intro j u hu
  have hj : j < n * 2 := by
    have := (List.getElem?_eq_some_iff.1 hu).1
    rwa [cubeC_len, h.len] at this
  obtain ⟨c1, c2⟩ := h.cells ad rfl (j / 2) (by omega)
  obtain ⟨k1, k2⟩ := cubeC_at L (j / 2) (by rw [h.len]; omega)
  rw [add_next] at c2
  rcases Nat.mod_two_eq_zero_or_one j with e | e
  · have e2 : j / 2 * 2 = j := by omega
    rw [e2] at c1 k1
    rw [c1, ← hu, k1]
  · have e2 : j / 2 * 2 + 1 = j := by omega
    rw [e2] at c2 k2
    rw [c2, ← hu, k2]
theorem flat_one (L : List (Nat × Nat)) : ∀ u ∈ L.flatMap cubeC, u.oneCell' = true := by
  intro u hu
  obtain ⟨p, _, h⟩ := List.mem_flatMap.1 hu
  exact cubeC_one p u h
theorem pushAll {w : World} {ops : Array Oper} {rest : List Oper} {o : Oper} {a : Act} {Q : Exit → Act → World → Prop} (hgd : o.guard = none) (s x : Operand)
    (ho : o.op = .call { callee := .builtin .append, args := #[s, x], argTypes := #[22, 22] }) (base : Nat) (V : Value) (M : List (Nat × Nat)) (hs : a.eval s = V) (hown : CLs w base V M)
    (ad : Option Addr) (m c : Nat) (L : List (Nat × Nat)) (hx : a.eval x = .slice ad m c) (hL : SC w ad m c L) (hlen : M.length + L.length ≤ 1000000) (hbase : base ≤ w.heap.size)
    (h : ∀ V' w', CLs w' base V' (M ++ L) → w.grownBy w' V.ownBlock → wpList Try.prog ops Q rest (a.put o.dst V') w') : wpList Try.prog ops Q (o :: rest) a w := by
  obtain ⟨i0, hi, hz0, hz1, hz2⟩ := info_parts infoCube
  have hl := hL.len
  subst hl
  cases ad with
  | none =>
    obtain ⟨h0, rfl⟩ := hL.nil rfl
    have hm : L = [] := List.length_eq_zero_iff.1 h0
    subst hm
    refine wpList_append_own_none hgd s x 22 ho base 49 i0 2 Try.underlying22 hi V M.length (M.flatMap cubeC) hs hown hx ?_
    refine h V w (by simpa using hown) ?_
    cases V.ownBlock <;> exact gb_refl _ _
  | some ad =>
    refine wpList_append_own w hgd s x 22 ho base 49 i0 _ 2 16 Try.underlying22 hi hz0 hz1 hz2 rfl (by decide) V M.length (M.flatMap cubeC) hs hown ad L.length c (L.flatMap cubeC) hx (cubeC_len L) (sc_flat hL) (flat_one L) (by unfold maxLen; omega) (by omega) hbase ?_
    intro V' w' h1 h2 h3
    refine h V' w' ?_ h2
    unfold CLs
    rw [List.flatMap_append, List.length_append]
    exact h1
theorem sc_own {w : World} {base c : Nat} {a : Option Addr} {L : List (Nat × Nat)} (h : CLs w base (.slice a L.length c) L) (wf : ∀ p ∈ L, B64 p.1 ∧ B64 p.2) : SC w a L.length c L := by
  refine ⟨rfl, ?_, own_cap h, ?_, wf⟩
  · intro ha
    subst ha
    rcases h.2 with ⟨k, h0⟩ | ⟨g, cap, cur, k, _⟩
    · injection k with _ _ kc; exact ⟨h0, kc⟩
    · injection k with k; cases k
  · intro ad ha j hj
    subst ha
    obtain ⟨g, d, hV⟩ := CLs.head h (by omega)
    injection hV with hV1 hV2 hV3
    injection hV1 with hV1
    subst hV1
    obtain ⟨k1, k2⟩ := CLs.at_ h j hj
    rw [add_next, addr0, addr0]
    exact ⟨k1, k2⟩
def stepE (L : List (Nat × Nat)) : Int := if 1024 < (simpL L).length then 12 else 0
def stepL (L : List (Nat × Nat)) : List (Nat × Nat) := if 1024 < (simpL L).length then [] else simpL L
/-- A returned list of cubes with an error. -/
def RetCE (L : List (Nat × Nat)) (er : Int) (w : World) (e : Ending) (w' : World) : Prop := ∃ V, e = .returned (.tuple #[V, .int .i64 er]) ∧ CLs w' w.heap.size V L ∧ w.grownBy w' none
set_option maxRecDepth 100000 in
theorem step_any (w : World) (a : Option Addr) (n c : Nat) (L : List (Nat × Nat)) (h : SC w a n c L) (hn : n ≤ 100000) : Calls Try.prog 38 #[.slice a n c] w (RetCE (stepL L) (stepE L) w) := by
  have SI := Lib.hid (rsimp_any w a n c L h hn)
  have hl : (simpL L).length ≤ 100000 := Nat.le_trans (keptT_len L L.length) (by rw [h.len]; exact hn)
  unfold stepL stepE
  generalize simpL L = M at *
  clear h
  by_cases hm : 1024 < M.length
  · rw [if_pos hm, if_pos hm]
    have i1 : (1024 : Int) < M.length := by omega
    go_enter Try.func38, Try.ntmps38
    go_wp2_with fail
    refine SI.out.mono ?_
    rintro e w1 ⟨V, rfl, o1, g1⟩
    obtain ⟨va, vc, rfl⟩ := o1.shape
    go_wp2
    go_ret2
    exact ⟨_, rfl, CLs.nil _ _, g1⟩
  · rw [if_neg hm, if_neg hm]
    have i1 : ¬ (1024 : Int) < M.length := by omega
    go_enter Try.func38, Try.ntmps38
    go_wp2_with fail
    refine SI.out.mono ?_
    rintro e w1 ⟨V, rfl, o1, g1⟩
    obtain ⟨va, vc, rfl⟩ := o1.shape
    go_wp2
    go_ret2
    exact ⟨_, rfl, o1, g1⟩
end Go.Proofs.Yteemhabgliglmaa
