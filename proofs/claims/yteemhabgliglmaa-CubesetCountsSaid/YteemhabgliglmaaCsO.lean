/- Cubeset: canonical. -/
import Derived.Test.YteemhabgliglmaaCsN
namespace Go.Proofs.Yteemhabgliglmaa
open Go.RowKit
set_option linter.unusedVariables false
theorem flat_set (x : Nat) : ∀ (M : List (Nat × Nat)) (j : Nat), (M.flatMap cubeC).set (j * 2) (.int .u64 x) = (M.set j (x, (M.getD j (0, 0)).2)).flatMap cubeC := by
  intro M
  induction M with
  | nil => intro j; simp
  | cons p M ih =>
    intro j
    cases j with
    | zero => simp [cubeC]
    | succ j =>
      have e : (j + 1) * 2 = j * 2 + 1 + 1 := by omega
      rw [e, List.set_cons_succ, List.flatMap_cons, List.flatMap_cons]
      simp only [cubeC, List.cons_append, List.nil_append, List.set_cons_succ, ih]
      simp
theorem cls_set {w : World} {base g c n : Nat} {M : List (Nat × Nat)} (h : CLs w base (.slice (some ⟨g, 0, none⟩) n c) M) (hn : M.length = n) (j x : Nat) : CLs (w.setCell ⟨g, j * 2, none⟩ (.int .u64 x)) base (.slice (some ⟨g, 0, none⟩) n c) (M.set j (x, (M.getD j (0, 0)).2)) := by
  subst hn
  unfold CLs at h ⊢
  rw [← flat_set, List.length_set]
  exact (h.stored (j * 2) (.int .u64 x)).1
theorem cls_free {w : World} {base g c n : Nat} {M : List (Nat × Nat)} (h : CLs w base (.slice (some ⟨g, 0, none⟩) n c) M) (hn : M.length = n) (j : Nat) : w.frozen? ⟨g, j, none⟩ = false := by
  subst hn; exact World.ownsRow.frozenAt h j
theorem cls_low {w : World} {base g c n : Nat} {M : List (Nat × Nat)} (h : CLs w base (.slice (some ⟨g, 0, none⟩) n c) M) : base ≤ g := by
  rcases h.2 with ⟨k, _⟩ | ⟨g', c', cur, k, hb, _⟩
  · simp at k
  · simp only [Value.slice.injEq, Option.some.injEq, Addr.mk.injEq, and_true] at k
    omega
/-- The first j have been made canonical. -/
def CanM (L M : List (Nat × Nat)) (j : Nat) : Prop := M.length = L.length ∧ ∀ t, M.getD t (0, 0) = if t < j then canP (L.getD t (0, 0)) else L.getD t (0, 0)
theorem getD_set' (M : List (Nat × Nat)) (j t : Nat) (x : Nat × Nat) (hj : j < M.length) : (M.set j x).getD t (0, 0) = if t = j then x else M.getD t (0, 0) := by
  rw [List.getD_eq_getElem?_getD, List.getD_eq_getElem?_getD, List.getElem?_set]
  by_cases h : j = t
  · subst h; simp [hj]
  · rw [if_neg h, if_neg (Ne.symm h)]
theorem CanM.step {L M : List (Nat × Nat)} {j : Nat} (h : CanM L M j) (hj : j < L.length) (x : Nat) (hx : x = (L.getD j (0, 0)).1 &&& (L.getD j (0, 0)).2) : CanM L (M.set j (x, (M.getD j (0, 0)).2)) (j + 1) := by
  refine ⟨by simpa using h.1, fun t => ?_⟩
  rw [getD_set' _ _ _ _ (by rw [h.1]; exact hj), h.2 j, if_neg (Nat.lt_irrefl j), h.2 t]
  by_cases e : t = j
  · subst e; rw [if_pos rfl, if_pos (by omega), hx]; rfl
  · rw [if_neg e]
    by_cases e2 : t < j
    · rw [if_pos e2, if_pos (by omega)]
    · rw [if_neg e2, if_neg (by omega)]
theorem CanM.done {L M : List (Nat × Nat)} (h : CanM L M L.length) : M = L.map canP := by
  apply List.ext_getElem?
  intro t
  by_cases ht : t < L.length
  · have k := h.2 t
    rw [if_pos ht, List.getD_eq_getElem?_getD, List.getD_eq_getElem?_getD, List.getElem?_eq_getElem (by rw [h.1]; exact ht), List.getElem?_eq_getElem ht] at k
    rw [List.getElem?_eq_getElem (by rw [h.1]; exact ht), List.getElem?_map, List.getElem?_eq_getElem ht]
    simpa using k
  · rw [List.getElem?_eq_none (by rw [h.1]; omega), List.getElem?_eq_none (by simp; omega)]
theorem CanM.start (L : List (Nat × Nat)) : CanM L L 0 := ⟨rfl, fun t => by simp⟩
set_option maxRecDepth 100000 in
set_option maxHeartbeats 4000000 in
theorem can_any (w : World) (a : Option Addr) (n c : Nat) (L : List (Nat × Nat)) (h : SC w a n c L) (hn : n ≤ 100000) : Calls Try.prog 57 #[.slice a n c] w (fun e w' => ∃ V, e = .returned V ∧ CLs w' w.heap.size V (L.map canP) ∧ w.grownBy w' none) := by
  have CL := Lib.hid (clone_any w a n c L h hn)
  have HL := Lib.hid h.len
  have HW := Lib.hid h.wf
  have WA := Lib.hid (fun j hj => h.wfAt j hj)
  clear h
  go_enter Try.func57, Try.ntmps57
  go_wp2_with fail
  refine CL.out.mono ?_
  rintro e w1 ⟨V, rfl, o1, g1⟩
  obtain ⟨b, d, rfl⟩ := o1.shape
  have O1 := Lib.hid o1
  have G1 := Lib.hid g1
  have HD := Lib.hid (fun hp => CLs.head o1 hp)
  clear o1 g1
  rw [HL.out]
  go_wp2
  go_loopw [9] (fun s wr => ∃ (j : Nat) (M : List (Nat × Nat)), j ≤ n ∧ s = .int .i64 j ∧ CanM L M j ∧ CLs wr w.heap.size (.slice b n d) M ∧ w.grownBy wr none) (fun s _ => n - (intOf s).toNat)
  case atStart => exact ⟨0, L, Nat.zero_le _, rfl, CanM.start L, by have := O1.out; rwa [HL.out] at this, G1.out⟩
  case round =>
    obtain ⟨j, M, hj, rfl, hM, hO, hg⟩ := hrel
    have HM := Lib.hid hM
    have HO := Lib.hid hO
    have HG := Lib.hid hg
    clear hM hO hg
    by_cases hlt : j < n
    · have i1 : (j : Int) < n := by omega
      have i0 : (0 : Int) ≤ (j : Int) := by omega
      obtain ⟨g, dd, hV⟩ := HD.out (by rw [HL.out]; omega)
      cases hV
      have hml := Lib.hid (HM.out.1.trans HL.out)
      obtain ⟨c0, c1⟩ := CLs.at_ (by have := HO.out; rwa [← hml.out] at this) j (by rw [hml.out]; exact hlt)
      have e2 := HM.out.2 j
      rw [if_neg (Nat.lt_irrefl j)] at e2
      rw [e2] at c0 c1
      have fr := cls_free HO.out hml.out (j * 2)
      obtain ⟨b0, b1⟩ := WA.out j hlt
      have SB : ∀ x : Nat, CLs (wr.setCell ⟨g, j * 2, none⟩ (.int .u64 x)) w.heap.size (.slice (some ⟨g, 0, none⟩) n d) (M.set j (x, (M.getD j (0, 0)).2)) := fun x => cls_set HO.out hml.out j x
      have SBH := Lib.hid SB
      have STP := Lib.hid (fun x hx => HM.out.step (by rw [HL.out]; exact hlt) x hx)
      clear SB e2
      obtain ⟨p, hp⟩ : ∃ p, p = L.getD j (0, 0) := ⟨_, rfl⟩
      rw [← hp] at c0 c1 b0 b1 STP
      obtain ⟨v, m⟩ := p
      have HB0 := Lib.hid b0
      have HB1 := Lib.hid b1
      clear hp
      go_wp2
      go_region
      rw [u64_and_nat _ _ HB0.out HB1.out]
      have C2 := Lib.hid (STP.out (v &&& m) rfl)
      have O2 := Lib.hid ((SBH.out (v &&& m)).keep0 (gb_drew _ none))
      have G2 := Lib.hid (gb_trans (gb_put HG.out (cls_low HO.out) (i := j * 2) (u := .int .u64 (v &&& m : Nat))) (gb_drew _ none))
      clear c0 c1 fr
      go_wp2
      go_roundw
      case rel => exact ⟨j + 1, _, by omega, by go_num, C2.out, O2.out, G2.out⟩
      case measure => simp [intOf]; omega
    · have hje : j = n := by omega
      subst hje
      have R2 := Lib.hid (show M = L.map canP by have := HM.out; rw [← HL.out] at this; exact this.done)
      go_wp2
      go_ret
      exact ⟨_, rfl, by rw [← R2.out]; exact HO.out, HG.out⟩
end Go.Proofs.Yteemhabgliglmaa
