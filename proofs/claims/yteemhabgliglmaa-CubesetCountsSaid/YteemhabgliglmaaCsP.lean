/- Cubeset: restricted. -/
import Derived.Test.YteemhabgliglmaaCsO
namespace Go.Proofs.Yteemhabgliglmaa
open Go.RowKit
set_option linter.unusedVariables false
theorem flat_set1 (x : Nat) : ∀ (M : List (Nat × Nat)) (j : Nat), (M.flatMap cubeC).set (j * 2 + 1) (.int .u64 x) = (M.set j ((M.getD j (0, 0)).1, x)).flatMap cubeC := by
  intro M
  induction M with
  | nil => intro j; simp
  | cons p M ih =>
    intro j
    cases j with
    | zero => simp [cubeC]
    | succ j =>
      have e : (j + 1) * 2 + 1 = j * 2 + 1 + 1 + 1 := by omega
      rw [e, List.set_cons_succ, List.flatMap_cons, List.flatMap_cons]
      simp only [cubeC, List.cons_append, List.nil_append, List.set_cons_succ, ih]
      simp
theorem cls_set1 {w : World} {base g c n : Nat} {M : List (Nat × Nat)} (h : CLs w base (.slice (some ⟨g, 0, none⟩) n c) M) (hn : M.length = n) (j x : Nat) : CLs (w.setCell ⟨g, j * 2 + 1, none⟩ (.int .u64 x)) base (.slice (some ⟨g, 0, none⟩) n c) (M.set j ((M.getD j (0, 0)).1, x)) := by
  subst hn
  unfold CLs at h ⊢
  rw [← flat_set1, List.length_set]
  exact (h.stored (j * 2 + 1) (.int .u64 x)).1
/-- The first j have been restricted. -/
def ResM (k : Nat) (L M : List (Nat × Nat)) (j : Nat) : Prop := M.length = L.length ∧ ∀ t, M.getD t (0, 0) = if t < j then resP k (L.getD t (0, 0)) else L.getD t (0, 0)
theorem ResM.step {k : Nat} {L M : List (Nat × Nat)} {j : Nat} (h : ResM k L M j) (hj : j < L.length) (x : Nat) (hx : x = (L.getD j (0, 0)).2 &&& lowN k) : ResM k L (M.set j ((M.getD j (0, 0)).1, x)) (j + 1) := by
  refine ⟨by simpa using h.1, fun t => ?_⟩
  rw [getD_set' _ _ _ _ (by rw [h.1]; exact hj), h.2 j, if_neg (Nat.lt_irrefl j), h.2 t]
  by_cases e : t = j
  · subst e; rw [if_pos rfl, if_pos (by omega), hx]; rfl
  · rw [if_neg e]
    by_cases e2 : t < j
    · rw [if_pos e2, if_pos (by omega)]
    · rw [if_neg e2, if_neg (by omega)]
theorem ResM.done {k : Nat} {L M : List (Nat × Nat)} (h : ResM k L M L.length) : M = L.map (resP k) := by
  apply List.ext_getElem?
  intro t
  by_cases ht : t < L.length
  · have q := h.2 t
    rw [if_pos ht, List.getD_eq_getElem?_getD, List.getD_eq_getElem?_getD, List.getElem?_eq_getElem (by rw [h.1]; exact ht), List.getElem?_eq_getElem ht] at q
    rw [List.getElem?_eq_getElem (by rw [h.1]; exact ht), List.getElem?_map, List.getElem?_eq_getElem ht]
    simpa using q
  · rw [List.getElem?_eq_none (by rw [h.1]; omega), List.getElem?_eq_none (by simp; omega)]
theorem ResM.start (k : Nat) (L : List (Nat × Nat)) : ResM k L L 0 := ⟨rfl, fun t => by simp⟩
set_option maxRecDepth 100000 in
set_option maxHeartbeats 4000000 in
theorem res_any (w : World) (a : Option Addr) (n c : Nat) (L : List (Nat × Nat)) (h : SC w a n c L) (hn : n ≤ 100000) (k : Nat) (k1 : 1 ≤ k) (k2 : k ≤ 64) : Calls Try.prog 43 #[.slice a n c, .int .i64 k] w (fun e w' => ∃ V, e = .returned V ∧ CLs w' w.heap.size V (L.map (resP k)) ∧ w.grownBy w' none) := by
  have CL := Lib.hid (clone_any w a n c L h hn)
  have HL := Lib.hid h.len
  have HW := Lib.hid h.wf
  have WA := Lib.hid (fun j hj => h.wfAt j hj)
  have HLB := Lib.hid (lowN_lt k k2)
  have ES := Lib.hid (show (18446744073709551615 : Int) / 2 ^ (64 - k) = (lowN k : Int) by
    have e := low_shr ⟨k, by omega⟩
    simp only at e
    have h1 : (64 : Int) - (k : Int) = ((64 - k : Nat) : Int) := by omega
    rwa [h1, Int.toNat_natCast, Nat.min_eq_left (by omega)] at e)
  clear h
  go_enter Try.func43, Try.ntmps43
  go_wp2_with fail
  refine CL.out.mono ?_
  rintro e w1 ⟨V, rfl, o1, g1⟩
  obtain ⟨b, d, rfl⟩ := o1.shape
  have O1 := Lib.hid o1
  have G1 := Lib.hid g1
  have HD := Lib.hid (fun hp => CLs.head o1 hp)
  clear o1 g1
  rw [HL.out]
  go_wp2
  go_loopw [11] (fun s wr => ∃ (j : Nat) (M : List (Nat × Nat)), j ≤ n ∧ s = .int .i64 j ∧ ResM k L M j ∧ CLs wr w.heap.size (.slice b n d) M ∧ w.grownBy wr none) (fun s _ => n - (intOf s).toNat)
  case atStart => exact ⟨0, L, Nat.zero_le _, rfl, ResM.start k L, by have := O1.out; rwa [HL.out] at this, G1.out⟩
  case round =>
    obtain ⟨j, M, hj, rfl, hM, hO, hg⟩ := hrel
    have HM := Lib.hid hM
    have HO := Lib.hid hO
    have HG := Lib.hid hg
    clear hM hO hg
    by_cases hlt : j < n
    · have i1 : (j : Int) < n := by omega
      have i0 : (0 : Int) ≤ (j : Int) := by omega
      obtain ⟨g, dd, hV⟩ := HD.out (by rw [HL.out]; omega)
      cases hV
      have hml := Lib.hid (HM.out.1.trans HL.out)
      obtain ⟨c0, c1⟩ := CLs.at_ (by have := HO.out; rwa [← hml.out] at this) j (by rw [hml.out]; exact hlt)
      have e2 := HM.out.2 j
      rw [if_neg (Nat.lt_irrefl j)] at e2
      rw [e2] at c0 c1
      have fr := cls_free HO.out hml.out (j * 2 + 1)
      obtain ⟨b0, b1⟩ := WA.out j hlt
      have SB : ∀ x : Nat, CLs (wr.setCell ⟨g, j * 2 + 1, none⟩ (.int .u64 x)) w.heap.size (.slice (some ⟨g, 0, none⟩) n d) (M.set j ((M.getD j (0, 0)).1, x)) := fun x => cls_set1 HO.out hml.out j x
      have SBH := Lib.hid SB
      have STP := Lib.hid (fun x hx => HM.out.step (by rw [HL.out]; exact hlt) x hx)
      clear SB e2
      obtain ⟨p, hp⟩ : ∃ p, p = L.getD j (0, 0) := ⟨_, rfl⟩
      rw [← hp] at c0 c1 b0 b1 STP
      obtain ⟨v, m⟩ := p
      have HB0 := Lib.hid b0
      have HB1 := Lib.hid b1
      clear hp
      go_wp2
      go_region
      rw [ES.out, u64_and_nat _ _ HB1.out HLB.out]
      have C2 := Lib.hid (STP.out (m &&& lowN k) rfl)
      have O2 := Lib.hid ((SBH.out (m &&& lowN k)).keep0 (gb_drew _ none))
      have G2 := Lib.hid (gb_trans (gb_put HG.out (cls_low HO.out) (i := j * 2 + 1) (u := .int .u64 (m &&& lowN k : Nat))) (gb_drew _ none))
      clear c0 c1 fr
      go_wp2
      go_roundw
      case rel => exact ⟨j + 1, _, by omega, by go_num, C2.out, O2.out, G2.out⟩
      case measure => simp [intOf]; omega
    · have hje : j = n := by omega
      subst hje
      have R2 := Lib.hid (show M = L.map (resP k) by have := HM.out; rw [← HL.out] at this; exact this.done)
      go_wp2
      go_ret
      exact ⟨_, rfl, by rw [← R2.out]; exact HO.out, HG.out⟩
end Go.Proofs.Yteemhabgliglmaa
