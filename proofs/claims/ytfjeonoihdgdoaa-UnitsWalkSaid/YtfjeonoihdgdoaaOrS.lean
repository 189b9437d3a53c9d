/- A region that draws its order and whose last operations are stores into cells that it also reads: a condition on the world that holds till the first of these stores; no condition. -/
import Derived.Test.YtfjeonoihdgdoaaMem
import Derived.Deep.RegionHeld
namespace Go.Proofs.Ytfjeonoihdgdoaa
open Go.RowKit
set_option linter.unusedVariables false
section
variable {P : Program} {ops : Array Oper} {Q : Exit → Act → World → Prop} {md : Region.Mode} {F : World → Prop} {st : Nat}
/-- The condition is asked as long as store number st has not come up. -/
def Till (F : World → Prop) (st : Nat) (l : Array Bool) (w : World) : Prop := l.getD st true = true ∨ F w
def wpAnyS (P : Program) (md : Region.Mode) (ops : Array Oper) (Q : Exit → Act → World → Prop) (F : World → Prop) (st : Nat) : Nat → Array Bool → Act → World → Prop
  | 0, listed, a, w => Region.ready md ops listed = [] ∧ Q .normal a w
  | fuel + 1, listed, a, w =>
    (Region.ready md ops listed = [] → Q .normal a w) ∧
    ∀ i ∈ Region.ready md ops listed, wpOp P ops Q i (fun a' w' => Till F st (listed.setIfInBounds i true) w' ∧ wpAnyS P md ops Q F st fuel (listed.setIfInBounds i true) a' w') a w
theorem wpAny_of_S : ∀ (fuel : Nat) (listed : Array Bool) (a : Act) (w : World), wpAnyS P md ops Q F st fuel listed a w → wpAny P md ops Q fuel listed a w
  | 0, _, _, _, h => h
  | fuel + 1, _, _, _, h => ⟨h.1, fun i hi => wpOp_mono (fun a' w' h' => wpAny_of_S fuel _ a' w' h'.2) (h.2 i hi)⟩
theorem till_set {l : Array Bool} {i : Nat} (h : i ≠ st) (w : World) : Till F st (l.setIfInBounds i true) w ↔ Till F st l w := by
  unfold Till
  rw [getD_set_ne true h]
theorem wpAnyS_first (G : World → Prop) {i : Nat} {oi : Oper} {v : Value} (hi : ops[i]? = some oi) (hsel : ∀ (j : Nat) (o : Oper) cs b, ops[j]? = some o → o.op ≠ .select cs b)
    (hQ : ∀ c a w, Q (.panic c) (a.put oi.dst v) w → Q (.panic c) a w) (hst : i ≠ st) (Pend : Array Bool → Prop) (hG : ∀ l w, Pend l → Till F st l w → G w)
    (hP : ∀ l j oj, Pend l → ops[j]? = some oj → j ∈ Region.ready md ops l → (∀ e ∈ oj.after, Region.binds md e = true → e.on ≠ i) → Pend (l.setIfInBounds j true)) :
    ∀ (fuel : Nat) (listed : Array Bool) (a : Act) (w : World),
      (∀ j oj, ops[j]? = some oj → j ≠ i → listed.getD j true = false → (∀ e ∈ oj.after, Region.binds md e = true → e.on ≠ i) → oi.apart ops oj = true) →
      i ∈ Region.ready md ops listed → YieldsIf P ops G oi v a → Till F st listed w → Pend listed →
      wpAnyS P md ops Q F st fuel (listed.setIfInBounds i true) (a.put oi.dst v) w → wpAnyS P md ops Q F st (fuel + 1) listed a w := by
  intro fuel
  induction fuel with
  | zero =>
    intro listed a w _ hr hy hS hp H
    refine ⟨fun h => (by rw [h] at hr; cases hr), fun j hj => ?_⟩
    by_cases hji : j = i
    · subst hji; exact hy.wpOp hi (hG _ _ hp hS) ⟨(till_set hst w).2 hS, H⟩
    · have := ready_mono hj hji
      rw [H.1] at this
      cases this
  | succ fuel ih =>
    intro listed a w hfree hr hy hS hp H
    refine ⟨fun h => (by rw [h] at hr; cases hr), fun j hj => ?_⟩
    by_cases hji : j = i
    · subst hji; exact hy.wpOp hi (hG _ _ hp hS) ⟨(till_set hst w).2 hS, H⟩
    · have h1 := H.2 j (ready_mono hj hji)
      obtain ⟨hjun, oj, hoj, hall⟩ := mem_ready.1 hj
      have hnot : ∀ e ∈ oj.after, Region.binds md e = true → e.on ≠ i := fun e he hb heq => by
        have h1 := hall e he hb
        have h0 := (mem_ready.1 hr).1
        rw [heq] at h1
        rcases Nat.lt_or_ge i listed.size with h' | h'
        · simp [h'] at h0 h1; rw [h0] at h1; cases h1
        · simp [Array.getElem?_eq_none h'] at h1
      have h2 := wpOp_putIf hoj (hfree j oj hoj hji hjun hnot) (fun cs b => hsel i oi cs b hi) (fun cs b => hsel j oj cs b hoj) hQ hy h1
      have hfree' : ∀ k ok, ops[k]? = some ok → k ≠ i → (listed.setIfInBounds j true).getD k true = false →
          (∀ e ∈ ok.after, Region.binds md e = true → e.on ≠ i) → oi.apart ops ok = true := fun k ok hk hki hun hno => by
        refine hfree k ok hk hki ?_ hno
        by_cases hjk : j = k
        · subst hjk; exact hjun
        · rw [getD_set_ne true hjk] at hun; exact hun
      have hp2 := hP listed j oj hp hoj hj hnot
      refine wpOp_mono (fun a' w' h3 => ?_) h2
      have h4 := h3.2.1
      rw [Array.setIfInBounds_comm _ _ (Ne.symm hji), till_set hst] at h4
      refine ⟨h4, ih (listed.setIfInBounds j true) a' w' hfree' (ready_mono hr (Ne.symm hji)) h3.1 h4 hp2 ?_⟩
      rw [Array.setIfInBounds_comm _ _ hji]
      exact h3.2.2
/-- A load waits for by call c, and the store waits for c. -/
def Region.pends (md : Region.Mode) (ops : Array Oper) (l : Array Bool) (i c st : Nat) : Bool :=
  (i != st) && (c != st) && (l.getD st true == false) && (l.getD c true == false) && (match ops[c]? with | some oc => oc.after.any (fun e => Region.binds md e && e.on == i) | none => false) && (match ops[st]? with | some os => os.after.any (fun e => Region.binds md e && e.on == c) | none => false)
theorem wpAnyS_load (c : Nat) {i : Nat} {oi : Oper} {v : Value} {fuel : Nat} {listed : Array Bool} {a : Act} {w : World} (hi : ops[i]? = some oi)
    (hs : Region.noSelect ops = true) (hf : Region.free md ops listed i = true) (hr : (Region.ready md ops listed).contains i = true) (hc : Region.pends md ops listed i c st = true)
    (hQ : ∀ c a w, Q (.panic c) (a.put oi.dst v) w → Q (.panic c) a w) (hy : YieldsIf P ops F oi v a) (hS : F w)
    (h : wpAnyS P md ops Q F st fuel (listed.setIfInBounds i true) (a.put oi.dst v) w) : wpAnyS P md ops Q F st (fuel + 1) listed a w := by
  unfold Region.pends at hc
  simp only [Bool.and_eq_true, bne_iff_ne, ne_eq, beq_iff_eq] at hc
  obtain ⟨⟨⟨⟨⟨h1, h2⟩, h3⟩, h4⟩, h5⟩, h6⟩ := hc
  cases hoc : ops[c]? with
  | none => rw [hoc] at h5; cases h5
  | some oc =>
    rw [hoc] at h5
    obtain ⟨k5, kl5, e5⟩ := Array.any_eq_true.1 h5
    simp only [Bool.and_eq_true, beq_iff_eq] at e5
    cases hos : ops[st]? with
    | none => rw [hos] at h6; cases h6
    | some os =>
      rw [hos] at h6
      obtain ⟨k6, kl6, e6⟩ := Array.any_eq_true.1 h6
      simp only [Bool.and_eq_true, beq_iff_eq] at e6
      refine wpAnyS_first F hi (Region.noSelect_spec hs) hQ h1 (fun l => l.getD st true = false ∧ l.getD c true = false) (fun l w hp ht => ?_) (fun l j oj hp hoj hj hno => ?_) fuel listed a w (Region.free_spec hi hf) (by simpa using hr) hy (.inr hS) ⟨h3, h4⟩ h
      · rcases ht with q | q
        · rw [hp.1] at q; cases q
        · exact q
      · have jc : j ≠ c := by
          rintro rfl
          rw [hoc] at hoj
          injection hoj with hoj
          subst hoj
          exact hno _ (Array.getElem_mem kl5) e5.1 e5.2
        have js : j ≠ st := by
          rintro rfl
          rw [hos] at hoj
          injection hoj with hoj
          subst hoj
          obtain ⟨_, oj, hoj, hall⟩ := mem_ready.1 hj
          rw [hos] at hoj
          injection hoj with hoj
          subst hoj
          have q := hall _ (Array.getElem_mem kl6) e6.1
          rw [e6.2] at q
          rcases Nat.lt_or_ge c l.size with h' | h'
          · have := hp.2; simp [h'] at q this; rw [this] at q; cases q
          · simp [Array.getElem?_eq_none h'] at q
        exact ⟨by rw [getD_set_ne true js]; exact hp.1, by rw [getD_set_ne true jc]; exact hp.2⟩
/-- The store itself waits for a load. -/
def Region.pends0 (md : Region.Mode) (ops : Array Oper) (l : Array Bool) (i st : Nat) : Bool :=
  (i != st) && (l.getD st true == false) && (match ops[st]? with | some os => os.after.any (fun e => Region.binds md e && e.on == i) | none => false)
theorem wpAnyS_load0 {i : Nat} {oi : Oper} {v : Value} {fuel : Nat} {listed : Array Bool} {a : Act} {w : World} (hi : ops[i]? = some oi)
    (hs : Region.noSelect ops = true) (hf : Region.free md ops listed i = true) (hr : (Region.ready md ops listed).contains i = true) (hc : Region.pends0 md ops listed i st = true)
    (hQ : ∀ c a w, Q (.panic c) (a.put oi.dst v) w → Q (.panic c) a w) (hy : YieldsIf P ops F oi v a) (hS : F w)
    (h : wpAnyS P md ops Q F st fuel (listed.setIfInBounds i true) (a.put oi.dst v) w) : wpAnyS P md ops Q F st (fuel + 1) listed a w := by
  unfold Region.pends0 at hc
  simp only [Bool.and_eq_true, bne_iff_ne, ne_eq, beq_iff_eq] at hc
  obtain ⟨⟨h1, h3⟩, h6⟩ := hc
  cases hos : ops[st]? with
  | none => rw [hos] at h6; cases h6
  | some os =>
    rw [hos] at h6
    obtain ⟨k6, kl6, e6⟩ := Array.any_eq_true.1 h6
    simp only [Bool.and_eq_true, beq_iff_eq] at e6
    refine wpAnyS_first F hi (Region.noSelect_spec hs) hQ h1 (fun l => l.getD st true = false) (fun l w hp ht => ?_) (fun l j oj hp hoj hj hno => ?_) fuel listed a w (Region.free_spec hi hf) (by simpa using hr) hy (.inr hS) h3 h
    · rcases ht with q | q
      · rw [hp] at q; cases q
      · exact q
    · have js : j ≠ st := by
        rintro rfl
        rw [hos] at hoj
        injection hoj with hoj
        subst hoj
        exact hno _ (Array.getElem_mem kl6) e6.1 e6.2
      rw [getD_set_ne true js]; exact hp
theorem wpAnyS_pure {i : Nat} {oi : Oper} {v : Value} {fuel : Nat} {listed : Array Bool} {a : Act} {w : World} (hi : ops[i]? = some oi)
    (hs : Region.noSelect ops = true) (hf : Region.free md ops listed i = true) (hr : (Region.ready md ops listed).contains i = true) (hne : i ≠ st)
    (hQ : ∀ c a w, Q (.panic c) (a.put oi.dst v) w → Q (.panic c) a w) (hy : YieldsIf P ops (fun _ => True) oi v a) (hS : Till F st listed w)
    (h : wpAnyS P md ops Q F st fuel (listed.setIfInBounds i true) (a.put oi.dst v) w) : wpAnyS P md ops Q F st (fuel + 1) listed a w :=
  wpAnyS_first (fun _ => True) hi (Region.noSelect_spec hs) hQ hne (fun _ => True) (fun _ _ _ _ => trivial) (fun _ _ _ _ _ _ _ => trivial) fuel listed a w (Region.free_spec hi hf) (by simpa using hr) hy hS trivial h
/-- One operation alone may come up. -/
theorem wpAnyS_one {i : Nat} {o : Oper} {fuel : Nat} {listed : Array Bool} {a : Act} {w : World} (hr : Region.ready md ops listed = [i]) (ho : ops[i]? = some o)
    (h : ∀ K' : Act → World → Prop, Shut (∀ a w, Till F st (listed.setIfInBounds i true) w → (Till F st (listed.setIfInBounds i true) w → wpAnyS P md ops Q F st fuel (listed.setIfInBounds i true) a w) → K' a w) → if Region.wanted o (yielded ops a.tmps) = true then Oper.wp P o a w K' Q else K' (a.put o.dst undef) w) :
    wpAnyS P md ops Q F st (fuel + 1) listed a w := by
  refine ⟨fun h0 => (by rw [hr] at h0; cases h0), fun j hj => ?_⟩
  rw [hr] at hj
  obtain rfl := List.mem_singleton.1 hj
  exact wpOp_step ho (fun K' hK => h K' (fun a w hS hW => hK a w ⟨hS, hW hS⟩))
theorem wpAnyS_done {listed : Array Bool} {a : Act} {w : World} (hr : Region.ready md ops listed = []) (h : Q .normal a w) :
    ∀ fuel, wpAnyS P md ops Q F st fuel listed a w
  | 0 => ⟨hr, h⟩
  | _ + 1 => ⟨fun _ => h, by rw [hr]; simp⟩
theorem wp_region_S (F : World → Prop) (st : Nat) {id : Nat} {a : Act} {w : World} (hm : P.follows .mixedOrders = true)
    (h : wpAnyS P .any ops Q F st ops.size (Array.replicate ops.size false) a w.drew) : (Code.region id ops true).wp P Q a w :=
  wp_region_any hm (wpAny_of_S _ _ _ _ h)
end
end Go.Proofs.Ytfjeonoihdgdoaa
