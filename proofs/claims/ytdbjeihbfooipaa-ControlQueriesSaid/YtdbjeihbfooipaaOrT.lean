/- A region that draws its order, by an invariant on what has been done; no condition. -/
import Derived.Test.YtdbjeihbfooipaaMem
import Derived.Deep.RegionHeld
namespace Go.Proofs.Ytdbjeihbfooipaa
open Go.RowKit
set_option linter.unusedVariables false
theorem cnt_set : ∀ (l : List Bool) (i : Nat), l[i]? = some false → (l.set i true).countP (fun b => !b) + 1 = l.countP (fun b => !b)
  | [], i, h => by simp at h
  | b :: l, 0, h => by
    have : b = false := by simpa using h
    subst this
    simp
  | b :: l, i + 1, h => by
    have ih := cnt_set l i (by simpa using h)
    simp only [List.set_cons_succ, List.countP_cons]
    omega
section
variable {P : Program} {ops : Array Oper} {Q : Exit → Act → World → Prop} {md : Region.Mode} {S : World → Prop}
theorem un_some {l : Array Bool} {i : Nat} (h : l.getD i true = false) : l.toList[i]? = some false := by
  rw [Array.getElem?_toList]
  rw [Array.getD_eq_getD_getElem?] at h
  cases e : l[i]? with
  | none => rw [e] at h; cases h
  | some b => rw [e] at h; simp at h; rw [h]
theorem wpAnyH_inv (Inv : Array Bool → Act → World → Prop)
    (step : ∀ l a w, Inv l a w → ∀ i, i ∈ Region.ready md ops l → wpOp P ops Q i (fun a' w' => S w' ∧ Inv (l.setIfInBounds i true) a' w') a w)
    (fin : ∀ l a w, Inv l a w → Region.ready md ops l = [] → Q .normal a w) :
    ∀ (fuel : Nat) (l : Array Bool) (a : Act) (w : World), Inv l a w → l.toList.countP (fun b => !b) ≤ fuel → wpAnyH P md ops Q S fuel l a w
  | 0, l, a, w, hI, hc => by
    have hr : Region.ready md ops l = [] := by
      rw [List.eq_nil_iff_forall_not_mem]
      intro j hj
      have un := un_some (mem_ready.1 hj).1
      have : 0 < l.toList.countP (fun b => !b) := List.countP_pos_iff.2 ⟨false, List.mem_of_getElem? un, rfl⟩
      omega
    exact ⟨hr, fin l a w hI hr⟩
  | fuel + 1, l, a, w, hI, hc => by
    refine ⟨fin l a w hI, fun i hi => wpOp_mono (fun a' w' h => ⟨h.1, wpAnyH_inv Inv step fin fuel _ a' w' h.2 ?_⟩) (step l a w hI i hi)⟩
    have un := un_some (mem_ready.1 hi).1
    have := cnt_set _ i un
    rw [Array.toList_setIfInBounds]
    omega
/-- Three boxes that are made and filled in whatever order: places 13 to 15 make them, 16 to 18 fill them. -/
def CH3 (w0 w : World) (t : TypeId) (f g : Bool) (v : Value) (row z : Array Value) : Prop := f = true → ∃ b, v = .pointer (some ⟨b, 0, none⟩) ∧ w0.heap.size ≤ b ∧ IsB w b t (if g = true then row else z)
def INV3 (s1 s2 s3 : Nat) (t : TypeId) (r1 r2 r3 z : Array Value) (w0 : World) (a0 : Act) (l : Array Bool) (a : Act) (w : World) : Prop :=
  ∃ (f1 f2 f3 g1 g2 g3 : Bool) (v1 v2 v3 : Value), l = #[true, true, true, true, true, true, true, true, true, true, true, true, true, f1, f2, f3, g1, g2, g3] ∧
    a = ((a0.put (some s1) v1).put (some s2) v2).put (some s3) v3 ∧ w0.grownBy w none ∧ CH3 w0 w t f1 g1 v1 r1 z ∧ CH3 w0 w t f2 g2 v2 r2 z ∧ CH3 w0 w t f3 g3 v3 r3 z ∧
    (f1 = true → f2 = true → v1 ≠ v2) ∧ (f1 = true → f3 = true → v1 ≠ v3) ∧ (f2 = true → f3 = true → v2 ≠ v3) ∧ (f1 = false → g1 = false) ∧ (f2 = false → g2 = false) ∧ (f3 = false → g3 = false)
theorem CH3.alloc {w0 w : World} {t : TypeId} {f g : Bool} {v : Value} {row z : Array Value} (h : CH3 w0 w t f g v row z) (o : Obj) : CH3 w0 (w.alloc o) t f g v row z := fun e => by
  obtain ⟨b, h1, h2, h3⟩ := h e
  exact ⟨b, h1, h2, h3.alloc o⟩
theorem CH3.new {w0 w : World} {t : TypeId} {row z : Array Value} (g0 : w0.grownBy w none) : CH3 w0 (w.alloc (.cells z t)) t true false (.pointer (some ⟨w.heap.size, 0, none⟩)) row z := fun _ => ⟨_, rfl, g0.size, IsB.new _ _ _⟩
theorem CH3.ne {w0 w : World} {t : TypeId} {f g : Bool} {v : Value} {row z : Array Value} (h : CH3 w0 w t f g v row z) (e : f = true) : v ≠ .pointer (some ⟨w.heap.size, 0, none⟩) := by
  obtain ⟨b, rfl, h2, h3⟩ := h e
  intro q
  injection q with q
  injection q with q
  injection q with q _
  have := h3.lt
  omega
theorem wp_three {r1 r2 r3 z : Array Value} {s1 s2 s3 : Nat} {t : TypeId} (w0 : World) (a0 : Act) (w : World)
    (step : ∀ l a w, INV3 s1 s2 s3 t r1 r2 r3 z w0 a0 l a w → ∀ i, i ∈ Region.ready md ops l → wpOp P ops Q i (fun a' w' => S w' ∧ INV3 s1 s2 s3 t r1 r2 r3 z w0 a0 (l.setIfInBounds i true) a' w') a w)
    (fin : ∀ l a w, INV3 s1 s2 s3 t r1 r2 r3 z w0 a0 l a w → Region.ready md ops l = [] → Q .normal a w)
    (g0 : w0.grownBy w none) (h0 : a0 = ((a0.put (some s1) (a0.tmps.getD s1 undef)).put (some s2) (a0.tmps.getD s2 undef)).put (some s3) (a0.tmps.getD s3 undef)) :
    wpAnyH P md ops Q S 6 #[true, true, true, true, true, true, true, true, true, true, true, true, true, false, false, false, false, false, false] a0 w :=
  wpAnyH_inv _ step fin 6 _ _ _ ⟨false, false, false, false, false, false, _, _, _, rfl, h0, g0, (fun e => by cases e), (fun e => by cases e), (fun e => by cases e), (fun e => by cases e), (fun e => by cases e), (fun e => by cases e), fun _ => rfl, fun _ => rfl, fun _ => rfl⟩ (by decide)
end
end Go.Proofs.Ytdbjeihbfooipaa
