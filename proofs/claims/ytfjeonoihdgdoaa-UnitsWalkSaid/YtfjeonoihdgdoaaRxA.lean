/- A range over a function whose iterator ranges over another one: a law of one's own. The two sides part the heap by the kinds of its objects and by the place where the loop began. -/
import Derived.Test.YtfjeonoihdgdoaaMem
import Derived.RangeFuncNested
import Derived.RangeFuncBound
import Derived.RangeFuncCalls
import Derived.RangeFuncLeaves
import Derived.Shelf.Abstract
import Derived.Shelf.RegionOpen
import Derived.OwnWalkIn
import Derived.TacticsInMore
import Derived.LoopNIn
import Derived.LoopIn
namespace Go.Proofs.Ytfjeonoihdgdoaa
open Go.RowKit
set_option linter.unusedVariables false

/-- From A to C every block stands as it stood, but for those that own lets go. -/
structure Kt (own : Nat → Obj → Prop) (A C : World) : Prop where
  os : C.os = A.os
  tape : C.tape = A.tape
  output : C.output = A.output
  size : A.heap.size ≤ C.heap.size
  same : ∀ k o, A.heap[k]? = some o → ¬ own k o → C.heap[k]? = some o
theorem Kt.refl (own : Nat → Obj → Prop) (A : World) : Kt own A A := ⟨rfl, rfl, rfl, Nat.le_refl _, fun _ _ h _ => h⟩
theorem Kt.trans {own : Nat → Obj → Prop} {A C D : World} (h : Kt own A C) (k : Kt own C D) : Kt own A D :=
  ⟨k.os.trans h.os, k.tape.trans h.tape, k.output.trans h.output, Nat.le_trans h.size k.size, fun i o hi ho => k.same i o (h.same i o hi ho) ho⟩
theorem Kt.mono {own own2 : Nat → Obj → Prop} {A C : World} (h : Kt own A C) (hm : ∀ k o, own k o → own2 k o) : Kt own2 A C :=
  ⟨h.os, h.tape, h.output, h.size, fun i o hi ho => h.same i o hi (fun q => ho (hm _ _ q))⟩
theorem Kt.of_gb {own : Nat → Obj → Prop} {A C : World} (h : A.grownBy C none) : Kt own A C :=
  ⟨h.os, h.tape, h.output, h.size, fun i o hi _ => (h.block i (Array.getElem?_eq_some_iff.1 hi).1 (by simp)).trans hi⟩
theorem Kt.of_row {own : Nat → Obj → Prop} {A C : World} {g : Nat} (h : A.grownBy C (some g)) (hg : ∀ o, A.heap[g]? = some o → own g o) : Kt own A C :=
  ⟨h.os, h.tape, h.output, h.size, fun i o hi ho => (h.block i (Array.getElem?_eq_some_iff.1 hi).1 (by intro e; injection e with e; subst e; exact ho (hg o hi))).trans hi⟩
theorem Kt.put {own : Nat → Obj → Prop} {A : World} {g : Nat} (o2 : Obj) (hg : ∀ o, A.heap[g]? = some o → own g o) : Kt own A (A.putObj g o2) :=
  ⟨rfl, rfl, rfl, by simp, fun i o hi ho => by
    by_cases e : i = g
    · subst e; exact absurd (hg o hi) ho
    · exact (World.putObj_heap_other e).trans hi⟩
theorem Kt.isb {own : Nat → Obj → Prop} {A C : World} {g : Nat} {t : TypeId} {cs : Array Value} (h : Kt own A C) (k : IsB A g t cs) (hn : ¬ own g (.cells cs t (0, 0))) : IsB C g t cs := h.same g _ k hn
theorem Kt.gb {own : Nat → Obj → Prop} {A C : World} (h : Kt own A C) (hn : ∀ k o, k < A.heap.size → ¬ own k o) : A.grownBy C none :=
  ⟨h.os, h.tape, h.output, h.size, fun i hi _ => by
    obtain ⟨o, ho⟩ : ∃ o, A.heap[i]? = some o := ⟨_, Array.getElem?_eq_getElem hi⟩
    rw [ho]; exact h.same i o ho (hn i o hi)⟩
/-- What the loop's body may turn: cells of the types TC; what is no cells and lay ahead of B. -/
def KB (TC : Nat → TypeId → Prop) (B : Nat) (k : Nat) : Obj → Prop
  | .cells _ t _ => TC k t
  | _ => k < B
/-- What the iterator may turn: what lies at B or behind it: cells of the types TI; what is no cells. -/
def KI (TI : TypeId → Prop) (B : Nat) (k : Nat) (o : Obj) : Prop := B ≤ k ∧ match o with
  | .cells _ t _ => TI t
  | _ => True
theorem KB.mono {TC : Nat → TypeId → Prop} {B B2 : Nat} (h : B ≤ B2) : ∀ k o, KB TC B k o → KB TC B2 k o := by
  intro k o; cases o <;> simp only [KB] <;> first | exact id | exact fun q => Nat.lt_of_lt_of_le q h
theorem KI.mono {TI TI2 : TypeId → Prop} {B B2 : Nat} (h : B2 ≤ B) (ht : ∀ t, TI t → TI2 t) : ∀ k o, KI TI B k o → KI TI2 B2 k o := by
  intro k o q
  refine ⟨Nat.le_trans h q.1, ?_⟩
  have := q.2
  cases o <;> first | exact ht _ this | exact trivial
/-- The contract of an iterator called in W that yields xs, one by one, and stops where a round says no. -/
def SeqX {α : Type} (F : Fence) (n : Nat) (P : Program) (g : Nat) (lb : Array Value) (encs : α → Array Value) (TC : Nat → TypeId → Prop) (TI : TypeId → Prop) (xs : List α) (W : World) : Prop :=
  ∀ (l : Nat) (J Jx : List α → World → Prop), (∀ s A C, J s A → Kt (KI TI W.heap.size) A C → J s C) → (∀ s A C, Jx s A → Kt (KI TI W.heap.size) A C → Jx s C) →
    (∀ pre x W1, pre ++ [x] <+: xs → J pre W1 → YieldAt F (n - 1) P l (encs x) W1 fun e W2 =>
      (e = .returned (.bool true) ∧ J (pre ++ [x]) W2 ∧ Kt (KB TC W.heap.size) W1 W2) ∨ (e = .returned (.bool false) ∧ Jx (pre ++ [x]) W2 ∧ Kt (KB TC W.heap.size) W1 W2)) →
    J [] W →
    CallsIn F n P g (#[.func (.yield l) #[] #[]] ++ lb) W fun e W2 => (∃ v, e = .returned v) ∧ (J xs W2 ∨ ∃ pre, pre <+: xs ∧ Jx pre W2)
/-- How the body of a round may be left. -/
def postX {α : Type} (TC : Nat → TypeId → Prop) (B : Nat) (I : List α → World → Prop) (Ix : Code → List α → World → Prop) (xs : List α) (W : World) : Exit → Act → World → Prop
  | .normal, _, W2 => Kt (KB TC B) W W2 ∧ I xs W2
  | .ret, _, W2 => Kt (KB TC B) W W2 ∧ Ix .ret xs W2
  | .exit id, _, W2 => Kt (KB TC B) W W2 ∧ Ix (.exit id) xs W2
  | .goto t, _, W2 => Kt (KB TC B) W W2 ∧ Ix (.goto t) xs W2
  | .panic _, _, _ => False
  | .outgrown, _, _ => False
/-- What is no cells. -/
def NoC (k : Nat) : Obj → Prop
  | .cells _ _ _ => False
  | _ => True
/-- The law: the loop 'for .. := range seq { .. }' of a function that is in no round. -/
theorem wpIn_rangeX {F : Fence} {n : Nat} {P : Program} {α : Type} {g : Operand} {ps : Array Tmp} {assign body : Code} {Q : Exit → Act → World → Prop} {a : Act} {w : World}
    (hro : F.round = none) (h1 : 1 ≤ n) {gf : Nat} {lb : Array Value} (hg : a.eval g = .func (.func gf) #[] lb) (hFg : F.fn gf) (eg : ∀ args w, (callFunc gf args).run P w = .ok (.enter gf args) w)
    {encs : α → Array Value} {TC : Nat → TypeId → Prop} {TI : TypeId → Prop} {xs : List α} (hseq : ∀ W, w.grownBy W none → W.heap.size = w.heap.size + 2 → SeqX F (n - 1) P gf lb encs TC TI xs W)
    (hps : ∀ x, (encs x).size = ps.size) (I : List α → World → Prop) (Ix : Code → List α → World → Prop)
    (hI : ∀ s A C, I s A → Kt (KI TI w.heap.size) A C → I s C) (hIx : ∀ c s A C, Ix c s A → Kt (KI TI w.heap.size) A C → Ix c s C) (h0 : I [] w)
    (hround : ∀ (l : Nat) (pre : List α) (x : α) (W : World), pre ++ [x] <+: xs → I pre W →
      assign.wpIn (F.inRound l) (n - 1 - 1) P (Exit.then (fun a1 W1 => W.grownBy W1 none ∧ ∀ W2, Kt NoC W1 W2 → Kt (KI TI w.heap.size) W W2 → body.wpIn (F.inRound l) (n - 1 - 1) P (postX TC w.heap.size I Ix (pre ++ [x]) W2) a1 W2) (fun _ _ _ => False))
        { tmps := (ps.zip (encs x)).foldl (fun t (p, v) => t.setIfInBounds p v) a.tmps, defers := [] } W)
    (hdone : ∀ (D : Nat) (W : World), w.heap.size ≤ D → I xs W → W.heap[D]? = some (.deferred (some [])) → Q .normal { a with defers := { target := .collected D, args := #[] } :: a.defers } W)
    (hstop : ∀ (D : Nat) (c : Code) (pre : List α) (W : World), w.heap.size ≤ D → pre <+: xs → Ix c pre W → W.heap[D]? = some (.deferred (some [])) → c.wpIn F n P Q { a with defers := { target := .collected D, args := #[] } :: a.defers } W) :
    (Code.rangeFunc g ps assign body).wpIn F n P Q a w := by
  refine wpIn_rangeFunc fun fn hfn => ?_
  rw [hro]
  let s := w.heap.size
  let rc : LoopState → Option Code → Obj := fun st pe => .loop { state := st, pending := pe, fn, tmps := a.tmps, params := ps, assign, body, defers := s }
  let V := (w.alloc (.deferred (some []))).alloc (rc .ready none)
  have sV : V.heap.size = s + 2 := by show (((w.heap.push _).push _).size) = _; simp [s]
  have gV : w.grownBy V none := gb_trans (gb_alloc _ _ none) (gb_alloc _ _ none)
  have lV : V.heap[s + 1]? = some (rc .ready none) := by
    have := World.alloc_heap_new (w.alloc (.deferred (some []))) (rc .ready none)
    rwa [World.size_alloc] at this
  have dV : V.heap[s]? = some (.deferred (some [])) := (Below.heap_alloc _ _ _ (by simp [s])).trans (World.alloc_heap_new w _)
  -- what lies at the record may be turned by either side's book-keeping
  have mI : ∀ A C, Kt (KI TI V.heap.size) A C → Kt (KI TI w.heap.size) A C := fun A C h => h.mono (KI.mono (by rw [sV]; omega) fun _ => id)
  have pI : ∀ (A : World) (st : LoopState) (pe : Option Code) (o : Obj), A.heap[s + 1]? = some (rc st pe) → Kt (KI TI w.heap.size) A (A.putObj (s + 1) o) :=
    fun A st pe o h => Kt.put o fun o2 h2 => by rw [h] at h2; cases h2; exact ⟨Nat.le_succ _, trivial⟩
  have pB : ∀ (A : World) (st : LoopState) (pe : Option Code) (o : Obj), A.heap[s + 1]? = some (rc st pe) → Kt (KB TC V.heap.size) A (A.putObj (s + 1) o) :=
    fun A st pe o h => Kt.put o fun o2 h2 => by rw [h] at h2; cases h2; show s + 1 < V.heap.size; rw [sV]; omega
  refine ⟨s + 1, [{ target := .collected s, args := #[] }], V, { target := .fn (.func gf) lb, args := #[.func (.yield (s + 1)) #[] #[]] }, V, gf, #[.func (.yield (s + 1)) #[] #[]] ++ lb, V, run_enterLoop_outer _ _ _ _ _, ?_, ?_, ?_, fun _ => h1, ?_⟩
  · simp only [resolve, hg]; simp [go_sem]
  · intro f2 hf2; simp [Target.leads] at hf2; subst hf2; exact hFg
  · simp [invoke, go_sem, eg]
  refine (hseq V gV sV (s + 1)
    (fun pre W => I pre W ∧ W.heap[s + 1]? = some (rc .ready none) ∧ W.heap[s]? = some (.deferred (some [])))
    (fun pre W => ∃ c, Ix c pre W ∧ W.heap[s + 1]? = some (rc .done (some c)) ∧ W.heap[s]? = some (.deferred (some []))) ?_ ?_ ?_ ⟨hI _ _ _ h0 (Kt.of_gb gV), lV, dV⟩).mono ?_
  · rintro t A C ⟨i, l, d⟩ k
    exact ⟨hI _ _ _ i (mI _ _ k), k.same _ _ l (fun q => by have := q.1; rw [sV] at this; omega), k.same _ _ d (fun q => by have := q.1; rw [sV] at this; omega)⟩
  · rintro t A C ⟨c, i, l, d⟩ k
    exact ⟨c, hIx _ _ _ _ i (mI _ _ k), k.same _ _ l (fun q => by have := q.1; rw [sV] at this; omega), k.same _ _ d (fun q => by have := q.1; rw [sV] at this; omega)⟩
  · rintro pre x W hp ⟨i, l, d⟩
    have hy := run_yield (P := P) (args := encs x) l (hps x)
    refine ⟨fn, _, assign, body, hy, roundIn_of_wpIn hfn (wpIn_mono (hround _ pre x W hp i) ?_)⟩
    rintro e a1 W1 hq
    cases e with
    | normal => ?_
    | _ => exact hq
    obtain ⟨g1, hq⟩ := hq
    have l1 : W1.heap[s + 1]? = some (rc .ready none) := (g1.block _ (Array.getElem?_eq_some_iff.1 l).1 (by simp)).trans l
    have d1 : W1.heap[s]? = some (.deferred (some [])) := (g1.block _ (Array.getElem?_eq_some_iff.1 d).1 (by simp)).trans d
    refine ⟨_, run_beginRound l1 rfl, ?_⟩
    have lt : s + 1 < W1.heap.size := (Array.getElem?_eq_some_iff.1 l1).1
    have l2 : (W1.putObj (s + 1) (rc .busy none)).heap[s + 1]? = some (rc .busy none) := World.putObj_heap_same lt
    have d2 : (W1.putObj (s + 1) (rc .busy none)).heap[s]? = some (.deferred (some [])) := (World.putObj_heap_other (by omega)).trans d1
    have end_ : ∀ (jump : Option Code) (W3 : World), Kt (KB TC w.heap.size) (W1.putObj (s + 1) (rc .busy none)) W3 →
        (Instr.endRound (s + 1) jump).run P W3 = .ok (.bool jump.isNone) (W3.putObj (s + 1) (rc (if jump.isNone then .ready else .done) jump)) ∧
        Kt (KI TI w.heap.size) W3 (W3.putObj (s + 1) (rc (if jump.isNone then .ready else .done) jump)) ∧
        (W3.putObj (s + 1) (rc (if jump.isNone then .ready else .done) jump)).heap[s + 1]? = some (rc (if jump.isNone then .ready else .done) jump) ∧
        (W3.putObj (s + 1) (rc (if jump.isNone then .ready else .done) jump)).heap[s]? = some (.deferred (some [])) ∧
        Kt (KB TC V.heap.size) W (W3.putObj (s + 1) (rc (if jump.isNone then .ready else .done) jump)) := fun jump W3 k => by
      have l3 := k.same _ _ l2 (fun q => by have : s + 1 < s := q; omega)
      have d3 := k.same _ _ d2 (fun q => by have : s < s := q; omega)
      refine ⟨run_endRound (P := P) jump l3, pI _ _ _ _ l3, World.putObj_heap_same (Array.getElem?_eq_some_iff.1 l3).1, (World.putObj_heap_other (by omega)).trans d3, ?_⟩
      exact (((Kt.of_gb g1).trans (pB _ _ _ _ l1)).trans (k.mono (KB.mono (by rw [sV]; omega)))).trans (pB _ _ _ _ l3)
    refine wpIn_mono (hq _ (Kt.put _ fun o2 h2 => by rw [l1] at h2; cases h2; exact trivial) ((Kt.of_gb g1).trans (pI _ _ _ _ l1))) ?_
    clear hq
    rintro e a3 W3 hq
    cases e with
    | normal => obtain ⟨k, j⟩ := hq; obtain ⟨r, q, l4, d4, kk⟩ := end_ none W3 k; exact ⟨_, _, r, .inl ⟨rfl, ⟨hI _ _ _ j q, l4, d4⟩, kk⟩⟩
    | ret => obtain ⟨k, j⟩ := hq; obtain ⟨r, q, l4, d4, kk⟩ := end_ (some .ret) W3 k; exact ⟨_, _, r, .inr ⟨rfl, ⟨_, hIx _ _ _ _ j q, l4, d4⟩, kk⟩⟩
    | exit id => obtain ⟨k, j⟩ := hq; obtain ⟨r, q, l4, d4, kk⟩ := end_ (some (.exit id)) W3 k; exact ⟨_, _, r, .inr ⟨rfl, ⟨_, hIx _ _ _ _ j q, l4, d4⟩, kk⟩⟩
    | goto t => obtain ⟨k, j⟩ := hq; obtain ⟨r, q, l4, d4, kk⟩ := end_ (some (.goto t)) W3 k; exact ⟨_, _, r, .inr ⟨rfl, ⟨_, hIx _ _ _ _ j q, l4, d4⟩, kk⟩⟩
    | panic ch => exact hq.elim
    | outgrown => exact hq.elim
  · rintro e W2 ⟨⟨v, rfl⟩, ⟨i, l, d⟩ | ⟨pre, hp, c, i, l, d⟩⟩
    · exact ⟨none, _, run_endLoop (P := P) l (by simp), hdone s _ (Nat.le_refl _) (hI _ _ _ i (pI _ _ _ _ l)) ((World.putObj_heap_other (by omega)).trans d)⟩
    · exact ⟨some c, _, run_endLoop (P := P) l (by simp), hstop s c pre _ (Nat.le_refl _) hp (hIx _ _ _ _ i (pI _ _ _ _ l)) ((World.putObj_heap_other (by omega)).trans d)⟩
theorem yield_any {m : Nat} (m2 : Nat) {P : Program} {l : Nat} {args : Array Value} {W : World} {R : Ending → World → Prop} (h : YieldAt Fence.wide m P l args W R) : YieldAt Fence.wide m2 P l args W R := by
  obtain ⟨fn, tmps, assign, body, hy, hR⟩ := h
  exact ⟨fn, tmps, assign, body, hy, hR.1, fun c cs _ => hR.2 c cs (room_wide _)⟩
theorem round_in {F : Fence} {n : Nat} {P : Program} {l : Nat} {f : FuncId} {tmps : Array Value} {assign body : Code} {w : World} {R : Ending → World → Prop} (l2 : Nat) (h : RoundIn F n P l f tmps assign body w R) : RoundIn (F.inRound l2) n P l f tmps assign body w R := h
theorem wd (n : Nat) : Fence.wide.depth.isSome = true → 1 ≤ n := by intro h; simp [Fence.wide] at h
end Go.Proofs.Ytfjeonoihdgdoaa
