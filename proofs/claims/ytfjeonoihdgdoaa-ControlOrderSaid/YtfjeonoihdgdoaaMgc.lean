/- The texts FrK, FrB, OrT, CnR, CnS, CnT, CnY, CnZ, CoA, CoB, CoC, CoD, CoE, CoF, CoG in one; no condition. -/
import Derived.Test.YtfjeonoihdgdoaaFrE
import Derived.Test.YtfjeonoihdgdoaaCnM
import Derived.Test.YtfjeonoihdgdoaaCnA
import Derived.Test.YtfjeonoihdgdoaaMem
import Derived.Deep.RegionHeld
import Derived.Test.YtfjeonoihdgdoaaMga
import Derived.Test.YtfjeonoihdgdoaaCnG
import Derived.Test.YtfjeonoihdgdoaaCnJ
import Derived.Test.YtfjeonoihdgdoaaRxA
import Derived.Test.YtfjeonoihdgdoaaExWo
import Derived.BigQuiet
import Derived.Test.YtfjeonoihdgdoaaCnB
import Derived.Laws.AppendOwn
import Derived.Test.YtfjeonoihdgdoaaCnK
section
/- Control: how a control flow as an argument is opened; no condition. -/
namespace Go.Proofs.Ytfjeonoihdgdoaa
open Go.ChangeShapes Go.WideShapes Go.ChangeAt Go.RowKit Go.Joins Go.Deep
set_option linter.unusedVariables false
section
variable {H : Type} {enc : TypeId × Value → H} {w : World}
instance : Inhabited CV := ⟨cz⟩
set_option maxRecDepth 100000 in
theorem open_ct : ∀ (m n : Nat) (v : Value) (x : DataW H × List MemPlace), n < m → DataW.trod enc Try.prog w 0 (fun _ => true) true n 28 [v] = some x → ∃ (s : Sl) (T : CT), v = .slice s.a s.n s.c ∧ ST w s T := by
  intro m
  induction m with
  | zero => intro n v x h; omega
  | succ m ih =>
    intro n v x hm h
    rcases DataW.trod_slice Try.underlying28 h with ⟨hcs, _⟩ | ⟨a, len, cap, elems, rest, k, rfl, hcs, _, _, hl, _, hlen, hel, _, _⟩
    · injection hcs with h1 _
      exact ⟨⟨none, 0, 0⟩, .nil, h1, ST.nilv w⟩
    · injection hcs with h1 _
      have ce : Try.prog.cellsOf 63 = 5 := by kernel_rfl
      have ci : Try.prog.cellsOf 3 = 1 := by kernel_rfl
      have cx : Try.prog.cellsOf 32 = 1 := by kernel_rfl
      have cc : Try.prog.cellsOf 28 = 1 := by kernel_rfl
      rw [ce] at hel
      have each : ∀ i, i < len → ∃ q : CV, (w.cell? (a.add (i * 5)) = some (.int .i64 q.k) ∧ w.cell? (a.add (i * 5 + 1)) = some (.int .i64 q.t) ∧ w.cell? (a.add (i * 5 + 2)) = some q.c.v ∧ w.cell? (a.add (i * 5 + 3)) = some q.s.v ∧ w.cell? (a.add (i * 5 + 4)) = some q.u.v) ∧ VM w q := by
        intro i hi
        have e := hel i hi
        rw [List.getElem?_eq_getElem (show i < elems.length by omega)] at e
        obtain ⟨cs', hc, ht'⟩ := Option.bind_eq_some_iff.1 e
        obtain ⟨_, hcl, hat⟩ := World.cells?_some hc
        match cs', hcl with
        | [q0, q1, q2, q3, q4], _ =>
          have g0 := hat (i := 0) (by decide)
          have g1 := hat (i := 1) (by decide)
          have g2 := hat (i := 2) (by decide)
          have g3 := hat (i := 3) (by decide)
          have g4 := hat (i := 4) (by decide)
          rw [Go.Deep.add_add] at g0 g1 g2 g3 g4
          obtain ⟨xs, n', hn', _, _, hlen2, hg⟩ := DataW.trod_struct Try.underlying63 ht'
          match xs, hlen2 with
          | [y0, y1, y2, y3, y4], _ =>
            have f0 := hg 0 _ rfl
            have f1 := hg 1 _ rfl
            have f2 := hg 2 _ rfl
            have f3 := hg 3 _ rfl
            have f4 := hg 4 _ rfl
            simp [ci] at f0 f1
            simp [cx] at f2
            simp [cc] at f3 f4
            obtain ⟨a0, e0, _, _⟩ := DataW.trod_int Try.underlying3 f0
            obtain ⟨a1, e1, _, _⟩ := DataW.trod_int Try.underlying3 f1
            injection e0 with e0 _
            injection e1 with e1 _
            obtain ⟨na, nn, nc, N, e2, sn⟩ := open_sn f2
            obtain ⟨s3, T3, e3, st3⟩ := ih n' q3 _ (by omega) f3
            obtain ⟨s4, T4, e4, st4⟩ := ih n' q4 _ (by omega) f4
            subst e0 e1 e2 e3 e4
            exact ⟨⟨a0, a1, ⟨na, nn, nc⟩, N, s3, T3, s4, T4⟩, ⟨by simpa using g0, by simpa using g1, by simpa using g2, by simpa using g3, by simpa using g4⟩, ⟨sn, st3, st4⟩⟩
      obtain ⟨q, hq⟩ := choose_lt each
      refine ⟨⟨some a, len, cap⟩, CT.ofL ((List.range len).map q), h1, by rw [CT.ofL_len]; simp, (fun e => by cases e), hl, fun ad e => ?_⟩
      cases e
      refine ctm_ofL _ 0 (fun i hi => ?_)
      have hi' : i < len := by simpa using hi
      have e : ((List.range len).map q).getD i cz = q i := by
        rw [List.getD_eq_getElem?_getD, List.getElem?_map, List.getElem?_range hi']; rfl
      rw [e, Nat.zero_add, add_nr _ _ 1 (by decide), add_nr _ _ 2 (by decide), add_nr _ _ 3 (by decide), add_nr _ _ 4 (by decide)]
      exact hq i hi'
set_option maxRecDepth 100000 in
theorem open_ctree {r : Reach} {b0 : Nat} {v : Value} {d : DataW H} {p : List MemPlace} (hv : Value.okWide Try.prog w r b0 28 v) (h : DataW.Trod enc Try.prog w 0 (fun _ => true) true 28 v d p) :
    ∃ (s : Sl) (T : CT), v = .slice s.a s.n s.c ∧ ST w s T := by
  obtain ⟨a0, len0, cap0, rfl⟩ := okWide_slice Try.underlying28 hv
  obtain ⟨fuel, hf⟩ := h
  exact open_ct (fuel + 1) fuel _ _ (by omega) hf
theorem lowD2 {W W' : World} {e : Ending} (h : RetV (.bool true) W e W') : e = .returned (.bool true) ∧ Below W.heap.size W W' := ⟨h.1, ⟨h.2.os, h.2.tape, h.2.output, h.2.size, fun i hi => h.2.block i hi (by simp)⟩⟩
end
end Go.Proofs.Ytfjeonoihdgdoaa
end
section
/- How a row of truth values as an argument is opened; no condition. -/
namespace Go.Proofs.Ytfjeonoihdgdoaa
open Go.ChangeShapes Go.WideShapes Go.ChangeAt Go.RowKit Go.Joins Go.Deep
set_option linter.unusedVariables false
set_option maxRecDepth 100000 in
theorem open_bools {H : Type} {enc : TypeId × Value → H} {w : World} {r : Reach} {b0 : Nat} {v : Value} {d : DataW H} {p : List MemPlace} (hv : Value.okWide Try.prog w r b0 33 v) (h : DataW.Trod enc Try.prog w 0 (fun _ => true) true 33 v d p) :
    ∃ (s : Sl) (L : List Bool), v = .slice s.a s.n s.c ∧ SB w s.a s.n s.c L := by
  obtain ⟨a0, len0, cap0, rfl⟩ := okWide_slice Try.underlying33 hv
  obtain ⟨fuel, hf⟩ := h
  obtain ⟨a, l, c, L, e, sb⟩ := open_sb hf
  exact ⟨⟨a, l, c⟩, L, e, sb⟩
end Go.Proofs.Ytfjeonoihdgdoaa
end
section
/- A region that draws its order, by an invariant on what has been done; no condition. -/
namespace Go.Proofs.Ytfjeonoihdgdoaa
open Go.RowKit
set_option linter.unusedVariables false
theorem cnt_set : ∀ (l : List Bool) (i : Nat), l[i]? = some false → (l.set i true).countP (fun b => !b) + 1 = l.countP (fun b => !b)
  | [], i, h => by simp at h
  | b :: l, 0, h => by
    have : b = false := by simpa using h
    subst this
    simp
  | b :: l, i + 1, h => by
    have ih := cnt_set l i (by simpa using h)
    simp only [List.set_cons_succ, List.countP_cons]
    omega
section
variable {P : Program} {ops : Array Oper} {Q : Exit → Act → World → Prop} {md : Region.Mode} {S : World → Prop}
theorem un_some {l : Array Bool} {i : Nat} (h : l.getD i true = false) : l.toList[i]? = some false := by
  rw [Array.getElem?_toList]
  rw [Array.getD_eq_getD_getElem?] at h
  cases e : l[i]? with
  | none => rw [e] at h; cases h
  | some b => rw [e] at h; simp at h; rw [h]
theorem wpAnyH_inv (Inv : Array Bool → Act → World → Prop)
    (step : ∀ l a w, Inv l a w → ∀ i, i ∈ Region.ready md ops l → wpOp P ops Q i (fun a' w' => S w' ∧ Inv (l.setIfInBounds i true) a' w') a w)
    (fin : ∀ l a w, Inv l a w → Region.ready md ops l = [] → Q .normal a w) :
    ∀ (fuel : Nat) (l : Array Bool) (a : Act) (w : World), Inv l a w → l.toList.countP (fun b => !b) ≤ fuel → wpAnyH P md ops Q S fuel l a w
  | 0, l, a, w, hI, hc => by
    have hr : Region.ready md ops l = [] := by
      rw [List.eq_nil_iff_forall_not_mem]
      intro j hj
      have un := un_some (mem_ready.1 hj).1
      have : 0 < l.toList.countP (fun b => !b) := List.countP_pos_iff.2 ⟨false, List.mem_of_getElem? un, rfl⟩
      omega
    exact ⟨hr, fin l a w hI hr⟩
  | fuel + 1, l, a, w, hI, hc => by
    refine ⟨fin l a w hI, fun i hi => wpOp_mono (fun a' w' h => ⟨h.1, wpAnyH_inv Inv step fin fuel _ a' w' h.2 ?_⟩) (step l a w hI i hi)⟩
    have un := un_some (mem_ready.1 hi).1
    have := cnt_set _ i un
    rw [Array.toList_setIfInBounds]
    omega
/-- Three boxes that are made and filled in whatever order: places 13 to 15 make them, 16 to 18 fill them. -/
def CH3 (w0 w : World) (t : TypeId) (f g : Bool) (v : Value) (row z : Array Value) : Prop := f = true → ∃ b, v = .pointer (some ⟨b, 0, none⟩) ∧ w0.heap.size ≤ b ∧ IsB w b t (if g = true then row else z)
def INV3 (s1 s2 s3 : Nat) (t : TypeId) (r1 r2 r3 z : Array Value) (w0 : World) (a0 : Act) (l : Array Bool) (a : Act) (w : World) : Prop :=
  ∃ (f1 f2 f3 g1 g2 g3 : Bool) (v1 v2 v3 : Value), l = #[true, true, true, true, true, true, true, true, true, true, true, true, true, f1, f2, f3, g1, g2, g3] ∧
    a = ((a0.put (some s1) v1).put (some s2) v2).put (some s3) v3 ∧ w0.grownBy w none ∧ CH3 w0 w t f1 g1 v1 r1 z ∧ CH3 w0 w t f2 g2 v2 r2 z ∧ CH3 w0 w t f3 g3 v3 r3 z ∧
    (f1 = true → f2 = true → v1 ≠ v2) ∧ (f1 = true → f3 = true → v1 ≠ v3) ∧ (f2 = true → f3 = true → v2 ≠ v3) ∧ (f1 = false → g1 = false) ∧ (f2 = false → g2 = false) ∧ (f3 = false → g3 = false)
theorem CH3.alloc {w0 w : World} {t : TypeId} {f g : Bool} {v : Value} {row z : Array Value} (h : CH3 w0 w t f g v row z) (o : Obj) : CH3 w0 (w.alloc o) t f g v row z := fun e => by
  obtain ⟨b, h1, h2, h3⟩ := h e
  exact ⟨b, h1, h2, h3.alloc o⟩
theorem CH3.new {w0 w : World} {t : TypeId} {row z : Array Value} (g0 : w0.grownBy w none) : CH3 w0 (w.alloc (.cells z t)) t true false (.pointer (some ⟨w.heap.size, 0, none⟩)) row z := fun _ => ⟨_, rfl, g0.size, IsB.new _ _ _⟩
theorem CH3.ne {w0 w : World} {t : TypeId} {f g : Bool} {v : Value} {row z : Array Value} (h : CH3 w0 w t f g v row z) (e : f = true) : v ≠ .pointer (some ⟨w.heap.size, 0, none⟩) := by
  obtain ⟨b, rfl, h2, h3⟩ := h e
  intro q
  injection q with q
  injection q with q
  injection q with q _
  have := h3.lt
  omega
theorem wp_three {r1 r2 r3 z : Array Value} {s1 s2 s3 : Nat} {t : TypeId} (w0 : World) (a0 : Act) (w : World)
    (step : ∀ l a w, INV3 s1 s2 s3 t r1 r2 r3 z w0 a0 l a w → ∀ i, i ∈ Region.ready md ops l → wpOp P ops Q i (fun a' w' => S w' ∧ INV3 s1 s2 s3 t r1 r2 r3 z w0 a0 (l.setIfInBounds i true) a' w') a w)
    (fin : ∀ l a w, INV3 s1 s2 s3 t r1 r2 r3 z w0 a0 l a w → Region.ready md ops l = [] → Q .normal a w)
    (g0 : w0.grownBy w none) (h0 : a0 = ((a0.put (some s1) (a0.tmps.getD s1 undef)).put (some s2) (a0.tmps.getD s2 undef)).put (some s3) (a0.tmps.getD s3 undef)) :
    wpAnyH P md ops Q S 6 #[true, true, true, true, true, true, true, true, true, true, true, true, true, false, false, false, false, false, false] a0 w :=
  wpAnyH_inv _ step fin 6 _ _ _ ⟨false, false, false, false, false, false, _, _, _, rfl, h0, g0, (fun e => by cases e), (fun e => by cases e), (fun e => by cases e), (fun e => by cases e), (fun e => by cases e), (fun e => by cases e), fun _ => rfl, fun _ => rfl, fun _ => rfl⟩ (by decide)
end
end Go.Proofs.Ytfjeonoihdgdoaa
end
section
/- Control: the laws' example; no condition. -/
namespace Go.Proofs.Ytfjeonoihdgdoaa
open Go.RowKit
set_option linter.unusedVariables false
def nil3 : Sl := ⟨none, 0, 0⟩
def wkA : CT := .cons 1 4 nil3 [] nil3 .nil nil3 .nil .nil
def wkB : CT := .cons 3 2 nil3 [] nil3 .nil nil3 .nil (.cons 1 7 nil3 [] nil3 .nil nil3 .nil .nil)
def wkT (g : Nat) : CT := .cons 2 0 nil3 [] ⟨some ⟨g, 0, none⟩, 1, 1⟩ wkA ⟨some ⟨g + 1, 0, none⟩, 2, 2⟩ wkB .nil
theorem sn_nil0 (w : World) : SN w none 0 0 [] := ⟨rfl, fun _ => ⟨rfl, rfl⟩, Nat.le_refl _, (fun ad e => by cases e), (fun x hx => by cases hx)⟩
theorem vm_leaf (w : World) (k t : Int) : VM w ⟨k, t, nil3, [], nil3, .nil, nil3, .nil⟩ := ⟨sn_nil0 w, ST.nilv w, ST.nilv w⟩
theorem wk_st (w : World) (g : Nat) (b0 : IsB w g 63 #[.int .i64 1, .int .i64 4, .slice none 0 0, .slice none 0 0, .slice none 0 0]) (b1 : IsB w (g + 1) 63 #[.int .i64 3, .int .i64 2, .slice none 0 0, .slice none 0 0, .slice none 0 0, .int .i64 1, .int .i64 7, .slice none 0 0, .slice none 0 0, .slice none 0 0])
    (b2 : IsB w (g + 1 + 1) 63 #[.int .i64 2, .int .i64 0, .slice none 0 0, .slice (some ⟨g, 0, none⟩) 1 1, .slice (some ⟨g + 1, 0, none⟩) 2 2]) : ST w ⟨some ⟨g + 1 + 1, 0, none⟩, 1, 1⟩ (wkT g) := by
  have sA : ST w ⟨some ⟨g, 0, none⟩, 1, 1⟩ wkA := by
    refine ⟨rfl, (fun e => by cases e), Nat.le_refl _, fun ad e => ?_⟩
    cases e
    refine ctm_mk (x := ⟨1, 4, nil3, [], nil3, .nil, nil3, .nil⟩) ?_ (vm_leaf w 1 4) trivial
    rw [addr0c]
    exact ⟨b0.cell 0, b0.cell 1, b0.cell 2, b0.cell 3, b0.cell 4⟩
  have sB : ST w ⟨some ⟨g + 1, 0, none⟩, 2, 2⟩ wkB := by
    refine ⟨rfl, (fun e => by cases e), Nat.le_refl _, fun ad e => ?_⟩
    cases e
    refine ctm_mk (x := ⟨3, 2, nil3, [], nil3, .nil, nil3, .nil⟩) ?_ (vm_leaf w 3 2) (ctm_mk (x := ⟨1, 7, nil3, [], nil3, .nil, nil3, .nil⟩) ?_ (vm_leaf w 1 7) trivial)
    · rw [addr0c]
      exact ⟨b1.cell 0, b1.cell 1, b1.cell 2, b1.cell 3, b1.cell 4⟩
    · rw [addr0c]
      exact ⟨b1.cell 5, b1.cell 6, b1.cell 7, b1.cell 8, b1.cell 9⟩
  refine ⟨rfl, (fun e => by cases e), Nat.le_refl _, fun ad e => ?_⟩
  cases e
  refine ctm_mk (x := ⟨2, 0, nil3, [], ⟨some ⟨g, 0, none⟩, 1, 1⟩, wkA, ⟨some ⟨g + 1, 0, none⟩, 2, 2⟩, wkB⟩) ?_ ⟨sn_nil0 w, sA, sB⟩ trivial
  rw [addr0c]
  exact ⟨b2.cell 0, b2.cell 1, b2.cell 2, b2.cell 3, b2.cell 4⟩
theorem nl_sz2 {w : World} {base n c : Nat} {a : Option Addr} {L : List Int} (h : NL w base (.slice a n c) L) (hl : n = L.length) : SZ w a n c L := by
  subst hl
  have cp := own_cap h
  have s := h.slr rfl
  exact ⟨rfl, fun e => s.2.1 e, cp, fun ad e j hj => s.2.2 ad e j (.int .i64 (L.getD j 0)) (by simp [hj])⟩
theorem wk_ints (w : World) (t : TypeId) : SZ (w.alloc (.cells #[.int .i64 4, .int .i64 2, .int .i64 7] t)) (some ⟨w.heap.size, 0, none⟩) 3 3 [4, 2, 7] := by
  refine ⟨rfl, (fun e => by cases e), Nat.le_refl _, fun ad e j hj => ?_⟩
  cases e
  rw [addr0c, (IsB.new w t _).cell j]
  rcases (show j = 0 ∨ j = 1 ∨ j = 2 by omega) with rfl | rfl | rfl <;> rfl
/-- A program of which the control flow alone is there. -/
def kxC (s : Sl) : KX := ⟨none, 0, 0, ⟨#[]⟩, none, 0, 0, none, 0, 0, none, 0, 0, none, 0, 0, none, 0, 0, none, 0, 0, s.a, s.n, s.c, none, 0, 0, none, 0, 0, none, 0, 0, none, 0, 0, none, 0, 0, none, 0, 0, none, 0, 0⟩
theorem kxC_pr (w : World) (s : Sl) : PR w (kxC s) [] [] := ⟨⟨rfl, fun _ => ⟨rfl, rfl⟩, Nat.le_refl _, fun ad e => by cases e⟩, sf_nil _⟩
theorem wk_chk (g : Nat) : (chkC [] [] 0 (wkT g)) = (0, 3) := rfl
theorem wk_cnt (g : Nat) : (wkT g).cnt = 4 := rfl
theorem wk_nest (g : Nat) : (wkT g).nest = 2 := rfl
theorem wk_tab (g : Nat) : tabL (wkT g).pre = [4, 2, 7] := rfl
theorem wk_node (g : Nat) : nodA (wkT g).pre 3 = some ⟨1, 7, nil3, [], nil3, .nil, nil3, .nil⟩ := rfl
theorem wk_cnd (g : Nat) : Cnd (wkT g) := by
  intro x hx
  have e : (wkT g).pre = [⟨2, 0, nil3, [], ⟨some ⟨g, 0, none⟩, 1, 1⟩, wkA, ⟨some ⟨g + 1, 0, none⟩, 2, 2⟩, wkB⟩, ⟨1, 4, nil3, [], nil3, .nil, nil3, .nil⟩, ⟨3, 2, nil3, [], nil3, .nil, nil3, .nil⟩, ⟨1, 7, nil3, [], nil3, .nil, nil3, .nil⟩] := rfl
  rw [e] at hx
  simp only [List.mem_cons, List.not_mem_nil, or_false] at hx
  rcases hx with rfl | rfl | rfl | rfl <;> exact Nat.zero_le _
set_option maxRecDepth 100000 in
set_option maxHeartbeats 16000000 in
theorem works20_any (w : World) : Calls Try.prog 16 #[] w (RetV (.bool true) w) := by
  obtain ⟨w3, hw3⟩ : ∃ w3, w3 = ((w.alloc (.cells #[.int .i64 1, .int .i64 4, .slice none 0 0, .slice none 0 0, .slice none 0 0] 63)).alloc (.cells #[.int .i64 3, .int .i64 2, .slice none 0 0, .slice none 0 0, .slice none 0 0, .int .i64 1, .int .i64 7, .slice none 0 0, .slice none 0 0, .slice none 0 0] 63)).alloc (.cells #[.int .i64 2, .int .i64 0, .slice none 0 0, .slice (some ⟨w.heap.size, 0, none⟩) 1 1, .slice (some ⟨w.heap.size + 1, 0, none⟩) 2 2] 63) := ⟨_, rfl⟩
  have b0 := ((IsB.new w 63 #[.int .i64 1, .int .i64 4, .slice none 0 0, .slice none 0 0, .slice none 0 0]).alloc (.cells #[.int .i64 3, .int .i64 2, .slice none 0 0, .slice none 0 0, .slice none 0 0, .int .i64 1, .int .i64 7, .slice none 0 0, .slice none 0 0, .slice none 0 0] 63)).alloc (.cells #[.int .i64 2, .int .i64 0, .slice none 0 0, .slice (some ⟨w.heap.size, 0, none⟩) 1 1, .slice (some ⟨w.heap.size + 1, 0, none⟩) 2 2] 63)
  have b1 := (IsB.new (w.alloc (.cells #[.int .i64 1, .int .i64 4, .slice none 0 0, .slice none 0 0, .slice none 0 0] 63)) 63 #[.int .i64 3, .int .i64 2, .slice none 0 0, .slice none 0 0, .slice none 0 0, .int .i64 1, .int .i64 7, .slice none 0 0, .slice none 0 0, .slice none 0 0]).alloc (.cells #[.int .i64 2, .int .i64 0, .slice none 0 0, .slice (some ⟨w.heap.size, 0, none⟩) 1 1, .slice (some ⟨w.heap.size + 1, 0, none⟩) 2 2] 63)
  have b2 := IsB.new ((w.alloc (.cells #[.int .i64 1, .int .i64 4, .slice none 0 0, .slice none 0 0, .slice none 0 0] 63)).alloc (.cells #[.int .i64 3, .int .i64 2, .slice none 0 0, .slice none 0 0, .slice none 0 0, .int .i64 1, .int .i64 7, .slice none 0 0, .slice none 0 0, .slice none 0 0] 63)) 63 #[.int .i64 2, .int .i64 0, .slice none 0 0, .slice (some ⟨w.heap.size, 0, none⟩) 1 1, .slice (some ⟨w.heap.size + 1, 0, none⟩) 2 2]
  rw [sz_al] at b1
  rw [sz_al, sz_al] at b2
  have ST3 := Lib.hid (show ST w3 ⟨some ⟨w.heap.size + 1 + 1, 0, none⟩, 1, 1⟩ (wkT w.heap.size) by rw [hw3]; exact wk_st _ _ b0 b1 b2)
  have G3 := Lib.hid (show w.grownBy w3 none by rw [hw3]; exact gb_al (gb_al (gb_al (gb_refl _ _))))
  have W3 := Lib.hid hw3
  clear hw3 b0 b1 b2
  go_enter Try.func16, Try.ntmps16
  go_upto_region 2 with fail
  rw [← W3.out]
  clear W3
  obtain ⟨g, hg⟩ : ∃ g, g = w.heap.size := ⟨_, rfl⟩
  rw [← hg] at ST3 ⊢
  clear hg
  have KN := Lib.hid (fun (w2 : World) (q : w3.grownBy w2 none) => knode_any w2 ⟨some ⟨g + 1 + 1, 0, none⟩, 1, 1⟩ (wkT g) (ST3.out.keep0 q) (by rw [wk_cnt]; decide) (wk_cnd g) 3)
  have KK := Lib.hid (fun (w2 : World) (q : w3.grownBy w2 none) => kchk_any w2 (kxC ⟨some ⟨g + 1 + 1, 0, none⟩, 1, 1⟩) [] [] (wkT g) (ST3.out.keep0 q) (kxC_pr _ _) (by rw [wk_cnt]; decide) (Nat.zero_le _))
  have KC := Lib.hid (fun (w2 : World) (q : w3.grownBy w2 none) => count_any w2 ⟨some ⟨g + 1 + 1, 0, none⟩, 1, 1⟩ (wkT g) (ST3.out.keep0 q) (by rw [wk_cnt]; decide))
  have KE := Lib.hid (fun (w2 : World) (q : w3.grownBy w2 none) => knest_any w2 ⟨some ⟨g + 1 + 1, 0, none⟩, 1, 1⟩ (wkT g) (ST3.out.keep0 q) (by rw [wk_cnt]; decide))
  have KT := Lib.hid (fun (w2 : World) (q : w3.grownBy w2 none) => ktables_any w2 ⟨some ⟨g + 1 + 1, 0, none⟩, 1, 1⟩ (wkT g) (ST3.out.keep0 q) (by rw [wk_cnt]; decide))
  unfold RetKN at KN
  unfold RetCk at KK
  unfold RetV at KC KE
  unfold RetNL at KT
  rw [wk_node] at KN
  rw [wk_cnt] at KC
  rw [wk_nest] at KE
  rw [wk_tab] at KT
  rw [show chkC [] [] (kxC ⟨some ⟨g + 1 + 1, 0, none⟩, 1, 1⟩).n2 (wkT g) = (0, 3) from rfl] at KK
  dsimp only [kxC, Option.getD_some, Option.isSome_some] at KN KK KC KE KT
  generalize wkT g = TT at *
  go_upto_region 3 with (go_at_call 22; refine (KN.out _ (gb_refl _ _)).mono ?_; clear KN; rintro e w4 ⟨y, rfl, eqn, vm, g4⟩; obtain ⟨yk, yt, ⟨ca, cn, cc⟩, N, ⟨ta, tn, tc⟩, th, ⟨ea, en, ec⟩, el⟩ := y; have h7 := eqn.t; dsimp only at h7; subst h7; have G4 := Lib.hid g4; clear eqn vm g4; dsimp only [CV.cs, Sl.v])
  have B5 := Lib.hid (IsB.new w4 63 #[.int .i64 yk, .int .i64 7, .slice ca cn cc, .slice ta tn tc, .slice ea en ec])
  have G5 := Lib.hid (gb_trans G4.out (gb_alloc w4 (.cells #[.int .i64 yk, .int .i64 7, .slice ca cn cc, .slice ta tn tc, .slice ea en ec] 63) none))
  generalize w4.alloc (.cells #[.int .i64 yk, .int .i64 7, .slice ca cn cc, .slice ta tn tc, .slice ea en ec] 63) = w5 at *
  generalize w4.heap.size = b5 at *
  go_upto_region 4 with (go_at_call 43; refine (KK.out _ G5.out).mono ?_; clear KK; rintro e w6 ⟨rfl, g6⟩; have G6 := Lib.hid (gb_trans G5.out g6); have B6 := Lib.hid (B5.out.keep0 g6); clear g6)
  go_wp2_with (first
    | (go_at_call 21; refine (KC.out _ G6.out).mono ?_; clear KC; rintro e w7 ⟨rfl, g7⟩; have G7 := Lib.hid (gb_trans G6.out g7); have B7 := Lib.hid (B6.out.keep0 g7); clear g7)
    | (go_at_call 44; refine (KE.out _ G7.out).mono ?_; clear KE; rintro e w8 ⟨rfl, g8⟩; have G8 := Lib.hid (gb_trans G7.out g8); have B8 := Lib.hid (B7.out.keep0 g8); clear g8; have b81 := B8.out.cell 1; dsimp at b81)
    | (go_at_call 20; refine (KT.out _ G8.out).mono ?_; clear KT b81; rintro e w9 ⟨a9, c9, rfl, n9, g9⟩; have G9 := Lib.hid (gb_trans G8.out g9); have Z9 := Lib.hid ((nl_sz2 n9 rfl).keep0 (gb_alloc w9 (.cells #[.int .i64 4, .int .i64 2, .int .i64 7] 3) none)); have Y9 := Lib.hid (wk_ints w9 3); clear n9 g9)
    | (go_at_call 40; refine (eqi_any _ _ _ _ _ _ _ [4, 2, 7] [4, 2, 7] Z9.out Y9.out (by decide) (by decide)).mono ?_; rintro e w10 ⟨rfl, g10⟩; have G10 := Lib.hid (gb_trans (gb_trans G9.out (gb_alloc w9 (.cells #[.int .i64 4, .int .i64 2, .int .i64 7] 3) none)) g10); clear g10; rw [decide_eq_true rfl]))
  go_ret
  exact ⟨rfl, gb_trans G3.out G10.out⟩
end Go.Proofs.Ytfjeonoihdgdoaa
end
section
/- Control: the reference's Equal says yes to two flows that are the same; no condition but that the trees lie in memory and are not large. -/
namespace Go.Proofs.Ytfjeonoihdgdoaa
open Go.RowKit
set_option linter.unusedVariables false
section
variable {P : Program} {ops : Array Oper} {Q : Exit → Act → World → Prop} {md : Region.Mode} {S : World → Prop}
def INV8 (s1 s2 : Nat) (t : TypeId) (r1 r2 z : Array Value) (w0 : World) (a0 : Act) (l : Array Bool) (a : Act) (w : World) : Prop :=
  ∃ (f1 f2 g1 g2 : Bool) (v1 v2 : Value), l = #[true, true, true, true, true, true, true, true, f1, f2, g1, g2] ∧
    a = (a0.put (some s1) v1).put (some s2) v2 ∧ w0.grownBy w none ∧ CH3 w0 w t f1 g1 v1 r1 z ∧ CH3 w0 w t f2 g2 v2 r2 z ∧
    (f1 = true → f2 = true → v1 ≠ v2) ∧ (f1 = false → g1 = false) ∧ (f2 = false → g2 = false)
theorem wp_two8 {r1 r2 z : Array Value} {s1 s2 : Nat} {t : TypeId} (w0 : World) (a0 : Act) (w : World)
    (step : ∀ l a w, INV8 s1 s2 t r1 r2 z w0 a0 l a w → ∀ i, i ∈ Region.ready md ops l → wpOp P ops Q i (fun a' w' => S w' ∧ INV8 s1 s2 t r1 r2 z w0 a0 (l.setIfInBounds i true) a' w') a w)
    (fin : ∀ l a w, INV8 s1 s2 t r1 r2 z w0 a0 l a w → Region.ready md ops l = [] → Q .normal a w)
    (g0 : w0.grownBy w none) (h0 : a0 = (a0.put (some s1) (a0.tmps.getD s1 undef)).put (some s2) (a0.tmps.getD s2 undef)) :
    wpAnyH P md ops Q S 4 #[true, true, true, true, true, true, true, true, false, false, false, false] a0 w :=
  wpAnyH_inv _ step fin 4 _ _ _ ⟨false, false, false, false, _, _, rfl, h0, g0, (fun e => by cases e), (fun e => by cases e), (fun e => by cases e), fun _ => rfl, fun _ => rfl⟩ (by decide)
end
theorem far5 {w : World} {g b : Nat} {t : TypeId} {cs : Array Value} {u0 u1 u2 u3 u4 : Value} (h : IsB w g t cs) (hn : g ≠ b) : IsB (((((w.setCell ⟨b, 0, none⟩ u0).setCell ⟨b, 1, none⟩ u1).setCell ⟨b, 2, none⟩ u2).setCell ⟨b, 3, none⟩ u3).setCell ⟨b, 4, none⟩ u4) g t cs :=
  ((((h.set_far hn 0 u0).set_far hn 1 u1).set_far hn 2 u2).set_far hn 3 u3).set_far hn 4 u4
theorem fill5 {w : World} {b : Nat} {t : TypeId} {z0 z1 z2 z3 z4 : Value} (h : IsB w b t #[z0, z1, z2, z3, z4]) (u0 u1 u2 u3 u4 : Value) : IsB (((((w.setCell ⟨b, 0, none⟩ u0).setCell ⟨b, 1, none⟩ u1).setCell ⟨b, 2, none⟩ u2).setCell ⟨b, 3, none⟩ u3).setCell ⟨b, 4, none⟩ u4) b t #[u0, u1, u2, u3, u4] :=
  ((((h.set 0 u0).set 1 u1).set 2 u2).set 3 u3).set 4 u4
theorem grow5 {w0 w : World} {b : Nat} {u0 u1 u2 u3 u4 : Value} (g : w0.grownBy w none) (h : w0.heap.size ≤ b) : w0.grownBy (((((w.setCell ⟨b, 0, none⟩ u0).setCell ⟨b, 1, none⟩ u1).setCell ⟨b, 2, none⟩ u2).setCell ⟨b, 3, none⟩ u3).setCell ⟨b, 4, none⟩ u4) none :=
  gb_put (gb_put (gb_put (gb_put (gb_put g h) h) h) h) h
theorem eqv_len : ∀ (T U : CT), T.eqv U → T.len = U.len
  | .nil, .nil, _ => rfl
  | .cons _ _ _ _ _ _ _ _ r, .cons _ _ _ _ _ _ _ _ r2, h => by show r.len + 1 = r2.len + 1; rw [eqv_len r r2 h.2.2.2.2.2]
  | .nil, .cons _ _ _ _ _ _ _ _ _, h => h.elim
  | .cons _ _ _ _ _ _ _ _ _, .nil, h => h.elim
theorem eqv_drop : ∀ (T U : CT) (j : Nat), T.eqv U → (T.drop j).eqv (U.drop j)
  | T, U, 0, h => by rw [CT.drop_zero, CT.drop_zero]; exact h
  | .nil, .nil, j + 1, _ => by rw [CT.drop_nil]; trivial
  | .cons _ _ _ _ _ _ _ _ r, .cons _ _ _ _ _ _ _ _ r2, j + 1, h => eqv_drop r r2 j h.2.2.2.2.2
  | .nil, .cons _ _ _ _ _ _ _ _ _, j + 1, h => h.elim
  | .cons _ _ _ _ _ _ _ _ _, .nil, j + 1, h => h.elim
theorem eqv_ct {x y : CV} {r r2 : CT} (h : (x.ct r).eqv (y.ct r2)) : EqN x y := ⟨h.1, h.2.1, h.2.2.1, h.2.2.2.1, h.2.2.2.2.1⟩
end Go.Proofs.Ytfjeonoihdgdoaa
end
section
/- The law Queries: Count, Nesting, Tables and Node are those of the definition; no condition. -/
namespace Go.Proofs.Ytfjeonoihdgdoaa
open Go.RowKit
set_option linter.unusedVariables false
theorem eqv_symm : ∀ (T U : CT), T.eqv U → U.eqv T
  | .nil, .nil, _ => trivial
  | .cons _ _ _ _ _ th _ el r, .cons _ _ _ _ _ th2 _ el2 r2, h => ⟨h.1.symm, h.2.1.symm, h.2.2.1.symm, eqv_symm th th2 h.2.2.2.1, eqv_symm el el2 h.2.2.2.2.1, eqv_symm r r2 h.2.2.2.2.2⟩
  | .nil, .cons _ _ _ _ _ _ _ _ _, h => h.elim
  | .cons _ _ _ _ _ _ _ _ _, .nil, h => h.elim
theorem EqN.symm {x y : CV} (h : EqN x y) : EqN y x := ⟨h.k.symm, h.t.symm, h.N.symm, eqv_symm _ _ h.th, eqv_symm _ _ h.el⟩
theorem eqv_N : ∀ (T U : CT), T.eqv U → U.pre.map (·.N) = T.pre.map (·.N)
  | .nil, .nil, _ => rfl
  | .cons k t c N s th u el r, .cons k2 t2 c2 N2 s2 th2 u2 el2 r2, h => by
    have p : (CT.cons k t c N s th u el r).pre = ⟨k, t, c, N, s, th, u, el⟩ :: (th.pre ++ (el.pre ++ r.pre)) := rfl
    have p2 : (CT.cons k2 t2 c2 N2 s2 th2 u2 el2 r2).pre = ⟨k2, t2, c2, N2, s2, th2, u2, el2⟩ :: (th2.pre ++ (el2.pre ++ r2.pre)) := rfl
    rw [p, p2]
    simp only [List.map_cons, List.map_append]
    rw [eqv_N th th2 h.2.2.2.1, eqv_N el el2 h.2.2.2.2.1, eqv_N r r2 h.2.2.2.2.2, h.2.2.1]
  | .nil, .cons _ _ _ _ _ _ _ _ _, h => h.elim
  | .cons _ _ _ _ _ _ _ _ _, .nil, h => h.elim
theorem eqv_cnt {T U : CT} (h : T.eqv U) : U.cnt = T.cnt := by
  have e := congrArg List.length (eqv_N T U h)
  rw [List.length_map, List.length_map] at e
  exact e
theorem eqv_cnd {T U : CT} (h : T.eqv U) (c : Cnd T) : Cnd U := by
  intro x hx
  have m : x.N ∈ U.pre.map (·.N) := List.mem_map.2 ⟨x, hx, rfl⟩
  rw [eqv_N T U h] at m
  obtain ⟨y, hy, e⟩ := List.mem_map.1 m
  rw [← e]
  exact c y hy
theorem one_st {w : World} {b : Nat} {y : CV} (hb : IsB w b 63 #[.int .i64 y.k, .int .i64 y.t, .slice y.c.a y.c.n y.c.c, .slice y.s.a y.s.n y.s.c, .slice y.u.a y.u.n y.u.c]) (hv : VM w y) : ST w ⟨some ⟨b, 0, none⟩, 1, 1⟩ (y.ct .nil) := by
  refine ⟨rfl, (fun e => by cases e), Nat.le_refl _, fun ad e => ?_⟩
  cases e
  refine ctm_mk ?_ hv trivial
  rw [addr0c]
  exact ⟨hb.cell 0, hb.cell 1, hb.cell 2, hb.cell 3, hb.cell 4⟩
theorem sm_cnd {T : CT} {n : Nat} (h : SmC T n) : Cnd T := fun x hx => Nat.le_trans (h.2.2 x hx) (by decide)
end Go.Proofs.Ytfjeonoihdgdoaa
end
section
/- Control: the walk of the laws: its answers, and what it writes down; no condition but that its rows are not long. -/
namespace Go.Proofs.Ytfjeonoihdgdoaa
open Go.RowKit
set_option linter.unusedVariables false
/-- What a walk has written down. -/
structure WS where
  nx : Nat
  tb : List Int
  cd : List Int
def ansB (L : List Bool) (n : Nat) : Bool := decide (0 < L.length) && L.getD (n % L.length) false
/-- A walk in memory: its cells lie at b, its rows at z or behind it; what lay in w0 lies as it lay. -/
structure WI (w0 w : World) (b z : Nat) (s : Sl) (L : List Bool) (st : WS) : Prop where
  ex : ∃ V1 V2, IsB w b 56 #[.slice s.a s.n s.c, .int .i64 (st.nx : Int), V1, V2] ∧ NL w z V1 st.tb ∧ NL w z V2 st.cd ∧ (∀ g, V1.ownBlock = some g → V2.ownBlock ≠ some g)
  kc : Kc w0 w
  zl : z ≤ w.heap.size
theorem WI.keep0 {w0 w w2 : World} {b z : Nat} {s : Sl} {L : List Bool} {st : WS} (h : WI w0 w b z s L st) (k : w.grownBy w2 none) : WI w0 w2 b z s L st := by
  obtain ⟨V1, V2, h1, h2, h3, h4⟩ := h.ex
  exact ⟨⟨V1, V2, h1.keep0 k, h2.keep0 k, h3.keep0 k, h4⟩, h.kc.trans (Kc.of_gb k), Nat.le_trans h.zl k.size⟩
/-- What a walk may turn: its cells, and rows of numbers at z or behind it. -/
def OwW (b z : Nat) (k : Nat) : Obj → Prop
  | .cells _ t _ => (k = b ∧ t = 56) ∨ (z ≤ k ∧ t = 3)
  | _ => False
/-- The call of a walk's method: what it answers, and what is written down then. -/
def RetWk (w0 : World) (b z : Nat) (s : Sl) (L : List Bool) (r : Bool) (st : WS) (w : World) (e : Ending) (w' : World) : Prop := e = .returned (.bool r) ∧ WI w0 w' b z s L st ∧ Kt (OwW b z) w w'
theorem kc_set {w0 w : World} {b : Nat} {t : TypeId} {cs : Array Value} (h : Kc w0 w) (hb : IsB w b t cs) (hl : w0.heap.size ≤ b) (k : Nat) (v : Value) : Kc w0 (w.setCell ⟨b, k, none⟩ v) := by
  intro p u q
  have lt : p.block < w0.heap.size := by
    rcases Nat.lt_or_ge p.block w0.heap.size with hl | hl
    · exact hl
    · unfold World.cell? at q; rw [Array.getElem?_eq_none hl] at q; cases q
  exact (gb_set w b k v).cell (h p u q) (by intro e; injection e with e; omega)
theorem wi_next {w0 w : World} {b z : Nat} {s : Sl} {L : List Bool} {st : WS} (h : WI w0 w b z s L st) (h0 : w0.heap.size ≤ b) :
    WI w0 (w.setCell ⟨b, 1, none⟩ (.int .i64 ((st.nx : Int) + 1))) b z s L { st with nx := st.nx + 1 } := by
  obtain ⟨V1, V2, h1, h2, h3, h4⟩ := h.ex
  refine ⟨⟨V1, V2, ?_, own_keepS h2 (gb_set _ _ _ _) h1 (by decide), own_keepS h3 (gb_set _ _ _ _) h1 (by decide), h4⟩, kc_set h.kc h1 h0 1 _, Nat.le_trans h.zl (gb_set w b 1 _).size⟩
  exact h1.set 1 (.int .i64 ((st.nx : Int) + 1))
theorem kt_cell {w : World} {b z : Nat} {cs : Array Value} (h : IsB w b 56 cs) (i : Nat) (v : Value) : Kt (OwW b z) w (w.setCell ⟨b, i, none⟩ v) :=
  Kt.of_row (gb_set w b i v) (fun o ho => by rw [show w.heap[b]? = _ from h] at ho; cases ho; exact .inl ⟨rfl, rfl⟩)
set_option maxRecDepth 100000 in
set_option maxHeartbeats 8000000 in
theorem answer_any (w0 w : World) (b z : Nat) (s : Sl) (L : List Bool) (st : WS) (hL : SB w0 s.a s.n s.c L) (h0 : w0.heap.size ≤ b) (hz : b < z) (h : WI w0 w b z s L st) (hn : st.nx ≤ 1000000) (hs : s.n ≤ 1000000) :
    Calls Try.prog 48 #[.pointer (some ⟨b, 0, none⟩)] w (RetWk w0 b z s L (ansB L st.nx) { st with nx := st.nx + 1 } w) := by
  have HW := Lib.hid h
  obtain ⟨nx, tb, cd⟩ := st
  obtain ⟨⟨V1, V2, h1, h2, h3, h4⟩, kc, zl⟩ := h
  obtain ⟨sa, sn, sc⟩ := s
  dsimp only at *
  have x0 := h1.cell 0
  have x1 := h1.cell 1
  dsimp at x0 x1
  have f1 := h1.free 1
  have LN := Lib.hid hL.len
  have scap := hL.cap
  have FIN := Lib.hid (fun (w2 : World) (g : w.grownBy w2 none) => wi_next (HW.out.keep0 g) h0)
  have KTF := Lib.hid (fun (w2 : World) (g : w.grownBy w2 none) => (Kt.of_gb g).trans (kt_cell (z := z) (h1.keep0 g) 1 (.int .i64 ((nx : Int) + 1))))
  have wr : IntKind.i64.wrap ((nx : Int) + 1) = (nx : Int) + 1 := by rw [IntKind.wrap_i64]; omega
  by_cases hp : 0 < sn
  · obtain ⟨ad, rfl⟩ : ∃ ad, sa = some ad := by
      cases sa with
      | none => have := (hL.nil rfl).1; omega
      | some ad => exact ⟨ad, rfl⟩
    have c0 := kc _ _ (hL.cells ad rfl (nx % sn) (Nat.mod_lt _ hp))
    have AN := Lib.hid (show ansB L nx = L.getD (nx % sn) false by unfold ansB; rw [LN.out, decide_eq_true hp, Bool.true_and])
    obtain ⟨r, hr⟩ : ∃ r, r = L.getD (nx % sn) false := ⟨_, rfl⟩
    rw [← hr] at c0 AN
    have i0 : (0 : Int) < sn := by omega
    have md : ((nx : Int).tmod (sn : Int)) = ((nx % sn : Nat) : Int) := by rw [Int.tmod_eq_emod_of_nonneg (by omega)]; omega
    have m1 : (((nx % sn : Nat) : Int)) < sn := by have := Nat.mod_lt nx hp; omega
    have m0 : (0 : Int) ≤ ((nx % sn : Nat) : Int) := by omega
    generalize nx % sn = q at *
    clear hr h1 h2 h3 h4 kc hL zl
    have dt : decide ((0 : Int) < (sn : Int)) = true := decide_eq_true i0
    go_enter Try.func48, Try.ntmps48
    go_wp2
    go_quiet (fail)
    go_wp2
    go_ret
    exact ⟨by rw [AN.out] <;> rfl, FIN.out _ (gb_drewN _ _ _), KTF.out _ (gb_drewN _ _ _)⟩
  · have hz0 : sn = 0 := by omega
    have AN := Lib.hid (show ansB L nx = false by unfold ansB; rw [LN.out, decide_eq_false hp, Bool.false_and])
    have dt : decide ((0 : Int) < (sn : Int)) = false := decide_eq_false (by omega)
    clear h1 h2 h3 h4 kc hL zl
    subst hz0
    go_enter Try.func48, Try.ntmps48
    go_wp2
    go_quiet (fail)
    go_wp2
    go_ret
    exact ⟨by rw [AN.out] <;> rfl, FIN.out _ (gb_drewN _ _ _), KTF.out _ (gb_drewN _ _ _)⟩
end Go.Proofs.Ytfjeonoihdgdoaa
end
section
/- Control: what is added to a row of one's own lies in the row's own block or behind all that was there; the methods apply and test of the laws' walk; no condition but that its rows are not long. -/
namespace Go.Proofs.Ytfjeonoihdgdoaa
open Go.RowKit
set_option linter.unusedVariables false
set_option maxRecDepth 100000 in
theorem app_loc {w : World} {ty : TypeId} {i : TypeInfo} {z : Value} (hi : Try.prog.info? 3 = some i) (hz : i.zero = some z) (hsize : i.size = 1) (hby : i.bytes = 8) (hzs : z.cells.size = 1) {base : Nat} {V : Value} {L : List Int} (hown : NL w base V L)
    {a : Addr} {m c : Nat} {news : List Value} (hl : news.length = m) (hnews : ∀ j u, news[j]? = some u → w.cell? (a.add j) = some u) (h1 : ∀ u ∈ news, u.oneCell' = true) (hlen : L.length + m ≤ 1000000) {V2 : Value} {w2 : World}
    (hr : (Builtin.append_ #[29, 29] ty #[V, .slice (some a) m c]).run Try.prog w = .ok V2 w2) : ∀ g, V2.ownBlock = some g → V.ownBlock = some g ∨ w.heap.size ≤ g := by
  intro g hg
  have ht := Try.underlying29
  have hml : (m : Nat) * 1 = m := Nat.mul_one m
  have hnl : news.length = m * i.size := by rw [hsize, hml]; exact hl
  rcases hown.2 with ⟨rfl, hn⟩ | ⟨g0, cap, cur, rfl, hbg, hgg, hnc, hcm, hcs, htake⟩
  · obtain ⟨v', w', hr2, o2, _, _⟩ := run_append_own (P := Try.prog) w w.heap.size 29 ty 3 i z 1 8 ht hi hz hsize hby hzs (by decide) (.slice none 0 0) 0 [] (World.ownsRow_nil _ _ _ _) a m c news (by rw [hl, hml]) hnews h1 (by unfold maxLen; omega) (by omega) (Nat.le_refl _)
    rw [hr2] at hr
    injection hr with e1 e2
    subst e1
    exact .inr (o2.lt g hg).1
  · by_cases hroom : L.length + m ≤ cap
    · have hr2 := run_append_room (P := Try.prog) w 29 ty 3 i ht hi g0 L.length cap cur hgg a m c news hnl hnews h1 hroom (by rw [hl, hsize, hcs, Nat.mul_one, Nat.mul_one]; exact hroom)
      rw [hr2] at hr
      injection hr with e1 e2
      subst e1
      exact .inl hg
    · have hr2 := run_append_grow (P := Try.prog) w 29 ty 3 i z ht hi hz ⟨g0, 0, none⟩ L.length cap (L.map (Value.int .i64)) (by simp [hsize]) (hown.cells (g := g0) rfl) a m c news hnl hnews (by omega) (by omega) (growslice_fits (by omega) (by rw [hby]; omega))
      rw [hr2] at hr
      injection hr with e1 e2
      subst e1
      injection hg with hg
      exact .inr (by rw [← hg]; exact Nat.le_refl _)
set_option maxRecDepth 100000 in
theorem npush2 {w : World} {ops : Array Oper} {rest : List Oper} {o : Oper} {a : Act} {Q : Exit → Act → World → Prop} (hgd : o.guard = none) (s x : Operand)
    (ho : o.op = .call { callee := .builtin .append, args := #[s, x], argTypes := #[29, 29] }) (base : Nat) (V : Value) (L : List Int) (hs : a.eval s = V) (hown : NL w base V L)
    (ad : Addr) (y : Int) (hx : a.eval x = .slice (some ad) 1 1) (hT : w.cell? (ad.add 0) = some (.int .i64 y)) (hlen : L.length ≤ 100000) (hbase : base ≤ w.heap.size)
    (h : ∀ V' w', NL w' base V' (L ++ [y]) → w.grownBy w' V.ownBlock → (∀ g, V'.ownBlock = some g → V.ownBlock = some g ∨ w.heap.size ≤ g) → wpList Try.prog ops Q rest (a.put o.dst V') w') : wpList Try.prog ops Q (o :: rest) a w := by
  obtain ⟨i0, hi, hz0, hz1, hz2⟩ := info_parts infoI64
  have hn : ∀ j u, ([Value.int .i64 y])[j]? = some u → w.cell? (ad.add j) = some u := by
    intro j u hu
    cases j with
    | zero => injection hu with hu; subst hu; exact hT
    | succ j => cases hu
  have ho1 : ∀ u ∈ [Value.int .i64 y], u.oneCell' = true := by intro u hu; simp at hu; subst hu; rfl
  refine wpList_plain hgd fun K hK => ?_
  obtain ⟨v', w', hr, h2, h3, _⟩ := run_append_own (P := Try.prog) w base 29 o.type 3 i0 (.int .i64 0) 1 8 Try.underlying29 hi hz0 hz1 hz2 rfl (by decide) V L.length (L.map (Value.int .i64)) hown ad 1 1 [.int .i64 y] rfl hn ho1 (by unfold maxLen; omega) (by omega) hbase
  have lc := app_loc hi hz0 hz1 hz2 rfl hown rfl hn ho1 (by simp; omega) hr
  have hk := hK _ _ (h v' w' (by simpa [NL] using h2) h3 lc)
  unfold Oper.wp execOp
  simp only [ho, resolve, invoke, builtin, Sem.run_bind, Sem.run_pure, Result.andThen_ok, List.map_toArray, List.map_cons, List.map_nil, hs, hx, hr]
  exact hk
theorem wi_rows {w0 w w2 : World} {b z : Nat} {s : Sl} {L : List Bool} {st : WS} (h : WI w0 w b z s L st) : ∃ V1 V2, IsB w b 56 #[.slice s.a s.n s.c, .int .i64 (st.nx : Int), V1, V2] ∧ NL w z V1 st.tb ∧ NL w z V2 st.cd ∧ (∀ g, V1.ownBlock = some g → V2.ownBlock ≠ some g) := h.ex
/-- A number is added to a row: what the other row is stays, and they lie apart. -/
theorem rows_apart {w w2 : World} {z : Nat} {V1 V2 V : Value} {L1 L2 : List Int} (h1 : NL w z V1 L1) (h2 : NL w z V2 L2) (ha : ∀ g, V1.ownBlock = some g → V2.ownBlock ≠ some g) (g : w.grownBy w2 V1.ownBlock) (hl : ∀ g, V.ownBlock = some g → V1.ownBlock = some g ∨ w.heap.size ≤ g) :
    NL w2 z V2 L2 ∧ ∀ g, V.ownBlock = some g → V2.ownBlock ≠ some g := by
  refine ⟨World.ownsRow.kept h2 g ?_, fun k hk e => ?_⟩
  · cases e : V2.ownBlock with
    | none => exact .inl rfl
    | some k => exact .inr (fun q => ha k q.symm e)
  · rcases hl k hk with q | q
    · exact ha k q e
    · have := (World.ownsRow.lt h2 k e).2; omega
theorem kt_row {w w2 : World} {b z : Nat} {V : Value} {L : List Int} (h : NL w z V L) (g : w.grownBy w2 V.ownBlock) : Kt (OwW b z) w w2 := by
  rcases h.2 with ⟨rfl, _⟩ | ⟨g0, cap, cur, rfl, hb, hg, _⟩
  · exact Kt.of_gb g
  · exact Kt.of_row (g := g0) g (fun o ho => by rw [hg] at ho; cases ho; exact .inr ⟨hb, rfl⟩)
theorem wi_cd {w0 w wA w7 : World} {b z nx : Nat} {s : Sl} {L : List Bool} {tb cd : List Int} {V1 V2 V7 : Value} {y : Int} (h1 : IsB w b 56 #[.slice s.a s.n s.c, .int .i64 (nx : Int), V1, V2]) (h2 : NL w z V1 tb) (h3 : NL w z V2 cd) (h4 : ∀ g, V1.ownBlock = some g → V2.ownBlock ≠ some g)
    (kc : Kc w0 w) (zl : z ≤ w.heap.size) (h0 : w0.heap.size ≤ b) (hz : b < z) (gA : w.grownBy wA none) (g7 : wA.grownBy w7 V2.ownBlock) (o7 : NL w7 z V7 (cd ++ [y])) (l7 : ∀ g, V7.ownBlock = some g → V2.ownBlock = some g ∨ wA.heap.size ≤ g) :
    WI w0 (w7.setCell ⟨b, 3, none⟩ V7) b z s L ⟨nx, tb, cd ++ [y]⟩ ∧ Kt (OwW b z) w (w7.setCell ⟨b, 3, none⟩ V7) := by
  obtain ⟨r1, r2⟩ := rows_apart (h3.keep0 gA) (h2.keep0 gA) (fun g e q => h4 g q e) g7 l7
  have b7 : IsB w7 b _ _ := (h1.keep0 gA).keep g7 (fun e => own_far h3 hz e.symm)
  have k1 : Kt (OwW b z) w w7 := (Kt.of_gb gA).trans (kt_row (h3.keep0 gA) g7)
  have k2 : Kt (OwW b z) w (w7.setCell ⟨b, 3, none⟩ V7) := k1.trans (kt_cell b7 3 V7)
  refine ⟨⟨⟨V1, V7, ?_, own_keepS r1 (gb_set _ _ _ _) b7 (by decide), own_keepS o7 (gb_set _ _ _ _) b7 (by decide), fun g e q => r2 g q e⟩, kc_kt kc k2 (fun k cs t m hk q => by rcases q with q | q <;> omega), Nat.le_trans zl k2.size⟩, k2⟩
  exact b7.set 3 V7
theorem wi_tb {w0 w wA w7 : World} {b z nx : Nat} {s : Sl} {L : List Bool} {tb cd : List Int} {V1 V2 V7 : Value} {y : Int} (h1 : IsB w b 56 #[.slice s.a s.n s.c, .int .i64 (nx : Int), V1, V2]) (h2 : NL w z V1 tb) (h3 : NL w z V2 cd) (h4 : ∀ g, V1.ownBlock = some g → V2.ownBlock ≠ some g)
    (kc : Kc w0 w) (zl : z ≤ w.heap.size) (h0 : w0.heap.size ≤ b) (hz : b < z) (gA : w.grownBy wA none) (g7 : wA.grownBy w7 V1.ownBlock) (o7 : NL w7 z V7 (tb ++ [y])) (l7 : ∀ g, V7.ownBlock = some g → V1.ownBlock = some g ∨ wA.heap.size ≤ g) :
    WI w0 (w7.setCell ⟨b, 2, none⟩ V7) b z s L ⟨nx, tb ++ [y], cd⟩ ∧ Kt (OwW b z) w (w7.setCell ⟨b, 2, none⟩ V7) := by
  obtain ⟨r1, r2⟩ := rows_apart (h2.keep0 gA) (h3.keep0 gA) h4 g7 l7
  have b7 : IsB w7 b _ _ := (h1.keep0 gA).keep g7 (fun e => own_far h2 hz e.symm)
  have k1 : Kt (OwW b z) w w7 := (Kt.of_gb gA).trans (kt_row (h2.keep0 gA) g7)
  have k2 : Kt (OwW b z) w (w7.setCell ⟨b, 2, none⟩ V7) := k1.trans (kt_cell b7 2 V7)
  refine ⟨⟨⟨V7, V2, ?_, own_keepS o7 (gb_set _ _ _ _) b7 (by decide), own_keepS r1 (gb_set _ _ _ _) b7 (by decide), r2⟩, kc_kt kc k2 (fun k cs t m hk q => by rcases q with q | q <;> omega), Nat.le_trans zl k2.size⟩, k2⟩
  exact b7.set 2 V7
end Go.Proofs.Ytfjeonoihdgdoaa
end
section
/- Control: the methods test and apply of the laws' walk; no condition but that its rows are not long. -/
namespace Go.Proofs.Ytfjeonoihdgdoaa
open Go.RowKit
set_option linter.unusedVariables false
set_option maxRecDepth 100000 in
set_option maxHeartbeats 8000000 in
theorem test_any (w0 w : World) (b z : Nat) (s : Sl) (L : List Bool) (st : WS) (hL : SB w0 s.a s.n s.c L) (h0 : w0.heap.size ≤ b) (hz : b < z) (h : WI w0 w b z s L st) (hn : st.nx ≤ 100000) (hs : s.n ≤ 1000000) (hc : st.cd.length ≤ 100000) (a : Option Addr) (n c : Nat) (hnn : n ≤ 1000000) :
    Calls Try.prog 19 #[.pointer (some ⟨b, 0, none⟩), .slice a n c] w (RetWk w0 b z s L (ansB L st.nx) ⟨st.nx + 1, st.tb, st.cd ++ [(n : Int)]⟩ w) := by
  obtain ⟨nx, tb, cd⟩ := st
  obtain ⟨⟨V1, V2, h1, h2, h3, h4⟩, kc, zl⟩ := h
  dsimp only at *
  have x3 := h1.cell 3
  dsimp at x3
  have GA := Lib.hid (gb_alloc w (.cells #[.int .i64 (n : Int)] 3) none)
  have TC := Lib.hid ((IsB.new w 3 #[.int .i64 (n : Int)]).cell 0)
  have OW := Lib.hid (h3.keep0 GA.out)
  have NXT := Lib.hid (fun (w7 : World) (V7 : Value) (g7 : (w.alloc (.cells #[.int .i64 (n : Int)] 3)).grownBy w7 V2.ownBlock) (o7 : NL w7 z V7 (cd ++ [(n : Int)])) (l7 : ∀ g, V7.ownBlock = some g → V2.ownBlock = some g ∨ (w.alloc (.cells #[.int .i64 (n : Int)] 3)).heap.size ≤ g) =>
    wi_cd (s := s) (L := L) h1 h2 h3 h4 kc zl h0 hz GA.out g7 o7 l7)
  have B7 := Lib.hid (fun (w7 : World) (g7 : (w.alloc (.cells #[.int .i64 (n : Int)] 3)).grownBy w7 V2.ownBlock) => (h1.keep0 GA.out).keep g7 (fun e => own_far h3 hz e.symm))
  have AN := Lib.hid (fun (w8 : World) (h8 : WI w0 w8 b z s L ⟨nx, tb, cd ++ [(n : Int)]⟩) => answer_any w0 w8 b z s L ⟨nx, tb, cd ++ [(n : Int)]⟩ hL h0 hz h8 (Nat.le_trans hn (by decide)) hs)
  unfold RetWk at AN
  dsimp only at AN
  have ZL := Lib.hid (Nat.le_trans zl GA.out.size)
  have SZ := Lib.hid (sz_al w (.cells #[.int .i64 (n : Int)] 3))
  clear h1 h2 h3 h4 kc zl hL
  go_enter Try.func19, Try.ntmps19
  go_wp2_with (first
    | (at_builtin; refine npush2 rfl _ _ rfl z V2 cd rfl OW.out ⟨w.heap.size, 0, none⟩ (n : Int) rfl (by exact TC.out) hc ZL.out ?_; intro V7 w7 o7 g7 l7; have N7 := Lib.hid (NXT.out w7 V7 g7 o7 l7); have b7 := B7.out w7 g7; have y3 := b7.cell 3; have f3 := b7.free 3; dsimp at y3; obtain ⟨a7, c7, rfl⟩ := o7.shape; generalize (cd ++ [(n : Int)]).length = k7 at *; clear o7 g7 l7 b7 x3 OW NXT B7)
    | (go_at_call 48; refine (AN.out _ N7.out.1).mono ?_; clear AN; rintro e w9 ⟨rfl, i9, k9⟩; have I9 := Lib.hid i9; have K9 := Lib.hid (N7.out.2.trans k9); clear i9 k9))
  go_ret
  exact ⟨rfl, I9.out, K9.out⟩
set_option maxRecDepth 100000 in
set_option maxHeartbeats 8000000 in
theorem apply_any (w0 w : World) (b z : Nat) (s : Sl) (L : List Bool) (st : WS) (hL : SB w0 s.a s.n s.c L) (h0 : w0.heap.size ≤ b) (hz : b < z) (h : WI w0 w b z s L st) (hn : st.nx ≤ 100000) (hs : s.n ≤ 1000000) (hc : st.cd.length ≤ 100000) (ht : st.tb.length ≤ 100000) (t : Int) :
    Calls Try.prog 18 #[.pointer (some ⟨b, 0, none⟩), .int .i64 t] w (RetWk w0 b z s L (ansB L st.nx) ⟨st.nx + 1, st.tb ++ [t], st.cd ++ [-1]⟩ w) := by
  obtain ⟨nx, tb, cd⟩ := st
  obtain ⟨⟨V1, V2, h1, h2, h3, h4⟩, kc, zl⟩ := h
  dsimp only at *
  have x2 := h1.cell 2
  dsimp at x2
  have GA := Lib.hid (gb_alloc w (.cells #[.int .i64 t] 3) none)
  have TC := Lib.hid ((IsB.new w 3 #[.int .i64 t]).cell 0)
  have OW := Lib.hid (h2.keep0 GA.out)
  have NXT := Lib.hid (fun (w7 : World) (V7 : Value) (g7 : (w.alloc (.cells #[.int .i64 t] 3)).grownBy w7 V1.ownBlock) (o7 : NL w7 z V7 (tb ++ [t])) (l7 : ∀ g, V7.ownBlock = some g → V1.ownBlock = some g ∨ (w.alloc (.cells #[.int .i64 t] 3)).heap.size ≤ g) =>
    wi_tb (s := s) (L := L) h1 h2 h3 h4 kc zl h0 hz GA.out g7 o7 l7)
  have B7 := Lib.hid (fun (w7 : World) (g7 : (w.alloc (.cells #[.int .i64 t] 3)).grownBy w7 V1.ownBlock) => (h1.keep0 GA.out).keep g7 (fun e => own_far h2 hz e.symm))
  have AN := Lib.hid (fun (w8 : World) (h8 : WI w0 w8 b z s L ⟨nx, tb ++ [t], cd ++ [-1]⟩) => answer_any w0 w8 b z s L ⟨nx, tb ++ [t], cd ++ [-1]⟩ hL h0 hz h8 (Nat.le_trans hn (by decide)) hs)
  unfold RetWk at AN
  dsimp only at AN
  have ZL := Lib.hid (Nat.le_trans zl GA.out.size)
  have SZ := Lib.hid (sz_al w (.cells #[.int .i64 t] 3))
  clear h1 h2 h3 h4 kc zl hL
  go_enter Try.func18, Try.ntmps18
  go_upto_region 2 with (at_builtin; refine npush2 rfl _ _ rfl z V1 tb rfl OW.out ⟨w.heap.size, 0, none⟩ t rfl (by exact TC.out) ht ZL.out ?_; intro V7 w7 o7 g7 l7; have N7 := Lib.hid (NXT.out w7 V7 g7 o7 l7); have b7 := B7.out w7 g7; have y2 := b7.cell 2; have f2 := b7.free 2; dsimp at y2; obtain ⟨a7, c7, rfl⟩ := o7.shape; generalize (tb ++ [t]).length = k7 at *; clear o7 g7 l7 b7 x2 OW NXT B7)
  generalize w7.setCell ⟨b, 2, none⟩ (.slice a7 k7 c7) = w8 at *
  clear y2 f2 TC GA ZL SZ
  obtain ⟨i8, k8⟩ := N7.out
  have K8 := Lib.hid k8
  obtain ⟨⟨V3, V4, h1, h2, h3, h4⟩, kc, zl⟩ := i8
  dsimp only at *
  have x3 := h1.cell 3
  dsimp at x3
  have GA := Lib.hid (gb_alloc w8 (.cells #[.int .i64 (-1)] 3) none)
  have TC := Lib.hid ((IsB.new w8 3 #[.int .i64 (-1)]).cell 0)
  have OW := Lib.hid (h3.keep0 GA.out)
  have NXT := Lib.hid (fun (w7 : World) (V7 : Value) (g7 : (w8.alloc (.cells #[.int .i64 (-1)] 3)).grownBy w7 V4.ownBlock) (o7 : NL w7 z V7 (cd ++ [-1])) (l7 : ∀ g, V7.ownBlock = some g → V4.ownBlock = some g ∨ (w8.alloc (.cells #[.int .i64 (-1)] 3)).heap.size ≤ g) =>
    wi_cd (s := s) (L := L) h1 h2 h3 h4 kc zl h0 hz GA.out g7 o7 l7)
  have B7 := Lib.hid (fun (w7 : World) (g7 : (w8.alloc (.cells #[.int .i64 (-1)] 3)).grownBy w7 V4.ownBlock) => (h1.keep0 GA.out).keep g7 (fun e => own_far h3 hz e.symm))
  have ZL := Lib.hid (Nat.le_trans zl GA.out.size)
  clear h1 h2 h3 h4 kc zl k8 N7
  go_wp2_with (first
    | (at_builtin; refine npush2 rfl _ _ rfl z V4 cd rfl OW.out ⟨w8.heap.size, 0, none⟩ (-1) rfl (by exact TC.out) hc ZL.out ?_; intro V9 w9 o9 g9 l9; have N9 := Lib.hid (NXT.out w9 V9 g9 o9 l9); have b9 := B7.out w9 g9; have y3 := b9.cell 3; have f3 := b9.free 3; dsimp at y3; obtain ⟨a9, c9, rfl⟩ := o9.shape; generalize (cd ++ [(-1 : Int)]).length = k9 at *; clear o9 g9 l9 b9 x3 OW NXT B7)
    | (go_at_call 48; refine (AN.out _ N9.out.1).mono ?_; clear AN; rintro e w10 ⟨rfl, i10, k10⟩; have I10 := Lib.hid i10; have K10 := Lib.hid (K8.out.trans (N9.out.2.trans k10)); clear i10 k10))
  go_ret
  exact ⟨rfl, I10.out, K10.out⟩
end Go.Proofs.Ytfjeonoihdgdoaa
end
section
/- Control: the callbacks of a walk, as what they answer and what they leave; what an execution leaves; the method execute of an apply node; no condition. -/
namespace Go.Proofs.Ytfjeonoihdgdoaa
open Go.RowKit
set_option linter.unusedVariables false
structure CBS (σ : Type) where
  ap : Int → σ → Bool × σ
  ts : Nat → σ → Bool × σ
  sz : σ → Nat
def runT {σ : Type} (C : CBS σ) : CT → σ → σ
  | .nil, st => st
  | .cons k t c N s th u el r, st => runT C r (if k = 1 then (C.ap t st).2
      else if k = 3 then (if (C.ap t st).1 = true then runT C th (C.ap t st).2 else runT C el (C.ap t st).2)
      else if k = 2 then (if (C.ts N.length st).1 = true then runT C th (C.ts N.length st).2 else runT C el (C.ts N.length st).2)
      else st)
/-- The two functions keep to the contract. -/
structure CBI {σ : Type} (C : CBS σ) (own : Nat → Obj → Prop) (Inv : σ → World → Prop) (f1 f2 : Nat) (r1 r2 : Array Value) : Prop where
  e1 : ∀ args w, (callFunc f1 args).run Try.prog w = .ok (.enter f1 args) w
  e2 : ∀ args w, (callFunc f2 args).run Try.prog w = .ok (.enter f2 args) w
  ow : ∀ k cs t m, own k (.cells cs t m) → t = 3 ∨ t = 56
  keep : ∀ st w w2, Inv st w → w.grownBy w2 none → Inv st w2
  ap : ∀ st w t, Inv st w → C.sz st ≤ 10000 → Calls Try.prog f1 (r1.push (.int .i64 t)) w (fun e w' => e = .returned (.bool (C.ap t st).1) ∧ Inv (C.ap t st).2 w' ∧ Kt own w w')
  ts : ∀ st w a n c, Inv st w → C.sz st ≤ 10000 → n ≤ 100000 → Calls Try.prog f2 (r2.push (.slice a n c)) w (fun e w' => e = .returned (.bool (C.ts n st).1) ∧ Inv (C.ts n st).2 w' ∧ Kt own w w')
  sz1 : ∀ t st, C.sz (C.ap t st).2 ≤ C.sz st + 1
  sz2 : ∀ n st, C.sz (C.ts n st).2 ≤ C.sz st + 1
theorem runT_sz {σ : Type} {C : CBS σ} (h1 : ∀ t st, C.sz (C.ap t st).2 ≤ C.sz st + 1) (h2 : ∀ n st, C.sz (C.ts n st).2 ≤ C.sz st + 1) : ∀ (T : CT) (st : σ), C.sz (runT C T st) ≤ C.sz st + T.cnt
  | .nil, st => Nat.le_add_right _ _
  | .cons k t c N s th u el r, st => by
    have e : (CT.cons k t c N s th u el r).cnt = 1 + th.cnt + el.cnt + r.cnt := CV.cnt_ct ⟨k, t, c, N, s, th, u, el⟩ r
    rw [runT, e]
    have hr := fun q => runT_sz h1 h2 r q
    have a1 := h1 t st
    have a2 := h2 N.length st
    have t1 := runT_sz h1 h2 th (C.ap t st).2
    have t2 := runT_sz h1 h2 el (C.ap t st).2
    have t3 := runT_sz h1 h2 th (C.ts N.length st).2
    have t4 := runT_sz h1 h2 el (C.ts N.length st).2
    refine Nat.le_trans (hr _) ?_
    repeat' split
    all_goals omega
/-- What a part of a walk leaves. -/
def RetR {σ : Type} (own : Nat → Obj → Prop) (Inv : σ → World → Prop) (st : σ) (w : World) (e : Ending) (w' : World) : Prop := (∃ v, e = .returned v) ∧ Inv st w' ∧ Kt own w w'
set_option maxRecDepth 100000 in
set_option maxHeartbeats 8000000 in
theorem exa_any {σ : Type} {C : CBS σ} {own : Nat → Obj → Prop} {Inv : σ → World → Prop} {f1 f2 : Nat} {r1 r2 : Array Value} (I : CBI C own Inv f1 f2 r1 r2) (w : World) (x : CV) (st : σ) (h : Inv st w) (hs : C.sz st ≤ 10000) :
    Calls Try.prog 182 #[.agg #[.int .i64 x.k, .int .i64 x.t, .slice x.c.a x.c.n x.c.c, .slice x.s.a x.s.n x.s.c, .slice x.u.a x.u.n x.u.c], .agg #[.func (.func f1) r1 #[], .func (.func f2) r2 #[]]] w (RetR own Inv (C.ap x.t st).2 w) := by
  have AP := Lib.hid (fun (w2 : World) (g : w.grownBy w2 none) => I.ap st w2 x.t (I.keep _ _ _ h g) hs)
  have e1 := I.e1
  have GA := Lib.hid (gb_trans (gb_alloc w (.cells #[.int .i64 x.k, .int .i64 x.t, .slice x.c.a x.c.n x.c.c, .slice x.s.a x.s.n x.s.c, .slice x.u.a x.u.n x.u.c] 174) none) (gb_alloc _ (.cells #[.func (.func f1) r1 #[], .func (.func f2) r2 #[]] 108) none))
  go_enter Try.func182, Try.ntmps182
  go_wp2
  refine (AP.out _ GA.out).mono ?_
  rintro e w5 ⟨rfl, i5, k5⟩
  have I5 := Lib.hid i5
  have K5 := Lib.hid ((Kt.of_gb GA.out).trans k5)
  clear i5 k5
  go_wp2
  refine bodyPost_end (results_none rfl _ _ _) rfl ⟨⟨_, rfl⟩, I5.out, K5.out⟩
set_option maxRecDepth 100000 in
set_option maxHeartbeats 8000000 in
theorem exu_any {σ : Type} {C : CBS σ} {own : Nat → Obj → Prop} {Inv : σ → World → Prop} {f1 f2 : Nat} {r1 r2 : Array Value} (I : CBI C own Inv f1 f2 r1 r2) (w : World) (st : σ) (h : Inv st w) :
    Calls Try.prog 189 #[.agg #[], .agg #[.func (.func f1) r1 #[], .func (.func f2) r2 #[]]] w (RetR own Inv st w) := by
  have GA := Lib.hid (gb_trans (gb_alloc w (.cells #[] 178) none) (gb_alloc _ (.cells #[.func (.func f1) r1 #[], .func (.func f2) r2 #[]] 108) none))
  have I5 := Lib.hid (fun (w2 : World) (g : w.grownBy w2 none) => I.keep _ _ _ h g)
  go_enter Try.func189, Try.ntmps189
  go_wp2
  refine bodyPost_end (results_none rfl _ _ _) rfl ⟨⟨_, rfl⟩, I5.out _ GA.out, Kt.of_gb GA.out⟩
end Go.Proofs.Ytfjeonoihdgdoaa
end
section
/- Control: the method execute of a hit node, by what a branch leaves; no condition. -/
namespace Go.Proofs.Ytfjeonoihdgdoaa
open Go.RowKit
set_option linter.unusedVariables false
set_option maxRecDepth 100000 in
set_option maxHeartbeats 8000000 in
theorem exh_any {σ : Type} {C : CBS σ} {own : Nat → Obj → Prop} {Inv : σ → World → Prop} {f1 f2 : Nat} {r1 r2 : Array Value} (I : CBI C own Inv f1 f2 r1 r2) (w : World) (x : CV) (st : σ) (h : Inv st w) (hs : C.sz st ≤ 10000)
    (hB : ∀ (bl : Bool) (w3 : World) (st1 : σ), Kt own w w3 → Inv st1 w3 → C.sz st1 ≤ C.sz st + 1 → Calls Try.prog 185 #[.agg #[.func (.func f1) r1 #[], .func (.func f2) r2 #[]], .bool bl, .slice x.s.a x.s.n x.s.c, .slice x.u.a x.u.n x.u.c] w3 (RetR own Inv (if bl = true then runT C x.th st1 else runT C x.el st1) w3)) :
    Calls Try.prog 187 #[.agg #[.int .i64 x.k, .int .i64 x.t, .slice x.c.a x.c.n x.c.c, .slice x.s.a x.s.n x.s.c, .slice x.u.a x.u.n x.u.c], .agg #[.func (.func f1) r1 #[], .func (.func f2) r2 #[]]] w (RetR own Inv (if (C.ap x.t st).1 = true then runT C x.th (C.ap x.t st).2 else runT C x.el (C.ap x.t st).2) w) := by
  have AP := Lib.hid (fun (w2 : World) (g : w.grownBy w2 none) => I.ap st w2 x.t (I.keep _ _ _ h g) hs)
  have BR := Lib.hid hB
  unfold RetR at BR
  have e1 := I.e1
  have GA := Lib.hid (gb_trans (gb_alloc w (.cells #[.int .i64 x.k, .int .i64 x.t, .slice x.c.a x.c.n x.c.c, .slice x.s.a x.s.n x.s.c, .slice x.u.a x.u.n x.u.c] 176) none) (gb_alloc _ (.cells #[.func (.func f1) r1 #[], .func (.func f2) r2 #[]] 108) none))
  have KA := Lib.hid (show Kt own w ((w.alloc (.cells #[.int .i64 x.k, .int .i64 x.t, .slice x.c.a x.c.n x.c.c, .slice x.s.a x.s.n x.s.c, .slice x.u.a x.u.n x.u.c] 176)).alloc (.cells #[.func (.func f1) r1 #[], .func (.func f2) r2 #[]] 108)) from Kt.of_gb GA.out)
  have BN := (IsB.new w 176 #[.int .i64 x.k, .int .i64 x.t, .slice x.c.a x.c.n x.c.c, .slice x.s.a x.s.n x.s.c, .slice x.u.a x.u.n x.u.c]).alloc (.cells #[.func (.func f1) r1 #[], .func (.func f2) r2 #[]] 108)
  have BC := IsB.new (w.alloc (.cells #[.int .i64 x.k, .int .i64 x.t, .slice x.c.a x.c.n x.c.c, .slice x.s.a x.s.n x.s.c, .slice x.u.a x.u.n x.u.c] 176)) 108 #[.func (.func f1) r1 #[], .func (.func f2) r2 #[]]
  rw [sz_al] at BC
  replace BN := Lib.hid BN
  replace BC := Lib.hid BC
  clear hB h
  obtain ⟨fin, hfin⟩ : ∃ f, f = (if (C.ap x.t st).1 = true then runT C x.th (C.ap x.t st).2 else runT C x.el (C.ap x.t st).2) := ⟨_, rfl⟩
  rw [← hfin]
  have HF := Lib.hid hfin
  clear hfin
  go_enter Try.func187, Try.ntmps187
  go_upto_region 1 with fail
  generalize (w.alloc (.cells #[.int .i64 x.k, .int .i64 x.t, .slice x.c.a x.c.n x.c.c, .slice x.s.a x.s.n x.s.c, .slice x.u.a x.u.n x.u.c] 176)).alloc (.cells #[.func (.func f1) r1 #[], .func (.func f2) r2 #[]] 108) = w2 at *
  obtain ⟨b, hb⟩ : ∃ b, b = w.heap.size := ⟨_, rfl⟩
  rw [← hb] at BN BC ⊢
  clear hb
  have KS := Lib.hid (fun (w' : World) (q0 : Kt own w2 w') => (⟨(Kt.isb q0 BN.out (fun q => by rcases I.ow _ _ _ _ q with e | e <;> exact absurd e (by decide))).cell 1, (Kt.isb q0 BN.out (fun q => by rcases I.ow _ _ _ _ q with e | e <;> exact absurd e (by decide))).cell 3, (Kt.isb q0 BN.out (fun q => by rcases I.ow _ _ _ _ q with e | e <;> exact absurd e (by decide))).cell 4, (Kt.isb q0 BC.out (fun q => by rcases I.ow _ _ _ _ q with e | e <;> exact absurd e (by decide))).cell 0, (Kt.isb q0 BC.out (fun q => by rcases I.ow _ _ _ _ q with e | e <;> exact absurd e (by decide))).cell 1, q0⟩ : (fun w' : World => w'.cell? ⟨b, 1, none⟩ = some (.int .i64 x.t) ∧ w'.cell? ⟨b, 3, none⟩ = some (.slice x.s.a x.s.n x.s.c) ∧ w'.cell? ⟨b, 4, none⟩ = some (.slice x.u.a x.u.n x.u.c) ∧ w'.cell? ⟨b + 1, 0, none⟩ = some (.func (.func f1) r1 #[]) ∧ w'.cell? ⟨b + 1, 1, none⟩ = some (.func (.func f2) r2 #[]) ∧ Kt own w2 w') w'))
  have H0 := Lib.hid (show Kt own w2 w2.drew from Kt.of_gb (gb_drew w2 none))
  refine wp_region_held_drew (S := (fun w' : World => w'.cell? ⟨b, 1, none⟩ = some (.int .i64 x.t) ∧ w'.cell? ⟨b, 3, none⟩ = some (.slice x.s.a x.s.n x.s.c) ∧ w'.cell? ⟨b, 4, none⟩ = some (.slice x.u.a x.u.n x.u.c) ∧ w'.cell? ⟨b + 1, 0, none⟩ = some (.func (.func f1) r1 #[]) ∧ w'.cell? ⟨b + 1, 1, none⟩ = some (.func (.func f2) r2 #[]) ∧ Kt own w2 w')) (by kernel_rfl) (KS.out _ H0.out) (fun hH0 => ?_)
  refine wpAnyH_take (i := 0) (v := ?v21001) rfl (by kernel_rfl) (by kernel_rfl) (by kernel_rfl) (fun _ _ _ h => h) (Or.inl ⟨by rfl, ?hy21001⟩) (by assumption) ?rest21001
  case hy21001 => (intro wz hSw; (try dsimp only at hSw); first | (go_simp; done) | (go_simp; with_reducible rfl))
  try simp only [Act.put, List.getElem_toArray, List.getElem_cons_zero, List.setIfInBounds_toArray, List.set_cons_zero, List.set_cons_succ]
  refine wpAnyH_take (i := 1) (v := ?v21002) rfl (by kernel_rfl) (by kernel_rfl) (by kernel_rfl) (fun _ _ _ h => h) (Or.inl ⟨by rfl, ?hy21002⟩) (by assumption) ?rest21002
  case hy21002 => (intro wz hSw; (try dsimp only at hSw); first | (go_simp; done) | (go_simp; with_reducible rfl))
  try simp only [Act.put, List.getElem_toArray, List.getElem_cons_succ, List.getElem_cons_zero, List.setIfInBounds_toArray, List.set_cons_zero, List.set_cons_succ]
  refine wpAnyH_take (i := 2) (v := ?v21003) rfl (by kernel_rfl) (by kernel_rfl) (by kernel_rfl) (fun _ _ _ h => h) (Or.inl ⟨by rfl, ?hy21003⟩) (by assumption) ?rest21003
  case hy21003 => (intro wz hSw; (try dsimp only at hSw); first | (go_simp; done) | (go_simp; with_reducible rfl))
  try simp only [Act.put, List.getElem_toArray, List.getElem_cons_succ, List.getElem_cons_zero, List.setIfInBounds_toArray, List.set_cons_zero, List.set_cons_succ]
  refine wpAnyH_take (i := 3) (v := ?v21004) rfl (by kernel_rfl) (by kernel_rfl) (by kernel_rfl) (fun _ _ _ h => h) (Or.inl ⟨by rfl, ?hy21004⟩) (by assumption) ?rest21004
  case hy21004 => (intro wz hSw; (try dsimp only at hSw); first | (go_simp; done) | (go_simp; with_reducible rfl))
  try simp only [Act.put, List.getElem_toArray, List.getElem_cons_succ, List.getElem_cons_zero, List.setIfInBounds_toArray, List.set_cons_zero, List.set_cons_succ]
  refine wpAnyH_take (i := 4) (v := ?v21005) rfl (by kernel_rfl) (by kernel_rfl) (by kernel_rfl) (fun _ _ _ h => h) (Or.inl ⟨by rfl, ?hy21005⟩) (by assumption) ?rest21005
  case hy21005 => (intro wz hSw; (try dsimp only at hSw); first | (go_simp; done) | (go_simp; with_reducible rfl))
  try simp only [Act.put, List.getElem_toArray, List.getElem_cons_succ, List.getElem_cons_zero, List.setIfInBounds_toArray, List.set_cons_zero, List.set_cons_succ]
  refine wpAnyH_take (i := 6) (v := ?v21006) rfl (by kernel_rfl) (by kernel_rfl) (by kernel_rfl) (fun _ _ _ h => h) (Or.inl ⟨by rfl, ?hy21006⟩) (by assumption) ?rest21006
  case hy21006 => (intro wz hSw; (try dsimp only at hSw); first | (go_simp; done) | (go_simp; with_reducible rfl))
  try simp only [Act.put, List.getElem_toArray, List.getElem_cons_succ, List.getElem_cons_zero, List.setIfInBounds_toArray, List.set_cons_zero, List.set_cons_succ]
  refine wpAnyH_take (i := 7) (v := ?v21007) rfl (by kernel_rfl) (by kernel_rfl) (by kernel_rfl) (fun _ _ _ h => h) (Or.inl ⟨by rfl, ?hy21007⟩) (by assumption) ?rest21007
  case hy21007 => (intro wz hSw; (try dsimp only at hSw); first | (go_simp; done) | (go_simp; with_reducible rfl))
  try simp only [Act.put, List.getElem_toArray, List.getElem_cons_succ, List.getElem_cons_zero, List.setIfInBounds_toArray, List.set_cons_zero, List.set_cons_succ]
  refine wpAnyH_take (i := 8) (v := ?v21008) rfl (by kernel_rfl) (by kernel_rfl) (by kernel_rfl) (fun _ _ _ h => h) (Or.inl ⟨by rfl, ?hy21008⟩) (by assumption) ?rest21008
  case hy21008 => (intro wz hSw; (try dsimp only at hSw); first | (go_simp; done) | (go_simp; with_reducible rfl))
  try simp only [Act.put, List.getElem_toArray, List.getElem_cons_succ, List.getElem_cons_zero, List.setIfInBounds_toArray, List.set_cons_zero, List.set_cons_succ]
  refine wpAnyH_take (i := 9) (v := ?v21009) rfl (by kernel_rfl) (by kernel_rfl) (by kernel_rfl) (fun _ _ _ h => h) (Or.inl ⟨by rfl, ?hy21009⟩) (by assumption) ?rest21009
  case hy21009 => (intro wz hSw; (try dsimp only at hSw); first | (go_simp; done) | (go_simp; with_reducible rfl))
  try simp only [Act.put, List.getElem_toArray, List.getElem_cons_succ, List.getElem_cons_zero, List.setIfInBounds_toArray, List.set_cons_zero, List.set_cons_succ]
  refine wpAnyH_ready (rs := [5]) (by kernel_rfl) (by simp) ?_
  refine AllReadyH.cons (o := _) rfl (fun K hK => ?_) AllReadyH.nil
  go_simp
  (with_reducible refine (AP.out _ (gb_trans GA.out (gb_drew _ none))).mono ?_)
  rintro e hw1 ⟨rfl, i, g⟩
  have I1 := Lib.hid i
  clear i
  have H1 := Lib.hid (H0.out.trans g)
  clear g
  try dsimp only
  refine hK.out _ _ (KS.out _ H1.out) (fun hH1 => ?_)
  clear hK K hH0
  try simp only [Act.put, List.getElem_toArray, List.getElem_cons_succ, List.getElem_cons_zero, List.setIfInBounds_toArray, List.set_cons_zero, List.set_cons_succ]
  refine wpAnyH_ready (rs := [10]) (by kernel_rfl) (by simp) ?_
  refine AllReadyH.cons (o := _) rfl (fun K hK => ?_) AllReadyH.nil
  go_simp
  (with_reducible refine (BR.out _ _ _ (KA.out.trans H1.out) I1.out (I.sz1 _ _)).mono ?_)
  rintro e hw2 ⟨⟨v, rfl⟩, i, g⟩
  have I2 := Lib.hid i
  clear i
  have H2 := Lib.hid (H1.out.trans g)
  clear g
  try dsimp only
  refine hK.out _ _ (KS.out _ H2.out) (fun hH2 => ?_)
  clear hK K hH1
  try simp only [Act.put, List.getElem_toArray, List.getElem_cons_succ, List.getElem_cons_zero, List.setIfInBounds_toArray, List.set_cons_zero, List.set_cons_succ]
  refine wpAnyH_done (by kernel_rfl) ?_ _
  clear hH2
  rw [← HF.out] at I2
  go_wp2
  refine bodyPost_end (results_none rfl _ _ _) rfl ⟨⟨_, rfl⟩, I2.out, KA.out.trans H2.out⟩
set_option maxRecDepth 100000 in
set_option maxHeartbeats 8000000 in
theorem exi_any {σ : Type} {C : CBS σ} {own : Nat → Obj → Prop} {Inv : σ → World → Prop} {f1 f2 : Nat} {r1 r2 : Array Value} (I : CBI C own Inv f1 f2 r1 r2) (w : World) (x : CV) (hx : SN w x.c.a x.c.n x.c.c x.N) (hl : x.N.length ≤ 1000) (st : σ) (h : Inv st w) (hs : C.sz st ≤ 10000)
    (hB : ∀ (bl : Bool) (w3 : World) (st1 : σ), Kt own w w3 → Inv st1 w3 → C.sz st1 ≤ C.sz st + 1 → Calls Try.prog 185 #[.agg #[.func (.func f1) r1 #[], .func (.func f2) r2 #[]], .bool bl, .slice x.s.a x.s.n x.s.c, .slice x.u.a x.u.n x.u.c] w3 (RetR own Inv (if bl = true then runT C x.th st1 else runT C x.el st1) w3)) :
    Calls Try.prog 184 #[.agg #[.int .i64 x.k, .int .i64 x.t, .slice x.c.a x.c.n x.c.c, .slice x.s.a x.s.n x.s.c, .slice x.u.a x.u.n x.u.c], .agg #[.func (.func f1) r1 #[], .func (.func f2) r2 #[]]] w (RetR own Inv (if (C.ts x.N.length st).1 = true then runT C x.th (C.ts x.N.length st).2 else runT C x.el (C.ts x.N.length st).2) w) := by
  have TS := Lib.hid (fun (w2 : World) (i : Inv st w2) (a : Option Addr) (n c : Nat) (sn : SN w2 a n c x.N) => (show Calls Try.prog f2 (r2.push (.slice a n c)) w2 (fun e w' => e = .returned (.bool (C.ts x.N.length st).1) ∧ Inv (C.ts x.N.length st).2 w' ∧ Kt own w2 w') by
    have e : n = x.N.length := sn.len.symm
    subst e
    exact I.ts st w2 a _ c i hs (by omega)))
  have IK := Lib.hid (fun (w2 : World) (g : w.grownBy w2 none) => I.keep _ _ _ h g)
  have NC := Lib.hid (fun (w2 : World) (g : w.grownBy w2 none) => nclone_any w2 x.c.a x.c.n x.c.c x.N (hx.keep0 g) (by rw [← hx.len]; omega))
  unfold RetCl at NC
  have BR := Lib.hid hB
  unfold RetR at BR
  have e2 := I.e2
  have GA := Lib.hid (gb_trans (gb_alloc w (.cells #[.int .i64 x.k, .int .i64 x.t, .slice x.c.a x.c.n x.c.c, .slice x.s.a x.s.n x.s.c, .slice x.u.a x.u.n x.u.c] 175) none) (gb_alloc _ (.cells #[.func (.func f1) r1 #[], .func (.func f2) r2 #[]] 108) none))
  have KA := Lib.hid (show Kt own w ((w.alloc (.cells #[.int .i64 x.k, .int .i64 x.t, .slice x.c.a x.c.n x.c.c, .slice x.s.a x.s.n x.s.c, .slice x.u.a x.u.n x.u.c] 175)).alloc (.cells #[.func (.func f1) r1 #[], .func (.func f2) r2 #[]] 108)) from Kt.of_gb GA.out)
  have BN := (IsB.new w 175 #[.int .i64 x.k, .int .i64 x.t, .slice x.c.a x.c.n x.c.c, .slice x.s.a x.s.n x.s.c, .slice x.u.a x.u.n x.u.c]).alloc (.cells #[.func (.func f1) r1 #[], .func (.func f2) r2 #[]] 108)
  have BC := IsB.new (w.alloc (.cells #[.int .i64 x.k, .int .i64 x.t, .slice x.c.a x.c.n x.c.c, .slice x.s.a x.s.n x.s.c, .slice x.u.a x.u.n x.u.c] 175)) 108 #[.func (.func f1) r1 #[], .func (.func f2) r2 #[]]
  rw [sz_al] at BC
  replace BN := Lib.hid BN
  replace BC := Lib.hid BC
  clear hB h hx
  obtain ⟨fin, hfin⟩ : ∃ f, f = (if (C.ts x.N.length st).1 = true then runT C x.th (C.ts x.N.length st).2 else runT C x.el (C.ts x.N.length st).2) := ⟨_, rfl⟩
  rw [← hfin]
  have HF := Lib.hid hfin
  clear hfin
  go_enter Try.func184, Try.ntmps184
  go_upto_region 1 with fail
  generalize (w.alloc (.cells #[.int .i64 x.k, .int .i64 x.t, .slice x.c.a x.c.n x.c.c, .slice x.s.a x.s.n x.s.c, .slice x.u.a x.u.n x.u.c] 175)).alloc (.cells #[.func (.func f1) r1 #[], .func (.func f2) r2 #[]] 108) = w2 at *
  obtain ⟨b, hb⟩ : ∃ b, b = w.heap.size := ⟨_, rfl⟩
  rw [← hb] at BN BC ⊢
  clear hb
  have KS := Lib.hid (fun (w' : World) (q0 : Kt own w2 w') => (⟨(Kt.isb q0 BN.out (fun q => by rcases I.ow _ _ _ _ q with e | e <;> exact absurd e (by decide))).cell 2, (Kt.isb q0 BN.out (fun q => by rcases I.ow _ _ _ _ q with e | e <;> exact absurd e (by decide))).cell 3, (Kt.isb q0 BN.out (fun q => by rcases I.ow _ _ _ _ q with e | e <;> exact absurd e (by decide))).cell 4, (Kt.isb q0 BC.out (fun q => by rcases I.ow _ _ _ _ q with e | e <;> exact absurd e (by decide))).cell 0, (Kt.isb q0 BC.out (fun q => by rcases I.ow _ _ _ _ q with e | e <;> exact absurd e (by decide))).cell 1, q0⟩ : (fun w' : World => w'.cell? ⟨b, 2, none⟩ = some (.slice x.c.a x.c.n x.c.c) ∧ w'.cell? ⟨b, 3, none⟩ = some (.slice x.s.a x.s.n x.s.c) ∧ w'.cell? ⟨b, 4, none⟩ = some (.slice x.u.a x.u.n x.u.c) ∧ w'.cell? ⟨b + 1, 0, none⟩ = some (.func (.func f1) r1 #[]) ∧ w'.cell? ⟨b + 1, 1, none⟩ = some (.func (.func f2) r2 #[]) ∧ Kt own w2 w') w'))
  have H0 := Lib.hid (show Kt own w2 w2.drew from Kt.of_gb (gb_drew w2 none))
  refine wp_region_held_drew (S := (fun w' : World => w'.cell? ⟨b, 2, none⟩ = some (.slice x.c.a x.c.n x.c.c) ∧ w'.cell? ⟨b, 3, none⟩ = some (.slice x.s.a x.s.n x.s.c) ∧ w'.cell? ⟨b, 4, none⟩ = some (.slice x.u.a x.u.n x.u.c) ∧ w'.cell? ⟨b + 1, 0, none⟩ = some (.func (.func f1) r1 #[]) ∧ w'.cell? ⟨b + 1, 1, none⟩ = some (.func (.func f2) r2 #[]) ∧ Kt own w2 w')) (by kernel_rfl) (KS.out _ H0.out) (fun hH0 => ?_)
  refine wpAnyH_take (i := 0) (v := ?v21010) rfl (by kernel_rfl) (by kernel_rfl) (by kernel_rfl) (fun _ _ _ h => h) (Or.inl ⟨by rfl, ?hy21010⟩) (by assumption) ?rest21010
  case hy21010 => (intro wz hSw; (try dsimp only at hSw); first | (go_simp; done) | (go_simp; with_reducible rfl))
  try simp only [Act.put, List.getElem_toArray, List.getElem_cons_zero, List.setIfInBounds_toArray, List.set_cons_zero, List.set_cons_succ]
  refine wpAnyH_take (i := 1) (v := ?v21011) rfl (by kernel_rfl) (by kernel_rfl) (by kernel_rfl) (fun _ _ _ h => h) (Or.inl ⟨by rfl, ?hy21011⟩) (by assumption) ?rest21011
  case hy21011 => (intro wz hSw; (try dsimp only at hSw); first | (go_simp; done) | (go_simp; with_reducible rfl))
  try simp only [Act.put, List.getElem_toArray, List.getElem_cons_succ, List.getElem_cons_zero, List.setIfInBounds_toArray, List.set_cons_zero, List.set_cons_succ]
  refine wpAnyH_take (i := 2) (v := ?v21012) rfl (by kernel_rfl) (by kernel_rfl) (by kernel_rfl) (fun _ _ _ h => h) (Or.inl ⟨by rfl, ?hy21012⟩) (by assumption) ?rest21012
  case hy21012 => (intro wz hSw; (try dsimp only at hSw); first | (go_simp; done) | (go_simp; with_reducible rfl))
  try simp only [Act.put, List.getElem_toArray, List.getElem_cons_succ, List.getElem_cons_zero, List.setIfInBounds_toArray, List.set_cons_zero, List.set_cons_succ]
  refine wpAnyH_take (i := 3) (v := ?v21013) rfl (by kernel_rfl) (by kernel_rfl) (by kernel_rfl) (fun _ _ _ h => h) (Or.inl ⟨by rfl, ?hy21013⟩) (by assumption) ?rest21013
  case hy21013 => (intro wz hSw; (try dsimp only at hSw); first | (go_simp; done) | (go_simp; with_reducible rfl))
  try simp only [Act.put, List.getElem_toArray, List.getElem_cons_succ, List.getElem_cons_zero, List.setIfInBounds_toArray, List.set_cons_zero, List.set_cons_succ]
  refine wpAnyH_take (i := 4) (v := ?v21014) rfl (by kernel_rfl) (by kernel_rfl) (by kernel_rfl) (fun _ _ _ h => h) (Or.inl ⟨by rfl, ?hy21014⟩) (by assumption) ?rest21014
  case hy21014 => (intro wz hSw; (try dsimp only at hSw); first | (go_simp; done) | (go_simp; with_reducible rfl))
  try simp only [Act.put, List.getElem_toArray, List.getElem_cons_succ, List.getElem_cons_zero, List.setIfInBounds_toArray, List.set_cons_zero, List.set_cons_succ]
  refine wpAnyH_take (i := 7) (v := ?v21015) rfl (by kernel_rfl) (by kernel_rfl) (by kernel_rfl) (fun _ _ _ h => h) (Or.inl ⟨by rfl, ?hy21015⟩) (by assumption) ?rest21015
  case hy21015 => (intro wz hSw; (try dsimp only at hSw); first | (go_simp; done) | (go_simp; with_reducible rfl))
  try simp only [Act.put, List.getElem_toArray, List.getElem_cons_succ, List.getElem_cons_zero, List.setIfInBounds_toArray, List.set_cons_zero, List.set_cons_succ]
  refine wpAnyH_take (i := 8) (v := ?v21016) rfl (by kernel_rfl) (by kernel_rfl) (by kernel_rfl) (fun _ _ _ h => h) (Or.inl ⟨by rfl, ?hy21016⟩) (by assumption) ?rest21016
  case hy21016 => (intro wz hSw; (try dsimp only at hSw); first | (go_simp; done) | (go_simp; with_reducible rfl))
  try simp only [Act.put, List.getElem_toArray, List.getElem_cons_succ, List.getElem_cons_zero, List.setIfInBounds_toArray, List.set_cons_zero, List.set_cons_succ]
  refine wpAnyH_take (i := 9) (v := ?v21017) rfl (by kernel_rfl) (by kernel_rfl) (by kernel_rfl) (fun _ _ _ h => h) (Or.inl ⟨by rfl, ?hy21017⟩) (by assumption) ?rest21017
  case hy21017 => (intro wz hSw; (try dsimp only at hSw); first | (go_simp; done) | (go_simp; with_reducible rfl))
  try simp only [Act.put, List.getElem_toArray, List.getElem_cons_succ, List.getElem_cons_zero, List.setIfInBounds_toArray, List.set_cons_zero, List.set_cons_succ]
  refine wpAnyH_take (i := 10) (v := ?v21018) rfl (by kernel_rfl) (by kernel_rfl) (by kernel_rfl) (fun _ _ _ h => h) (Or.inl ⟨by rfl, ?hy21018⟩) (by assumption) ?rest21018
  case hy21018 => (intro wz hSw; (try dsimp only at hSw); first | (go_simp; done) | (go_simp; with_reducible rfl))
  try simp only [Act.put, List.getElem_toArray, List.getElem_cons_succ, List.getElem_cons_zero, List.setIfInBounds_toArray, List.set_cons_zero, List.set_cons_succ]
  refine wpAnyH_ready (rs := [5]) (by kernel_rfl) (by simp) ?_
  refine AllReadyH.cons (o := _) rfl (fun K hK => ?_) AllReadyH.nil
  go_simp
  (with_reducible refine (NC.out _ (gb_trans GA.out (gb_drew _ none))).mono ?_)
  rintro e hw1 ⟨ka, kn, kc, rfl, rob, g⟩
  have SK := Lib.hid rob.here
  have I0 := Lib.hid (IK.out _ (gb_trans GA.out (gb_trans (gb_drew _ none) g)))
  replace g : Kt own _ hw1 := Kt.of_gb g
  clear rob
  have H1 := Lib.hid (H0.out.trans g)
  clear g
  try dsimp only
  refine hK.out _ _ (KS.out _ H1.out) (fun hH1 => ?_)
  clear hK K hH0
  try simp only [Act.put, List.getElem_toArray, List.getElem_cons_succ, List.getElem_cons_zero, List.setIfInBounds_toArray, List.set_cons_zero, List.set_cons_succ]
  refine wpAnyH_ready (rs := [6]) (by kernel_rfl) (by simp) ?_
  refine AllReadyH.cons (o := _) rfl (fun K hK => ?_) AllReadyH.nil
  go_simp
  (with_reducible refine (TS.out _ I0.out _ _ _ SK.out).mono ?_)
  rintro e hw2 ⟨rfl, i, g⟩
  have I1 := Lib.hid i
  clear i
  have H2 := Lib.hid (H1.out.trans g)
  clear g
  try dsimp only
  refine hK.out _ _ (KS.out _ H2.out) (fun hH2 => ?_)
  clear hK K hH1
  try simp only [Act.put, List.getElem_toArray, List.getElem_cons_succ, List.getElem_cons_zero, List.setIfInBounds_toArray, List.set_cons_zero, List.set_cons_succ]
  refine wpAnyH_ready (rs := [11]) (by kernel_rfl) (by simp) ?_
  refine AllReadyH.cons (o := _) rfl (fun K hK => ?_) AllReadyH.nil
  go_simp
  (with_reducible refine (BR.out _ _ _ (KA.out.trans H2.out) I1.out (I.sz2 _ _)).mono ?_)
  rintro e hw3 ⟨⟨v, rfl⟩, i, g⟩
  have I2 := Lib.hid i
  clear i
  have H3 := Lib.hid (H2.out.trans g)
  clear g
  try dsimp only
  refine hK.out _ _ (KS.out _ H3.out) (fun hH3 => ?_)
  clear hK K hH2
  try simp only [Act.put, List.getElem_toArray, List.getElem_cons_succ, List.getElem_cons_zero, List.setIfInBounds_toArray, List.set_cons_zero, List.set_cons_succ]
  refine wpAnyH_done (by kernel_rfl) ?_ _
  clear hH3
  rw [← HF.out] at I2
  go_wp2
  refine bodyPost_end (results_none rfl _ _ _) rfl ⟨⟨_, rfl⟩, I2.out, KA.out.trans H3.out⟩
end Go.Proofs.Ytfjeonoihdgdoaa
end
section
/- Control: what a walk of the program leaves: branch and run; no condition but that the tree lies in memory and is not large. -/
namespace Go.Proofs.Ytfjeonoihdgdoaa
open Go.RowKit
set_option linter.unusedVariables false
set_option maxRecDepth 100000 in
set_option maxHeartbeats 8000000 in
theorem br_any {σ : Type} {own : Nat → Obj → Prop} {Inv : σ → World → Prop} {f1 f2 : Nat} {r1 r2 : Array Value} (w : World) (bl : Bool) (s u : Sl) (A B : σ)
    (hA : bl = true → ∀ (w2 : World), w.grownBy w2 none → Calls Try.prog 47 #[.agg #[.func (.func f1) r1 #[], .func (.func f2) r2 #[]], .slice s.a s.n s.c] w2 (RetR own Inv A w2))
    (hB : bl = false → ∀ (w2 : World), w.grownBy w2 none → Calls Try.prog 47 #[.agg #[.func (.func f1) r1 #[], .func (.func f2) r2 #[]], .slice u.a u.n u.c] w2 (RetR own Inv B w2)) :
    Calls Try.prog 185 #[.agg #[.func (.func f1) r1 #[], .func (.func f2) r2 #[]], .bool bl, .slice s.a s.n s.c, .slice u.a u.n u.c] w (RetR own Inv (if bl = true then A else B) w) := by
  have GA := Lib.hid (gb_alloc w (.cells #[.func (.func f1) r1 #[], .func (.func f2) r2 #[]] 108) none)
  have k0 := (IsB.new w 108 #[.func (.func f1) r1 #[], .func (.func f2) r2 #[]]).cell 0
  have k1 := (IsB.new w 108 #[.func (.func f1) r1 #[], .func (.func f2) r2 #[]]).cell 1
  dsimp at k0 k1
  cases bl with
  | true =>
    have AA := Lib.hid (hA rfl)
    unfold RetR at AA
    rw [if_pos rfl]
    clear hA hB
    go_enter Try.func185, Try.ntmps185
    go_wp2_with (go_at_call 47; refine (AA.out _ GA.out).mono ?_; clear AA k0 k1; rintro e w5 ⟨⟨v, rfl⟩, i, k⟩; have I5 := Lib.hid i; have K5 := Lib.hid ((Kt.of_gb (own := own) GA.out).trans k); clear i k)
    refine bodyPost_ret (results_none rfl _ _ _) rfl ⟨⟨_, rfl⟩, I5.out, K5.out⟩
  | false =>
    have AA := Lib.hid (hB rfl)
    unfold RetR at AA
    rw [if_neg (by decide)]
    clear hA hB
    go_enter Try.func185, Try.ntmps185
    go_wp2_with (go_at_call 47; refine (AA.out _ GA.out).mono ?_; clear AA k0 k1; rintro e w5 ⟨⟨v, rfl⟩, i, k⟩; have I5 := Lib.hid i; have K5 := Lib.hid ((Kt.of_gb (own := own) GA.out).trans k); clear i k)
    refine bodyPost_end (results_none rfl _ _ _) rfl ⟨⟨_, rfl⟩, I5.out, K5.out⟩
set_option maxRecDepth 100000 in
set_option maxHeartbeats 16000000 in
theorem run_rec {σ : Type} {C : CBS σ} {own : Nat → Obj → Prop} {Inv : σ → World → Prop} {f1 f2 : Nat} {r1 r2 : Array Value} (I : CBI C own Inv f1 f2 r1 r2) (w0 : World) (hown : ∀ k cs t m, k < w0.heap.size → ¬ own k (.cells cs t m)) :
    ∀ (m : Nat) (T : CT) (s : Sl) (w : World) (st : σ), T.cnt < m → T.cnt ≤ 1000 → ST w0 s T → Cnd T → Kc w0 w → Inv st w → C.sz st + T.cnt ≤ 10000 →
      Calls Try.prog 47 #[.agg #[.func (.func f1) r1 #[], .func (.func f2) r2 #[]], .slice s.a s.n s.c] w (RetR own Inv (runT C T st) w) := by
  intro m
  induction m with
  | zero => intro T s w st h; omega
  | succ m ih =>
    intro T s w st hm hc hS hcd hk h hz
    have IH := Lib.hid ih
    have HS := Lib.hid hS
    have HK := Lib.hid hk
    have HM := Lib.hid hm
    have HC := Lib.hid hc
    have HCD := Lib.hid hcd
    have HOWN := Lib.hid hown
    have IK := Lib.hid (fun (w2 : World) (g : w.grownBy w2 none) => I.keep _ _ _ h g)
    have HZ := Lib.hid hz
    have SL := Lib.hid hS.len
    have scap : s.n ≤ s.c := hS.cap
    have SB := Lib.hid (show s.n ≤ 1000 by have := hS.len; have := CT.len_cnt T; omega)
    have GA := Lib.hid (gb_alloc w (.cells #[.func (.func f1) r1 #[], .func (.func f2) r2 #[]] 108) none)
    have BC := Lib.hid (IsB.new w 108 #[.func (.func f1) r1 #[], .func (.func f2) r2 #[]])
    clear ih hS hk hm hc hcd h hz hown
    obtain ⟨sa, sn, sc⟩ := s
    dsimp only at *
    go_enter Try.func47, Try.ntmps47
    go_upto_region 1 with fail
    generalize w.alloc (.cells #[.func (.func f1) r1 #[], .func (.func f2) r2 #[]] 108) = w1 at *
    obtain ⟨b, hb⟩ : ∃ b, b = w.heap.size := ⟨_, rfl⟩
    rw [← hb] at BC ⊢
    clear hb
    go_wp2
    go_loopw [8] (fun s8 wr => ∃ (j : Nat) (st1 : σ), s8 = .int .i64 (j : Int) ∧ j ≤ sn ∧ Kc w0 wr ∧ Inv st1 wr ∧ Kt own w1 wr ∧ runT C (T.drop j) st1 = runT C T st ∧ C.sz st1 + (T.drop j).cnt ≤ 10000 ∧ Cnd (T.drop j)) (fun s8 _ => sn - (intOf s8).toNat)
    case atStart => exact ⟨0, st, rfl, Nat.zero_le _, HK.out.trans (Kc.of_gb GA.out), IK.out _ GA.out, Kt.refl _ _, by rw [CT.drop_zero], by rw [CT.drop_zero]; exact HZ.out, by rw [CT.drop_zero]; exact HCD.out⟩
    case round =>
      obtain ⟨j, st1, rfl, hj, kc, inv, kt, hr, hz, hcd⟩ := hrel
      have CD1 := Lib.hid hcd
      have KC := Lib.hid kc
      have KT := Lib.hid kt
      have JI := Lib.hid inv
      have HR := Lib.hid hr
      have HZ1 := Lib.hid hz
      clear kc kt inv hr hz hcd
      by_cases hlt : j < sn
      · have i1 : (j : Int) < sn := by omega
        have i0 : (0 : Int) ≤ (j : Int) := by omega
        obtain ⟨x, ad, hsa, hd, ⟨c0, c1, c2, c3, c4⟩, vm⟩ := HS.out.at_ j hlt
        dsimp only at hsa
        subst hsa
        have HD := Lib.hid hd
        have VX := Lib.hid vm
        have CTh := Lib.hid (cnt_th hd)
        have CAt := Lib.hid (cnt_at hd)
        replace c0 := KC.out _ _ c0
        replace c1 := KC.out _ _ c1
        replace c2 := KC.out _ _ c2
        replace c3 := KC.out _ _ c3
        replace c4 := KC.out _ _ c4
        have G4 := Lib.hid (gb_alloc wr (.cells x.cs 63) none)
        have BX := Lib.hid (IsB.new wr 63 x.cs)
        have BCr := Lib.hid ((Kt.isb KT.out BC.out (fun q => by rcases I.ow _ _ _ _ q with e | e <;> exact absurd e (by decide))).keep0 G4.out)
        have KA4 := Lib.hid (show Kt own wr (wr.alloc (.cells x.cs 63)) from Kt.of_gb G4.out)
        have hwj : IntKind.i64.wrap ((j : Int) + 1) = ((j + 1 : Nat) : Int) := by have := SB.out; rw [IntKind.wrap_i64]; omega
        clear vm hd
        dsimp only [CV.cs, Sl.v] at c0 c1 c2 c3 c4 G4 BX BCr KA4
        have JK := Lib.hid (fun (w5 : World) (g : wr.grownBy w5 none) => I.keep _ _ _ JI.out g)
        have S1 := Lib.hid (show C.sz st1 ≤ 10000 by have := HZ1.out; omega)
        obtain ⟨NX, hNX⟩ : ∃ q, q = runT C (x.ct .nil) st1 := ⟨_, rfl⟩
        have RN := Lib.hid (show runT C (T.drop (j + 1)) NX = runT C T st by rw [← HR.out, hNX]; conv => rhs; rw [HD.out]
                                                                             rfl)
        have SZN := Lib.hid (show C.sz NX + (T.drop (j + 1)).cnt ≤ 10000 by
          have q := runT_sz I.sz1 I.sz2 (x.ct .nil) st1
          rw [← hNX, CV.cnt_ct, CT.cnt_nil] at q
          have := HZ1.out; have := CAt.out; omega)
        have MEM : ∀ y, y ∈ x :: (x.th.pre ++ (x.el.pre ++ (T.drop (j + 1)).pre)) → y.N.length ≤ 1000 := fun y hy => by
          rw [← pre_at HD.out] at hy; exact Nat.le_trans (CD1.out y hy) (by decide)
        have CDN := Lib.hid (show Cnd (T.drop (j + 1)) from fun y hy => CD1.out y (by rw [pre_at HD.out]; exact List.mem_cons_of_mem _ (List.mem_append_right _ (List.mem_append_right _ hy))))
        have CDt : Cnd x.th := fun y hy => CD1.out y (by rw [pre_at HD.out]; exact List.mem_cons_of_mem _ (List.mem_append_left _ hy))
        have CDe : Cnd x.el := fun y hy => CD1.out y (by rw [pre_at HD.out]; exact List.mem_cons_of_mem _ (List.mem_append_right _ (List.mem_append_left _ hy)))
        have HX := Lib.hid (MEM x (List.mem_cons_self ..))
        have NXE := Lib.hid (show NX = (if x.k = 1 then (C.ap x.t st1).2
          else if x.k = 3 then (if (C.ap x.t st1).1 = true then runT C x.th (C.ap x.t st1).2 else runT C x.el (C.ap x.t st1).2)
          else if x.k = 2 then (if (C.ts x.N.length st1).1 = true then runT C x.th (C.ts x.N.length st1).2 else runT C x.el (C.ts x.N.length st1).2)
          else st1) from hNX)
        have HB := Lib.hid (fun (w5 : World) (g5 : wr.grownBy w5 none) (bl : Bool) (w3 : World) (q : σ) (k : Kt own w5 w3) (i : Inv q w3) (hq : C.sz q ≤ C.sz st1 + 1) =>
          br_any (own := own) (Inv := Inv) (f1 := f1) (f2 := f2) (r1 := r1) (r2 := r2) w3 bl x.s x.u (runT C x.th q) (runT C x.el q)
            (fun _ w2 g => IH.out x.th x.s w2 q (by have := HM.out; have := CTh.out.1; omega) (by have := HC.out; have := CTh.out.1; omega) VX.out.s CDt (kc_kt KC.out ((Kt.of_gb g5).trans (k.trans (Kt.of_gb g))) HOWN.out) (I.keep _ _ _ i g) (by have := HZ1.out; have := CAt.out; omega))
            (fun _ w2 g => IH.out x.el x.u w2 q (by have := HM.out; have := CTh.out.2; omega) (by have := HC.out; have := CTh.out.2; omega) VX.out.u CDe (kc_kt KC.out ((Kt.of_gb g5).trans (k.trans (Kt.of_gb g))) HOWN.out) (I.keep _ _ _ i g) (by have := HZ1.out; have := CAt.out; omega)))
        clear hNX MEM CDt CDe
        go_upto_region 4 with fail
        generalize wr.alloc (.cells #[.int .i64 x.k, .int .i64 x.t, .slice x.c.a x.c.n x.c.c, .slice x.s.a x.s.n x.s.c, .slice x.u.a x.u.n x.u.c] 63) = w4 at *
        obtain ⟨bx, hbx⟩ : ∃ b, b = wr.heap.size := ⟨_, rfl⟩
        rw [← hbx] at BX ⊢
        clear hbx c0 c1 c2 c3 c4 IH HR HD
        by_cases h1 : x.k = 1
        · have E1 := Lib.hid (NXE.out.trans (if_pos h1))
          have NO := Lib.hid (fun w => (nodeOf_any w x).mono (R' := fun e w' => e = .returned (.iface 174 (.agg #[.int .i64 x.k, .int .i64 x.t, .slice x.c.a x.c.n x.c.c, .slice x.s.a x.s.n x.s.c, .slice x.u.a x.u.n x.u.c])) ∧ w.grownBy w' none) (fun e w' hq => by obtain ⟨q1, q2⟩ := hq; rw [show nodV x = .iface 174 (.agg #[.int .i64 x.k, .int .i64 x.t, .slice x.c.a x.c.n x.c.c, .slice x.s.a x.s.n x.s.c, .slice x.u.a x.u.n x.u.c]) by unfold nodV; rw [if_pos h1, h1]] at q1; exact ⟨q1, q2⟩))
          have mt : ∀ (v : Value) (w : World), Sem.run Try.prog (method 359 174 v "patchbay/control.execute") w = .ok (182, v) w := fun v w => me_apply 358 v w
          have EX := Lib.hid (fun (w5 : World) (g : wr.grownBy w5 none) => (show Calls Try.prog 182 #[.agg #[.int .i64 x.k, .int .i64 x.t, .slice x.c.a x.c.n x.c.c, .slice x.s.a x.s.n x.s.c, .slice x.u.a x.u.n x.u.c], .agg #[.func (.func f1) r1 #[], .func (.func f2) r2 #[]]] w5 (RetR own Inv NX w5) from (by rw [E1.out]; exact exa_any I w5 x st1 (JK.out w5 g) S1.out)))
          unfold RetR at EX
          clear NXE HB HX h1
          have KS := Lib.hid (fun (w' : World) (q0 : Kt own w4 w') => (⟨(Kt.isb q0 BX.out (fun q => by rcases I.ow _ _ _ _ q with e | e <;> exact absurd e (by decide))).cell 0, (Kt.isb q0 BX.out (fun q => by rcases I.ow _ _ _ _ q with e | e <;> exact absurd e (by decide))).cell 1, (Kt.isb q0 BX.out (fun q => by rcases I.ow _ _ _ _ q with e | e <;> exact absurd e (by decide))).cell 2, (Kt.isb q0 BX.out (fun q => by rcases I.ow _ _ _ _ q with e | e <;> exact absurd e (by decide))).cell 3, (Kt.isb q0 BX.out (fun q => by rcases I.ow _ _ _ _ q with e | e <;> exact absurd e (by decide))).cell 4, (Kt.isb q0 BCr.out (fun q => by rcases I.ow _ _ _ _ q with e | e <;> exact absurd e (by decide))).cell 0, (Kt.isb q0 BCr.out (fun q => by rcases I.ow _ _ _ _ q with e | e <;> exact absurd e (by decide))).cell 1, q0⟩ : (fun w' : World => w'.cell? ⟨bx, 0, none⟩ = some (.int .i64 x.k) ∧ w'.cell? ⟨bx, 1, none⟩ = some (.int .i64 x.t) ∧ w'.cell? ⟨bx, 2, none⟩ = some (.slice x.c.a x.c.n x.c.c) ∧ w'.cell? ⟨bx, 3, none⟩ = some (.slice x.s.a x.s.n x.s.c) ∧ w'.cell? ⟨bx, 4, none⟩ = some (.slice x.u.a x.u.n x.u.c) ∧ w'.cell? ⟨b, 0, none⟩ = some (.func (.func f1) r1 #[]) ∧ w'.cell? ⟨b, 1, none⟩ = some (.func (.func f2) r2 #[]) ∧ Kt own w4 w') w'))
          have H0 := Lib.hid (show Kt own w4 w4.drew from Kt.of_gb (gb_drew w4 none))
          refine wp_region_held_drew (S := (fun w' : World => w'.cell? ⟨bx, 0, none⟩ = some (.int .i64 x.k) ∧ w'.cell? ⟨bx, 1, none⟩ = some (.int .i64 x.t) ∧ w'.cell? ⟨bx, 2, none⟩ = some (.slice x.c.a x.c.n x.c.c) ∧ w'.cell? ⟨bx, 3, none⟩ = some (.slice x.s.a x.s.n x.s.c) ∧ w'.cell? ⟨bx, 4, none⟩ = some (.slice x.u.a x.u.n x.u.c) ∧ w'.cell? ⟨b, 0, none⟩ = some (.func (.func f1) r1 #[]) ∧ w'.cell? ⟨b, 1, none⟩ = some (.func (.func f2) r2 #[]) ∧ Kt own w4 w')) (by kernel_rfl) (KS.out _ H0.out) (fun hH0 => ?_)
          refine wpAnyH_take (i := 0) (v := ?v22001) rfl (by kernel_rfl) (by kernel_rfl) (by kernel_rfl) (fun _ _ _ h => h) (Or.inl ⟨by rfl, ?hy22001⟩) (by assumption) ?rest22001
          case hy22001 => (intro wz hSw; (try dsimp only at hSw); first | (go_simp; done) | (go_simp; with_reducible rfl))
          try simp only [Act.put, List.getElem_toArray, List.getElem_cons_zero, List.setIfInBounds_toArray, List.set_cons_zero, List.set_cons_succ]
          refine wpAnyH_take (i := 2) (v := ?v22002) rfl (by kernel_rfl) (by kernel_rfl) (by kernel_rfl) (fun _ _ _ h => h) (Or.inl ⟨by rfl, ?hy22002⟩) (by assumption) ?rest22002
          case hy22002 => (intro wz hSw; (try dsimp only at hSw); first | (go_simp; done) | (go_simp; with_reducible rfl))
          try simp only [Act.put, List.getElem_toArray, List.getElem_cons_succ, List.getElem_cons_zero, List.setIfInBounds_toArray, List.set_cons_zero, List.set_cons_succ]
          refine wpAnyH_ready (rs := [1]) (by kernel_rfl) (by simp) ?_
          refine AllReadyH.cons (o := _) rfl (fun K hK => ?_) AllReadyH.nil
          go_simp
          (with_reducible refine (NO.out _).mono ?_)
          rintro e hw1 ⟨rfl, g⟩
          have K4 := Lib.hid (gb_trans G4.out (gb_trans (gb_drew w4 none) g))
          replace g : Kt own _ hw1 := Kt.of_gb g
          have H1 := Lib.hid (H0.out.trans g)
          clear g
          try dsimp only
          refine hK.out _ _ (KS.out _ H1.out) (fun hH1 => ?_)
          clear hK K hH0
          try simp only [Act.put, List.getElem_toArray, List.getElem_cons_succ, List.getElem_cons_zero, List.setIfInBounds_toArray, List.set_cons_zero, List.set_cons_succ]
          refine wpAnyH_ready (rs := [3]) (by kernel_rfl) (by simp) ?_
          refine AllReadyH.cons (o := _) rfl (fun K hK => ?_) AllReadyH.nil
          go_simp
          (with_reducible refine (EX.out _ K4.out).mono ?_)
          rintro e hw2 ⟨⟨v, rfl⟩, i, g⟩
          have I2 := Lib.hid i
          clear i
          have H2 := Lib.hid (H1.out.trans g)
          clear g
          try dsimp only
          refine hK.out _ _ (KS.out _ H2.out) (fun hH2 => ?_)
          clear hK K hH1
          try simp only [Act.put, List.getElem_toArray, List.getElem_cons_succ, List.getElem_cons_zero, List.setIfInBounds_toArray, List.set_cons_zero, List.set_cons_succ]
          refine wpAnyH_done (by kernel_rfl) ?_ _
          clear hH2
          go_wp2
          go_roundw
          case rel => exact ⟨j + 1, NX, by go_num, by omega, kc_kt KC.out (KA4.out.trans H2.out) HOWN.out, I2.out, KT.out.trans (KA4.out.trans H2.out), RN.out, SZN.out, CDN.out⟩
          case measure => simp [intOf]; omega

        by_cases h3 : x.k = 3
        · have h2' : ¬ x.k = 2 := by omega
          have E1 := Lib.hid (NXE.out.trans ((if_neg h1).trans (if_pos h3)))
          have NO := Lib.hid (fun w => (nodeOf_any w x).mono (R' := fun e w' => e = .returned (.iface 176 (.agg #[.int .i64 x.k, .int .i64 x.t, .slice x.c.a x.c.n x.c.c, .slice x.s.a x.s.n x.s.c, .slice x.u.a x.u.n x.u.c])) ∧ w.grownBy w' none) (fun e w' hq => by obtain ⟨q1, q2⟩ := hq; rw [show nodV x = .iface 176 (.agg #[.int .i64 x.k, .int .i64 x.t, .slice x.c.a x.c.n x.c.c, .slice x.s.a x.s.n x.s.c, .slice x.u.a x.u.n x.u.c]) by unfold nodV; rw [if_neg h1, if_neg h2', if_pos h3, h3]] at q1; exact ⟨q1, q2⟩))
          have mt : ∀ (v : Value) (w : World), Sem.run Try.prog (method 359 176 v "patchbay/control.execute") w = .ok (187, v) w := fun v w => me_hit 358 v w
          have EX := Lib.hid (fun (w5 : World) (g : wr.grownBy w5 none) => (show Calls Try.prog 187 #[.agg #[.int .i64 x.k, .int .i64 x.t, .slice x.c.a x.c.n x.c.c, .slice x.s.a x.s.n x.s.c, .slice x.u.a x.u.n x.u.c], .agg #[.func (.func f1) r1 #[], .func (.func f2) r2 #[]]] w5 (RetR own Inv NX w5) from (by rw [E1.out]; exact exh_any I w5 x st1 (JK.out w5 g) S1.out (HB.out w5 g))))
          unfold RetR at EX
          clear NXE HB HX h3
          have KS := Lib.hid (fun (w' : World) (q0 : Kt own w4 w') => (⟨(Kt.isb q0 BX.out (fun q => by rcases I.ow _ _ _ _ q with e | e <;> exact absurd e (by decide))).cell 0, (Kt.isb q0 BX.out (fun q => by rcases I.ow _ _ _ _ q with e | e <;> exact absurd e (by decide))).cell 1, (Kt.isb q0 BX.out (fun q => by rcases I.ow _ _ _ _ q with e | e <;> exact absurd e (by decide))).cell 2, (Kt.isb q0 BX.out (fun q => by rcases I.ow _ _ _ _ q with e | e <;> exact absurd e (by decide))).cell 3, (Kt.isb q0 BX.out (fun q => by rcases I.ow _ _ _ _ q with e | e <;> exact absurd e (by decide))).cell 4, (Kt.isb q0 BCr.out (fun q => by rcases I.ow _ _ _ _ q with e | e <;> exact absurd e (by decide))).cell 0, (Kt.isb q0 BCr.out (fun q => by rcases I.ow _ _ _ _ q with e | e <;> exact absurd e (by decide))).cell 1, q0⟩ : (fun w' : World => w'.cell? ⟨bx, 0, none⟩ = some (.int .i64 x.k) ∧ w'.cell? ⟨bx, 1, none⟩ = some (.int .i64 x.t) ∧ w'.cell? ⟨bx, 2, none⟩ = some (.slice x.c.a x.c.n x.c.c) ∧ w'.cell? ⟨bx, 3, none⟩ = some (.slice x.s.a x.s.n x.s.c) ∧ w'.cell? ⟨bx, 4, none⟩ = some (.slice x.u.a x.u.n x.u.c) ∧ w'.cell? ⟨b, 0, none⟩ = some (.func (.func f1) r1 #[]) ∧ w'.cell? ⟨b, 1, none⟩ = some (.func (.func f2) r2 #[]) ∧ Kt own w4 w') w'))
          have H0 := Lib.hid (show Kt own w4 w4.drew from Kt.of_gb (gb_drew w4 none))
          refine wp_region_held_drew (S := (fun w' : World => w'.cell? ⟨bx, 0, none⟩ = some (.int .i64 x.k) ∧ w'.cell? ⟨bx, 1, none⟩ = some (.int .i64 x.t) ∧ w'.cell? ⟨bx, 2, none⟩ = some (.slice x.c.a x.c.n x.c.c) ∧ w'.cell? ⟨bx, 3, none⟩ = some (.slice x.s.a x.s.n x.s.c) ∧ w'.cell? ⟨bx, 4, none⟩ = some (.slice x.u.a x.u.n x.u.c) ∧ w'.cell? ⟨b, 0, none⟩ = some (.func (.func f1) r1 #[]) ∧ w'.cell? ⟨b, 1, none⟩ = some (.func (.func f2) r2 #[]) ∧ Kt own w4 w')) (by kernel_rfl) (KS.out _ H0.out) (fun hH0 => ?_)
          refine wpAnyH_take (i := 0) (v := ?v22003) rfl (by kernel_rfl) (by kernel_rfl) (by kernel_rfl) (fun _ _ _ h => h) (Or.inl ⟨by rfl, ?hy22003⟩) (by assumption) ?rest22003
          case hy22003 => (intro wz hSw; (try dsimp only at hSw); first | (go_simp; done) | (go_simp; with_reducible rfl))
          try simp only [Act.put, List.getElem_toArray, List.getElem_cons_zero, List.setIfInBounds_toArray, List.set_cons_zero, List.set_cons_succ]
          refine wpAnyH_take (i := 2) (v := ?v22004) rfl (by kernel_rfl) (by kernel_rfl) (by kernel_rfl) (fun _ _ _ h => h) (Or.inl ⟨by rfl, ?hy22004⟩) (by assumption) ?rest22004
          case hy22004 => (intro wz hSw; (try dsimp only at hSw); first | (go_simp; done) | (go_simp; with_reducible rfl))
          try simp only [Act.put, List.getElem_toArray, List.getElem_cons_succ, List.getElem_cons_zero, List.setIfInBounds_toArray, List.set_cons_zero, List.set_cons_succ]
          refine wpAnyH_ready (rs := [1]) (by kernel_rfl) (by simp) ?_
          refine AllReadyH.cons (o := _) rfl (fun K hK => ?_) AllReadyH.nil
          go_simp
          (with_reducible refine (NO.out _).mono ?_)
          rintro e hw1 ⟨rfl, g⟩
          have K4 := Lib.hid (gb_trans G4.out (gb_trans (gb_drew w4 none) g))
          replace g : Kt own _ hw1 := Kt.of_gb g
          have H1 := Lib.hid (H0.out.trans g)
          clear g
          try dsimp only
          refine hK.out _ _ (KS.out _ H1.out) (fun hH1 => ?_)
          clear hK K hH0
          try simp only [Act.put, List.getElem_toArray, List.getElem_cons_succ, List.getElem_cons_zero, List.setIfInBounds_toArray, List.set_cons_zero, List.set_cons_succ]
          refine wpAnyH_ready (rs := [3]) (by kernel_rfl) (by simp) ?_
          refine AllReadyH.cons (o := _) rfl (fun K hK => ?_) AllReadyH.nil
          go_simp
          (with_reducible refine (EX.out _ K4.out).mono ?_)
          rintro e hw2 ⟨⟨v, rfl⟩, i, g⟩
          have I2 := Lib.hid i
          clear i
          have H2 := Lib.hid (H1.out.trans g)
          clear g
          try dsimp only
          refine hK.out _ _ (KS.out _ H2.out) (fun hH2 => ?_)
          clear hK K hH1
          try simp only [Act.put, List.getElem_toArray, List.getElem_cons_succ, List.getElem_cons_zero, List.setIfInBounds_toArray, List.set_cons_zero, List.set_cons_succ]
          refine wpAnyH_done (by kernel_rfl) ?_ _
          clear hH2
          go_wp2
          go_roundw
          case rel => exact ⟨j + 1, NX, by go_num, by omega, kc_kt KC.out (KA4.out.trans H2.out) HOWN.out, I2.out, KT.out.trans (KA4.out.trans H2.out), RN.out, SZN.out, CDN.out⟩
          case measure => simp [intOf]; omega

        by_cases h2 : x.k = 2
        · have E1 := Lib.hid (NXE.out.trans ((if_neg h1).trans ((if_neg h3).trans (if_pos h2))))
          have NO := Lib.hid (fun w => (nodeOf_any w x).mono (R' := fun e w' => e = .returned (.iface 175 (.agg #[.int .i64 x.k, .int .i64 x.t, .slice x.c.a x.c.n x.c.c, .slice x.s.a x.s.n x.s.c, .slice x.u.a x.u.n x.u.c])) ∧ w.grownBy w' none) (fun e w' hq => by obtain ⟨q1, q2⟩ := hq; rw [show nodV x = .iface 175 (.agg #[.int .i64 x.k, .int .i64 x.t, .slice x.c.a x.c.n x.c.c, .slice x.s.a x.s.n x.s.c, .slice x.u.a x.u.n x.u.c]) by unfold nodV; rw [if_neg h1, if_pos h2, h2]] at q1; exact ⟨q1, q2⟩))
          have mt : ∀ (v : Value) (w : World), Sem.run Try.prog (method 359 175 v "patchbay/control.execute") w = .ok (184, v) w := fun v w => me_if 358 v w
          have EX := Lib.hid (fun (w5 : World) (g : wr.grownBy w5 none) => (show Calls Try.prog 184 #[.agg #[.int .i64 x.k, .int .i64 x.t, .slice x.c.a x.c.n x.c.c, .slice x.s.a x.s.n x.s.c, .slice x.u.a x.u.n x.u.c], .agg #[.func (.func f1) r1 #[], .func (.func f2) r2 #[]]] w5 (RetR own Inv NX w5) from (by rw [E1.out]; exact exi_any I w5 x ((VX.out.keepc KC.out).keep0 g).c HX.out st1 (JK.out w5 g) S1.out (HB.out w5 g))))
          unfold RetR at EX
          clear NXE HB HX h2
          have KS := Lib.hid (fun (w' : World) (q0 : Kt own w4 w') => (⟨(Kt.isb q0 BX.out (fun q => by rcases I.ow _ _ _ _ q with e | e <;> exact absurd e (by decide))).cell 0, (Kt.isb q0 BX.out (fun q => by rcases I.ow _ _ _ _ q with e | e <;> exact absurd e (by decide))).cell 1, (Kt.isb q0 BX.out (fun q => by rcases I.ow _ _ _ _ q with e | e <;> exact absurd e (by decide))).cell 2, (Kt.isb q0 BX.out (fun q => by rcases I.ow _ _ _ _ q with e | e <;> exact absurd e (by decide))).cell 3, (Kt.isb q0 BX.out (fun q => by rcases I.ow _ _ _ _ q with e | e <;> exact absurd e (by decide))).cell 4, (Kt.isb q0 BCr.out (fun q => by rcases I.ow _ _ _ _ q with e | e <;> exact absurd e (by decide))).cell 0, (Kt.isb q0 BCr.out (fun q => by rcases I.ow _ _ _ _ q with e | e <;> exact absurd e (by decide))).cell 1, q0⟩ : (fun w' : World => w'.cell? ⟨bx, 0, none⟩ = some (.int .i64 x.k) ∧ w'.cell? ⟨bx, 1, none⟩ = some (.int .i64 x.t) ∧ w'.cell? ⟨bx, 2, none⟩ = some (.slice x.c.a x.c.n x.c.c) ∧ w'.cell? ⟨bx, 3, none⟩ = some (.slice x.s.a x.s.n x.s.c) ∧ w'.cell? ⟨bx, 4, none⟩ = some (.slice x.u.a x.u.n x.u.c) ∧ w'.cell? ⟨b, 0, none⟩ = some (.func (.func f1) r1 #[]) ∧ w'.cell? ⟨b, 1, none⟩ = some (.func (.func f2) r2 #[]) ∧ Kt own w4 w') w'))
          have H0 := Lib.hid (show Kt own w4 w4.drew from Kt.of_gb (gb_drew w4 none))
          refine wp_region_held_drew (S := (fun w' : World => w'.cell? ⟨bx, 0, none⟩ = some (.int .i64 x.k) ∧ w'.cell? ⟨bx, 1, none⟩ = some (.int .i64 x.t) ∧ w'.cell? ⟨bx, 2, none⟩ = some (.slice x.c.a x.c.n x.c.c) ∧ w'.cell? ⟨bx, 3, none⟩ = some (.slice x.s.a x.s.n x.s.c) ∧ w'.cell? ⟨bx, 4, none⟩ = some (.slice x.u.a x.u.n x.u.c) ∧ w'.cell? ⟨b, 0, none⟩ = some (.func (.func f1) r1 #[]) ∧ w'.cell? ⟨b, 1, none⟩ = some (.func (.func f2) r2 #[]) ∧ Kt own w4 w')) (by kernel_rfl) (KS.out _ H0.out) (fun hH0 => ?_)
          refine wpAnyH_take (i := 0) (v := ?v22005) rfl (by kernel_rfl) (by kernel_rfl) (by kernel_rfl) (fun _ _ _ h => h) (Or.inl ⟨by rfl, ?hy22005⟩) (by assumption) ?rest22005
          case hy22005 => (intro wz hSw; (try dsimp only at hSw); first | (go_simp; done) | (go_simp; with_reducible rfl))
          try simp only [Act.put, List.getElem_toArray, List.getElem_cons_zero, List.setIfInBounds_toArray, List.set_cons_zero, List.set_cons_succ]
          refine wpAnyH_take (i := 2) (v := ?v22006) rfl (by kernel_rfl) (by kernel_rfl) (by kernel_rfl) (fun _ _ _ h => h) (Or.inl ⟨by rfl, ?hy22006⟩) (by assumption) ?rest22006
          case hy22006 => (intro wz hSw; (try dsimp only at hSw); first | (go_simp; done) | (go_simp; with_reducible rfl))
          try simp only [Act.put, List.getElem_toArray, List.getElem_cons_succ, List.getElem_cons_zero, List.setIfInBounds_toArray, List.set_cons_zero, List.set_cons_succ]
          refine wpAnyH_ready (rs := [1]) (by kernel_rfl) (by simp) ?_
          refine AllReadyH.cons (o := _) rfl (fun K hK => ?_) AllReadyH.nil
          go_simp
          (with_reducible refine (NO.out _).mono ?_)
          rintro e hw1 ⟨rfl, g⟩
          have K4 := Lib.hid (gb_trans G4.out (gb_trans (gb_drew w4 none) g))
          replace g : Kt own _ hw1 := Kt.of_gb g
          have H1 := Lib.hid (H0.out.trans g)
          clear g
          try dsimp only
          refine hK.out _ _ (KS.out _ H1.out) (fun hH1 => ?_)
          clear hK K hH0
          try simp only [Act.put, List.getElem_toArray, List.getElem_cons_succ, List.getElem_cons_zero, List.setIfInBounds_toArray, List.set_cons_zero, List.set_cons_succ]
          refine wpAnyH_ready (rs := [3]) (by kernel_rfl) (by simp) ?_
          refine AllReadyH.cons (o := _) rfl (fun K hK => ?_) AllReadyH.nil
          go_simp
          (with_reducible refine (EX.out _ K4.out).mono ?_)
          rintro e hw2 ⟨⟨v, rfl⟩, i, g⟩
          have I2 := Lib.hid i
          clear i
          have H2 := Lib.hid (H1.out.trans g)
          clear g
          try dsimp only
          refine hK.out _ _ (KS.out _ H2.out) (fun hH2 => ?_)
          clear hK K hH1
          try simp only [Act.put, List.getElem_toArray, List.getElem_cons_succ, List.getElem_cons_zero, List.setIfInBounds_toArray, List.set_cons_zero, List.set_cons_succ]
          refine wpAnyH_done (by kernel_rfl) ?_ _
          clear hH2
          go_wp2
          go_roundw
          case rel => exact ⟨j + 1, NX, by go_num, by omega, kc_kt KC.out (KA4.out.trans H2.out) HOWN.out, I2.out, KT.out.trans (KA4.out.trans H2.out), RN.out, SZN.out, CDN.out⟩
          case measure => simp [intOf]; omega

        · have E1 := Lib.hid (NXE.out.trans ((if_neg h1).trans ((if_neg h3).trans (if_neg h2))))
          have NO := Lib.hid (fun w => (nodeOf_any w x).mono (R' := fun e w' => e = .returned (.iface 178 (.agg #[])) ∧ w.grownBy w' none) (fun e w' hq => by obtain ⟨q1, q2⟩ := hq; rw [show nodV x = .iface 178 (.agg #[]) by unfold nodV; rw [if_neg h1, if_neg h2, if_neg h3]] at q1; exact ⟨q1, q2⟩))
          have mt : ∀ (v : Value) (w : World), Sem.run Try.prog (method 359 178 v "patchbay/control.execute") w = .ok (189, v) w := fun v w => me_unk 358 v w
          have EX := Lib.hid (fun (w5 : World) (g : wr.grownBy w5 none) => (show Calls Try.prog 189 #[.agg #[], .agg #[.func (.func f1) r1 #[], .func (.func f2) r2 #[]]] w5 (RetR own Inv NX w5) from (by rw [E1.out]; exact exu_any I w5 st1 (JK.out w5 g))))
          unfold RetR at EX
          clear NXE HB HX 
          have KS := Lib.hid (fun (w' : World) (q0 : Kt own w4 w') => (⟨(Kt.isb q0 BX.out (fun q => by rcases I.ow _ _ _ _ q with e | e <;> exact absurd e (by decide))).cell 0, (Kt.isb q0 BX.out (fun q => by rcases I.ow _ _ _ _ q with e | e <;> exact absurd e (by decide))).cell 1, (Kt.isb q0 BX.out (fun q => by rcases I.ow _ _ _ _ q with e | e <;> exact absurd e (by decide))).cell 2, (Kt.isb q0 BX.out (fun q => by rcases I.ow _ _ _ _ q with e | e <;> exact absurd e (by decide))).cell 3, (Kt.isb q0 BX.out (fun q => by rcases I.ow _ _ _ _ q with e | e <;> exact absurd e (by decide))).cell 4, (Kt.isb q0 BCr.out (fun q => by rcases I.ow _ _ _ _ q with e | e <;> exact absurd e (by decide))).cell 0, (Kt.isb q0 BCr.out (fun q => by rcases I.ow _ _ _ _ q with e | e <;> exact absurd e (by decide))).cell 1, q0⟩ : (fun w' : World => w'.cell? ⟨bx, 0, none⟩ = some (.int .i64 x.k) ∧ w'.cell? ⟨bx, 1, none⟩ = some (.int .i64 x.t) ∧ w'.cell? ⟨bx, 2, none⟩ = some (.slice x.c.a x.c.n x.c.c) ∧ w'.cell? ⟨bx, 3, none⟩ = some (.slice x.s.a x.s.n x.s.c) ∧ w'.cell? ⟨bx, 4, none⟩ = some (.slice x.u.a x.u.n x.u.c) ∧ w'.cell? ⟨b, 0, none⟩ = some (.func (.func f1) r1 #[]) ∧ w'.cell? ⟨b, 1, none⟩ = some (.func (.func f2) r2 #[]) ∧ Kt own w4 w') w'))
          have H0 := Lib.hid (show Kt own w4 w4.drew from Kt.of_gb (gb_drew w4 none))
          refine wp_region_held_drew (S := (fun w' : World => w'.cell? ⟨bx, 0, none⟩ = some (.int .i64 x.k) ∧ w'.cell? ⟨bx, 1, none⟩ = some (.int .i64 x.t) ∧ w'.cell? ⟨bx, 2, none⟩ = some (.slice x.c.a x.c.n x.c.c) ∧ w'.cell? ⟨bx, 3, none⟩ = some (.slice x.s.a x.s.n x.s.c) ∧ w'.cell? ⟨bx, 4, none⟩ = some (.slice x.u.a x.u.n x.u.c) ∧ w'.cell? ⟨b, 0, none⟩ = some (.func (.func f1) r1 #[]) ∧ w'.cell? ⟨b, 1, none⟩ = some (.func (.func f2) r2 #[]) ∧ Kt own w4 w')) (by kernel_rfl) (KS.out _ H0.out) (fun hH0 => ?_)
          refine wpAnyH_take (i := 0) (v := ?v22007) rfl (by kernel_rfl) (by kernel_rfl) (by kernel_rfl) (fun _ _ _ h => h) (Or.inl ⟨by rfl, ?hy22007⟩) (by assumption) ?rest22007
          case hy22007 => (intro wz hSw; (try dsimp only at hSw); first | (go_simp; done) | (go_simp; with_reducible rfl))
          try simp only [Act.put, List.getElem_toArray, List.getElem_cons_zero, List.setIfInBounds_toArray, List.set_cons_zero, List.set_cons_succ]
          refine wpAnyH_take (i := 2) (v := ?v22008) rfl (by kernel_rfl) (by kernel_rfl) (by kernel_rfl) (fun _ _ _ h => h) (Or.inl ⟨by rfl, ?hy22008⟩) (by assumption) ?rest22008
          case hy22008 => (intro wz hSw; (try dsimp only at hSw); first | (go_simp; done) | (go_simp; with_reducible rfl))
          try simp only [Act.put, List.getElem_toArray, List.getElem_cons_succ, List.getElem_cons_zero, List.setIfInBounds_toArray, List.set_cons_zero, List.set_cons_succ]
          refine wpAnyH_ready (rs := [1]) (by kernel_rfl) (by simp) ?_
          refine AllReadyH.cons (o := _) rfl (fun K hK => ?_) AllReadyH.nil
          go_simp
          (with_reducible refine (NO.out _).mono ?_)
          rintro e hw1 ⟨rfl, g⟩
          have K4 := Lib.hid (gb_trans G4.out (gb_trans (gb_drew w4 none) g))
          replace g : Kt own _ hw1 := Kt.of_gb g
          have H1 := Lib.hid (H0.out.trans g)
          clear g
          try dsimp only
          refine hK.out _ _ (KS.out _ H1.out) (fun hH1 => ?_)
          clear hK K hH0
          try simp only [Act.put, List.getElem_toArray, List.getElem_cons_succ, List.getElem_cons_zero, List.setIfInBounds_toArray, List.set_cons_zero, List.set_cons_succ]
          refine wpAnyH_ready (rs := [3]) (by kernel_rfl) (by simp) ?_
          refine AllReadyH.cons (o := _) rfl (fun K hK => ?_) AllReadyH.nil
          go_simp
          (with_reducible refine (EX.out _ K4.out).mono ?_)
          rintro e hw2 ⟨⟨v, rfl⟩, i, g⟩
          have I2 := Lib.hid i
          clear i
          have H2 := Lib.hid (H1.out.trans g)
          clear g
          try dsimp only
          refine hK.out _ _ (KS.out _ H2.out) (fun hH2 => ?_)
          clear hK K hH1
          try simp only [Act.put, List.getElem_toArray, List.getElem_cons_succ, List.getElem_cons_zero, List.setIfInBounds_toArray, List.set_cons_zero, List.set_cons_succ]
          refine wpAnyH_done (by kernel_rfl) ?_ _
          clear hH2
          go_wp2
          go_roundw
          case rel => exact ⟨j + 1, NX, by go_num, by omega, kc_kt KC.out (KA4.out.trans H2.out) HOWN.out, I2.out, KT.out.trans (KA4.out.trans H2.out), RN.out, SZN.out, CDN.out⟩
          case measure => simp [intOf]; omega

      · have hje : j = sn := by omega
        have i1 : ¬ (j : Int) < sn := by omega
        have FI := Lib.hid (show st1 = runT C T st by
          have h := HR.out
          rw [CT.drop_all T j (by rw [SL.out]; omega)] at h
          exact h)
        have II := Lib.hid (show Inv (runT C T st) wr by rw [← FI.out]; exact JI.out)
        clear HR
        go_wp2
        refine bodyPost_end (results_none rfl _ _ _) rfl ⟨⟨_, rfl⟩, II.out, (Kt.of_gb GA.out).trans KT.out⟩
end Go.Proofs.Ytfjeonoihdgdoaa
end
section
/- Control: the laws' walk as callbacks; its own execution of a control flow; no condition but that the tree lies in memory and is not large. -/
namespace Go.Proofs.Ytfjeonoihdgdoaa
open Go.RowKit
set_option linter.unusedVariables false
def CW (L : List Bool) : CBS WS where
  ap := fun t st => (ansB L st.nx, ⟨st.nx + 1, st.tb ++ [t], st.cd ++ [-1]⟩)
  ts := fun n st => (ansB L st.nx, ⟨st.nx + 1, st.tb, st.cd ++ [(n : Int)]⟩)
  sz := fun st => max st.nx (max st.tb.length st.cd.length)
theorem CW_sz1 (L : List Bool) (t : Int) (st : WS) : (CW L).sz ((CW L).ap t st).2 ≤ (CW L).sz st + 1 := by
  show max (st.nx + 1) (max (st.tb ++ [t]).length (st.cd ++ [-1]).length) ≤ max st.nx (max st.tb.length st.cd.length) + 1
  rw [List.length_append, List.length_append, List.length_singleton, List.length_singleton]; omega
theorem CW_sz2 (L : List Bool) (n : Nat) (st : WS) : (CW L).sz ((CW L).ts n st).2 ≤ (CW L).sz st + 1 := by
  show max (st.nx + 1) (max st.tb.length (st.cd ++ [(n : Int)]).length) ≤ max st.nx (max st.tb.length st.cd.length) + 1
  rw [List.length_append, List.length_singleton]; omega
theorem CW_le {L : List Bool} {st : WS} {k : Nat} (h : (CW L).sz st ≤ k) : st.nx ≤ k ∧ st.tb.length ≤ k ∧ st.cd.length ≤ k := by
  have e : (CW L).sz st = max st.nx (max st.tb.length st.cd.length) := rfl
  omega
set_option maxRecDepth 100000 in
theorem cw_cbi (w0 : World) (b z : Nat) (s : Sl) (L : List Bool) (hL : SB w0 s.a s.n s.c L) (h0 : w0.heap.size ≤ b) (hz : b < z) (hs : s.n ≤ 1000000) :
    CBI (CW L) (OwW b z) (fun q w => WI w0 w b z s L q) 18 19 #[.pointer (some ⟨b, 0, none⟩)] #[.pointer (some ⟨b, 0, none⟩)] where
  e1 := fun args w => by kernel_rfl
  e2 := fun args w => by kernel_rfl
  ow := fun k cs t m q => by rcases q with q | q; (· exact .inr q.2); exact .inl q.2
  keep := fun st w w2 h g => h.keep0 g
  ap := fun st w t h q => by
    obtain ⟨q1, q2, q3⟩ := CW_le q
    exact apply_any w0 w b z s L st hL h0 hz h (by omega) hs (by omega) (by omega) t
  ts := fun st w a n c h q hn => by
    obtain ⟨q1, q2, q3⟩ := CW_le q
    exact test_any w0 w b z s L st hL h0 hz h (by omega) hs (by omega) a n c (by omega)
  sz1 := CW_sz1 L
  sz2 := CW_sz2 L
theorem oww_low {w0 : World} {b z : Nat} (h0 : w0.heap.size ≤ b) (hz : b < z) : ∀ k cs t m, k < w0.heap.size → ¬ OwW b z k (.cells cs t m) := fun k cs t m hk q => by rcases q with q | q <;> omega
set_option maxRecDepth 100000 in
set_option maxHeartbeats 8000000 in
theorem walk_any {σ : Type} {C : CBS σ} {own : Nat → Obj → Prop} {Inv : σ → World → Prop} {f1 f2 : Nat} {r1 r2 : Array Value} (I : CBI C own Inv f1 f2 r1 r2) (w0 : World) (hown : ∀ k cs t m, k < w0.heap.size → ¬ own k (.cells cs t m)) (T : CT) (s : Sl) (w : World) (st : σ)
    (hc : T.cnt ≤ 1000) (hS : ST w0 s T) (hcd : Cnd T) (hk : Kc w0 w) (h : Inv st w) (hz : C.sz st + T.cnt ≤ 10000) :
    Calls Try.prog 17 #[.slice s.a s.n s.c, .func (.func f1) r1 #[], .func (.func f2) r2 #[]] w (RetR own Inv (runT C T st) w) := by
  have RR := Lib.hid (run_rec I w0 hown (T.cnt + 1) T s w st (by omega) hc hS hcd hk h hz)
  unfold RetR at RR
  have q1 : ∀ w, Sem.run Try.prog (binOp BinOp.eql 58 (Value.func (Fn.func f1) r1 #[]) Value.nilFunc) w = .ok (.bool false) w := fun w => by rfl
  have q2 : ∀ w, Sem.run Try.prog (binOp BinOp.eql 59 (Value.func (Fn.func f2) r2 #[]) Value.nilFunc) w = .ok (.bool false) w := fun w => by rfl
  clear hS hk h hown
  go_enter Try.func17, Try.ntmps17
  go_wp2_with (go_at_call 47; refine RR.out.mono ?_; clear RR; rintro e w5 ⟨⟨v, rfl⟩, i, k⟩; have I5 := Lib.hid i; have K5 := Lib.hid k; clear i k)
  refine bodyPost_end (results_none rfl _ _ _) rfl ⟨⟨_, rfl⟩, I5.out, K5.out⟩
end Go.Proofs.Ytfjeonoihdgdoaa
end
section
/- Control: the laws' own execution of a control flow; no condition but that the tree lies in memory and is not large. -/
namespace Go.Proofs.Ytfjeonoihdgdoaa
open Go.RowKit
set_option linter.unusedVariables false
end Go.Proofs.Ytfjeonoihdgdoaa
end
section
/- The law Walks: Walk calls what the definition's execution calls; no condition. -/
namespace Go.Proofs.Ytfjeonoihdgdoaa
open Go.RowKit
set_option linter.unusedVariables false
theorem wi_new {w0 w : World} {b z : Nat} {a : Sl} {A : List Bool} (h : IsB w b 56 #[.slice a.a a.n a.c, .int .i64 0, .slice none 0 0, .slice none 0 0]) (kc : Kc w0 w) (hz : z ≤ w.heap.size) : WI w0 w b z a A ⟨0, [], []⟩ :=
  ⟨⟨.slice none 0 0, .slice none 0 0, h, NL.nil _ _, NL.nil _ _, fun g e => by cases e⟩, kc, hz⟩
theorem nl_kt {w w2 : World} {b z : Nat} {V : Value} {L : List Int} (h : NL w z V L) (k : Kt (OwW b w.heap.size) w w2) : NL w2 z V L := by
  refine ⟨h.1, ?_⟩
  rcases h.2 with hn | ⟨g, cap, cur, e, hb, hg, rest⟩
  · exact .inl hn
  · refine .inr ⟨g, cap, cur, e, hb, k.same g _ hg (fun q => ?_), rest⟩
    have lt := (Array.getElem?_eq_some_iff.1 hg).1
    rcases q with ⟨_, q⟩ | ⟨q, _⟩
    · exact absurd q (by decide)
    · omega
end Go.Proofs.Ytfjeonoihdgdoaa
end
