/- The texts Mi, CnN, CnO, CnP, Mt, OrI, CnQ in one; no condition. -/
import Derived.Test.YtfjeonoihdgdoaaMem
import Derived.Maps.OwnSet
import Derived.DeepKeys4
import Derived.Test.YtfjeonoihdgdoaaCnM
import Derived.Test.YtfjeonoihdgdoaaCnA
import Derived.Test.YtfjeonoihdgdoaaExJ
import Derived.Test.YtfjeonoihdgdoaaCnE
import Derived.Test.YtfjeonoihdgdoaaRxA
import Derived.OrdersIn
import Derived.OwnWalkIn
import Derived.Deep.RegionHeld
import Derived.Test.YtfjeonoihdgdoaaCnH
import Derived.Test.YtfjeonoihdgdoaaCnF
section
/- A map whose keys are numbers, each with true: the set of its keys; no condition. -/
namespace Go.Proofs.Ytfjeonoihdgdoaa
open Go.RowKit
set_option linter.unusedVariables false
theorem intLaw : Maps.Keyed Try.prog 3 := Maps.int_keyed Try.underlying3
def Rng (x : Int) : Prop := -9223372036854775808 ≤ x ∧ x ≤ 9223372036854775807
theorem int_key (x : Int) (h : Rng x) : keyOf Try.prog 3 (.int .i64 x) = some (.int .i64 x) := by
  have w : (Lit.int .i64 x).wf = true := by unfold Rng at h; simp [Lit.wf, IntKind.min, IntKind.max, IntKind.bits, IntKind.signed]; omega
  simp [keyOf, Try.underlying3, mapKey, w]
/-- Block b is a map that holds the numbers S, each with true. -/
def MI (w : World) (b : Nat) (S : List Int) : Prop := ∃ (D : DataW Unit) (n : Nat), w.ownsMap Try.prog 3 (plainElem Try.prog 4) b n D ∧ n ≤ S.length ∧
  ∀ p, Rng p → D.atKey (.int .i64 p) (.lit (.bool false)) = .lit (.bool (decide (p ∈ S)))
theorem MI.keep {w w2 : World} {row : Option Nat} {b : Nat} {S : List Int} (h : MI w b S) (k : w.grownBy w2 row) (hn : some b ≠ row) : MI w2 b S := by
  obtain ⟨D, n, h1, h2⟩ := h
  exact ⟨D, n, h1.kept k hn, h2⟩
theorem MI.keep0 {w w2 : World} {b : Nat} {S : List Int} (h : MI w b S) (k : w.grownBy w2 none) : MI w2 b S := h.keep k (by simp)
theorem MI.new (w : World) : MI (w.alloc (.map #[] 0)) w.heap.size [] :=
  ⟨.map [], 0, World.ownsMap_made w _ _ _, Nat.le_refl _, fun p _ => by simp [DataW.atKey]⟩
theorem MI.look {w : World} {b : Nat} {S : List Int} (h : MI w b S) (x : Int) (hx : Rng x) : (Instr.lookup 140 (.map (some b)) (.int .i64 x) false).run Try.prog w = .ok (.bool (decide (x ∈ S))) w := by
  obtain ⟨D, n, o, _, hD⟩ := h
  have hk := int_key x hx
  obtain ⟨y, ps, hr, hy⟩ := o.lookup intLaw Try.underlying140 (z := .bool false) (by kernel_rfl) (plainElem_bool Try.underlying4 false) hk
  rw [hD x hx] at hy
  have : y = .bool (decide (x ∈ S)) := by
    unfold plainElem at hy
    cases y <;> simp [Try.underlying4] at hy
    rw [hy.1]
  subst this
  exact hr
theorem MI.put {w : World} {b : Nat} {S : List Int} (h : MI w b S) (x : Int) (hx : Rng x) (hn : S.length < 100000) : ∃ w', (Instr.mapUpdate 140 (.map (some b)) (.int .i64 x) (.bool true)).run Try.prog w = .ok () w' ∧ MI w' b (S ++ [x]) ∧ w.grownBy w' (some b) := by
  obtain ⟨D, n, o, ho, hD⟩ := h
  have hk := int_key x hx
  obtain ⟨w', hr, o', g⟩ := o.update intLaw Try.underlying140 (by unfold maxLen; omega) hk (plainElem_bool Try.underlying4 true)
  refine ⟨w', hr, ⟨_, n + 1, o', by rw [List.length_append]; simp; omega, fun p hp => ?_⟩, g⟩
  by_cases e : p = x
  · subst e
    rw [Maps.atKey_put_same o.isMap (intLaw.key hk)]
    simp
  · rw [Maps.atKey_put_other (fun q => e (by injection q)), hD p hp]
    simp [e]
end Go.Proofs.Ytfjeonoihdgdoaa
end
section
/- Control: the program's Node; no condition but that the tree lies in memory, is not large and its conditions are short. -/
namespace Go.Proofs.Ytfjeonoihdgdoaa
open Go.RowKit Go.Shelf
set_option linter.unusedVariables false
attribute [local go_sem] Oper.semAt_some

theorem cnode_any (w : World) (x : CV) (h1 : x.th.cnt ≤ 1000000) (h2 : x.el.cnt ≤ 1000000) (c1 : Cnd x.th) (c2 : Cnd x.el) (hc : x.N.length ≤ 1000) (hx : VM w x) :
    Calls Try.prog 50 #[.agg #[.int .i64 x.k, .int .i64 x.t, .slice x.c.a x.c.n x.c.c, .slice x.s.a x.s.n x.s.c, .slice x.u.a x.u.n x.u.c]] w (RetCV x w) :=
  cnode_of (x.th.cnt + x.el.cnt + 1) (clone_rec _) w x ⟨by omega, h1, c1⟩ ⟨by omega, h2, c2⟩ hc hx
theorem kc_tz {A C : World} {B : Nat} (k : Kt (KI TZ B) A C) : Kc A C := kc_kt (Kc.refl A) k (fun _ _ _ _ _ h => kiz h)
/-- A node of a flow: its branches are not larger, its conditions as short. -/
theorem pre_mem : ∀ (T : CT) (x : CV), x ∈ T.pre → x.th.cnt < T.cnt ∧ x.el.cnt < T.cnt ∧ (∀ y ∈ x.th.pre, y ∈ T.pre) ∧ (∀ y ∈ x.el.pre, y ∈ T.pre)
  | .nil, x, h => by cases h
  | .cons k t c N s th u el r, x, h => by
    have e : (CT.cons k t c N s th u el r).cnt = 1 + th.cnt + el.cnt + r.cnt := CV.cnt_ct ⟨k, t, c, N, s, th, u, el⟩ r
    have p : (CT.cons k t c N s th u el r).pre = ⟨k, t, c, N, s, th, u, el⟩ :: (th.pre ++ (el.pre ++ r.pre)) := rfl
    rw [p] at h ⊢
    rcases List.mem_cons.1 h with rfl | h
    · exact ⟨by dsimp only; omega, by dsimp only; omega, fun y hy => List.mem_cons_of_mem _ (List.mem_append_left _ hy), fun y hy => List.mem_cons_of_mem _ (List.mem_append_right _ (List.mem_append_left _ hy))⟩
    rcases List.mem_append.1 h with h | h
    · obtain ⟨a, b, c1, d⟩ := pre_mem th x h
      exact ⟨by omega, by omega, fun y hy => List.mem_cons_of_mem _ (List.mem_append_left _ (c1 y hy)), fun y hy => List.mem_cons_of_mem _ (List.mem_append_left _ (d y hy))⟩
    rcases List.mem_append.1 h with h | h
    · obtain ⟨a, b, c1, d⟩ := pre_mem el x h
      exact ⟨by omega, by omega, fun y hy => List.mem_cons_of_mem _ (List.mem_append_right _ (List.mem_append_left _ (c1 y hy))), fun y hy => List.mem_cons_of_mem _ (List.mem_append_right _ (List.mem_append_left _ (d y hy)))⟩
    · obtain ⟨a, b, c1, d⟩ := pre_mem r x h
      exact ⟨by omega, by omega, fun y hy => List.mem_cons_of_mem _ (List.mem_append_right _ (List.mem_append_right _ (c1 y hy))), fun y hy => List.mem_cons_of_mem _ (List.mem_append_right _ (List.mem_append_right _ (d y hy)))⟩
theorem vm_mem {w : World} : ∀ (T : CT) (ad : Addr) (i : Nat), CTm w T ad i → ∀ x ∈ T.pre, VM w x := by
  intro T
  induction T with
  | nil => intro ad i h x hx; cases hx
  | cons k t c N s th u el r i1 i2 i3 =>
    intro ad i h x hx
    have q := ctm_ct (x := ⟨k, t, c, N, s, th, u, el⟩) (r := r) h
    rcases List.mem_cons.1 hx with rfl | hx
    · exact q.2.1
    rcases List.mem_append.1 hx with hx | hx
    · cases ha : s.a with
      | none =>
        have e := CT.len_nil (q.2.1.s.len.trans (q.2.1.s.nil ha).1)
        dsimp only at e
        rw [e] at hx; cases hx
      | some a2 => exact i1 a2 0 (q.2.1.s.cells a2 ha) x hx
    rcases List.mem_append.1 hx with hx | hx
    · cases ha : u.a with
      | none =>
        have e := CT.len_nil (q.2.1.u.len.trans (q.2.1.u.nil ha).1)
        dsimp only at e
        rw [e] at hx; cases hx
      | some a2 => exact i2 a2 0 (q.2.1.u.cells a2 ha) x hx
    · exact i3 ad (i + 1) q.2.2 x hx
theorem ST.vm {w : World} {s : Sl} {T : CT} (h : ST w s T) : ∀ x ∈ T.pre, VM w x := by
  intro x hx
  cases ha : s.a with
  | none =>
    have e := CT.len_nil (h.len.trans (h.nil ha).1)
    rw [e] at hx; cases hx
  | some ad => exact vm_mem T ad 0 (h.cells ad ha) x hx
/-- A copy of the node at the place, in memory of its own; or the zero node and false. -/
def RetKN (r : Option CV) (w : World) (e : Ending) (w' : World) : Prop := ∃ y : CV, e = .returned (.tuple #[.agg y.cs, .bool r.isSome]) ∧ EqN (r.getD cz) y ∧ VM w' y ∧ w.grownBy w' none
theorem cz_vm (w : World) : VM w cz := ⟨⟨rfl, fun _ => ⟨rfl, rfl⟩, Nat.le_refl _, (fun ad e => by cases e), (fun x hx => by cases hx)⟩, ST.nilv w, ST.nilv w⟩
theorem results_cells2 {fn : Func} {p q : Tmp} {ty ty2 : TypeId} (h : fn.results = #[.cell p ty, .cell q ty2]) (tmps : Array Value) (P : Program) (w : World) :
    (results fn tmps).run P w = ((asAddr (tmps.getD p undef)).run P w).andThen fun a w₁ => ((loadVar ty a).run P w₁).andThen fun v w₂ => ((asAddr (tmps.getD q undef)).run P w₂).andThen fun a2 w₃ => ((loadVar ty2 a2).run P w₃).andThen fun v2 w₄ => .ok (.tuple #[v, v2]) w₄ := by
  simp only [results, h]
  simp [Sem.run_bind, Result.andThen]
set_option maxRecDepth 100000 in
set_option maxHeartbeats 16000000 in
theorem knode_any (w : World) (s : Sl) (T : CT) (hS : ST w s T) (hc : T.cnt ≤ 1000000) (hcd : Cnd T) (at_ : Int) : Calls Try.prog 22 #[.slice s.a s.n s.c, .int .i64 at_] w (RetKN (nodA T.pre at_) w) := by
  have HS := Lib.hid hS
  have HC := Lib.hid hc
  have HCD := Lib.hid hcd
  clear hS hc hcd
  refine (callsIn_wide (n := 5)).1 ?_
  refine callsIn_of_wp_marks Try.func22 rfl trivial ?_ rfl
  simp only [Try.ntmps22, List.size_toArray, List.length_cons, List.length_nil, Nat.reduceAdd, Nat.reduceSub, Array.replicate_succ, Array.replicate_zero, List.push_toArray, List.append_toArray, List.nil_append, List.cons_append]
  gi_wp2_with ((first | refine ⟨trivial, wd _, ?_⟩ | refine ⟨trivial, ?_⟩); gi_at_call 49; refine (callsIn_wide.2 (preo_any _ _ _ _)).mono ?_; rintro e w4 ⟨rfl, rfl⟩)
  obtain ⟨w1, hw1⟩ : ∃ w1, w1 = w.alloc (.cells #[.int .i64 at_] 3) := ⟨_, rfl⟩
  obtain ⟨w2, hw2⟩ : ∃ w2, w2 = w1.alloc (.cells #[.int .i64 0, .int .i64 0, .slice none 0 0, .slice none 0 0, .slice none 0 0] 63) := ⟨_, rfl⟩
  obtain ⟨w3, hw3⟩ : ∃ w3, w3 = w2.alloc (.cells #[.bool false] 4) := ⟨_, rfl⟩
  obtain ⟨w4, hw4⟩ : ∃ w4, w4 = w3.alloc (.cells #[.int .i64 0] 3) := ⟨_, rfl⟩
  obtain ⟨w5, hw5⟩ : ∃ w5, w5 = w4.alloc (.cells #[.slice s.a s.n s.c] 28) := ⟨_, rfl⟩
  have S1 : w1.heap.size = w.heap.size + 1 := by rw [hw1, sz_al]
  have S2 : w2.heap.size = w.heap.size + 1 + 1 := by rw [hw2, sz_al, S1]
  have S3 : w3.heap.size = w.heap.size + 1 + 1 + 1 := by rw [hw3, sz_al, S2]
  have S4 : w4.heap.size = w.heap.size + 1 + 1 + 1 + 1 := by rw [hw4, sz_al, S3]
  have S5 : w5.heap.size = w.heap.size + 1 + 1 + 1 + 1 + 1 := by rw [hw5, sz_al, S4]
  have A1 := IsB.new w 3 #[.int .i64 at_]
  have A2 := IsB.new w1 63 #[.int .i64 0, .int .i64 0, .slice none 0 0, .slice none 0 0, .slice none 0 0]
  have A3 := IsB.new w2 4 #[.bool false]
  have A4 := IsB.new w3 3 #[.int .i64 0]
  have A5 := IsB.new w4 28 #[.slice s.a s.n s.c]
  rw [S1] at A2
  rw [S2] at A3
  rw [S3] at A4
  rw [S4] at A5
  have G1 := gb_alloc w (.cells #[.int .i64 at_] 3) none
  have G2 := gb_alloc w1 (.cells #[.int .i64 0, .int .i64 0, .slice none 0 0, .slice none 0 0, .slice none 0 0] 63) none
  have G3 := gb_alloc w2 (.cells #[.bool false] 4) none
  have G4 := gb_alloc w3 (.cells #[.int .i64 0] 3) none
  have G5 := gb_alloc w4 (.cells #[.slice s.a s.n s.c] 28) none
  rw [← hw1] at A1 G1 ⊢
  rw [← hw2] at A2 G2 ⊢
  rw [← hw3] at A3 G3 ⊢
  rw [← hw4] at A4 G4 ⊢
  rw [← hw5] at A5 G5 ⊢
  have L1 := Lib.hid (A1.keep0 (gb_trans (gb_trans G2 G3) (gb_trans G4 G5)))
  have L2 := Lib.hid (A2.keep0 (gb_trans G3 (gb_trans G4 G5)))
  have L3 := Lib.hid (A3.keep0 (gb_trans G4 G5))
  have L4 := Lib.hid (A4.keep0 G5)
  have L5 := Lib.hid A5
  have GG := Lib.hid (gb_trans (gb_trans G1 G2) (gb_trans G3 (gb_trans G4 G5)))
  have SS := Lib.hid S5
  clear hw1 hw2 hw3 hw4 hw5 S1 S2 S3 S4 S5 A1 A2 A3 A4 A5 G1 G2 G3 G4 G5
  obtain ⟨z, hz⟩ : ∃ z, z = w.heap.size := ⟨_, rfl⟩
  have HZ := Lib.hid hz
  rw [← hz] at L1 L2 L3 L4 L5 SS ⊢
  clear hz
  refine wpIn_rangeX rfl (by omega) (gf := 75) (lb := #[.pointer (some ⟨z + 1 + 1 + 1 + 1, 0, none⟩)]) rfl trivial (enters_of Try.func75 (by kernel_rfl) rfl) (encs := enC) (TC := TOB z (z + 1 + 1 + 1 + 1)) (TI := TZ) (xs := T.pre)
    (fun W2 gW hsz => preo_seq w W2 _ (TOB z (z + 1 + 1 + 1 + 1)) (fun k t h e => by have e := e.1; have := HZ.out; omega) (fun k h e => by have e := e.2; have := SS.out; omega) s T HC.out HS.out (Kc.of_gb (gb_trans GG.out gW)) (z + 1 + 1 + 1 + 1) (L5.out.keep0 gW)) (fun _ => rfl)
    (fun pre w6 => IsB w6 z 3 #[.int .i64 at_] ∧ (∃ u0 u1 u2 u3 u4, IsB w6 (z + 1) 63 #[u0, u1, u2, u3, u4]) ∧ (∃ b, IsB w6 (z + 1 + 1) 4 #[.bool b]) ∧ IsB w6 (z + 1 + 1 + 1) 3 #[.int .i64 (pre.length : Int)] ∧ w.grownBy w6 none ∧ ¬ (0 ≤ at_ ∧ at_ < (pre.length : Int)))
    (fun c pre w6 => c = .ret ∧ ∃ x y : CV, nodA T.pre at_ = some x ∧ EqN x y ∧ VM w6 y ∧ IsB w6 (z + 1) 63 y.cs ∧ IsB w6 (z + 1 + 1) 4 #[.bool true] ∧ w.grownBy w6 none)
    (fun t A C h k => by
      obtain ⟨h1, ⟨u0, u1, u2, u3, u4, h2⟩, ⟨b, h4⟩, h5, h6, h7⟩ := h
      exact ⟨k.isb h1 kiz, ⟨_, _, _, _, _, k.isb h2 kiz⟩, ⟨b, k.isb h4 kiz⟩, k.isb h5 kiz, k.from_ h6 (fun i o hi => kiz_low (by have := SS.out; have := HZ.out; omega) hi), h7⟩)
    (fun c t A C h k => by
      obtain ⟨e, x, y, h1, h2, h3, h4, h5, h6⟩ := h
      exact ⟨e, x, y, h1, h2, h3.keepc (kc_tz k), k.isb h4 kiz, k.isb h5 kiz, k.from_ h6 (fun i o hi => kiz_low (by have := SS.out; have := HZ.out; omega) hi)⟩)
    ⟨L1.out, ⟨_, _, _, _, _, L2.out⟩, ⟨_, L3.out⟩, L4.out, GG.out, by simp⟩ ?round ?done ?stop
  case round =>
    rintro l2 pre x W5 hp ⟨v1, ⟨u0, u1, u2, u3, u4, v2⟩, ⟨b, v3⟩, v4, g5, hna⟩
    have PC := Lib.hid (show pre.length + 1 ≤ T.cnt by have h := hp.length_le; unfold CT.cnt; simp at h; omega)
    have XM := Lib.hid (show x ∈ T.pre from hp.subset (by simp))
    have XA := Lib.hid (show T.pre.getD pre.length cz = x by obtain ⟨t, ht⟩ := hp; rw [← ht]; simp)
    obtain ⟨p1, p2, p3, p4⟩ := pre_mem T x XM.out
    have CN := Lib.hid (fun (w2 : World) (hx : VM w2 x) => cnode_any w2 x (by have := HC.out; omega) (by have := HC.out; omega) (fun y hy => HCD.out y (p3 y hy)) (fun y hy => HCD.out y (p4 y hy)) (HCD.out x XM.out) hx)
    have VX := Lib.hid (HS.out.vm x XM.out)
    unfold RetCV at CN
    clear p1 p2 p3 p4
    dsimp only [enC]
    gi_wp2
    refine ⟨gb_alloc _ _ none, fun W6 k6 kk6 => ?_⟩
    have X6 := Lib.hid (show IsB W6 W5.heap.size 63 #[.int .i64 x.k, .int .i64 x.t, .slice x.c.a x.c.n x.c.c, .slice x.s.a x.s.n x.s.c, .slice x.u.a x.u.n x.u.c] from k6.isb (IsB.new _ _ _) id)
    have V1 := Lib.hid (kk6.isb v1 kiz)
    have V2 := Lib.hid (kk6.isb v2 kiz)
    have V3 := Lib.hid (kk6.isb v3 kiz)
    have V4 := Lib.hid (kk6.isb v4 kiz)
    have G6 := Lib.hid (kk6.from_ g5 (fun i o hi => kiz_low (by have := SS.out; have := HZ.out; omega) hi))
    have HNA := Lib.hid hna
    have x0 := X6.out.cell 0
    have x1 := X6.out.cell 1
    have x2 := X6.out.cell 2
    have x3 := X6.out.cell 3
    have x4 := X6.out.cell 4
    dsimp at x0 x1 x2 x3 x4
    have c1 : W6.cell? ⟨z, 0, none⟩ = some (.int .i64 at_) := V1.out.cell 0
    have c4 : W6.cell? ⟨z + 1 + 1 + 1, 0, none⟩ = some (.int .i64 (pre.length : Int)) := V4.out.cell 0
    have f4 := V4.out.free 0
    have hwj : wrap64 ((pre.length : Int) + 1) = (pre.length : Int) + 1 := by have := PC.out; have := HC.out; rw [IntWalk.wrap64_in _ (by omega)]
    clear v1 v2 v3 v4 g5 k6 kk6 hp hna
    by_cases he : at_ = (pre.length : Int)
    · subst he
      gi_wp2_with ((first | refine ⟨trivial, wd _, ?_⟩ | refine ⟨trivial, ?_⟩); gi_at_call 50; refine (callsIn_wide.2 (CN.out _ (VX.out.keep0 G6.out))).mono ?_; rintro e w7 ⟨y, rfl, eq7, rob7, g7⟩; have EQ7 := Lib.hid eq7; have RO7 := Lib.hid rob7; have G7 := Lib.hid g7; have U2 := Lib.hid (V2.out.keep0 g7); have U3 := Lib.hid (V3.out.keep0 g7); have q0 := U2.out.free 0; have q1 := U2.out.free 1; have q2 := U2.out.free 2; have q3 := U2.out.free 3; have q4 := U2.out.free 4; have q5 := U3.out.free 0; have k0 := U2.out.cell 0; have k1 := U2.out.cell 1; have k2 := U2.out.cell 2; have k3 := U2.out.cell 3; have k4 := U2.out.cell 4; have k5 := U3.out.cell 0; dsimp at k0 k1 k2 k3 k4 k5; clear eq7 rob7 g7 x0 x1 x2 x3 x4 c1 c4 f4)
      have YS := Lib.hid (show nodA T.pre (pre.length : Int) = some x by
        unfold nodA
        rw [if_pos ⟨by omega, by have := PC.out; show (pre.length : Int) < (T.cnt : Int); omega⟩, Int.toNat_natCast, XA.out])
      have s0 := U2.out.set 0 (.int .i64 y.k)
      have s1 := s0.set 1 (.int .i64 y.t)
      have s2 := s1.set 2 (.slice y.c.a y.c.n y.c.c)
      have s3 := s2.set 3 (.slice y.s.a y.s.n y.s.c)
      have s4 := s3.set 4 (.slice y.u.a y.u.n y.u.c)
      have t0 := (((((U3.out.set_far (g2 := z + 1) (by omega) 0 (.int .i64 y.k)).set_far (g2 := z + 1) (by omega) 1 (.int .i64 y.t)).set_far (g2 := z + 1) (by omega) 2 (.slice y.c.a y.c.n y.c.c)).set_far (g2 := z + 1) (by omega) 3 (.slice y.s.a y.s.n y.s.c)).set_far (g2 := z + 1) (by omega) 4 (.slice y.u.a y.u.n y.u.c))
      have hz1 : w.heap.size ≤ z + 1 := by rw [HZ.out]; omega
      have hz2 : w.heap.size ≤ z + 1 + 1 := by rw [HZ.out]; omega
      have far : ∀ k, z + 1 + 1 + 1 ≤ k → ((((((w7.setCell ⟨z + 1, 0, none⟩ (.int .i64 y.k)).setCell ⟨z + 1, 1, none⟩ (.int .i64 y.t)).setCell ⟨z + 1, 2, none⟩ (.slice y.c.a y.c.n y.c.c)).setCell ⟨z + 1, 3, none⟩ (.slice y.s.a y.s.n y.s.c)).setCell ⟨z + 1, 4, none⟩ (.slice y.u.a y.u.n y.u.c)).setCell ⟨z + 1 + 1, 0, none⟩ (.bool true)).heap[k]? = w7.heap[k]? := by
        intro k hk
        iterate 6 rw [Below.heap_setCell _ _ _ _ (by dsimp only; omega)]
      have szl : z + 1 + 1 + 1 + 1 ≤ W6.heap.size := (Array.getElem?_eq_some_iff.1 V4.out).1
      have kb : ∀ (A : World) (c : Nat) (v : Value) (q : Nat), z ≤ q → q < z + 1 + 1 + 1 + 1 → (∃ cs t, IsB A q t cs) → Kt (KB (TOB z (z + 1 + 1 + 1 + 1)) w5.heap.size) A (A.setCell ⟨q, c, none⟩ v) := by
        rintro A c v q h1 h2 ⟨cs, t, hb⟩
        exact Kt.of_row (gb_set _ _ _ _) (fun o h => by rw [show A.heap[q]? = _ from hb] at h; cases h; exact ⟨h1, h2⟩)
      refine ⟨(Kt.of_gb G7.out).trans ((kb _ 0 _ _ (by omega) (by omega) ⟨_, _, U2.out⟩).trans ((kb _ 1 _ _ (by omega) (by omega) ⟨_, _, s0⟩).trans ((kb _ 2 _ _ (by omega) (by omega) ⟨_, _, s1⟩).trans ((kb _ 3 _ _ (by omega) (by omega) ⟨_, _, s2⟩).trans ((kb _ 4 _ _ (by omega) (by omega) ⟨_, _, s3⟩).trans (kb _ 0 _ _ (by omega) (by omega) ⟨_, _, t0⟩)))))), rfl, x, y, YS.out, EQ7.out, RO7.out _ (fun k h1 h2 => far k (by omega)), s4.set_far (by omega) _ _, t0.set 0 (.bool true), ?_⟩
      exact gb_put (gb_put (gb_put (gb_put (gb_put (gb_put (gb_trans G6.out G7.out) hz1) hz1) hz1) hz1) hz1) hz2
    · have e1 : ((pre.length : Int) == at_) = false := by rw [beq_eq_false_iff_ne]; omega
      have e2 : decide ((pre.length : Int) = at_) = false := decide_eq_false (by omega)
      have e3 : ¬ (pre.length : Int) = at_ := by omega
      gi_wp2
      refine ⟨Kt.of_row (gb_set _ _ _ _) (fun o h => by rw [show W6.heap[z + 1 + 1 + 1]? = _ from V4.out] at h; cases h; exact ⟨by omega, by omega⟩), V1.out.set_far (by omega) _ _, ⟨_, _, _, _, _, V2.out.set_far (by omega) _ _⟩, ⟨_, V3.out.set_far (by omega) _ _⟩, ?_, gb_put G6.out (by rw [HZ.out]; omega), by have := HNA.out; simp; omega⟩
      have q := V4.out.set 0 (.int .i64 ((pre.length : Int) + 1))
      rw [show (((pre ++ [x]).length : Nat) : Int) = (pre.length : Int) + 1 by simp]
      exact q
  case done =>
    rintro D w6 hD ⟨v1, ⟨u0, u1, u2, u3, u4, v2⟩, ⟨b, v3⟩, v4, g5, hna⟩ hK
    have NO := Lib.hid (show nodA T.pre at_ = none by unfold nodA; rw [if_neg hna])
    have q0 := v2.free 0
    have q1 := v2.free 1
    have q2 := v2.free 2
    have q3 := v2.free 3
    have q4 := v2.free 4
    have q5 := v3.free 0
    have k0 := v2.cell 0
    have k1 := v2.cell 1
    have k2 := v2.cell 2
    have k3 := v2.cell 3
    have k4 := v2.cell 4
    have k5 := v3.cell 0
    dsimp at k0 k1 k2 k3 k4 k5
    have V2 := Lib.hid v2
    have V3 := Lib.hid v3
    have G5 := Lib.hid g5
    have HK := Lib.hid hK
    have HD := Lib.hid hD
    clear v1 v2 v3 v4 g5 hna hK hD
    gi_wp2
    have far : ∀ k, z + 1 + 1 + 1 ≤ k → ((((((w6.setCell ⟨z + 1, 0, none⟩ (.int .i64 0)).setCell ⟨z + 1, 1, none⟩ (.int .i64 0)).setCell ⟨z + 1, 2, none⟩ (.slice none 0 0)).setCell ⟨z + 1, 3, none⟩ (.slice none 0 0)).setCell ⟨z + 1, 4, none⟩ (.slice none 0 0)).setCell ⟨z + 1 + 1, 0, none⟩ (.bool false)).heap[k]? = w6.heap[k]? := by
      intro k hk
      iterate 6 rw [Below.heap_setCell _ _ _ _ (by dsimp only; omega)]
    have hk' := (far D (by have := HD.out; have := SS.out; omega)).trans HK.out
    refine ⟨by simp, .inl ⟨_, _, rfl, run_takeDeferred hk', ?_⟩⟩
    have k := Kt.put (own := KI TZ w5.heap.size) (.deferred none) (fun o h => by rw [hk'] at h; cases h; exact ⟨HD.out, trivial⟩)
    have s0 := V2.out.set 0 (.int .i64 0)
    have s1 := s0.set 1 (.int .i64 0)
    have s2 := s1.set 2 (.slice none 0 0)
    have s3 := s2.set 3 (.slice none 0 0)
    have s4 := s3.set 4 (.slice none 0 0)
    have t0 := (((((V3.out.set_far (g2 := z + 1) (by omega) 0 (.int .i64 0)).set_far (g2 := z + 1) (by omega) 1 (.int .i64 0)).set_far (g2 := z + 1) (by omega) 2 (.slice none 0 0)).set_far (g2 := z + 1) (by omega) 3 (.slice none 0 0)).set_far (g2 := z + 1) (by omega) 4 (.slice none 0 0)).set 0 (.bool false)
    have r4 := k.isb (s4.set_far (g2 := z + 1 + 1) (by omega) 0 (.bool false)) kiz
    have r5 := k.isb t0 kiz
    have m0 := r4.cell 0
    have m1 := r4.cell 1
    have m2 := r4.cell 2
    have m3 := r4.cell 3
    have m4 := r4.cell 4
    have m5 := r5.cell 0
    (try dsimp at m0 m1 m2 m3 m4 m5)
    have hz1 : w.heap.size ≤ z + 1 := by rw [HZ.out]; omega
    have hz2 : w.heap.size ≤ z + 1 + 1 := by rw [HZ.out]; omega
    refine ⟨.tuple #[.agg cz.cs, .bool false], by rw [results_cells2 rfl]; go_simp; exact ⟨rfl, rfl, ⟨rfl, rfl, rfl⟩, ⟨rfl, rfl, rfl⟩, rfl, rfl, rfl⟩, cz, ?_, ?_, cz_vm _, k.from_ (gb_put (gb_put (gb_put (gb_put (gb_put (gb_put G5.out hz1) hz1) hz1) hz1) hz1) hz2) (fun i o hi => kiz_low (by have := SS.out; have := HZ.out; omega) hi)⟩
    · rw [NO.out] <;> rfl
    · rw [NO.out]; exact EqN.refl _
  case stop =>
    rintro D c pre w6 hD hp ⟨rfl, x, y, h1, h2, h3, h4, h5, h6⟩ hK
    have YS := Lib.hid h1
    have EQ := Lib.hid h2
    have VY := Lib.hid h3
    have V2 := Lib.hid h4
    have V3 := Lib.hid h5
    have G5 := Lib.hid h6
    clear h1 h2 h3 h4 h5 h6
    gi_wp2
    refine ⟨by simp, .inl ⟨_, _, rfl, run_takeDeferred hK, ?_⟩⟩
    have k : Kt (KI TZ w5.heap.size) w6 (w6.putObj D (.deferred none)) := Kt.put _ fun o h => by rw [hK] at h; cases h; exact ⟨hD, trivial⟩
    have r4 := k.isb V2.out kiz
    have r5 := k.isb V3.out kiz
    have m0 := r4.cell 0
    have m1 := r4.cell 1
    have m2 := r4.cell 2
    have m3 := r4.cell 3
    have m4 := r4.cell 4
    have m5 := r5.cell 0
    (try dsimp at m0 m1 m2 m3 m4 m5)
    refine ⟨.tuple #[.agg y.cs, .bool true], by rw [results_cells2 rfl]; go_simp, y, ?_, ?_, VY.out.keepc (kc_tz k), k.from_ G5.out (fun i o hi => kiz_low (by have := SS.out; have := HZ.out; omega) hi)⟩
    · rw [YS.out] <;> rfl
    · rw [YS.out]; exact EQ.out
end Go.Proofs.Ytfjeonoihdgdoaa
end
section
/- Control: what a node's check answers: the table, the methods; no condition but that the tables are not many. -/
namespace Go.Proofs.Ytfjeonoihdgdoaa
open Go.RowKit
set_option linter.unusedVariables false
/-- The table of a node: a number of a table, applied for the first time. -/
def tblE (tn : Nat) (ap : List Int) (t : Int) : Int := if t < 0 ∨ (tn : Int) ≤ t then 8 else if t ∈ ap then 7 else 0
/-- The expressions of a control flow are read without parameters; the packet does not matter. -/
def cxP (H : List (ByteArray × List Fld)) (M : List Fld) : Cx := ⟨H, M, [], [], [], [], []⟩
def cndE (H : List (ByteArray × List Fld)) (M : List Fld) (N : List Nd) : Int := if rE (wholeT (cxP H M) N) = 0 then (if rW (wholeT (cxP H M) N) = 1 then 0 else 10) else rE (wholeT (cxP H M) N)
/-- What the check of a node answers. -/
def nodE (H : List (ByteArray × List Fld)) (M : List Fld) (tn : Nat) (ap : List Int) (x : CV) : Int :=
  if x.k = 1 then (if tblE tn ap x.t = 0 then (if 0 < x.s.n ∨ 0 < x.u.n then 5 else 0) else tblE tn ap x.t)
  else if x.k = 2 then cndE H M x.N else if x.k = 3 then tblE tn ap x.t else 11
def appl' (x : CV) : Bool := x.k == 1 || x.k == 3
/-- The program's cells, and the map of the tables so far. -/
structure CK (w : World) (cb mb : Nat) (X : KX) (ap : List Int) : Prop where
  c : IsB w cb 142 #[.string X.nm, .slice X.ha X.hn X.hc, .slice X.ma X.mn X.mc, .slice X.a0 X.n0 X.c0, .slice X.a1 X.n1 X.c1, .slice X.a2 X.n2 X.c2, .slice X.a3 X.n3 X.c3, .slice X.a4 X.n4 X.c4, .slice X.a5 X.n5 X.c5, .map (some mb)]
  m : MI w mb ap
  ne : cb ≠ mb
theorem CK.keep0 {w w2 : World} {cb mb : Nat} {X : KX} {ap : List Int} (h : CK w cb mb X ap) (k : w.grownBy w2 none) : CK w2 cb mb X ap := ⟨h.c.keep0 k, h.m.keep0 k, h.ne⟩
theorem tblE_bad {tn : Nat} {ap : List Int} {t : Int} (h : t < 0 ∨ (tn : Int) ≤ t) : tblE tn ap t = 8 := by unfold tblE; rw [if_pos h]
theorem tblE_dup {tn : Nat} {ap : List Int} {t : Int} (h : ¬ (t < 0 ∨ (tn : Int) ≤ t)) (m : t ∈ ap) : tblE tn ap t = 7 := by unfold tblE; rw [if_neg h, if_pos m]
theorem tblE_ok {tn : Nat} {ap : List Int} {t : Int} (h : ¬ (t < 0 ∨ (tn : Int) ≤ t)) (m : ¬ t ∈ ap) : tblE tn ap t = 0 := by unfold tblE; rw [if_neg h, if_neg m]
/-- The check of a table: what it answers; the map has the table where it is good. -/
def RetTb (w : World) (cb mb : Nat) (X : KX) (ap : List Int) (E : Int) (t : Int) (e : Ending) (w' : World) : Prop :=
  e = .returned (.int .i64 E) ∧ CK w' cb mb X (if E = 0 then ap ++ [t] else ap) ∧ w.grownBy w' (some mb)
set_option maxRecDepth 100000 in
set_option maxHeartbeats 8000000 in
theorem ctbl_any (w : World) (cb mb : Nat) (X : KX) (ap : List Int) (h : CK w cb mb X ap) (hl : ap.length ≤ 1000) (hT : X.n2 ≤ 1000000) (t : Int) :
    Calls Try.prog 180 #[.pointer (some ⟨cb, 0, none⟩), .int .i64 t] w (RetTb w cb mb X ap (tblE X.n2 ap t) t) := by
  have HC := Lib.hid h
  have c5 := h.c.cell 5
  have c9 := h.c.cell 9
  dsimp at c5 c9
  by_cases h0 : t < 0
  · have TE := Lib.hid (tblE_bad (ap := ap) (tn := X.n2) (t := t) (.inl h0))
    clear h
    go_enter Try.func180, Try.ntmps180
    go_wp2
    go_ret
    rw [TE.out]
    exact ⟨rfl, HC.out, gb_refl _ _⟩
  by_cases h1 : (X.n2 : Int) ≤ t
  · have TE := Lib.hid (tblE_bad (ap := ap) (tn := X.n2) (t := t) (.inr h1))
    clear h
    go_enter Try.func180, Try.ntmps180
    go_wp2
    go_ret
    rw [TE.out]
    exact ⟨rfl, HC.out, gb_refl _ _⟩
  have rt : Rng t := ⟨by omega, by omega⟩
  have hb : ¬ (t < 0 ∨ (X.n2 : Int) ≤ t) := by omega
  by_cases hm : t ∈ ap
  · have TE := Lib.hid (tblE_dup hb hm)
    have lk := h.m.look t rt
    rw [decide_eq_true hm] at lk
    clear h rt hb hm
    go_enter Try.func180, Try.ntmps180
    go_wp2
    go_ret
    rw [TE.out]
    exact ⟨rfl, HC.out, gb_refl _ _⟩
  · have TE := Lib.hid (tblE_ok hb hm)
    have lk := h.m.look t rt
    rw [decide_eq_false hm] at lk
    obtain ⟨w2, hr, hm2, hg2⟩ := h.m.put t rt (by omega)
    have K2 := Lib.hid (show CK w2 cb mb X (ap ++ [t]) from ⟨h.c.keep hg2 (by intro e; injection e with e; exact h.ne e), hm2, h.ne⟩)
    have G2 := Lib.hid hg2
    clear h rt hb hm hm2 hg2
    go_enter Try.func180, Try.ntmps180
    go_wp2
    go_ret
    rw [TE.out]
    exact ⟨rfl, K2.out, G2.out⟩
end Go.Proofs.Ytfjeonoihdgdoaa
end
section
/- Control: the methods that check a node; what a node is; no condition but that the tables are not many. -/
namespace Go.Proofs.Ytfjeonoihdgdoaa
open Go.RowKit
set_option linter.unusedVariables false
/-- What a check of a node leaves. -/
def RetCh (w : World) (cb mb : Nat) (X : KX) (ap : List Int) (E : Int) (x : CV) (e : Ending) (w' : World) : Prop :=
  e = .returned (.int .i64 E) ∧ (E = 0 → CK w' cb mb X (if appl' x = true then ap ++ [x.t] else ap)) ∧ w.grownBy w' (some mb)
/-- The program's declarations that expressions read. -/
structure PR (w : World) (X : KX) (H : List (ByteArray × List Fld)) (M : List Fld) : Prop where
  h : SH w X.ha X.hn X.hc H
  m : SF w X.ma X.mn X.mc M
theorem PR.keep0 {w w2 : World} {X : KX} {H : List (ByteArray × List Fld)} {M : List Fld} (p : PR w X H M) (k : w.grownBy w2 none) : PR w2 X H M := ⟨p.h.keep0 k, p.m.keep0 k⟩
theorem pr_cr {w : World} {X : KX} {H : List (ByteArray × List Fld)} {M : List Fld} (p : PR w X H M) {c : Sl} {N : List Nd} (h : SN w c.a c.n c.c N) :
    CR w { X with na := c.a, nn := c.n, nc := c.c, pa := none, pn := 0, pc := 0, va := none, vn := 0, vc := 0, fa := none, fn := 0, fc := 0, ta := none, tn := 0, tc := 0, la := none, ln := 0, lc := 0, aa := none, an := 0, ac := 0 } (cxP H M) N :=
  ⟨h, p.h, p.m, sf_nil _, ⟨rfl, fun _ => ⟨rfl, rfl⟩, Nat.le_refl _, fun ad e => by cases e⟩, ⟨rfl, fun _ => ⟨rfl, rfl⟩, Nat.le_refl _, fun ad e => by cases e⟩, su_nil _, su_nil _⟩
set_option maxRecDepth 100000 in
set_option maxHeartbeats 8000000 in
theorem cif_any (w : World) (cb mb : Nat) (X : KX) (H : List (ByteArray × List Fld)) (M : List Fld) (ap : List Int) (h : CK w cb mb X ap) (hp : PR w X H M) (x : CV) (hx : SN w x.c.a x.c.n x.c.c x.N) (hk : x.k = 2) (tn : Nat) :
    Calls Try.prog 183 #[.agg #[.int .i64 x.k, .int .i64 x.t, .slice x.c.a x.c.n x.c.c, .slice x.s.a x.s.n x.s.c, .slice x.u.a x.u.n x.u.c], .pointer (some ⟨cb, 0, none⟩)] w (RetCh w cb mb X ap (nodE H M tn ap x) x) := by
  have NE := Lib.hid (show nodE H M tn ap x = cndE H M x.N by unfold nodE; rw [if_neg (by omega), if_pos hk])
  have AP := Lib.hid (show appl' x = false by unfold appl'; rw [hk]; rfl)
  have HC := Lib.hid h
  have KC := Lib.hid (fun (w2 : World) (g : w.grownBy w2 none) => kcheck_any w2 _ (cxP H M) x.N (CR.keep0 (pr_cr hp hx) g))
  unfold RetWE at KC
  dsimp only at KC
  have CE := Lib.hid (show cndE H M x.N = if rE (wholeT (cxP H M) x.N) = 0 then (if rW (wholeT (cxP H M) x.N) = 1 then 0 else 10) else rE (wholeT (cxP H M) x.N) from rfl)
  generalize rE (wholeT (cxP H M) x.N) = re at *
  generalize rW (wholeT (cxP H M) x.N) = rw' at *
  have G1 := Lib.hid (gb_alloc w (.cells #[.int .i64 x.k, .int .i64 x.t, .slice x.c.a x.c.n x.c.c, .slice x.s.a x.s.n x.s.c, .slice x.u.a x.u.n x.u.c] 175) none)
  have B1 := Lib.hid (IsB.new w 175 #[.int .i64 x.k, .int .i64 x.t, .slice x.c.a x.c.n x.c.c, .slice x.s.a x.s.n x.s.c, .slice x.u.a x.u.n x.u.c])
  have C1 := Lib.hid (h.c.keep0 (gb_alloc w (.cells #[.int .i64 x.k, .int .i64 x.t, .slice x.c.a x.c.n x.c.c, .slice x.s.a x.s.n x.s.c, .slice x.u.a x.u.n x.u.c] 175) none))
  clear h hp hx hk
  go_enter Try.func183, Try.ntmps183
  go_upto_region 1 with fail
  generalize w.alloc (.cells #[.int .i64 x.k, .int .i64 x.t, .slice x.c.a x.c.n x.c.c, .slice x.s.a x.s.n x.s.c, .slice x.u.a x.u.n x.u.c] 175) = w1 at *
  obtain ⟨b, hb⟩ : ∃ b, b = w.heap.size := ⟨_, rfl⟩
  rw [← hb] at B1 ⊢
  clear hb
  have KS := Lib.hid (fun (w' : World) (q0 : w1.grownBy w' none) => (⟨(B1.out.keep0 q0).cell 2, (C1.out.keep0 q0).cell 0, (C1.out.keep0 q0).cell 1, (C1.out.keep0 q0).cell 2, (C1.out.keep0 q0).cell 3, (C1.out.keep0 q0).cell 4, (C1.out.keep0 q0).cell 5, (C1.out.keep0 q0).cell 6, (C1.out.keep0 q0).cell 7, (C1.out.keep0 q0).cell 8, q0⟩ : (fun w' : World => w'.cell? ⟨b, 2, none⟩ = some (.slice x.c.a x.c.n x.c.c) ∧ w'.cell? ⟨cb, 0, none⟩ = some (.string X.nm) ∧ w'.cell? ⟨cb, 1, none⟩ = some (.slice X.ha X.hn X.hc) ∧ w'.cell? ⟨cb, 2, none⟩ = some (.slice X.ma X.mn X.mc) ∧ w'.cell? ⟨cb, 3, none⟩ = some (.slice X.a0 X.n0 X.c0) ∧ w'.cell? ⟨cb, 4, none⟩ = some (.slice X.a1 X.n1 X.c1) ∧ w'.cell? ⟨cb, 5, none⟩ = some (.slice X.a2 X.n2 X.c2) ∧ w'.cell? ⟨cb, 6, none⟩ = some (.slice X.a3 X.n3 X.c3) ∧ w'.cell? ⟨cb, 7, none⟩ = some (.slice X.a4 X.n4 X.c4) ∧ w'.cell? ⟨cb, 8, none⟩ = some (.slice X.a5 X.n5 X.c5) ∧ w1.grownBy w' none) w'))
  have H0 := Lib.hid (gb_drew w1 none)
  refine wp_region_held_drew (S := (fun w' : World => w'.cell? ⟨b, 2, none⟩ = some (.slice x.c.a x.c.n x.c.c) ∧ w'.cell? ⟨cb, 0, none⟩ = some (.string X.nm) ∧ w'.cell? ⟨cb, 1, none⟩ = some (.slice X.ha X.hn X.hc) ∧ w'.cell? ⟨cb, 2, none⟩ = some (.slice X.ma X.mn X.mc) ∧ w'.cell? ⟨cb, 3, none⟩ = some (.slice X.a0 X.n0 X.c0) ∧ w'.cell? ⟨cb, 4, none⟩ = some (.slice X.a1 X.n1 X.c1) ∧ w'.cell? ⟨cb, 5, none⟩ = some (.slice X.a2 X.n2 X.c2) ∧ w'.cell? ⟨cb, 6, none⟩ = some (.slice X.a3 X.n3 X.c3) ∧ w'.cell? ⟨cb, 7, none⟩ = some (.slice X.a4 X.n4 X.c4) ∧ w'.cell? ⟨cb, 8, none⟩ = some (.slice X.a5 X.n5 X.c5) ∧ w1.grownBy w' none)) (by kernel_rfl) (KS.out _ H0.out) (fun hH0 => ?_)
  refine wpAnyH_take (i := 0) (v := ?v12001) rfl (by kernel_rfl) (by kernel_rfl) (by kernel_rfl) (fun _ _ _ h => h) (Or.inl ⟨by rfl, ?hy12001⟩) (by assumption) ?rest12001
  case hy12001 => (intro wz hSw; (try dsimp only at hSw); first | (go_simp; done) | (go_simp; with_reducible rfl))
  try simp only [Act.put, List.getElem_toArray, List.getElem_cons_zero, List.setIfInBounds_toArray, List.set_cons_zero, List.set_cons_succ]
  refine wpAnyH_take (i := 1) (v := ?v12002) rfl (by kernel_rfl) (by kernel_rfl) (by kernel_rfl) (fun _ _ _ h => h) (Or.inl ⟨by rfl, ?hy12002⟩) (by assumption) ?rest12002
  case hy12002 => (intro wz hSw; (try dsimp only at hSw); first | (go_simp; done) | (go_simp; with_reducible rfl))
  try simp only [Act.put, List.getElem_toArray, List.getElem_cons_succ, List.getElem_cons_zero, List.setIfInBounds_toArray, List.set_cons_zero, List.set_cons_succ]
  refine wpAnyH_take (i := 2) (v := ?v12003) rfl (by kernel_rfl) (by kernel_rfl) (by kernel_rfl) (fun _ _ _ h => h) (Or.inl ⟨by rfl, ?hy12003⟩) (by assumption) ?rest12003
  case hy12003 => (intro wz hSw; (try dsimp only at hSw); first | (go_simp; done) | (go_simp; with_reducible rfl))
  try simp only [Act.put, List.getElem_toArray, List.getElem_cons_succ, List.getElem_cons_zero, List.setIfInBounds_toArray, List.set_cons_zero, List.set_cons_succ]
  refine wpAnyH_take (i := 3) (v := ?v12004) rfl (by kernel_rfl) (by kernel_rfl) (by kernel_rfl) (fun _ _ _ h => h) (Or.inl ⟨by rfl, ?hy12004⟩) (by assumption) ?rest12004
  case hy12004 => (intro wz hSw; (try dsimp only at hSw); first | (go_simp; done) | (go_simp; with_reducible rfl))
  try simp only [Act.put, List.getElem_toArray, List.getElem_cons_succ, List.getElem_cons_zero, List.setIfInBounds_toArray, List.set_cons_zero, List.set_cons_succ]
  refine wpAnyH_take (i := 4) (v := ?v12005) rfl (by kernel_rfl) (by kernel_rfl) (by kernel_rfl) (fun _ _ _ h => h) (Or.inl ⟨by rfl, ?hy12005⟩) (by assumption) ?rest12005
  case hy12005 => (intro wz hSw; (try dsimp only at hSw); first | (go_simp; done) | (go_simp; with_reducible rfl))
  try simp only [Act.put, List.getElem_toArray, List.getElem_cons_succ, List.getElem_cons_zero, List.setIfInBounds_toArray, List.set_cons_zero, List.set_cons_succ]
  refine wpAnyH_take (i := 5) (v := ?v12006) rfl (by kernel_rfl) (by kernel_rfl) (by kernel_rfl) (fun _ _ _ h => h) (Or.inl ⟨by rfl, ?hy12006⟩) (by assumption) ?rest12006
  case hy12006 => (intro wz hSw; (try dsimp only at hSw); first | (go_simp; done) | (go_simp; with_reducible rfl))
  try simp only [Act.put, List.getElem_toArray, List.getElem_cons_succ, List.getElem_cons_zero, List.setIfInBounds_toArray, List.set_cons_zero, List.set_cons_succ]
  refine wpAnyH_take (i := 6) (v := ?v12007) rfl (by kernel_rfl) (by kernel_rfl) (by kernel_rfl) (fun _ _ _ h => h) (Or.inl ⟨by rfl, ?hy12007⟩) (by assumption) ?rest12007
  case hy12007 => (intro wz hSw; (try dsimp only at hSw); first | (go_simp; done) | (go_simp; with_reducible rfl))
  try simp only [Act.put, List.getElem_toArray, List.getElem_cons_succ, List.getElem_cons_zero, List.setIfInBounds_toArray, List.set_cons_zero, List.set_cons_succ]
  refine wpAnyH_ready (rs := [7]) (by kernel_rfl) (by simp) ?_
  refine AllReadyH.cons (o := _) rfl (fun K hK => ?_) AllReadyH.nil
  go_simp
  (with_reducible refine (KC.out _ (gb_trans G1.out H0.out)).mono ?_)
  rintro e hw1 ⟨rfl, g⟩
  have H1 := Lib.hid (gb_trans H0.out g)
  clear g
  try dsimp only
  refine hK.out _ _ (KS.out _ H1.out) (fun hH1 => ?_)
  clear hK K hH0
  try simp only [Act.put, List.getElem_toArray, List.getElem_cons_succ, List.getElem_cons_zero, List.setIfInBounds_toArray, List.set_cons_zero, List.set_cons_succ]
  refine wpAnyH_take (i := 8) (v := ?v12008) rfl (by kernel_rfl) (by kernel_rfl) (by kernel_rfl) (fun _ _ _ h => h) (Or.inl ⟨by rfl, ?hy12008⟩) (by assumption) ?rest12008
  case hy12008 => (intro wz hSw; (try dsimp only at hSw); first | (go_simp; done) | (go_simp; with_reducible rfl))
  try simp only [Act.put, List.getElem_toArray, List.getElem_cons_succ, List.getElem_cons_zero, List.setIfInBounds_toArray, List.set_cons_zero, List.set_cons_succ]
  refine wpAnyH_take (i := 9) (v := ?v12009) rfl (by kernel_rfl) (by kernel_rfl) (by kernel_rfl) (fun _ _ _ h => h) (Or.inl ⟨by rfl, ?hy12009⟩) (by assumption) ?rest12009
  case hy12009 => (intro wz hSw; (try dsimp only at hSw); first | (go_simp; done) | (go_simp; with_reducible rfl))
  try simp only [Act.put, List.getElem_toArray, List.getElem_cons_succ, List.getElem_cons_zero, List.setIfInBounds_toArray, List.set_cons_zero, List.set_cons_succ]
  refine wpAnyH_take (i := 10) (v := ?v12010) rfl (by kernel_rfl) (by kernel_rfl) (by kernel_rfl) (fun _ _ _ h => h) (Or.inl ⟨by rfl, ?hy12010⟩) (by assumption) ?rest12010
  case hy12010 => (intro wz hSw; (try dsimp only at hSw); first | (go_simp; done) | (go_simp; with_reducible rfl))
  try simp only [Act.put, List.getElem_toArray, List.getElem_cons_succ, List.getElem_cons_zero, List.setIfInBounds_toArray, List.set_cons_zero, List.set_cons_succ]
  refine wpAnyH_take (i := 11) (v := ?v12011) rfl (by kernel_rfl) (by kernel_rfl) (by kernel_rfl) (fun _ _ _ h => h) (Or.inl ⟨by rfl, ?hy12011⟩) (by assumption) ?rest12011
  case hy12011 => (intro wz hSw; (try dsimp only at hSw); first | (go_simp; done) | (go_simp; with_reducible rfl))
  try simp only [Act.put, List.getElem_toArray, List.getElem_cons_succ, List.getElem_cons_zero, List.setIfInBounds_toArray, List.set_cons_zero, List.set_cons_succ]
  refine wpAnyH_take (i := 12) (v := ?v12012) rfl (by kernel_rfl) (by kernel_rfl) (by kernel_rfl) (fun _ _ _ h => h) (Or.inl ⟨by rfl, ?hy12012⟩) (by assumption) ?rest12012
  case hy12012 => (intro wz hSw; (try dsimp only at hSw); first | (go_simp; done) | (go_simp; with_reducible rfl))
  try simp only [Act.put, List.getElem_toArray, List.getElem_cons_succ, List.getElem_cons_zero, List.setIfInBounds_toArray, List.set_cons_zero, List.set_cons_succ]
  refine wpAnyH_done (by kernel_rfl) ?_ _
  clear hH1
  have GZ := Lib.hid (gb_trans G1.out H1.out)
  have CZ := Lib.hid (HC.out.keep0 GZ.out)
  clear KS
  by_cases e0 : re = 0
  · subst e0
    by_cases e1 : rw' = 1
    · subst e1
      have FE := Lib.hid (NE.out.trans (CE.out.trans rfl))
      go_wp2
      go_ret
      exact ⟨by rw [FE.out] <;> rfl, (fun _ => by rw [AP.out]; exact CZ.out), gb_any GZ.out⟩
    · have d1 : (rw' != 1) = true := by rw [bne_iff_ne]; exact e1
      have d2 : (rw' == 1) = false := by rw [beq_eq_false_iff_ne]; exact e1
      have FE := Lib.hid (show nodE H M tn ap x = 10 by rw [NE.out, CE.out, if_pos rfl, if_neg e1])
      go_wp2
      go_ret
      exact ⟨by rw [FE.out] <;> rfl, (fun q => by rw [FE.out] at q; cases q), gb_any GZ.out⟩
  · have d1 : (re != 0) = true := by rw [bne_iff_ne]; exact e0
    have d2 : (re == 0) = false := by rw [beq_eq_false_iff_ne]; exact e0
    have FE := Lib.hid (show nodE H M tn ap x = re by rw [NE.out, CE.out, if_neg e0])
    have E0 := Lib.hid e0
    go_wp2
    go_ret
    exact ⟨by rw [FE.out] <;> rfl, (fun q => by rw [FE.out] at q; exact absurd q E0.out), gb_any GZ.out⟩
set_option maxRecDepth 100000 in
set_option maxHeartbeats 8000000 in
theorem capply_any (w : World) (cb mb : Nat) (X : KX) (H : List (ByteArray × List Fld)) (M : List Fld) (ap : List Int) (h : CK w cb mb X ap) (hl : ap.length ≤ 1000) (hT : X.n2 ≤ 1000000) (x : CV) (hk : x.k = 1) :
    Calls Try.prog 181 #[.agg #[.int .i64 x.k, .int .i64 x.t, .slice x.c.a x.c.n x.c.c, .slice x.s.a x.s.n x.s.c, .slice x.u.a x.u.n x.u.c], .pointer (some ⟨cb, 0, none⟩)] w (RetCh w cb mb X ap (nodE H M X.n2 ap x) x) := by
  have NE := Lib.hid (show nodE H M X.n2 ap x = if tblE X.n2 ap x.t = 0 then (if 0 < x.s.n ∨ 0 < x.u.n then 5 else 0) else tblE X.n2 ap x.t by unfold nodE; rw [if_pos hk])
  have AP := Lib.hid (show appl' x = true by unfold appl'; rw [hk]; rfl)
  have G1 := Lib.hid (gb_alloc w (.cells #[.int .i64 x.k, .int .i64 x.t, .slice x.c.a x.c.n x.c.c, .slice x.s.a x.s.n x.s.c, .slice x.u.a x.u.n x.u.c] 174) none)
  have B1 := Lib.hid (IsB.new w 174 #[.int .i64 x.k, .int .i64 x.t, .slice x.c.a x.c.n x.c.c, .slice x.s.a x.s.n x.s.c, .slice x.u.a x.u.n x.u.c])
  have TB := Lib.hid (ctbl_any _ cb mb X ap (h.keep0 (gb_alloc w (.cells #[.int .i64 x.k, .int .i64 x.t, .slice x.c.a x.c.n x.c.c, .slice x.s.a x.s.n x.s.c, .slice x.u.a x.u.n x.u.c] 174) none)) hl hT x.t)
  have NB := Lib.hid (show w.heap.size ≠ mb by
    obtain ⟨D, n, o, _⟩ := h.m
    have := o.lt
    omega)
  unfold RetTb at TB
  generalize tblE X.n2 ap x.t = te at *
  clear h hk
  go_enter Try.func181, Try.ntmps181
  go_upto_region 1 with fail
  generalize w.alloc (.cells #[.int .i64 x.k, .int .i64 x.t, .slice x.c.a x.c.n x.c.c, .slice x.s.a x.s.n x.s.c, .slice x.u.a x.u.n x.u.c] 174) = w1 at *
  obtain ⟨b, hb⟩ : ∃ b, b = w.heap.size := ⟨_, rfl⟩
  rw [← hb] at B1 NB ⊢
  clear hb
  have b1 := B1.out.cell 1
  dsimp at b1
  go_upto_region 2 with (go_at_call 180; refine TB.out.mono ?_; rintro e w2 ⟨rfl, k2, g2⟩; have K2 := Lib.hid k2; have G2 := Lib.hid (gb_trans (gb_any G1.out) g2); have B2 := Lib.hid (B1.out.keep g2 (by intro q; injection q with q; exact NB.out q)); clear k2 g2)
  have b3 := B2.out.cell 3
  have b4 := B2.out.cell 4
  dsimp at b3 b4
  clear b1 TB
  by_cases e0 : te = 0
  · subst e0
    by_cases h3 : 0 < x.s.n
    · have i3 : (0 : Int) < (x.s.n : Int) := by omega
      have FE := Lib.hid (show nodE H M X.n2 ap x = 5 by rw [NE.out, if_pos rfl, if_pos (.inl h3)])
      go_wp2
      go_ret
      exact ⟨by rw [FE.out] <;> rfl, (fun q => by rw [FE.out] at q; cases q), G2.out⟩
    have i3 : ¬ (0 : Int) < (x.s.n : Int) := by omega
    by_cases h4 : 0 < x.u.n
    · have i4 : (0 : Int) < (x.u.n : Int) := by omega
      have FE := Lib.hid (show nodE H M X.n2 ap x = 5 by rw [NE.out, if_pos rfl, if_pos (.inr h4)])
      go_wp2
      go_ret
      exact ⟨by rw [FE.out] <;> rfl, (fun q => by rw [FE.out] at q; cases q), G2.out⟩
    have i4 : ¬ (0 : Int) < (x.u.n : Int) := by omega
    have FE := Lib.hid (show nodE H M X.n2 ap x = 0 by rw [NE.out, if_pos rfl, if_neg (by omega)])
    go_wp2
    go_ret
    exact ⟨by rw [FE.out] <;> rfl, (fun q => by rw [AP.out]; exact K2.out), G2.out⟩
  · have d1 : (te != 0) = true := by rw [bne_iff_ne]; exact e0
    have d2 : (te == 0) = false := by rw [beq_eq_false_iff_ne]; exact e0
    have FE := Lib.hid (show nodE H M X.n2 ap x = te by rw [NE.out, if_neg e0])
    have E0 := Lib.hid e0
    go_wp2
    go_ret
    exact ⟨by rw [FE.out] <;> rfl, (fun q => by rw [FE.out] at q; exact absurd q E0.out), G2.out⟩
set_option maxRecDepth 100000 in
set_option maxHeartbeats 8000000 in
theorem chit_any (w : World) (cb mb : Nat) (X : KX) (H : List (ByteArray × List Fld)) (M : List Fld) (ap : List Int) (h : CK w cb mb X ap) (hl : ap.length ≤ 1000) (hT : X.n2 ≤ 1000000) (x : CV) (hk : x.k = 3) :
    Calls Try.prog 186 #[.agg #[.int .i64 x.k, .int .i64 x.t, .slice x.c.a x.c.n x.c.c, .slice x.s.a x.s.n x.s.c, .slice x.u.a x.u.n x.u.c], .pointer (some ⟨cb, 0, none⟩)] w (RetCh w cb mb X ap (nodE H M X.n2 ap x) x) := by
  have NE := Lib.hid (show nodE H M X.n2 ap x = tblE X.n2 ap x.t by unfold nodE; rw [if_neg (by omega), if_neg (by omega), if_pos hk])
  have AP := Lib.hid (show appl' x = true by unfold appl'; rw [hk]; rfl)
  have G1 := Lib.hid (gb_alloc w (.cells #[.int .i64 x.k, .int .i64 x.t, .slice x.c.a x.c.n x.c.c, .slice x.s.a x.s.n x.s.c, .slice x.u.a x.u.n x.u.c] 176) none)
  have B1 := Lib.hid (IsB.new w 176 #[.int .i64 x.k, .int .i64 x.t, .slice x.c.a x.c.n x.c.c, .slice x.s.a x.s.n x.s.c, .slice x.u.a x.u.n x.u.c])
  have TB := Lib.hid (ctbl_any _ cb mb X ap (h.keep0 (gb_alloc w (.cells #[.int .i64 x.k, .int .i64 x.t, .slice x.c.a x.c.n x.c.c, .slice x.s.a x.s.n x.s.c, .slice x.u.a x.u.n x.u.c] 176) none)) hl hT x.t)
  unfold RetTb at TB
  generalize tblE X.n2 ap x.t = te at *
  clear h hk
  go_enter Try.func186, Try.ntmps186
  go_upto_region 1 with fail
  generalize w.alloc (.cells #[.int .i64 x.k, .int .i64 x.t, .slice x.c.a x.c.n x.c.c, .slice x.s.a x.s.n x.s.c, .slice x.u.a x.u.n x.u.c] 176) = w1 at *
  obtain ⟨b, hb⟩ : ∃ b, b = w.heap.size := ⟨_, rfl⟩
  rw [← hb] at B1 ⊢
  clear hb
  have b1 := B1.out.cell 1
  dsimp at b1
  go_wp2_with (go_at_call 180; refine TB.out.mono ?_; rintro e w2 ⟨rfl, k2, g2⟩; have K2 := Lib.hid k2; have G2 := Lib.hid (gb_trans (gb_any G1.out) g2); clear k2 g2)
  go_ret
  exact ⟨by rw [NE.out] <;> rfl, (fun q => by rw [NE.out] at q; have k := K2.out; rw [if_pos q] at k; rw [AP.out]; exact k), G2.out⟩
/-- A node as a value of its kind. -/
def nodV (x : CV) : Value :=
  if x.k = 1 then .iface 174 (.agg #[.int .i64 1, .int .i64 x.t, .slice x.c.a x.c.n x.c.c, .slice x.s.a x.s.n x.s.c, .slice x.u.a x.u.n x.u.c]) else if x.k = 2 then .iface 175 (.agg #[.int .i64 2, .int .i64 x.t, .slice x.c.a x.c.n x.c.c, .slice x.s.a x.s.n x.s.c, .slice x.u.a x.u.n x.u.c]) else if x.k = 3 then .iface 176 (.agg #[.int .i64 3, .int .i64 x.t, .slice x.c.a x.c.n x.c.c, .slice x.s.a x.s.n x.s.c, .slice x.u.a x.u.n x.u.c]) else .iface 178 (.agg #[])
set_option maxRecDepth 100000 in
set_option maxHeartbeats 8000000 in
theorem nodeOf_any (w : World) (x : CV) : Calls Try.prog 74 #[.agg #[.int .i64 x.k, .int .i64 x.t, .slice x.c.a x.c.n x.c.c, .slice x.s.a x.s.n x.s.c, .slice x.u.a x.u.n x.u.c]] w (fun e w' => e = .returned (nodV x) ∧ w.grownBy w' none) := by
  have G1 := Lib.hid (gb_alloc w (.cells #[.int .i64 x.k, .int .i64 x.t, .slice x.c.a x.c.n x.c.c, .slice x.s.a x.s.n x.s.c, .slice x.u.a x.u.n x.u.c] 63) none)
  have ND := Lib.hid (show nodV x = if x.k = 1 then .iface 174 (.agg #[.int .i64 1, .int .i64 x.t, .slice x.c.a x.c.n x.c.c, .slice x.s.a x.s.n x.s.c, .slice x.u.a x.u.n x.u.c]) else if x.k = 2 then .iface 175 (.agg #[.int .i64 2, .int .i64 x.t, .slice x.c.a x.c.n x.c.c, .slice x.s.a x.s.n x.s.c, .slice x.u.a x.u.n x.u.c]) else if x.k = 3 then .iface 176 (.agg #[.int .i64 3, .int .i64 x.t, .slice x.c.a x.c.n x.c.c, .slice x.s.a x.s.n x.s.c, .slice x.u.a x.u.n x.u.c]) else .iface 178 (.agg #[]) from rfl)
  obtain ⟨xk, xt, ⟨ca, cn, cc⟩, N, ⟨ta, tn, tc⟩, th, ⟨ea, en, ec⟩, el⟩ := x
  dsimp only at *
  by_cases h1 : xk = 1
  · subst h1
    rw [if_pos rfl] at ND
    go_enter Try.func74, Try.ntmps74
    go_wp2
    go_ret
    exact ⟨by rw [ND.out] <;> rfl, G1.out⟩
  have e1 : (xk == 1) = false := by rw [beq_eq_false_iff_ne]; exact h1
  have q1 : decide (xk = 1) = false := decide_eq_false h1
  rw [if_neg h1] at ND
  by_cases h2 : xk = 2
  · subst h2
    rw [if_pos rfl] at ND
    go_enter Try.func74, Try.ntmps74
    go_wp2
    go_ret
    exact ⟨by rw [ND.out] <;> rfl, G1.out⟩
  have e2 : (xk == 2) = false := by rw [beq_eq_false_iff_ne]; exact h2
  have q2 : decide (xk = 2) = false := decide_eq_false h2
  rw [if_neg h2] at ND
  by_cases h3 : xk = 3
  · subst h3
    rw [if_pos rfl] at ND
    go_enter Try.func74, Try.ntmps74
    go_wp2
    go_ret
    exact ⟨by rw [ND.out] <;> rfl, G1.out⟩
  have e3 : (xk == 3) = false := by rw [beq_eq_false_iff_ne]; exact h3
  have q3 : decide (xk = 3) = false := decide_eq_false h3
  rw [if_neg h3] at ND
  go_enter Try.func74, Try.ntmps74
  go_wp2
  go_ret
  exact ⟨by rw [ND.out] <;> rfl, G1.out⟩
set_option maxRecDepth 100000 in
theorem cunk_any (w : World) (cb mb : Nat) (X : KX) (H : List (ByteArray × List Fld)) (M : List Fld) (tn : Nat) (ap : List Int) (x : CV) (hk : ¬ x.k = 1 ∧ ¬ x.k = 2 ∧ ¬ x.k = 3) :
    Calls Try.prog 188 #[.agg #[], .pointer (some ⟨cb, 0, none⟩)] w (RetCh w cb mb X ap (nodE H M tn ap x) x) := by
  have NE := Lib.hid (show nodE H M tn ap x = 11 by unfold nodE; rw [if_neg hk.1, if_neg hk.2.1, if_neg hk.2.2])
  have G1 := Lib.hid (gb_alloc w (.cells #[] 178) none)
  clear hk
  go_enter Try.func188, Try.ntmps188
  go_wp2
  go_ret
  exact ⟨by rw [NE.out] <;> rfl, (fun q => by rw [NE.out] at q; cases q), gb_any (by first | exact G1.out | exact gb_refl _ _)⟩
end Go.Proofs.Ytfjeonoihdgdoaa
end
section
/- Control: which method a node's kind has; no condition. -/
namespace Go.Proofs.Ytfjeonoihdgdoaa
open Go.RowKit
theorem mt_apply (k : Nat) (v : Value) (w : World) : Sem.run Try.prog (method (k + 1) 174 v "patchbay/control.check") w = .ok (181, v) w := by kernel_rfl
theorem mt_if (k : Nat) (v : Value) (w : World) : Sem.run Try.prog (method (k + 1) 175 v "patchbay/control.check") w = .ok (183, v) w := by kernel_rfl
theorem mt_hit (k : Nat) (v : Value) (w : World) : Sem.run Try.prog (method (k + 1) 176 v "patchbay/control.check") w = .ok (186, v) w := by kernel_rfl
theorem mt_unk (k : Nat) (v : Value) (w : World) : Sem.run Try.prog (method (k + 1) 178 v "patchbay/control.check") w = .ok (188, v) w := by kernel_rfl
theorem me_apply (k : Nat) (v : Value) (w : World) : Sem.run Try.prog (method (k + 1) 174 v "patchbay/control.execute") w = .ok (182, v) w := by kernel_rfl
theorem me_if (k : Nat) (v : Value) (w : World) : Sem.run Try.prog (method (k + 1) 175 v "patchbay/control.execute") w = .ok (184, v) w := by kernel_rfl
theorem me_hit (k : Nat) (v : Value) (w : World) : Sem.run Try.prog (method (k + 1) 176 v "patchbay/control.execute") w = .ok (187, v) w := by kernel_rfl
theorem me_unk (k : Nat) (v : Value) (w : World) : Sem.run Try.prog (method (k + 1) 178 v "patchbay/control.execute") w = .ok (189, v) w := by kernel_rfl
end Go.Proofs.Ytfjeonoihdgdoaa
end
section
/- A region that draws its order, inside a fence and also inside of a round: a condition on the world that holds behind every operation; no condition but that the region defers nothing. -/
namespace Go.Proofs.Ytfjeonoihdgdoaa
open Go.RowKit
set_option linter.unusedVariables false
section
variable {F : Fence} {n : Nat} {P : Program} {ops : Array Oper} {Q : Exit → Act → World → Prop} {md : Region.Mode} {S : World → Prop}
/-- No operation defers a call. -/
def noDef (ops : Array Oper) : Bool := ops.all fun o => match o.op with | .defer _ => false | _ => true
theorem noDef_at (h : noDef ops = true) {j : Nat} {o : Oper} (hj : ops[j]? = some o) : ∀ c, o.op ≠ .defer c := fun c e => by
  obtain ⟨hl, hj⟩ := Array.getElem?_eq_some_iff.1 hj
  have k := Array.all_eq_true.1 h j hl
  rw [hj, e] at k; cases k
def YieldsF (P : Program) (ops : Array Oper) (S : World → Prop) (o : Oper) (v : Value) (a : Act) : Prop := YieldsIf P ops S o v a ∧ ∀ w, o.about P w a.eval = none
theorem YieldsF.op {i : Nat} {o : Oper} {v : Value} {a : Act} (nd : ∀ c, o.op ≠ .defer c) (hi : ops[i]? = some o) (hy : YieldsF P ops S o v a) {K : Act → World → Prop} {w : World} (hS : S w) (h : K (a.put o.dst v) w) : wpOpIn F n P ops Q i K a w := by
  have hab : ∀ f, o.about P w a.eval = some f → F.fn f := fun f hf => by rw [hy.2 w] at hf; cases hf
  unfold Go.wpOpIn
  rw [hi]
  rcases hy.1 with ⟨hw, hv⟩ | ⟨hw, rfl⟩
  · simp only [hw, if_true, Oper.wpIn, Oper.semAt_eq _ _ _ nd, hv w hS, Oper.uponIn]; exact ⟨hab, h⟩
  · simp only [hw, Bool.false_eq_true, if_false]; exact ⟨hab, h⟩
theorem op_putF {j : Nat} {oi oj : Oper} {v : Value} (nd : ∀ c, oj.op ≠ .defer c) (hj : ops[j]? = some oj) (hap : oi.apart ops oj = true) (hsi : ∀ cs b, oi.op ≠ .select cs b) (hsj : ∀ cs b, oj.op ≠ .select cs b)
    (hQ : ∀ c a w, Q (.panic c) (a.put oi.dst v) w → Q (.panic c) a w) {K : Act → World → Prop} {a : Act} {w : World} (hy : YieldsF P ops S oi v a) (h : wpOpIn F n P ops Q j K (a.put oi.dst v) w) :
    wpOpIn F n P ops Q j (fun a' w' => YieldsF P ops S oi v a' ∧ K (a'.put oi.dst v) w') a w := by
  obtain ⟨h1, h2, h3⟩ := Oper.apart_spec hap
  have on : ∀ (a : Act), YieldsF P ops S oi v a → ∀ u, YieldsF P ops S oi v (a.put oj.dst u) := fun a hy u =>
    ⟨hy.1.of_same (execOp_put oi hsi a oj.dst u h3) (wanted_put oi a oj.dst u h3), fun w => by rw [about_put oi w a oj.dst u h3]; exact hy.2 w⟩
  have onD : ∀ d, YieldsF P ops S oi v { a with defers := d :: a.defers } := fun d => ⟨hy.1.of_same rfl rfl, hy.2⟩
  unfold wpOpIn at *
  simp only [hj] at *
  rw [wanted_put oj a oi.dst v h1, about_put oj w a oi.dst v h1] at h
  by_cases hw : Region.wanted oj (yielded ops a.tmps) = true
  · simp only [hw, if_true] at h ⊢
    unfold Oper.wpIn at *
    rw [about_put oj w a oi.dst v h1, Oper.semAt_eq _ _ _ nd, execOp_put oj hsj a oi.dst v h1] at h
    obtain ⟨hf, h⟩ := h
    refine ⟨hf, ?_⟩
    rw [Oper.semAt_eq _ _ _ nd]
    generalize (execOp a.eval oj).run P w = r at *
    cases r with
    | halt x w' => cases x <;> simp only [Oper.uponIn] at h ⊢ <;> first | exact h | exact hQ _ _ _ h
    | ok x w' =>
      cases x <;> simp only [Oper.uponIn] at h ⊢
      case value u => exact ⟨on a hy u, by rw [← Act.put_comm a v u h2]; exact h⟩
      case skip => exact ⟨on a hy _, by rw [← Act.put_comm a v undef h2]; exact h⟩
      case defer d => exact ⟨on _ (onD d) _, by rw [← Act.put_comm _ v undef h2, ← Act.put_defers]; exact h⟩
      case enter f args =>
        refine ⟨h.1, CallsIn.mono h.2 fun e w'' he => ?_⟩
        cases e with
        | returned u => exact ⟨on a hy u, by rw [← Act.put_comm a v u h2]; exact he⟩
        | panicked c => exact hQ _ _ _ he
        | outgrown => exact he
      case row row args => exact ⟨h.1, RowsIn.mono h.2 fun u w'' he => ⟨on a hy u, by rw [← Act.put_comm a v u h2]; exact he⟩⟩
      case round l f tmps assign body =>
        refine ⟨h.1, RoundIn.mono h.2 fun e w'' he => ?_⟩
        cases e with
        | returned u => exact ⟨on a hy u, by rw [← Act.put_comm a v u h2]; exact he⟩
        | panicked c => exact hQ _ _ _ he
        | outgrown => exact he
  · simp only [hw] at h ⊢
    exact ⟨h.1, on a hy _, by rw [← Act.put_comm a v undef h2]; exact h.2⟩
/-- Whatever order is picked, and S holds behind each operation. -/
def wpAnyF (F : Fence) (n : Nat) (P : Program) (md : Region.Mode) (ops : Array Oper) (Q : Exit → Act → World → Prop) (S : World → Prop) : Nat → Array Bool → Act → World → Prop
  | 0, listed, a, w => Region.ready md ops listed = [] ∧ Q .normal a w
  | fuel + 1, listed, a, w => (Region.ready md ops listed = [] → Q .normal a w) ∧ ∀ i ∈ Region.ready md ops listed, wpOpIn F n P ops Q i (fun a' w' => S w' ∧ wpAnyF F n P md ops Q S fuel (listed.setIfInBounds i true) a' w') a w
theorem wpAnyIn_of_F : ∀ (fuel : Nat) (listed : Array Bool) (a : Act) (w : World), wpAnyF F n P md ops Q S fuel listed a w → wpAnyIn F n P md ops Q fuel listed a w
  | 0, _, _, _, h => h
  | fuel + 1, _, _, _, h => ⟨h.1, fun i hi => wpOpIn_mono (fun a' w' h' => wpAnyIn_of_F fuel _ a' w' h'.2) (h.2 i hi)⟩
theorem wpAnyF_first (nd : noDef ops = true) {i : Nat} {oi : Oper} {v : Value} (hi : ops[i]? = some oi) (hsel : ∀ (j : Nat) (o : Oper) cs b, ops[j]? = some o → o.op ≠ .select cs b) (hQ : ∀ c a w, Q (.panic c) (a.put oi.dst v) w → Q (.panic c) a w) :
    ∀ (fuel : Nat) (listed : Array Bool) (a : Act) (w : World),
      (∀ j oj, ops[j]? = some oj → j ≠ i → listed.getD j true = false → (∀ e ∈ oj.after, Region.binds md e = true → e.on ≠ i) → oi.apart ops oj = true) →
      i ∈ Region.ready md ops listed → YieldsF P ops S oi v a → S w → wpAnyF F n P md ops Q S fuel (listed.setIfInBounds i true) (a.put oi.dst v) w → wpAnyF F n P md ops Q S (fuel + 1) listed a w := by
  intro fuel
  induction fuel with
  | zero =>
    intro listed a w _ hr hy hS H
    refine ⟨fun h => (by rw [h] at hr; cases hr), fun j hj => ?_⟩
    by_cases hji : j = i
    · subst hji; exact hy.op (noDef_at nd hi) hi hS ⟨hS, H⟩
    · have := ready_mono hj hji
      rw [H.1] at this; cases this
  | succ fuel ih =>
    intro listed a w free hr hy hS H
    refine ⟨fun h => (by rw [h] at hr; cases hr), fun j hj => ?_⟩
    by_cases hji : j = i
    · subst hji; exact hy.op (noDef_at nd hi) hi hS ⟨hS, H⟩
    · obtain ⟨un, oj, hoj, hall⟩ := mem_ready.1 hj
      have apart : ∀ e ∈ oj.after, Region.binds md e = true → e.on ≠ i := fun e he hb heq => by
        have a1 := hall e he hb
        have a0 := (mem_ready.1 hr).1
        rw [heq] at a1
        rcases Nat.lt_or_ge i listed.size with q | q
        · simp [q] at a0 a1; rw [a0] at a1; cases a1
        · simp [Array.getElem?_eq_none q] at a1
      have free' : ∀ k ok, ops[k]? = some ok → k ≠ i → (listed.setIfInBounds j true).getD k true = false → (∀ e ∈ ok.after, Region.binds md e = true → e.on ≠ i) → oi.apart ops ok = true := fun k ok hk hki hun hno => by
        refine free k ok hk hki ?_ hno
        by_cases hjk : j = k
        · subst hjk; exact un
        · rw [getD_set_ne true hjk] at hun; exact hun
      refine wpOpIn_mono (fun a' w' q => ⟨q.2.1, ih (listed.setIfInBounds j true) a' w' free' (ready_mono hr (Ne.symm hji)) q.1 q.2.1 ?_⟩)
        (op_putF (noDef_at nd hoj) hoj (free j oj hoj hji un apart) (fun cs b => hsel i oi cs b hi) (fun cs b => hsel j oj cs b hoj) hQ hy (H.2 j (ready_mono hj hji)))
      rw [Array.setIfInBounds_comm _ _ hji]
      exact q.2.2
theorem wpAnyF_take {i : Nat} {oi : Oper} {v : Value} {fuel : Nat} {listed : Array Bool} {a : Act} {w : World} (hi : ops[i]? = some oi) (nd : noDef ops = true)
    (hs : Region.noSelect ops = true) (hf : Region.free md ops listed i = true) (hr : (Region.ready md ops listed).contains i = true) (hQ : ∀ c a w, Q (.panic c) (a.put oi.dst v) w → Q (.panic c) a w) (hy : YieldsIf P ops S oi v a) (hb : ∀ w, oi.about P w a.eval = none) (hS : S w)
    (h : wpAnyF F n P md ops Q S fuel (listed.setIfInBounds i true) (a.put oi.dst v) w) : wpAnyF F n P md ops Q S (fuel + 1) listed a w :=
  wpAnyF_first nd hi (Region.noSelect_spec hs) hQ fuel listed a w (Region.free_spec hi hf) (by simpa using hr) ⟨hy, hb⟩ hS h
theorem wpAnyF_done {listed : Array Bool} {a : Act} {w : World} (hr : Region.ready md ops listed = []) (h : Q .normal a w) : ∀ fuel, wpAnyF F n P md ops Q S fuel listed a w
  | 0 => ⟨hr, h⟩
  | _ + 1 => ⟨fun _ => h, by rw [hr]; simp⟩
def AllF (F : Fence) (n : Nat) (P : Program) (md : Region.Mode) (ops : Array Oper) (Q : Exit → Act → World → Prop) (S : World → Prop) (fuel : Nat) (listed : Array Bool) (a : Act) (w : World) (rs : List Nat) : Prop :=
  ∀ i ∈ rs, wpOpIn F n P ops Q i (fun a' w' => S w' ∧ wpAnyF F n P md ops Q S fuel (listed.setIfInBounds i true) a' w') a w
theorem AllF.nil {fuel : Nat} {listed : Array Bool} {a : Act} {w : World} : AllF F n P md ops Q S fuel listed a w [] := fun _ h => by cases h
theorem AllF.cons {fuel : Nat} {listed : Array Bool} {a : Act} {w : World} {i : Nat} {o : Oper} {rs : List Nat} (ho : ops[i]? = some o)
    (h : ∀ K' : Act → World → Prop, Shut (∀ a w, S w → (S w → wpAnyF F n P md ops Q S fuel (listed.setIfInBounds i true) a w) → K' a w) → if Region.wanted o (yielded ops a.tmps) = true then Oper.wpIn F n P o a w K' Q else (∀ f, o.about P w a.eval = some f → F.fn f) ∧ K' (a.put o.dst undef) w)
    (hs : AllF F n P md ops Q S fuel listed a w rs) : AllF F n P md ops Q S fuel listed a w (i :: rs) := fun j hj => by
  rcases List.mem_cons.1 hj with rfl | hj
  · exact wpOpIn_step ho (fun K' hK => h K' (fun a w hS hW => hK a w ⟨hS, hW hS⟩))
  · exact hs j hj
theorem wpAnyF_ready {rs : List Nat} {fuel : Nat} {listed : Array Bool} {a : Act} {w : World} (hr : Region.ready md ops listed = rs) (hne : rs ≠ []) (h : AllF F n P md ops Q S fuel listed a w rs) : wpAnyF F n P md ops Q S (fuel + 1) listed a w :=
  ⟨fun h0 => absurd (hr ▸ h0) hne, hr ▸ h⟩
theorem wpIn_region_F {id : Nat} {a : Act} {w : World} (hm : P.follows .mixedOrders = true) (hS : S w.drew) (h : S w.drew → wpAnyF F n P .any ops Q S ops.size (Array.replicate ops.size false) a w.drew) : (Code.region id ops true).wpIn F n P Q a w :=
  wpIn_region_any hm (wpAnyIn_of_F _ _ _ _ (h hS))
end
end Go.Proofs.Ytfjeonoihdgdoaa
end
section
/- Control: the program's Check; no condition but that the tree lies in memory and is not large, and the tables are not many. -/
namespace Go.Proofs.Ytfjeonoihdgdoaa
open Go.RowKit Go.Shelf
set_option linter.unusedVariables false
attribute [local go_sem] Oper.semAt_some

/-- The first node with a fault: its place and the fault. -/
def chkL (H : List (ByteArray × List Fld)) (M : List Fld) (tn : Nat) : List CV → List Int → Nat → Int × Int
  | [], _, _ => (0, 0)
  | x :: l, ap, i => if nodE H M tn ap x = 0 then chkL H M tn l (if appl' x = true then ap ++ [x.t] else ap) (i + 1) else ((i : Int), nodE H M tn ap x)
def chkC (H : List (ByteArray × List Fld)) (M : List Fld) (tn : Nat) (T : CT) : Int × Int :=
  if 24 < T.cnt then (-1, 12) else if 6 < T.nest then (-1, 14) else chkL H M tn T.pre [] 0
theorem tabL_step (pre : List CV) (x : CV) : (if appl' x = true then tabL pre ++ [x.t] else tabL pre) = tabL (pre ++ [x]) := by
  have e : appl' x = appl x := rfl
  rw [e]
  cases h : appl x with
  | true => rw [if_pos rfl, tabL_yes _ _ h]
  | false => rw [if_neg (by decide), tabL_no _ _ h]
theorem mi_same {w w2 : World} {b : Nat} {S : List Int} (h : MI w b S) (k : ∀ o, w.heap[b]? = some o → (∀ cs t m, o ≠ .cells cs t m) → w2.heap[b]? = some o) : MI w2 b S := by
  obtain ⟨D, n, h1, h2, h3⟩ := h
  obtain ⟨es, clock, hb, r⟩ := h1
  exact ⟨D, n, ⟨es, clock, k _ hb (by intros; simp), r⟩, h2, h3⟩
theorem CK.kt {B : Nat} {A C : World} {cb mb : Nat} {X : KX} {ap : List Int} (h : CK A cb mb X ap) (k : Kt (KI TZ B) A C) (hb : mb < B) : CK C cb mb X ap :=
  ⟨k.isb h.c kiz, mi_same h.m (fun o ho _ => k.same _ _ ho (fun q => by have := q.1; omega)), h.ne⟩
theorem CK.set {w : World} {cb mb : Nat} {X : KX} {ap : List Int} (h : CK w cb mb X ap) {g : Nat} (h1 : g ≠ cb) (h2 : g ≠ mb) (i : Nat) (v : Value) : CK (w.setCell ⟨g, i, none⟩ v) cb mb X ap :=
  ⟨h.c.set_far (Ne.symm h1) _ _, h.m.keep (gb_set w g i v) (by intro e; injection e with e; exact h2 e.symm), h.ne⟩
theorem opF_skip {F : Fence} {n : Nat} {P : Program} {ops : Array Oper} {o : Oper} {a : Act} {w w1 : World} {K : Act → World → Prop} {Q : Exit → Act → World → Prop} {Z : Prop} (hgd : o.guard = none) (nd : ∀ c, o.op ≠ .defer c) (ha : o.about P w a.eval = none)
    (hr : (execOp a.eval o).run P w = .ok .skip w1) (h : K (a.put o.dst undef) w1) : if Region.wanted o (yielded ops a.tmps) = true then Oper.wpIn F n P o a w K Q else Z := by
  have hw : Region.wanted o (yielded ops a.tmps) = true := by simp [Region.wanted, hgd]
  rw [if_pos hw]
  unfold Oper.wpIn
  refine ⟨fun f hf => (by rw [ha] at hf; cases hf), ?_⟩
  rw [Oper.semAt_eq _ _ _ nd, hr]
  unfold Oper.uponIn
  exact h
def RetCk (r : Int × Int) (w : World) (e : Ending) (w' : World) : Prop := e = .returned (.tuple #[.int .i64 r.1, .int .i64 r.2]) ∧ w.grownBy w' none
set_option maxRecDepth 100000 in
set_option maxHeartbeats 16000000 in
theorem kchk_any (w : World) (X : KX) (H : List (ByteArray × List Fld)) (M : List Fld) (T : CT) (hS : ST w ⟨X.a4, X.n4, X.c4⟩ T) (hp : PR w X H M) (hc : T.cnt ≤ 1000000) (hT : X.n2 ≤ 1000000) :
    Calls Try.prog 43 #[.agg #[.string X.nm, .slice X.ha X.hn X.hc, .slice X.ma X.mn X.mc, .slice X.a0 X.n0 X.c0, .slice X.a1 X.n1 X.c1, .slice X.a2 X.n2 X.c2, .slice X.a3 X.n3 X.c3, .slice X.a4 X.n4 X.c4, .slice X.a5 X.n5 X.c5]] w (RetCk (chkC H M X.n2 T) w) := by
  have HS := Lib.hid hS
  have HP := Lib.hid hp
  have HC := Lib.hid hc
  have HT := Lib.hid hT
  have MO := Lib.hid (fun (w2 : World) (g : w.grownBy w2 none) => more_any w2 ⟨X.a4, X.n4, X.c4⟩ T (hS.keep0 g) hc 24 (by decide))
  have NE := Lib.hid (fun (w2 : World) (g : w.grownBy w2 none) => knest_any w2 ⟨X.a4, X.n4, X.c4⟩ T (hS.keep0 g) hc)
  have CE := Lib.hid (show chkC H M X.n2 T = if 24 < T.cnt then (-1, 12) else if 6 < T.nest then (-1, 14) else chkL H M X.n2 T.pre [] 0 from rfl)
  unfold RetV at MO NE
  dsimp only at MO NE
  clear hS hp hc hT
  refine (callsIn_wide (n := 5)).1 ?_
  obtain ⟨w1, hw1⟩ : ∃ w1, w1 = w.alloc (.cells #[.string X.nm, .slice X.ha X.hn X.hc, .slice X.ma X.mn X.mc, .slice X.a0 X.n0 X.c0, .slice X.a1 X.n1 X.c1, .slice X.a2 X.n2 X.c2, .slice X.a3 X.n3 X.c3, .slice X.a4 X.n4 X.c4, .slice X.a5 X.n5 X.c5] 31) := ⟨_, rfl⟩
  obtain ⟨w2, hw2⟩ : ∃ w2, w2 = w1.alloc (.cells #[.int .i64 0] 3) := ⟨_, rfl⟩
  obtain ⟨w3, hw3⟩ : ∃ w3, w3 = w2.alloc (.cells #[.int .i64 0] 41) := ⟨_, rfl⟩
  have S1 : w1.heap.size = w.heap.size + 1 := by rw [hw1, sz_al]
  have S2 : w2.heap.size = w.heap.size + 1 + 1 := by rw [hw2, sz_al, S1]
  have S3 : w3.heap.size = w.heap.size + 1 + 1 + 1 := by rw [hw3, sz_al, S2]
  have A1 := IsB.new w 31 #[.string X.nm, .slice X.ha X.hn X.hc, .slice X.ma X.mn X.mc, .slice X.a0 X.n0 X.c0, .slice X.a1 X.n1 X.c1, .slice X.a2 X.n2 X.c2, .slice X.a3 X.n3 X.c3, .slice X.a4 X.n4 X.c4, .slice X.a5 X.n5 X.c5]
  have A2 := IsB.new w1 3 #[.int .i64 0]
  have A3 := IsB.new w2 41 #[.int .i64 0]
  rw [S1] at A2
  rw [S2] at A3
  have G1 := gb_alloc w (.cells #[.string X.nm, .slice X.ha X.hn X.hc, .slice X.ma X.mn X.mc, .slice X.a0 X.n0 X.c0, .slice X.a1 X.n1 X.c1, .slice X.a2 X.n2 X.c2, .slice X.a3 X.n3 X.c3, .slice X.a4 X.n4 X.c4, .slice X.a5 X.n5 X.c5] 31) none
  have G2 := gb_alloc w1 (.cells #[.int .i64 0] 3) none
  have G3 := gb_alloc w2 (.cells #[.int .i64 0] 41) none
  rw [← hw1] at A1 G1
  rw [← hw2] at A2 G2
  rw [← hw3] at A3 G3
  have L1 := Lib.hid (A1.keep0 (gb_trans G2 G3))
  have L2 := Lib.hid (A2.keep0 G3)
  have L3 := Lib.hid A3
  have GG := Lib.hid (gb_trans G1 (gb_trans G2 G3))
  have SS := Lib.hid S3
  have W3 := Lib.hid (show w3 = ((w.alloc (.cells #[.string X.nm, .slice X.ha X.hn X.hc, .slice X.ma X.mn X.mc, .slice X.a0 X.n0 X.c0, .slice X.a1 X.n1 X.c1, .slice X.a2 X.n2 X.c2, .slice X.a3 X.n3 X.c3, .slice X.a4 X.n4 X.c4, .slice X.a5 X.n5 X.c5] 31)).alloc (.cells #[.int .i64 0] 3)).alloc (.cells #[.int .i64 0] 41) by rw [hw3, hw2, hw1])
  clear hw1 hw2 hw3 S1 S2 S3 A1 A2 A3 G1 G2 G3
  obtain ⟨z, hz⟩ : ∃ z, z = w.heap.size := ⟨_, rfl⟩
  have HZ := Lib.hid hz
  rw [← hz] at L1 L2 L3 SS
  have ZI := Lib.hid (show w.heap.size ≤ z by omega)
  clear hz
  have c7 := L1.out.cell 7
  have k0 := L2.out.cell 0
  have k1 := L3.out.cell 0
  dsimp at c7 k0 k1
  have f0 := L2.out.free 0
  have f1 := L3.out.free 0
  refine callsIn_of_wp_marks Try.func43 rfl trivial ?_ rfl
  simp only [Try.ntmps43, List.size_toArray, List.length_cons, List.length_nil, Nat.reduceAdd, Nat.reduceSub, Array.replicate_succ, Array.replicate_zero, List.push_toArray, List.append_toArray, List.nil_append, List.cons_append]
  gi_wp2_with fail
  rw [← W3.out, ← HZ.out]
  clear W3
  refine ⟨trivial, ?_⟩
  by_cases hm : 24 < T.cnt
  · rw [decide_eq_true hm] at MO
    have CF := Lib.hid (show chkC H M X.n2 T = (-1, 12) by rw [CE.out, if_pos hm])
    refine (callsIn_wide.2 (MO.out _ GG.out)).mono ?_
    rintro e w4 ⟨rfl, g4⟩
    have G4 := Lib.hid (gb_trans GG.out g4)
    have M2 := Lib.hid (L2.out.keep0 g4)
    have M3 := Lib.hid (L3.out.keep0 g4)
    clear c7 k0 k1 f0 f1 g4 MO NE
    have k0 := M2.out.cell 0
    have k1 := M3.out.cell 0
    dsimp at k0 k1
    have f0 := M2.out.free 0
    have f1 := M3.out.free 0
    gi_wp2
    refine ⟨.tuple #[.int .i64 (-1), .int .i64 12], by rw [results_cells2 rfl]; go_simp, ?_⟩
    rw [CF.out]
    exact ⟨rfl, gb_put (gb_put G4.out (by have := ZI.out; omega)) (by have := ZI.out; omega)⟩
  rw [decide_eq_false hm] at MO
  rw [if_neg hm] at CE
  have CL := Lib.hid (show T.cnt ≤ 24 by omega)
  clear hm
  refine (callsIn_wide.2 (MO.out _ GG.out)).mono ?_
  rintro e w4 ⟨rfl, g4⟩
  have G4 := Lib.hid (gb_trans GG.out g4)
  have M1 := Lib.hid (L1.out.keep0 g4)
  have M2 := Lib.hid (L2.out.keep0 g4)
  have M3 := Lib.hid (L3.out.keep0 g4)
  have SZ4 := Lib.hid (show z + 1 + 1 + 1 ≤ w4.heap.size by have := g4.size; rw [SS.out] at this; exact this)
  clear c7 k0 k1 f0 f1 g4 MO L1 L2 L3 SS GG
  have c7 := M1.out.cell 7
  dsimp at c7
  by_cases hn : 6 < T.nest
  · have i6 : (6 : Int) < (T.nest : Int) := by omega
    have CF := Lib.hid (show chkC H M X.n2 T = (-1, 14) by rw [CE.out, if_pos hn])
    clear hn
    gi_wp2_with ((first | refine ⟨trivial, wd _, ?_⟩ | refine ⟨trivial, ?_⟩ | refine ⟨fun _ _ => trivial, ?_⟩); gi_at_call 44; refine (callsIn_wide.2 (NE.out _ G4.out)).mono ?_; rintro e w5 ⟨rfl, g5⟩; have G5 := Lib.hid (gb_trans G4.out g5); have N2 := Lib.hid (M2.out.keep0 g5); have N3 := Lib.hid (M3.out.keep0 g5); clear c7 g5 NE; have k0 := N2.out.cell 0; have k1 := N3.out.cell 0; have f0 := N2.out.free 0; have f1 := N3.out.free 0; dsimp at k0 k1)
    refine ⟨.tuple #[.int .i64 (-1), .int .i64 14], by rw [results_cells2 rfl]; go_simp, ?_⟩
    rw [CF.out]
    exact ⟨rfl, gb_put (gb_put G5.out (by have := ZI.out; omega)) (by have := ZI.out; omega)⟩
  have i6 : ¬ (6 : Int) < (T.nest : Int) := by omega
  rw [if_neg hn] at CE
  clear hn
  have hmm := @run_makeMap Try.prog
  gi_wp2_with (first
    | ((first | refine ⟨trivial, wd _, ?_⟩ | refine ⟨trivial, ?_⟩ | refine ⟨fun _ _ => trivial, ?_⟩); gi_at_call 44; refine (callsIn_wide.2 (NE.out _ G4.out)).mono ?_; rintro e w5 ⟨rfl, g5⟩; have G5 := Lib.hid (gb_trans G4.out g5); have N1 := Lib.hid (M1.out.keep0 g5); have N2 := Lib.hid (M2.out.keep0 g5); have N3 := Lib.hid (M3.out.keep0 g5); have SZ5 := Lib.hid (Nat.le_trans SZ4.out g5.size); clear c7 g5 NE; have c0 := N1.out.cell 0; have c1 := N1.out.cell 1; have c2 := N1.out.cell 2; have c3 := N1.out.cell 3; have c4 := N1.out.cell 4; have c5 := N1.out.cell 5; have c6 := N1.out.cell 6; have c7 := N1.out.cell 7; have c8 := N1.out.cell 8; dsimp at c0 c1 c2 c3 c4 c5 c6 c7 c8; have d7 : ((w5.alloc (.map #[] 0)).alloc (.cells #[.string X.nm, .slice X.ha X.hn X.hc, .slice X.ma X.mn X.mc, .slice X.a0 X.n0 X.c0, .slice X.a1 X.n1 X.c1, .slice X.a2 X.n2 X.c2, .slice X.a3 X.n3 X.c3, .slice X.a4 X.n4 X.c4, .slice X.a5 X.n5 X.c5, .map (some w5.heap.size)] 142)).cell? ⟨z, 7, none⟩ = some (.slice X.a4 X.n4 X.c4) := (N1.out.keep0 (gb_trans (gb_alloc w5 (.map #[] 0) none) (gb_alloc _ (.cells #[.string X.nm, .slice X.ha X.hn X.hc, .slice X.ma X.mn X.mc, .slice X.a0 X.n0 X.c0, .slice X.a1 X.n1 X.c1, .slice X.a2 X.n2 X.c2, .slice X.a3 X.n3 X.c3, .slice X.a4 X.n4 X.c4, .slice X.a5 X.n5 X.c5, .map (some w5.heap.size)] 142) none))).cell 7)
    | ((first | refine ⟨trivial, wd _, ?_⟩ | refine ⟨trivial, ?_⟩ | refine ⟨fun _ _ => trivial, ?_⟩); gi_at_call 49; refine (callsIn_wide.2 (preo_any _ _ _ _)).mono ?_; rintro e w6 ⟨rfl, rfl⟩))
  obtain ⟨w6, hw6⟩ : ∃ w6, w6 = w5.alloc (.map #[] 0) := ⟨_, rfl⟩
  obtain ⟨w7, hw7⟩ : ∃ w7, w7 = w6.alloc (.cells #[.string X.nm, .slice X.ha X.hn X.hc, .slice X.ma X.mn X.mc, .slice X.a0 X.n0 X.c0, .slice X.a1 X.n1 X.c1, .slice X.a2 X.n2 X.c2, .slice X.a3 X.n3 X.c3, .slice X.a4 X.n4 X.c4, .slice X.a5 X.n5 X.c5, .map (some w5.heap.size)] 142) := ⟨_, rfl⟩
  obtain ⟨w8, hw8⟩ : ∃ w8, w8 = w7.alloc (.cells #[.slice X.a4 X.n4 X.c4] 28) := ⟨_, rfl⟩
  have S6 : w6.heap.size = w5.heap.size + 1 := by rw [hw6, sz_al]
  have S7 : w7.heap.size = w5.heap.size + 1 + 1 := by rw [hw7, sz_al, S6]
  have S8 : w8.heap.size = w5.heap.size + 1 + 1 + 1 := by rw [hw8, sz_al, S7]
  have M6 := MI.new w5
  have A7 := IsB.new w6 142 #[.string X.nm, .slice X.ha X.hn X.hc, .slice X.ma X.mn X.mc, .slice X.a0 X.n0 X.c0, .slice X.a1 X.n1 X.c1, .slice X.a2 X.n2 X.c2, .slice X.a3 X.n3 X.c3, .slice X.a4 X.n4 X.c4, .slice X.a5 X.n5 X.c5, .map (some w5.heap.size)]
  have A8 := IsB.new w7 28 #[.slice X.a4 X.n4 X.c4]
  rw [S6] at A7
  rw [S7] at A8
  have G6 := gb_alloc w5 (.map #[] 0) none
  have G7 := gb_alloc w6 (.cells #[.string X.nm, .slice X.ha X.hn X.hc, .slice X.ma X.mn X.mc, .slice X.a0 X.n0 X.c0, .slice X.a1 X.n1 X.c1, .slice X.a2 X.n2 X.c2, .slice X.a3 X.n3 X.c3, .slice X.a4 X.n4 X.c4, .slice X.a5 X.n5 X.c5, .map (some w5.heap.size)] 142) none
  have G8 := gb_alloc w7 (.cells #[.slice X.a4 X.n4 X.c4] 28) none
  rw [← hw6] at M6 G6 ⊢
  rw [← hw7] at A7 G7 ⊢
  rw [← hw8] at A8 G8 ⊢
  have L2 := Lib.hid (N2.out.keep0 (gb_trans G6 (gb_trans G7 G8)))
  have L3 := Lib.hid (N3.out.keep0 (gb_trans G6 (gb_trans G7 G8)))
  have K8 := Lib.hid (show CK w8 (w5.heap.size + 1) w5.heap.size X [] from ⟨A7.keep0 G8, M6.keep0 (gb_trans G7 G8), by omega⟩)
  have L8 := Lib.hid A8
  have GG := Lib.hid (gb_trans G5.out (gb_trans G6 (gb_trans G7 G8)))
  have SS := Lib.hid S8
  obtain ⟨mb, hmb⟩ : ∃ mb, mb = w5.heap.size := ⟨_, rfl⟩
  have MZ := Lib.hid (show z + 1 + 1 + 1 ≤ mb by rw [hmb]; exact SZ5.out)
  rw [← hmb] at K8 L8 SS ⊢
  clear hw6 hw7 hw8 S6 S7 S8 M6 A7 A8 G6 G7 G8 hmb N1 N2 N3 G5 SZ5 M1 M2 M3 G4 SZ4 c0 c1 c2 c3 c4 c5 c6 c7 c8 d7 hmm
  have TL := Lib.hid (fun (pre : List CV) (h : pre <+: T.pre) => (show (tabL pre).length ≤ 1000 by have := tabL_len pre; have := h.length_le; have := CL.out; unfold CT.cnt at this; omega))
  refine wpIn_rangeX rfl (by omega) (gf := 75) (lb := #[.pointer (some ⟨mb + 1 + 1, 0, none⟩)]) rfl trivial (enters_of Try.func75 (by kernel_rfl) rfl) (encs := enC) (TC := TOB z (z + 1 + 1 + 1)) (TI := TZ) (xs := T.pre)
    (fun W2 gW hsz => preo_seq w W2 _ (TOB z (z + 1 + 1 + 1)) (fun k t h e => by have e := e.1; have := HZ.out; omega) (fun k h e => by have e := e.2; have := SS.out; have := MZ.out; omega) ⟨X.a4, X.n4, X.c4⟩ T HC.out HS.out (Kc.of_gb (gb_trans GG.out gW)) (mb + 1 + 1) (L8.out.keep0 gW)) (fun _ => rfl)
    (fun pre w9 => IsB w9 (z + 1) 3 #[.int .i64 (pre.length : Int)] ∧ (∃ v, IsB w9 (z + 1 + 1) 41 #[v]) ∧ CK w9 (mb + 1) mb X (tabL pre) ∧ w.grownBy w9 none ∧ ∀ rest, pre ++ rest = T.pre → chkL H M X.n2 T.pre [] 0 = chkL H M X.n2 rest (tabL pre) pre.length)
    (fun c pre w9 => c = .ret ∧ ∃ i e : Int, chkL H M X.n2 T.pre [] 0 = (i, e) ∧ IsB w9 (z + 1) 3 #[.int .i64 i] ∧ IsB w9 (z + 1 + 1) 41 #[.int .i64 e] ∧ w.grownBy w9 none)
    (fun t A C h k => by
      obtain ⟨h1, ⟨v, h2⟩, h3, h4, h5⟩ := h
      exact ⟨k.isb h1 kiz, ⟨v, k.isb h2 kiz⟩, h3.kt k (by have := SS.out; omega), k.from_ h4 (fun i o hi => kiz_low (by have := SS.out; have := MZ.out; have := HZ.out; omega) hi), h5⟩)
    (fun c t A C h k => by
      obtain ⟨e, i, er, h1, h2, h3, h4⟩ := h
      exact ⟨e, i, er, h1, k.isb h2 kiz, k.isb h3 kiz, k.from_ h4 (fun i o hi => kiz_low (by have := SS.out; have := MZ.out; have := HZ.out; omega) hi)⟩)
    ⟨L2.out, ⟨_, L3.out⟩, K8.out, GG.out, fun rest h => by rw [← h]; rfl⟩ ?round ?done ?stop
  case round =>
    rintro l2 pre x W5 hp ⟨v1, ⟨v, v2⟩, ck, g5, hch⟩
    have PC := Lib.hid (show pre.length + 1 ≤ T.cnt by have h := hp.length_le; unfold CT.cnt; simp at h; omega)
    have XM := Lib.hid (show x ∈ T.pre from hp.subset (by simp))
    have VX := Lib.hid (HS.out.vm x XM.out)
    have TP := Lib.hid (TL.out pre (List.IsPrefix.trans (List.prefix_append _ _) hp))
    obtain ⟨rest, hrest⟩ := hp
    have CHS := Lib.hid ((hch (x :: rest) (by rw [← hrest]; simp)).trans (show chkL H M X.n2 (x :: rest) (tabL pre) pre.length = if nodE H M X.n2 (tabL pre) x = 0 then chkL H M X.n2 rest (if appl' x = true then tabL pre ++ [x.t] else tabL pre) (pre.length + 1) else ((pre.length : Int), nodE H M X.n2 (tabL pre) x) from rfl))
    have HR := Lib.hid hrest
    clear hch hrest
    dsimp only [enC]
    gi_wp2
    refine ⟨gb_alloc _ _ none, fun W6 k6 kk6 => ?_⟩
    have X6 := Lib.hid (show IsB W6 W5.heap.size 63 #[.int .i64 x.k, .int .i64 x.t, .slice x.c.a x.c.n x.c.c, .slice x.s.a x.s.n x.s.c, .slice x.u.a x.u.n x.u.c] from k6.isb (IsB.new _ _ _) id)
    have V1 := Lib.hid (kk6.isb v1 kiz)
    have V2 := Lib.hid (kk6.isb v2 kiz)
    have CK6 := Lib.hid (ck.kt kk6 (by have := SS.out; omega))
    have G6 := Lib.hid (kk6.from_ g5 (fun i o hi => kiz_low (by have := SS.out; have := MZ.out; have := HZ.out; omega) hi))
    have x0 := X6.out.cell 0
    have x1 := X6.out.cell 1
    have x2 := X6.out.cell 2
    have x3 := X6.out.cell 3
    have x4 := X6.out.cell 4
    dsimp at x0 x1 x2 x3 x4
    by_cases h1 : x.k = 1
    · have NO := Lib.hid (fun w => (nodeOf_any w x).mono (R' := fun e w' => e = .returned (.iface 174 (.agg #[.int .i64 1, .int .i64 x.t, .slice x.c.a x.c.n x.c.c, .slice x.s.a x.s.n x.s.c, .slice x.u.a x.u.n x.u.c])) ∧ w.grownBy w' none) (fun e w' hq => by obtain ⟨q1, q2⟩ := hq; rw [show nodV x = .iface 174 (.agg #[.int .i64 1, .int .i64 x.t, .slice x.c.a x.c.n x.c.c, .slice x.s.a x.s.n x.s.c, .slice x.u.a x.u.n x.u.c]) by unfold nodV; rw [if_pos h1]] at q1; exact ⟨q1, q2⟩))
      have CHK := Lib.hid (fun (w2 : World) (hk : CK w2 (mb + 1) mb X (tabL pre)) (gw : w.grownBy w2 none) => (by have z := capply_any w2 (mb + 1) mb X H M (tabL pre) hk TP.out HT.out x h1; rw [h1] at z; exact z))
      have mt : ∀ (v : Value) (w : World), Sem.run Try.prog (method 359 174 v "patchbay/control.check") w = .ok (181, v) w := fun v w => mt_apply 358 v w
      unfold RetCh at CHK
      obtain ⟨E, hE⟩ : ∃ E, E = nodE H M X.n2 (tabL pre) x := ⟨_, rfl⟩
      rw [← hE] at CHK CHS
      clear h1
      clear hE
      by_cases e0 : E = 0
      · subst e0
        have hwj : wrap64 ((pre.length : Int) + 1) = (pre.length : Int) + 1 := by have := PC.out; have := HC.out; rw [IntWalk.wrap64_in _ (by omega)]
        gi_wp2_with (first
          | ((first | refine ⟨trivial, wd _, ?_⟩ | refine ⟨trivial, ?_⟩ | refine ⟨fun _ _ => trivial, ?_⟩); gi_at_call 74; refine (callsIn_wide.2 (NO.out _)).mono ?_; clear NO; rintro e w7 ⟨rfl, g7⟩; have G7 := Lib.hid (gb_trans G6.out g7); have H7 := Lib.hid g7; have U1 := Lib.hid (V1.out.keep0 g7); have U2 := Lib.hid (V2.out.keep0 g7); have CK7 := Lib.hid (CK6.out.keep0 g7); clear g7 x0 x1 x2 x3 x4)
          | ((first | refine ⟨trivial, wd _, ?_⟩ | refine ⟨trivial, ?_⟩ | refine ⟨fun _ _ => trivial, ?_⟩); gi_at_call 181; refine (callsIn_wide.2 (CHK.out _ CK7.out G7.out)).mono ?_; clear CHK; rintro e w9 ⟨rfl, k9, g9⟩; have CK9 := Lib.hid (show CK w9 (mb + 1) mb X (if appl' x = true then tabL pre ++ [x.t] else tabL pre) from k9 (by first | rfl | trivial)); have G9 := Lib.hid g9; have Y1 := Lib.hid (U1.out.keep g9 (by have := MZ.out; intro q; injection q with q; omega)); have Y2 := Lib.hid (U2.out.keep g9 (by have := MZ.out; intro q; injection q with q; omega)); clear k9 g9; have a1 := Y1.out.cell 0; have a2 := Y2.out.cell 0; have b1 := Y1.out.free 0; have b2 := Y2.out.free 0; dsimp at a1 a2))
        have NP := Lib.hid (show ∀ rest', (pre ++ [x]) ++ rest' = T.pre → chkL H M X.n2 T.pre [] 0 = chkL H M X.n2 rest' (tabL (pre ++ [x])) (pre ++ [x]).length by
          intro rest' hr'
          have e : rest' = rest := List.append_cancel_left (hr'.trans HR.out.symm)
          subst e
          rw [CHS.out, if_pos (by first | rfl | trivial), tabL_step, List.length_append, List.length_singleton])
        have CKe := Lib.hid (show CK w9 (mb + 1) mb X (tabL (pre ++ [x])) by rw [← tabL_step]; exact CK9.out)
        have y2 := Y2.out.set 0 (.int .i64 0)
        have y1 := Y1.out.set_far (g2 := z + 1 + 1) (by omega) 0 (.int .i64 0)
        have hz1 : w.heap.size ≤ z + 1 := by rw [HZ.out]; omega
        have hz2 : w.heap.size ≤ z + 1 + 1 := by rw [HZ.out]; omega
        have mz := MZ.out
        have kb : ∀ (A : World) (v : Value) (q : Nat), z ≤ q → q < z + 1 + 1 + 1 → (∃ cs t, IsB A q t cs) → Kt (KB (TOB z (z + 1 + 1 + 1)) w8.heap.size) A (A.setCell ⟨q, 0, none⟩ v) := by
          rintro A v q h1 h2 ⟨cs, t, hb⟩
          exact Kt.of_row (gb_set _ _ _ _) (fun o h => by rw [show A.heap[q]? = _ from hb] at h; cases h; exact ⟨h1, h2⟩)
        have km : Kt (KB (TOB z (z + 1 + 1 + 1)) w8.heap.size) w7 w9 := Kt.of_row G9.out (fun o h => by
          obtain ⟨D, n, ⟨es, clock, hb, _⟩, _⟩ := CK7.out.m
          rw [show w7.heap[mb]? = _ from hb] at h; cases h
          show mb < w8.heap.size
          rw [SS.out]; omega)
        refine ⟨(Kt.of_gb H7.out).trans (km.trans ((kb _ _ _ (by omega) (by omega) ⟨_, _, Y2.out⟩).trans (kb _ _ _ (by omega) (by omega) ⟨_, _, y1⟩))), ?_, ⟨_, y2.set_far (by omega) _ _⟩, (CKe.out.set (by omega) (by omega) 0 _).set (by omega) (by omega) 0 _, ?_, NP.out⟩
        · have q := y1.set 0 (.int .i64 ((pre.length : Int) + 1))
          rw [show (((pre ++ [x]).length : Nat) : Int) = (pre.length : Int) + 1 by simp]
          exact q
        · exact gb_put (gb_put (gb_lows G7.out G9.out (fun k e => by cases e; rw [← HZ.out]; omega)) hz2) hz1
      · have d1 : (E != 0) = true := by rw [bne_iff_ne]; exact e0
        have d2 : (E == 0) = false := by rw [beq_eq_false_iff_ne]; exact e0
        have E0 := Lib.hid e0
        gi_wp2_with (first
          | ((first | refine ⟨trivial, wd _, ?_⟩ | refine ⟨trivial, ?_⟩ | refine ⟨fun _ _ => trivial, ?_⟩); gi_at_call 74; refine (callsIn_wide.2 (NO.out _)).mono ?_; clear NO; rintro e w7 ⟨rfl, g7⟩; have G7 := Lib.hid (gb_trans G6.out g7); have H7 := Lib.hid g7; have U1 := Lib.hid (V1.out.keep0 g7); have U2 := Lib.hid (V2.out.keep0 g7); have CK7 := Lib.hid (CK6.out.keep0 g7); clear g7 x0 x1 x2 x3 x4)
          | ((first | refine ⟨trivial, wd _, ?_⟩ | refine ⟨trivial, ?_⟩ | refine ⟨fun _ _ => trivial, ?_⟩); gi_at_call 181; refine (callsIn_wide.2 (CHK.out _ CK7.out G7.out)).mono ?_; clear CHK; rintro e w9 ⟨rfl, k9, g9⟩; have G9 := Lib.hid g9; have Y1 := Lib.hid (U1.out.keep g9 (by have := MZ.out; intro q; injection q with q; omega)); have Y2 := Lib.hid (U2.out.keep g9 (by have := MZ.out; intro q; injection q with q; omega)); clear k9 g9; have a1 := Y1.out.cell 0; have a2 := Y2.out.cell 0; have b1 := Y1.out.free 0; have b2 := Y2.out.free 0; dsimp at a1 a2))
        have y2 := Y2.out.set 0 (.int .i64 E)
        have y1 := Y1.out.set_far (g2 := z + 1 + 1) (by omega) 0 (.int .i64 E)
        obtain ⟨wa, hwa⟩ : ∃ wa, wa = w9.setCell ⟨z + 1 + 1, 0, none⟩ (.int .i64 E) := ⟨_, rfl⟩
        have hz1 : w.heap.size ≤ z + 1 := by rw [HZ.out]; omega
        have hz2 : w.heap.size ≤ z + 1 + 1 := by rw [HZ.out]; omega
        have GA := Lib.hid (show w.grownBy wa none by rw [hwa]; exact gb_put (gb_lows G7.out G9.out (fun k e => by cases e; rw [← HZ.out]; have := MZ.out; omega)) hz2)
        have KA := Lib.hid (show Kt (KB (TOB z (z + 1 + 1 + 1)) w8.heap.size) W6 wa by
          rw [hwa]
          refine (Kt.of_gb H7.out).trans ((Kt.of_row G9.out (fun o h => by
            obtain ⟨D, n, ⟨es, clock, hb, _⟩, _⟩ := CK7.out.m
            rw [show w7.heap[mb]? = _ from hb] at h; cases h
            show mb < w8.heap.size
            rw [SS.out]; omega)).trans (Kt.of_row (gb_set _ _ _ _) (fun o h => by rw [show w9.heap[z + 1 + 1]? = _ from Y2.out] at h; cases h; exact ⟨by omega, by omega⟩))))
        rw [← hwa] at y1 y2 ⊢
        clear hwa
        have Z1 := Lib.hid y1
        have Z2 := Lib.hid (show IsB wa (z + 1 + 1) 41 #[.int .i64 E] from y2)
        clear y1 y2 a1 a2 b1 b2
        refine wpIn_region_F (S := fun w' : World => w'.cell? ⟨z + 1, 0, none⟩ = some (.int .i64 (pre.length : Int)) ∧ w'.cell? ⟨z + 1 + 1, 0, none⟩ = some (.int .i64 E)) (by kernel_rfl) ⟨(Z1.out.keep0 (gb_drew wa none)).cell 0, (Z2.out.keep0 (gb_drew wa none)).cell 0⟩ (fun hH0 => ?_)
        refine wpAnyF_take (i := 0) (v := ?v9102) rfl (by kernel_rfl) (by kernel_rfl) (by kernel_rfl) (by kernel_rfl) (fun _ _ _ h => h) (Or.inl ⟨by rfl, ?hy9102⟩) (fun _ => rfl) (by assumption) ?rest9102
        case hy9102 => (intro wz hSw; (try dsimp only at hSw); first | (go_simp; done) | (go_simp; with_reducible rfl))
        try simp only [Act.put, List.getElem_toArray, List.getElem_cons_zero, List.setIfInBounds_toArray, List.set_cons_zero, List.set_cons_succ]
        refine wpAnyF_take (i := 1) (v := ?v9103) rfl (by kernel_rfl) (by kernel_rfl) (by kernel_rfl) (by kernel_rfl) (fun _ _ _ h => h) (Or.inl ⟨by rfl, ?hy9103⟩) (fun _ => rfl) (by assumption) ?rest9103
        case hy9103 => (intro wz hSw; (try dsimp only at hSw); first | (go_simp; done) | (go_simp; with_reducible rfl))
        try simp only [Act.put, List.getElem_toArray, List.getElem_cons_succ, List.getElem_cons_zero, List.setIfInBounds_toArray, List.set_cons_zero, List.set_cons_succ]
        have D1 := Lib.hid (Z1.out.keep0 (gb_drew wa none))
        have D2 := Lib.hid (Z2.out.keep0 (gb_drew wa none))
        have p1 := Z1.out.cell 0
        have p2 := Z2.out.cell 0
        have r1 := Z1.out.free 0
        have r2 := Z2.out.free 0
        dsimp at p1 p2
        have t1 := Lib.hid (D1.out.set 0 (.int .i64 (pre.length : Int)))
        have t2 := Lib.hid (D2.out.set_far (g2 := z + 1) (by omega) 0 (.int .i64 (pre.length : Int)))
        refine wpAnyF_ready (rs := [2]) (by kernel_rfl) (by simp) ?_
        refine AllF.cons (o := _) rfl (fun K' hK => ?_) AllF.nil
        refine opF_skip (w1 := wa.drew.setCell ⟨z + 1, 0, none⟩ (.int .i64 (pre.length : Int))) rfl (by intro c hc; cases hc) rfl (by go_simp) ?_
        refine hK.out _ _ (⟨t1.out.cell 0, t2.out.cell 0⟩ : (fun w' : World => w'.cell? ⟨z + 1, 0, none⟩ = some (.int .i64 (pre.length : Int)) ∧ w'.cell? ⟨z + 1 + 1, 0, none⟩ = some (.int .i64 E)) _) (fun hH1 => ?_)
        clear hK K' hH0
        have s1 := Lib.hid (t1.out.set_far (g2 := z + 1 + 1) (by omega) 0 (.int .i64 E))
        have s2 := Lib.hid (t2.out.set 0 (.int .i64 E))
        try simp only [Act.put, List.getElem_toArray, List.getElem_cons_succ, List.getElem_cons_zero]
        refine wpAnyF_ready (rs := [3]) (by kernel_rfl) (by simp) ?_
        refine AllF.cons (o := _) rfl (fun K' hK => ?_) AllF.nil
        refine opF_skip (w1 := (wa.drew.setCell ⟨z + 1, 0, none⟩ (.int .i64 (pre.length : Int))).setCell ⟨z + 1 + 1, 0, none⟩ (.int .i64 E)) rfl (by intro c hc; cases hc) rfl (by go_simp) ?_
        refine hK.out _ _ (⟨s1.out.cell 0, s2.out.cell 0⟩ : (fun w' : World => w'.cell? ⟨z + 1, 0, none⟩ = some (.int .i64 (pre.length : Int)) ∧ w'.cell? ⟨z + 1 + 1, 0, none⟩ = some (.int .i64 E)) _) (fun hH2 => ?_)
        clear hK K' hH1
        try simp only [Act.put, List.getElem_toArray, List.getElem_cons_succ, List.getElem_cons_zero]
        refine wpAnyF_done (by kernel_rfl) ?_ _
        clear hH2
        have CHE := Lib.hid (show chkL H M X.n2 T.pre [] 0 = ((pre.length : Int), E) by rw [CHS.out, if_neg E0.out])
        gi_wp2
        refine ⟨KA.out.trans ((Kt.of_gb (gb_drew wa none)).trans ((Kt.of_row (gb_set _ _ _ _) (fun o h => by rw [show wa.drew.heap[z + 1]? = _ from D1.out] at h; cases h; exact ⟨by omega, by omega⟩)).trans (Kt.of_row (gb_set _ _ _ _) (fun o h => by rw [show (wa.drew.setCell ⟨z + 1, 0, none⟩ (.int .i64 (pre.length : Int))).heap[z + 1 + 1]? = _ from t2.out] at h; cases h; exact ⟨by omega, by omega⟩)))), rfl, (pre.length : Int), E, CHE.out, s1.out, s2.out, gb_put (gb_put (gb_trans GA.out (gb_drew wa none)) hz1) hz2⟩
    by_cases h2 : x.k = 2
    · have NO := Lib.hid (fun w => (nodeOf_any w x).mono (R' := fun e w' => e = .returned (.iface 175 (.agg #[.int .i64 2, .int .i64 x.t, .slice x.c.a x.c.n x.c.c, .slice x.s.a x.s.n x.s.c, .slice x.u.a x.u.n x.u.c])) ∧ w.grownBy w' none) (fun e w' hq => by obtain ⟨q1, q2⟩ := hq; rw [show nodV x = .iface 175 (.agg #[.int .i64 2, .int .i64 x.t, .slice x.c.a x.c.n x.c.c, .slice x.s.a x.s.n x.s.c, .slice x.u.a x.u.n x.u.c]) by unfold nodV; rw [if_neg h1, if_pos h2]] at q1; exact ⟨q1, q2⟩))
      have CHK := Lib.hid (fun (w2 : World) (hk : CK w2 (mb + 1) mb X (tabL pre)) (gw : w.grownBy w2 none) => (by have z := cif_any w2 (mb + 1) mb X H M (tabL pre) hk (HP.out.keep0 gw) x (VX.out.keep0 gw).c h2 X.n2; rw [h2] at z; exact z))
      have mt : ∀ (v : Value) (w : World), Sem.run Try.prog (method 359 175 v "patchbay/control.check") w = .ok (183, v) w := fun v w => mt_if 358 v w
      unfold RetCh at CHK
      obtain ⟨E, hE⟩ : ∃ E, E = nodE H M X.n2 (tabL pre) x := ⟨_, rfl⟩
      rw [← hE] at CHK CHS
      clear h1 h2
      clear hE
      by_cases e0 : E = 0
      · subst e0
        have hwj : wrap64 ((pre.length : Int) + 1) = (pre.length : Int) + 1 := by have := PC.out; have := HC.out; rw [IntWalk.wrap64_in _ (by omega)]
        gi_wp2_with (first
          | ((first | refine ⟨trivial, wd _, ?_⟩ | refine ⟨trivial, ?_⟩ | refine ⟨fun _ _ => trivial, ?_⟩); gi_at_call 74; refine (callsIn_wide.2 (NO.out _)).mono ?_; clear NO; rintro e w7 ⟨rfl, g7⟩; have G7 := Lib.hid (gb_trans G6.out g7); have H7 := Lib.hid g7; have U1 := Lib.hid (V1.out.keep0 g7); have U2 := Lib.hid (V2.out.keep0 g7); have CK7 := Lib.hid (CK6.out.keep0 g7); clear g7 x0 x1 x2 x3 x4)
          | ((first | refine ⟨trivial, wd _, ?_⟩ | refine ⟨trivial, ?_⟩ | refine ⟨fun _ _ => trivial, ?_⟩); gi_at_call 183; refine (callsIn_wide.2 (CHK.out _ CK7.out G7.out)).mono ?_; clear CHK; rintro e w9 ⟨rfl, k9, g9⟩; have CK9 := Lib.hid (show CK w9 (mb + 1) mb X (if appl' x = true then tabL pre ++ [x.t] else tabL pre) from k9 (by first | rfl | trivial)); have G9 := Lib.hid g9; have Y1 := Lib.hid (U1.out.keep g9 (by have := MZ.out; intro q; injection q with q; omega)); have Y2 := Lib.hid (U2.out.keep g9 (by have := MZ.out; intro q; injection q with q; omega)); clear k9 g9; have a1 := Y1.out.cell 0; have a2 := Y2.out.cell 0; have b1 := Y1.out.free 0; have b2 := Y2.out.free 0; dsimp at a1 a2))
        have NP := Lib.hid (show ∀ rest', (pre ++ [x]) ++ rest' = T.pre → chkL H M X.n2 T.pre [] 0 = chkL H M X.n2 rest' (tabL (pre ++ [x])) (pre ++ [x]).length by
          intro rest' hr'
          have e : rest' = rest := List.append_cancel_left (hr'.trans HR.out.symm)
          subst e
          rw [CHS.out, if_pos (by first | rfl | trivial), tabL_step, List.length_append, List.length_singleton])
        have CKe := Lib.hid (show CK w9 (mb + 1) mb X (tabL (pre ++ [x])) by rw [← tabL_step]; exact CK9.out)
        have y2 := Y2.out.set 0 (.int .i64 0)
        have y1 := Y1.out.set_far (g2 := z + 1 + 1) (by omega) 0 (.int .i64 0)
        have hz1 : w.heap.size ≤ z + 1 := by rw [HZ.out]; omega
        have hz2 : w.heap.size ≤ z + 1 + 1 := by rw [HZ.out]; omega
        have mz := MZ.out
        have kb : ∀ (A : World) (v : Value) (q : Nat), z ≤ q → q < z + 1 + 1 + 1 → (∃ cs t, IsB A q t cs) → Kt (KB (TOB z (z + 1 + 1 + 1)) w8.heap.size) A (A.setCell ⟨q, 0, none⟩ v) := by
          rintro A v q h1 h2 ⟨cs, t, hb⟩
          exact Kt.of_row (gb_set _ _ _ _) (fun o h => by rw [show A.heap[q]? = _ from hb] at h; cases h; exact ⟨h1, h2⟩)
        have km : Kt (KB (TOB z (z + 1 + 1 + 1)) w8.heap.size) w7 w9 := Kt.of_row G9.out (fun o h => by
          obtain ⟨D, n, ⟨es, clock, hb, _⟩, _⟩ := CK7.out.m
          rw [show w7.heap[mb]? = _ from hb] at h; cases h
          show mb < w8.heap.size
          rw [SS.out]; omega)
        refine ⟨(Kt.of_gb H7.out).trans (km.trans ((kb _ _ _ (by omega) (by omega) ⟨_, _, Y2.out⟩).trans (kb _ _ _ (by omega) (by omega) ⟨_, _, y1⟩))), ?_, ⟨_, y2.set_far (by omega) _ _⟩, (CKe.out.set (by omega) (by omega) 0 _).set (by omega) (by omega) 0 _, ?_, NP.out⟩
        · have q := y1.set 0 (.int .i64 ((pre.length : Int) + 1))
          rw [show (((pre ++ [x]).length : Nat) : Int) = (pre.length : Int) + 1 by simp]
          exact q
        · exact gb_put (gb_put (gb_lows G7.out G9.out (fun k e => by cases e; rw [← HZ.out]; omega)) hz2) hz1
      · have d1 : (E != 0) = true := by rw [bne_iff_ne]; exact e0
        have d2 : (E == 0) = false := by rw [beq_eq_false_iff_ne]; exact e0
        have E0 := Lib.hid e0
        gi_wp2_with (first
          | ((first | refine ⟨trivial, wd _, ?_⟩ | refine ⟨trivial, ?_⟩ | refine ⟨fun _ _ => trivial, ?_⟩); gi_at_call 74; refine (callsIn_wide.2 (NO.out _)).mono ?_; clear NO; rintro e w7 ⟨rfl, g7⟩; have G7 := Lib.hid (gb_trans G6.out g7); have H7 := Lib.hid g7; have U1 := Lib.hid (V1.out.keep0 g7); have U2 := Lib.hid (V2.out.keep0 g7); have CK7 := Lib.hid (CK6.out.keep0 g7); clear g7 x0 x1 x2 x3 x4)
          | ((first | refine ⟨trivial, wd _, ?_⟩ | refine ⟨trivial, ?_⟩ | refine ⟨fun _ _ => trivial, ?_⟩); gi_at_call 183; refine (callsIn_wide.2 (CHK.out _ CK7.out G7.out)).mono ?_; clear CHK; rintro e w9 ⟨rfl, k9, g9⟩; have G9 := Lib.hid g9; have Y1 := Lib.hid (U1.out.keep g9 (by have := MZ.out; intro q; injection q with q; omega)); have Y2 := Lib.hid (U2.out.keep g9 (by have := MZ.out; intro q; injection q with q; omega)); clear k9 g9; have a1 := Y1.out.cell 0; have a2 := Y2.out.cell 0; have b1 := Y1.out.free 0; have b2 := Y2.out.free 0; dsimp at a1 a2))
        have y2 := Y2.out.set 0 (.int .i64 E)
        have y1 := Y1.out.set_far (g2 := z + 1 + 1) (by omega) 0 (.int .i64 E)
        obtain ⟨wa, hwa⟩ : ∃ wa, wa = w9.setCell ⟨z + 1 + 1, 0, none⟩ (.int .i64 E) := ⟨_, rfl⟩
        have hz1 : w.heap.size ≤ z + 1 := by rw [HZ.out]; omega
        have hz2 : w.heap.size ≤ z + 1 + 1 := by rw [HZ.out]; omega
        have GA := Lib.hid (show w.grownBy wa none by rw [hwa]; exact gb_put (gb_lows G7.out G9.out (fun k e => by cases e; rw [← HZ.out]; have := MZ.out; omega)) hz2)
        have KA := Lib.hid (show Kt (KB (TOB z (z + 1 + 1 + 1)) w8.heap.size) W6 wa by
          rw [hwa]
          refine (Kt.of_gb H7.out).trans ((Kt.of_row G9.out (fun o h => by
            obtain ⟨D, n, ⟨es, clock, hb, _⟩, _⟩ := CK7.out.m
            rw [show w7.heap[mb]? = _ from hb] at h; cases h
            show mb < w8.heap.size
            rw [SS.out]; omega)).trans (Kt.of_row (gb_set _ _ _ _) (fun o h => by rw [show w9.heap[z + 1 + 1]? = _ from Y2.out] at h; cases h; exact ⟨by omega, by omega⟩))))
        rw [← hwa] at y1 y2 ⊢
        clear hwa
        have Z1 := Lib.hid y1
        have Z2 := Lib.hid (show IsB wa (z + 1 + 1) 41 #[.int .i64 E] from y2)
        clear y1 y2 a1 a2 b1 b2
        refine wpIn_region_F (S := fun w' : World => w'.cell? ⟨z + 1, 0, none⟩ = some (.int .i64 (pre.length : Int)) ∧ w'.cell? ⟨z + 1 + 1, 0, none⟩ = some (.int .i64 E)) (by kernel_rfl) ⟨(Z1.out.keep0 (gb_drew wa none)).cell 0, (Z2.out.keep0 (gb_drew wa none)).cell 0⟩ (fun hH0 => ?_)
        refine wpAnyF_take (i := 0) (v := ?v9106) rfl (by kernel_rfl) (by kernel_rfl) (by kernel_rfl) (by kernel_rfl) (fun _ _ _ h => h) (Or.inl ⟨by rfl, ?hy9106⟩) (fun _ => rfl) (by assumption) ?rest9106
        case hy9106 => (intro wz hSw; (try dsimp only at hSw); first | (go_simp; done) | (go_simp; with_reducible rfl))
        try simp only [Act.put, List.getElem_toArray, List.getElem_cons_zero, List.setIfInBounds_toArray, List.set_cons_zero, List.set_cons_succ]
        refine wpAnyF_take (i := 1) (v := ?v9107) rfl (by kernel_rfl) (by kernel_rfl) (by kernel_rfl) (by kernel_rfl) (fun _ _ _ h => h) (Or.inl ⟨by rfl, ?hy9107⟩) (fun _ => rfl) (by assumption) ?rest9107
        case hy9107 => (intro wz hSw; (try dsimp only at hSw); first | (go_simp; done) | (go_simp; with_reducible rfl))
        try simp only [Act.put, List.getElem_toArray, List.getElem_cons_succ, List.getElem_cons_zero, List.setIfInBounds_toArray, List.set_cons_zero, List.set_cons_succ]
        have D1 := Lib.hid (Z1.out.keep0 (gb_drew wa none))
        have D2 := Lib.hid (Z2.out.keep0 (gb_drew wa none))
        have p1 := Z1.out.cell 0
        have p2 := Z2.out.cell 0
        have r1 := Z1.out.free 0
        have r2 := Z2.out.free 0
        dsimp at p1 p2
        have t1 := Lib.hid (D1.out.set 0 (.int .i64 (pre.length : Int)))
        have t2 := Lib.hid (D2.out.set_far (g2 := z + 1) (by omega) 0 (.int .i64 (pre.length : Int)))
        refine wpAnyF_ready (rs := [2]) (by kernel_rfl) (by simp) ?_
        refine AllF.cons (o := _) rfl (fun K' hK => ?_) AllF.nil
        refine opF_skip (w1 := wa.drew.setCell ⟨z + 1, 0, none⟩ (.int .i64 (pre.length : Int))) rfl (by intro c hc; cases hc) rfl (by go_simp) ?_
        refine hK.out _ _ (⟨t1.out.cell 0, t2.out.cell 0⟩ : (fun w' : World => w'.cell? ⟨z + 1, 0, none⟩ = some (.int .i64 (pre.length : Int)) ∧ w'.cell? ⟨z + 1 + 1, 0, none⟩ = some (.int .i64 E)) _) (fun hH1 => ?_)
        clear hK K' hH0
        have s1 := Lib.hid (t1.out.set_far (g2 := z + 1 + 1) (by omega) 0 (.int .i64 E))
        have s2 := Lib.hid (t2.out.set 0 (.int .i64 E))
        try simp only [Act.put, List.getElem_toArray, List.getElem_cons_succ, List.getElem_cons_zero]
        refine wpAnyF_ready (rs := [3]) (by kernel_rfl) (by simp) ?_
        refine AllF.cons (o := _) rfl (fun K' hK => ?_) AllF.nil
        refine opF_skip (w1 := (wa.drew.setCell ⟨z + 1, 0, none⟩ (.int .i64 (pre.length : Int))).setCell ⟨z + 1 + 1, 0, none⟩ (.int .i64 E)) rfl (by intro c hc; cases hc) rfl (by go_simp) ?_
        refine hK.out _ _ (⟨s1.out.cell 0, s2.out.cell 0⟩ : (fun w' : World => w'.cell? ⟨z + 1, 0, none⟩ = some (.int .i64 (pre.length : Int)) ∧ w'.cell? ⟨z + 1 + 1, 0, none⟩ = some (.int .i64 E)) _) (fun hH2 => ?_)
        clear hK K' hH1
        try simp only [Act.put, List.getElem_toArray, List.getElem_cons_succ, List.getElem_cons_zero]
        refine wpAnyF_done (by kernel_rfl) ?_ _
        clear hH2
        have CHE := Lib.hid (show chkL H M X.n2 T.pre [] 0 = ((pre.length : Int), E) by rw [CHS.out, if_neg E0.out])
        gi_wp2
        refine ⟨KA.out.trans ((Kt.of_gb (gb_drew wa none)).trans ((Kt.of_row (gb_set _ _ _ _) (fun o h => by rw [show wa.drew.heap[z + 1]? = _ from D1.out] at h; cases h; exact ⟨by omega, by omega⟩)).trans (Kt.of_row (gb_set _ _ _ _) (fun o h => by rw [show (wa.drew.setCell ⟨z + 1, 0, none⟩ (.int .i64 (pre.length : Int))).heap[z + 1 + 1]? = _ from t2.out] at h; cases h; exact ⟨by omega, by omega⟩)))), rfl, (pre.length : Int), E, CHE.out, s1.out, s2.out, gb_put (gb_put (gb_trans GA.out (gb_drew wa none)) hz1) hz2⟩
    by_cases h3 : x.k = 3
    · have NO := Lib.hid (fun w => (nodeOf_any w x).mono (R' := fun e w' => e = .returned (.iface 176 (.agg #[.int .i64 3, .int .i64 x.t, .slice x.c.a x.c.n x.c.c, .slice x.s.a x.s.n x.s.c, .slice x.u.a x.u.n x.u.c])) ∧ w.grownBy w' none) (fun e w' hq => by obtain ⟨q1, q2⟩ := hq; rw [show nodV x = .iface 176 (.agg #[.int .i64 3, .int .i64 x.t, .slice x.c.a x.c.n x.c.c, .slice x.s.a x.s.n x.s.c, .slice x.u.a x.u.n x.u.c]) by unfold nodV; rw [if_neg h1, if_neg h2, if_pos h3]] at q1; exact ⟨q1, q2⟩))
      have CHK := Lib.hid (fun (w2 : World) (hk : CK w2 (mb + 1) mb X (tabL pre)) (gw : w.grownBy w2 none) => (by have z := chit_any w2 (mb + 1) mb X H M (tabL pre) hk TP.out HT.out x h3; rw [h3] at z; exact z))
      have mt : ∀ (v : Value) (w : World), Sem.run Try.prog (method 359 176 v "patchbay/control.check") w = .ok (186, v) w := fun v w => mt_hit 358 v w
      unfold RetCh at CHK
      obtain ⟨E, hE⟩ : ∃ E, E = nodE H M X.n2 (tabL pre) x := ⟨_, rfl⟩
      rw [← hE] at CHK CHS
      clear h1 h2 h3
      clear hE
      by_cases e0 : E = 0
      · subst e0
        have hwj : wrap64 ((pre.length : Int) + 1) = (pre.length : Int) + 1 := by have := PC.out; have := HC.out; rw [IntWalk.wrap64_in _ (by omega)]
        gi_wp2_with (first
          | ((first | refine ⟨trivial, wd _, ?_⟩ | refine ⟨trivial, ?_⟩ | refine ⟨fun _ _ => trivial, ?_⟩); gi_at_call 74; refine (callsIn_wide.2 (NO.out _)).mono ?_; clear NO; rintro e w7 ⟨rfl, g7⟩; have G7 := Lib.hid (gb_trans G6.out g7); have H7 := Lib.hid g7; have U1 := Lib.hid (V1.out.keep0 g7); have U2 := Lib.hid (V2.out.keep0 g7); have CK7 := Lib.hid (CK6.out.keep0 g7); clear g7 x0 x1 x2 x3 x4)
          | ((first | refine ⟨trivial, wd _, ?_⟩ | refine ⟨trivial, ?_⟩ | refine ⟨fun _ _ => trivial, ?_⟩); gi_at_call 186; refine (callsIn_wide.2 (CHK.out _ CK7.out G7.out)).mono ?_; clear CHK; rintro e w9 ⟨rfl, k9, g9⟩; have CK9 := Lib.hid (show CK w9 (mb + 1) mb X (if appl' x = true then tabL pre ++ [x.t] else tabL pre) from k9 (by first | rfl | trivial)); have G9 := Lib.hid g9; have Y1 := Lib.hid (U1.out.keep g9 (by have := MZ.out; intro q; injection q with q; omega)); have Y2 := Lib.hid (U2.out.keep g9 (by have := MZ.out; intro q; injection q with q; omega)); clear k9 g9; have a1 := Y1.out.cell 0; have a2 := Y2.out.cell 0; have b1 := Y1.out.free 0; have b2 := Y2.out.free 0; dsimp at a1 a2))
        have NP := Lib.hid (show ∀ rest', (pre ++ [x]) ++ rest' = T.pre → chkL H M X.n2 T.pre [] 0 = chkL H M X.n2 rest' (tabL (pre ++ [x])) (pre ++ [x]).length by
          intro rest' hr'
          have e : rest' = rest := List.append_cancel_left (hr'.trans HR.out.symm)
          subst e
          rw [CHS.out, if_pos (by first | rfl | trivial), tabL_step, List.length_append, List.length_singleton])
        have CKe := Lib.hid (show CK w9 (mb + 1) mb X (tabL (pre ++ [x])) by rw [← tabL_step]; exact CK9.out)
        have y2 := Y2.out.set 0 (.int .i64 0)
        have y1 := Y1.out.set_far (g2 := z + 1 + 1) (by omega) 0 (.int .i64 0)
        have hz1 : w.heap.size ≤ z + 1 := by rw [HZ.out]; omega
        have hz2 : w.heap.size ≤ z + 1 + 1 := by rw [HZ.out]; omega
        have mz := MZ.out
        have kb : ∀ (A : World) (v : Value) (q : Nat), z ≤ q → q < z + 1 + 1 + 1 → (∃ cs t, IsB A q t cs) → Kt (KB (TOB z (z + 1 + 1 + 1)) w8.heap.size) A (A.setCell ⟨q, 0, none⟩ v) := by
          rintro A v q h1 h2 ⟨cs, t, hb⟩
          exact Kt.of_row (gb_set _ _ _ _) (fun o h => by rw [show A.heap[q]? = _ from hb] at h; cases h; exact ⟨h1, h2⟩)
        have km : Kt (KB (TOB z (z + 1 + 1 + 1)) w8.heap.size) w7 w9 := Kt.of_row G9.out (fun o h => by
          obtain ⟨D, n, ⟨es, clock, hb, _⟩, _⟩ := CK7.out.m
          rw [show w7.heap[mb]? = _ from hb] at h; cases h
          show mb < w8.heap.size
          rw [SS.out]; omega)
        refine ⟨(Kt.of_gb H7.out).trans (km.trans ((kb _ _ _ (by omega) (by omega) ⟨_, _, Y2.out⟩).trans (kb _ _ _ (by omega) (by omega) ⟨_, _, y1⟩))), ?_, ⟨_, y2.set_far (by omega) _ _⟩, (CKe.out.set (by omega) (by omega) 0 _).set (by omega) (by omega) 0 _, ?_, NP.out⟩
        · have q := y1.set 0 (.int .i64 ((pre.length : Int) + 1))
          rw [show (((pre ++ [x]).length : Nat) : Int) = (pre.length : Int) + 1 by simp]
          exact q
        · exact gb_put (gb_put (gb_lows G7.out G9.out (fun k e => by cases e; rw [← HZ.out]; omega)) hz2) hz1
      · have d1 : (E != 0) = true := by rw [bne_iff_ne]; exact e0
        have d2 : (E == 0) = false := by rw [beq_eq_false_iff_ne]; exact e0
        have E0 := Lib.hid e0
        gi_wp2_with (first
          | ((first | refine ⟨trivial, wd _, ?_⟩ | refine ⟨trivial, ?_⟩ | refine ⟨fun _ _ => trivial, ?_⟩); gi_at_call 74; refine (callsIn_wide.2 (NO.out _)).mono ?_; clear NO; rintro e w7 ⟨rfl, g7⟩; have G7 := Lib.hid (gb_trans G6.out g7); have H7 := Lib.hid g7; have U1 := Lib.hid (V1.out.keep0 g7); have U2 := Lib.hid (V2.out.keep0 g7); have CK7 := Lib.hid (CK6.out.keep0 g7); clear g7 x0 x1 x2 x3 x4)
          | ((first | refine ⟨trivial, wd _, ?_⟩ | refine ⟨trivial, ?_⟩ | refine ⟨fun _ _ => trivial, ?_⟩); gi_at_call 186; refine (callsIn_wide.2 (CHK.out _ CK7.out G7.out)).mono ?_; clear CHK; rintro e w9 ⟨rfl, k9, g9⟩; have G9 := Lib.hid g9; have Y1 := Lib.hid (U1.out.keep g9 (by have := MZ.out; intro q; injection q with q; omega)); have Y2 := Lib.hid (U2.out.keep g9 (by have := MZ.out; intro q; injection q with q; omega)); clear k9 g9; have a1 := Y1.out.cell 0; have a2 := Y2.out.cell 0; have b1 := Y1.out.free 0; have b2 := Y2.out.free 0; dsimp at a1 a2))
        have y2 := Y2.out.set 0 (.int .i64 E)
        have y1 := Y1.out.set_far (g2 := z + 1 + 1) (by omega) 0 (.int .i64 E)
        obtain ⟨wa, hwa⟩ : ∃ wa, wa = w9.setCell ⟨z + 1 + 1, 0, none⟩ (.int .i64 E) := ⟨_, rfl⟩
        have hz1 : w.heap.size ≤ z + 1 := by rw [HZ.out]; omega
        have hz2 : w.heap.size ≤ z + 1 + 1 := by rw [HZ.out]; omega
        have GA := Lib.hid (show w.grownBy wa none by rw [hwa]; exact gb_put (gb_lows G7.out G9.out (fun k e => by cases e; rw [← HZ.out]; have := MZ.out; omega)) hz2)
        have KA := Lib.hid (show Kt (KB (TOB z (z + 1 + 1 + 1)) w8.heap.size) W6 wa by
          rw [hwa]
          refine (Kt.of_gb H7.out).trans ((Kt.of_row G9.out (fun o h => by
            obtain ⟨D, n, ⟨es, clock, hb, _⟩, _⟩ := CK7.out.m
            rw [show w7.heap[mb]? = _ from hb] at h; cases h
            show mb < w8.heap.size
            rw [SS.out]; omega)).trans (Kt.of_row (gb_set _ _ _ _) (fun o h => by rw [show w9.heap[z + 1 + 1]? = _ from Y2.out] at h; cases h; exact ⟨by omega, by omega⟩))))
        rw [← hwa] at y1 y2 ⊢
        clear hwa
        have Z1 := Lib.hid y1
        have Z2 := Lib.hid (show IsB wa (z + 1 + 1) 41 #[.int .i64 E] from y2)
        clear y1 y2 a1 a2 b1 b2
        refine wpIn_region_F (S := fun w' : World => w'.cell? ⟨z + 1, 0, none⟩ = some (.int .i64 (pre.length : Int)) ∧ w'.cell? ⟨z + 1 + 1, 0, none⟩ = some (.int .i64 E)) (by kernel_rfl) ⟨(Z1.out.keep0 (gb_drew wa none)).cell 0, (Z2.out.keep0 (gb_drew wa none)).cell 0⟩ (fun hH0 => ?_)
        refine wpAnyF_take (i := 0) (v := ?v9110) rfl (by kernel_rfl) (by kernel_rfl) (by kernel_rfl) (by kernel_rfl) (fun _ _ _ h => h) (Or.inl ⟨by rfl, ?hy9110⟩) (fun _ => rfl) (by assumption) ?rest9110
        case hy9110 => (intro wz hSw; (try dsimp only at hSw); first | (go_simp; done) | (go_simp; with_reducible rfl))
        try simp only [Act.put, List.getElem_toArray, List.getElem_cons_zero, List.setIfInBounds_toArray, List.set_cons_zero, List.set_cons_succ]
        refine wpAnyF_take (i := 1) (v := ?v9111) rfl (by kernel_rfl) (by kernel_rfl) (by kernel_rfl) (by kernel_rfl) (fun _ _ _ h => h) (Or.inl ⟨by rfl, ?hy9111⟩) (fun _ => rfl) (by assumption) ?rest9111
        case hy9111 => (intro wz hSw; (try dsimp only at hSw); first | (go_simp; done) | (go_simp; with_reducible rfl))
        try simp only [Act.put, List.getElem_toArray, List.getElem_cons_succ, List.getElem_cons_zero, List.setIfInBounds_toArray, List.set_cons_zero, List.set_cons_succ]
        have D1 := Lib.hid (Z1.out.keep0 (gb_drew wa none))
        have D2 := Lib.hid (Z2.out.keep0 (gb_drew wa none))
        have p1 := Z1.out.cell 0
        have p2 := Z2.out.cell 0
        have r1 := Z1.out.free 0
        have r2 := Z2.out.free 0
        dsimp at p1 p2
        have t1 := Lib.hid (D1.out.set 0 (.int .i64 (pre.length : Int)))
        have t2 := Lib.hid (D2.out.set_far (g2 := z + 1) (by omega) 0 (.int .i64 (pre.length : Int)))
        refine wpAnyF_ready (rs := [2]) (by kernel_rfl) (by simp) ?_
        refine AllF.cons (o := _) rfl (fun K' hK => ?_) AllF.nil
        refine opF_skip (w1 := wa.drew.setCell ⟨z + 1, 0, none⟩ (.int .i64 (pre.length : Int))) rfl (by intro c hc; cases hc) rfl (by go_simp) ?_
        refine hK.out _ _ (⟨t1.out.cell 0, t2.out.cell 0⟩ : (fun w' : World => w'.cell? ⟨z + 1, 0, none⟩ = some (.int .i64 (pre.length : Int)) ∧ w'.cell? ⟨z + 1 + 1, 0, none⟩ = some (.int .i64 E)) _) (fun hH1 => ?_)
        clear hK K' hH0
        have s1 := Lib.hid (t1.out.set_far (g2 := z + 1 + 1) (by omega) 0 (.int .i64 E))
        have s2 := Lib.hid (t2.out.set 0 (.int .i64 E))
        try simp only [Act.put, List.getElem_toArray, List.getElem_cons_succ, List.getElem_cons_zero]
        refine wpAnyF_ready (rs := [3]) (by kernel_rfl) (by simp) ?_
        refine AllF.cons (o := _) rfl (fun K' hK => ?_) AllF.nil
        refine opF_skip (w1 := (wa.drew.setCell ⟨z + 1, 0, none⟩ (.int .i64 (pre.length : Int))).setCell ⟨z + 1 + 1, 0, none⟩ (.int .i64 E)) rfl (by intro c hc; cases hc) rfl (by go_simp) ?_
        refine hK.out _ _ (⟨s1.out.cell 0, s2.out.cell 0⟩ : (fun w' : World => w'.cell? ⟨z + 1, 0, none⟩ = some (.int .i64 (pre.length : Int)) ∧ w'.cell? ⟨z + 1 + 1, 0, none⟩ = some (.int .i64 E)) _) (fun hH2 => ?_)
        clear hK K' hH1
        try simp only [Act.put, List.getElem_toArray, List.getElem_cons_succ, List.getElem_cons_zero]
        refine wpAnyF_done (by kernel_rfl) ?_ _
        clear hH2
        have CHE := Lib.hid (show chkL H M X.n2 T.pre [] 0 = ((pre.length : Int), E) by rw [CHS.out, if_neg E0.out])
        gi_wp2
        refine ⟨KA.out.trans ((Kt.of_gb (gb_drew wa none)).trans ((Kt.of_row (gb_set _ _ _ _) (fun o h => by rw [show wa.drew.heap[z + 1]? = _ from D1.out] at h; cases h; exact ⟨by omega, by omega⟩)).trans (Kt.of_row (gb_set _ _ _ _) (fun o h => by rw [show (wa.drew.setCell ⟨z + 1, 0, none⟩ (.int .i64 (pre.length : Int))).heap[z + 1 + 1]? = _ from t2.out] at h; cases h; exact ⟨by omega, by omega⟩)))), rfl, (pre.length : Int), E, CHE.out, s1.out, s2.out, gb_put (gb_put (gb_trans GA.out (gb_drew wa none)) hz1) hz2⟩
    · have NO := Lib.hid (fun w => (nodeOf_any w x).mono (R' := fun e w' => e = .returned (.iface 178 (.agg #[])) ∧ w.grownBy w' none) (fun e w' hq => by obtain ⟨q1, q2⟩ := hq; rw [show nodV x = .iface 178 (.agg #[]) by unfold nodV; rw [if_neg h1, if_neg h2, if_neg h3]] at q1; exact ⟨q1, q2⟩))
      have CHK := Lib.hid (fun (w2 : World) (hk : CK w2 (mb + 1) mb X (tabL pre)) (gw : w.grownBy w2 none) => cunk_any w2 (mb + 1) mb X H M X.n2 (tabL pre) x ⟨h1, h2, h3⟩)
      have mt : ∀ (v : Value) (w : World), Sem.run Try.prog (method 359 178 v "patchbay/control.check") w = .ok (188, v) w := fun v w => mt_unk 358 v w
      unfold RetCh at CHK
      obtain ⟨E, hE⟩ : ∃ E, E = nodE H M X.n2 (tabL pre) x := ⟨_, rfl⟩
      rw [← hE] at CHK CHS
      clear h1 h2 h3
      clear hE
      by_cases e0 : E = 0
      · subst e0
        have hwj : wrap64 ((pre.length : Int) + 1) = (pre.length : Int) + 1 := by have := PC.out; have := HC.out; rw [IntWalk.wrap64_in _ (by omega)]
        gi_wp2_with (first
          | ((first | refine ⟨trivial, wd _, ?_⟩ | refine ⟨trivial, ?_⟩ | refine ⟨fun _ _ => trivial, ?_⟩); gi_at_call 74; refine (callsIn_wide.2 (NO.out _)).mono ?_; clear NO; rintro e w7 ⟨rfl, g7⟩; have G7 := Lib.hid (gb_trans G6.out g7); have H7 := Lib.hid g7; have U1 := Lib.hid (V1.out.keep0 g7); have U2 := Lib.hid (V2.out.keep0 g7); have CK7 := Lib.hid (CK6.out.keep0 g7); clear g7 x0 x1 x2 x3 x4)
          | ((first | refine ⟨trivial, wd _, ?_⟩ | refine ⟨trivial, ?_⟩ | refine ⟨fun _ _ => trivial, ?_⟩); gi_at_call 188; refine (callsIn_wide.2 (CHK.out _ CK7.out G7.out)).mono ?_; clear CHK; rintro e w9 ⟨rfl, k9, g9⟩; have CK9 := Lib.hid (show CK w9 (mb + 1) mb X (if appl' x = true then tabL pre ++ [x.t] else tabL pre) from k9 (by first | rfl | trivial)); have G9 := Lib.hid g9; have Y1 := Lib.hid (U1.out.keep g9 (by have := MZ.out; intro q; injection q with q; omega)); have Y2 := Lib.hid (U2.out.keep g9 (by have := MZ.out; intro q; injection q with q; omega)); clear k9 g9; have a1 := Y1.out.cell 0; have a2 := Y2.out.cell 0; have b1 := Y1.out.free 0; have b2 := Y2.out.free 0; dsimp at a1 a2))
        have NP := Lib.hid (show ∀ rest', (pre ++ [x]) ++ rest' = T.pre → chkL H M X.n2 T.pre [] 0 = chkL H M X.n2 rest' (tabL (pre ++ [x])) (pre ++ [x]).length by
          intro rest' hr'
          have e : rest' = rest := List.append_cancel_left (hr'.trans HR.out.symm)
          subst e
          rw [CHS.out, if_pos (by first | rfl | trivial), tabL_step, List.length_append, List.length_singleton])
        have CKe := Lib.hid (show CK w9 (mb + 1) mb X (tabL (pre ++ [x])) by rw [← tabL_step]; exact CK9.out)
        have y2 := Y2.out.set 0 (.int .i64 0)
        have y1 := Y1.out.set_far (g2 := z + 1 + 1) (by omega) 0 (.int .i64 0)
        have hz1 : w.heap.size ≤ z + 1 := by rw [HZ.out]; omega
        have hz2 : w.heap.size ≤ z + 1 + 1 := by rw [HZ.out]; omega
        have mz := MZ.out
        have kb : ∀ (A : World) (v : Value) (q : Nat), z ≤ q → q < z + 1 + 1 + 1 → (∃ cs t, IsB A q t cs) → Kt (KB (TOB z (z + 1 + 1 + 1)) w8.heap.size) A (A.setCell ⟨q, 0, none⟩ v) := by
          rintro A v q h1 h2 ⟨cs, t, hb⟩
          exact Kt.of_row (gb_set _ _ _ _) (fun o h => by rw [show A.heap[q]? = _ from hb] at h; cases h; exact ⟨h1, h2⟩)
        have km : Kt (KB (TOB z (z + 1 + 1 + 1)) w8.heap.size) w7 w9 := Kt.of_row G9.out (fun o h => by
          obtain ⟨D, n, ⟨es, clock, hb, _⟩, _⟩ := CK7.out.m
          rw [show w7.heap[mb]? = _ from hb] at h; cases h
          show mb < w8.heap.size
          rw [SS.out]; omega)
        refine ⟨(Kt.of_gb H7.out).trans (km.trans ((kb _ _ _ (by omega) (by omega) ⟨_, _, Y2.out⟩).trans (kb _ _ _ (by omega) (by omega) ⟨_, _, y1⟩))), ?_, ⟨_, y2.set_far (by omega) _ _⟩, (CKe.out.set (by omega) (by omega) 0 _).set (by omega) (by omega) 0 _, ?_, NP.out⟩
        · have q := y1.set 0 (.int .i64 ((pre.length : Int) + 1))
          rw [show (((pre ++ [x]).length : Nat) : Int) = (pre.length : Int) + 1 by simp]
          exact q
        · exact gb_put (gb_put (gb_lows G7.out G9.out (fun k e => by cases e; rw [← HZ.out]; omega)) hz2) hz1
      · have d1 : (E != 0) = true := by rw [bne_iff_ne]; exact e0
        have d2 : (E == 0) = false := by rw [beq_eq_false_iff_ne]; exact e0
        have E0 := Lib.hid e0
        gi_wp2_with (first
          | ((first | refine ⟨trivial, wd _, ?_⟩ | refine ⟨trivial, ?_⟩ | refine ⟨fun _ _ => trivial, ?_⟩); gi_at_call 74; refine (callsIn_wide.2 (NO.out _)).mono ?_; clear NO; rintro e w7 ⟨rfl, g7⟩; have G7 := Lib.hid (gb_trans G6.out g7); have H7 := Lib.hid g7; have U1 := Lib.hid (V1.out.keep0 g7); have U2 := Lib.hid (V2.out.keep0 g7); have CK7 := Lib.hid (CK6.out.keep0 g7); clear g7 x0 x1 x2 x3 x4)
          | ((first | refine ⟨trivial, wd _, ?_⟩ | refine ⟨trivial, ?_⟩ | refine ⟨fun _ _ => trivial, ?_⟩); gi_at_call 188; refine (callsIn_wide.2 (CHK.out _ CK7.out G7.out)).mono ?_; clear CHK; rintro e w9 ⟨rfl, k9, g9⟩; have G9 := Lib.hid g9; have Y1 := Lib.hid (U1.out.keep g9 (by have := MZ.out; intro q; injection q with q; omega)); have Y2 := Lib.hid (U2.out.keep g9 (by have := MZ.out; intro q; injection q with q; omega)); clear k9 g9; have a1 := Y1.out.cell 0; have a2 := Y2.out.cell 0; have b1 := Y1.out.free 0; have b2 := Y2.out.free 0; dsimp at a1 a2))
        have y2 := Y2.out.set 0 (.int .i64 E)
        have y1 := Y1.out.set_far (g2 := z + 1 + 1) (by omega) 0 (.int .i64 E)
        obtain ⟨wa, hwa⟩ : ∃ wa, wa = w9.setCell ⟨z + 1 + 1, 0, none⟩ (.int .i64 E) := ⟨_, rfl⟩
        have hz1 : w.heap.size ≤ z + 1 := by rw [HZ.out]; omega
        have hz2 : w.heap.size ≤ z + 1 + 1 := by rw [HZ.out]; omega
        have GA := Lib.hid (show w.grownBy wa none by rw [hwa]; exact gb_put (gb_lows G7.out G9.out (fun k e => by cases e; rw [← HZ.out]; have := MZ.out; omega)) hz2)
        have KA := Lib.hid (show Kt (KB (TOB z (z + 1 + 1 + 1)) w8.heap.size) W6 wa by
          rw [hwa]
          refine (Kt.of_gb H7.out).trans ((Kt.of_row G9.out (fun o h => by
            obtain ⟨D, n, ⟨es, clock, hb, _⟩, _⟩ := CK7.out.m
            rw [show w7.heap[mb]? = _ from hb] at h; cases h
            show mb < w8.heap.size
            rw [SS.out]; omega)).trans (Kt.of_row (gb_set _ _ _ _) (fun o h => by rw [show w9.heap[z + 1 + 1]? = _ from Y2.out] at h; cases h; exact ⟨by omega, by omega⟩))))
        rw [← hwa] at y1 y2 ⊢
        clear hwa
        have Z1 := Lib.hid y1
        have Z2 := Lib.hid (show IsB wa (z + 1 + 1) 41 #[.int .i64 E] from y2)
        clear y1 y2 a1 a2 b1 b2
        refine wpIn_region_F (S := fun w' : World => w'.cell? ⟨z + 1, 0, none⟩ = some (.int .i64 (pre.length : Int)) ∧ w'.cell? ⟨z + 1 + 1, 0, none⟩ = some (.int .i64 E)) (by kernel_rfl) ⟨(Z1.out.keep0 (gb_drew wa none)).cell 0, (Z2.out.keep0 (gb_drew wa none)).cell 0⟩ (fun hH0 => ?_)
        refine wpAnyF_take (i := 0) (v := ?v9114) rfl (by kernel_rfl) (by kernel_rfl) (by kernel_rfl) (by kernel_rfl) (fun _ _ _ h => h) (Or.inl ⟨by rfl, ?hy9114⟩) (fun _ => rfl) (by assumption) ?rest9114
        case hy9114 => (intro wz hSw; (try dsimp only at hSw); first | (go_simp; done) | (go_simp; with_reducible rfl))
        try simp only [Act.put, List.getElem_toArray, List.getElem_cons_zero, List.setIfInBounds_toArray, List.set_cons_zero, List.set_cons_succ]
        refine wpAnyF_take (i := 1) (v := ?v9115) rfl (by kernel_rfl) (by kernel_rfl) (by kernel_rfl) (by kernel_rfl) (fun _ _ _ h => h) (Or.inl ⟨by rfl, ?hy9115⟩) (fun _ => rfl) (by assumption) ?rest9115
        case hy9115 => (intro wz hSw; (try dsimp only at hSw); first | (go_simp; done) | (go_simp; with_reducible rfl))
        try simp only [Act.put, List.getElem_toArray, List.getElem_cons_succ, List.getElem_cons_zero, List.setIfInBounds_toArray, List.set_cons_zero, List.set_cons_succ]
        have D1 := Lib.hid (Z1.out.keep0 (gb_drew wa none))
        have D2 := Lib.hid (Z2.out.keep0 (gb_drew wa none))
        have p1 := Z1.out.cell 0
        have p2 := Z2.out.cell 0
        have r1 := Z1.out.free 0
        have r2 := Z2.out.free 0
        dsimp at p1 p2
        have t1 := Lib.hid (D1.out.set 0 (.int .i64 (pre.length : Int)))
        have t2 := Lib.hid (D2.out.set_far (g2 := z + 1) (by omega) 0 (.int .i64 (pre.length : Int)))
        refine wpAnyF_ready (rs := [2]) (by kernel_rfl) (by simp) ?_
        refine AllF.cons (o := _) rfl (fun K' hK => ?_) AllF.nil
        refine opF_skip (w1 := wa.drew.setCell ⟨z + 1, 0, none⟩ (.int .i64 (pre.length : Int))) rfl (by intro c hc; cases hc) rfl (by go_simp) ?_
        refine hK.out _ _ (⟨t1.out.cell 0, t2.out.cell 0⟩ : (fun w' : World => w'.cell? ⟨z + 1, 0, none⟩ = some (.int .i64 (pre.length : Int)) ∧ w'.cell? ⟨z + 1 + 1, 0, none⟩ = some (.int .i64 E)) _) (fun hH1 => ?_)
        clear hK K' hH0
        have s1 := Lib.hid (t1.out.set_far (g2 := z + 1 + 1) (by omega) 0 (.int .i64 E))
        have s2 := Lib.hid (t2.out.set 0 (.int .i64 E))
        try simp only [Act.put, List.getElem_toArray, List.getElem_cons_succ, List.getElem_cons_zero]
        refine wpAnyF_ready (rs := [3]) (by kernel_rfl) (by simp) ?_
        refine AllF.cons (o := _) rfl (fun K' hK => ?_) AllF.nil
        refine opF_skip (w1 := (wa.drew.setCell ⟨z + 1, 0, none⟩ (.int .i64 (pre.length : Int))).setCell ⟨z + 1 + 1, 0, none⟩ (.int .i64 E)) rfl (by intro c hc; cases hc) rfl (by go_simp) ?_
        refine hK.out _ _ (⟨s1.out.cell 0, s2.out.cell 0⟩ : (fun w' : World => w'.cell? ⟨z + 1, 0, none⟩ = some (.int .i64 (pre.length : Int)) ∧ w'.cell? ⟨z + 1 + 1, 0, none⟩ = some (.int .i64 E)) _) (fun hH2 => ?_)
        clear hK K' hH1
        try simp only [Act.put, List.getElem_toArray, List.getElem_cons_succ, List.getElem_cons_zero]
        refine wpAnyF_done (by kernel_rfl) ?_ _
        clear hH2
        have CHE := Lib.hid (show chkL H M X.n2 T.pre [] 0 = ((pre.length : Int), E) by rw [CHS.out, if_neg E0.out])
        gi_wp2
        refine ⟨KA.out.trans ((Kt.of_gb (gb_drew wa none)).trans ((Kt.of_row (gb_set _ _ _ _) (fun o h => by rw [show wa.drew.heap[z + 1]? = _ from D1.out] at h; cases h; exact ⟨by omega, by omega⟩)).trans (Kt.of_row (gb_set _ _ _ _) (fun o h => by rw [show (wa.drew.setCell ⟨z + 1, 0, none⟩ (.int .i64 (pre.length : Int))).heap[z + 1 + 1]? = _ from t2.out] at h; cases h; exact ⟨by omega, by omega⟩)))), rfl, (pre.length : Int), E, CHE.out, s1.out, s2.out, gb_put (gb_put (gb_trans GA.out (gb_drew wa none)) hz1) hz2⟩
  case done =>
    rintro D w9 hD ⟨v1, ⟨v, v2⟩, ck, g5, hch⟩ hK
    have CF := Lib.hid (show chkC H M X.n2 T = (0, 0) by rw [CE.out, hch [] (by simp)]; rfl)
    have k0 := v1.cell 0
    have k1 := v2.cell 0
    have f0 := v1.free 0
    have f1 := v2.free 0
    dsimp at k0 k1
    have V1 := Lib.hid v1
    have V2 := Lib.hid v2
    have G5 := Lib.hid g5
    have HK := Lib.hid hK
    have HD := Lib.hid hD
    clear v1 v2 ck g5 hch hK hD
    gi_wp2
    have hk' : ((w9.setCell ⟨z + 1, 0, none⟩ (.int .i64 0)).setCell ⟨z + 1 + 1, 0, none⟩ (.int .i64 0)).heap[D]? = some (.deferred (some [])) := by
      have := HD.out
      have := SS.out
      have := MZ.out
      rw [Below.heap_setCell _ _ _ _ (by dsimp only; omega), Below.heap_setCell _ _ _ _ (by dsimp only; omega)]
      exact HK.out
    refine ⟨by simp, .inl ⟨_, _, rfl, run_takeDeferred hk', ?_⟩⟩
    have k := Kt.put (own := KI TZ w8.heap.size) (.deferred none) (fun o h => by rw [hk'] at h; cases h; exact ⟨HD.out, trivial⟩)
    have r1 := k.isb ((V1.out.set 0 (.int .i64 0)).set_far (g2 := z + 1 + 1) (by omega) 0 (.int .i64 0)) kiz
    have r2 := k.isb ((V2.out.set_far (g2 := z + 1) (by omega) 0 (.int .i64 0)).set 0 (.int .i64 0)) kiz
    have m1 := r1.cell 0
    have m2 := r2.cell 0
    (try dsimp at m1 m2)
    have hz1 : w.heap.size ≤ z + 1 := by rw [HZ.out]; omega
    have hz2 : w.heap.size ≤ z + 1 + 1 := by rw [HZ.out]; omega
    refine ⟨.tuple #[.int .i64 0, .int .i64 0], by rw [results_cells2 rfl]; go_simp, ?_⟩
    rw [CF.out]
    exact ⟨rfl, k.from_ (gb_put (gb_put G5.out hz1) hz2) (fun i o hi => kiz_low (by have := SS.out; have := MZ.out; have := HZ.out; omega) hi)⟩
  case stop =>
    rintro D c pre w9 hD hp ⟨rfl, i, e, h1, h2, h3, h4⟩ hK
    have CF := Lib.hid (show chkC H M X.n2 T = (i, e) by rw [CE.out, h1])
    have V1 := Lib.hid h2
    have V2 := Lib.hid h3
    have G5 := Lib.hid h4
    clear h1 h2 h3 h4
    gi_wp2
    refine ⟨by simp, .inl ⟨_, _, rfl, run_takeDeferred hK, ?_⟩⟩
    have k : Kt (KI TZ w8.heap.size) w9 (w9.putObj D (.deferred none)) := Kt.put _ fun o h => by rw [hK] at h; cases h; exact ⟨hD, trivial⟩
    have r1 := k.isb V1.out kiz
    have r2 := k.isb V2.out kiz
    have m1 := r1.cell 0
    have m2 := r2.cell 0
    (try dsimp at m1 m2)
    refine ⟨.tuple #[.int .i64 i, .int .i64 e], by rw [results_cells2 rfl]; go_simp, ?_⟩
    rw [CF.out]
    exact ⟨rfl, k.from_ G5.out (fun i o hi => kiz_low (by have := SS.out; have := MZ.out; have := HZ.out; omega) hi)⟩
end Go.Proofs.Ytfjeonoihdgdoaa
end
