/- Control: the program's Node; no condition but that the tree lies in memory, is not large and its conditions are short. -/
import Derived.Test.YtdbjeihbfooipaaCnM
namespace Go.Proofs.Ytdbjeihbfooipaa
open Go.RowKit Go.Shelf
set_option linter.unusedVariables false
attribute [local go_sem] Oper.semAt_some

theorem cnode_any (w : World) (x : CV) (h1 : x.th.cnt ≤ 1000000) (h2 : x.el.cnt ≤ 1000000) (c1 : Cnd x.th) (c2 : Cnd x.el) (hc : x.N.length ≤ 1000) (hx : VM w x) :
    Calls Try.prog 77 #[.agg #[.int .i64 x.k, .int .i64 x.t, .slice x.c.a x.c.n x.c.c, .slice x.s.a x.s.n x.s.c, .slice x.u.a x.u.n x.u.c]] w (RetCV x w) :=
  cnode_of (x.th.cnt + x.el.cnt + 1) (clone_rec _) w x ⟨by omega, h1, c1⟩ ⟨by omega, h2, c2⟩ hc hx
theorem kc_tz {A C : World} {B : Nat} (k : Kt (KI TZ B) A C) : Kc A C := kc_kt (Kc.refl A) k (fun _ _ _ _ _ h => kiz h)
/-- A node of a flow: its branches are not larger, its conditions as short. -/
theorem pre_mem : ∀ (T : CT) (x : CV), x ∈ T.pre → x.th.cnt < T.cnt ∧ x.el.cnt < T.cnt ∧ (∀ y ∈ x.th.pre, y ∈ T.pre) ∧ (∀ y ∈ x.el.pre, y ∈ T.pre)
  | .nil, x, h => by cases h
  | .cons k t c N s th u el r, x, h => by
    have e : (CT.cons k t c N s th u el r).cnt = 1 + th.cnt + el.cnt + r.cnt := CV.cnt_ct ⟨k, t, c, N, s, th, u, el⟩ r
    have p : (CT.cons k t c N s th u el r).pre = ⟨k, t, c, N, s, th, u, el⟩ :: (th.pre ++ (el.pre ++ r.pre)) := rfl
    rw [p] at h ⊢
    rcases List.mem_cons.1 h with rfl | h
    · exact ⟨by dsimp only; omega, by dsimp only; omega, fun y hy => List.mem_cons_of_mem _ (List.mem_append_left _ hy), fun y hy => List.mem_cons_of_mem _ (List.mem_append_right _ (List.mem_append_left _ hy))⟩
    rcases List.mem_append.1 h with h | h
    · obtain ⟨a, b, c1, d⟩ := pre_mem th x h
      exact ⟨by omega, by omega, fun y hy => List.mem_cons_of_mem _ (List.mem_append_left _ (c1 y hy)), fun y hy => List.mem_cons_of_mem _ (List.mem_append_left _ (d y hy))⟩
    rcases List.mem_append.1 h with h | h
    · obtain ⟨a, b, c1, d⟩ := pre_mem el x h
      exact ⟨by omega, by omega, fun y hy => List.mem_cons_of_mem _ (List.mem_append_right _ (List.mem_append_left _ (c1 y hy))), fun y hy => List.mem_cons_of_mem _ (List.mem_append_right _ (List.mem_append_left _ (d y hy)))⟩
    · obtain ⟨a, b, c1, d⟩ := pre_mem r x h
      exact ⟨by omega, by omega, fun y hy => List.mem_cons_of_mem _ (List.mem_append_right _ (List.mem_append_right _ (c1 y hy))), fun y hy => List.mem_cons_of_mem _ (List.mem_append_right _ (List.mem_append_right _ (d y hy)))⟩
theorem vm_mem {w : World} : ∀ (T : CT) (ad : Addr) (i : Nat), CTm w T ad i → ∀ x ∈ T.pre, VM w x := by
  intro T
  induction T with
  | nil => intro ad i h x hx; cases hx
  | cons k t c N s th u el r i1 i2 i3 =>
    intro ad i h x hx
    have q := ctm_ct (x := ⟨k, t, c, N, s, th, u, el⟩) (r := r) h
    rcases List.mem_cons.1 hx with rfl | hx
    · exact q.2.1
    rcases List.mem_append.1 hx with hx | hx
    · cases ha : s.a with
      | none =>
        have e := CT.len_nil (q.2.1.s.len.trans (q.2.1.s.nil ha).1)
        dsimp only at e
        rw [e] at hx; cases hx
      | some a2 => exact i1 a2 0 (q.2.1.s.cells a2 ha) x hx
    rcases List.mem_append.1 hx with hx | hx
    · cases ha : u.a with
      | none =>
        have e := CT.len_nil (q.2.1.u.len.trans (q.2.1.u.nil ha).1)
        dsimp only at e
        rw [e] at hx; cases hx
      | some a2 => exact i2 a2 0 (q.2.1.u.cells a2 ha) x hx
    · exact i3 ad (i + 1) q.2.2 x hx
theorem ST.vm {w : World} {s : Sl} {T : CT} (h : ST w s T) : ∀ x ∈ T.pre, VM w x := by
  intro x hx
  cases ha : s.a with
  | none =>
    have e := CT.len_nil (h.len.trans (h.nil ha).1)
    rw [e] at hx; cases hx
  | some ad => exact vm_mem T ad 0 (h.cells ad ha) x hx
/-- A copy of the node at the place, in memory of its own; or the zero node and false. -/
def RetKN (r : Option CV) (w : World) (e : Ending) (w' : World) : Prop := ∃ y : CV, e = .returned (.tuple #[.agg y.cs, .bool r.isSome]) ∧ EqN (r.getD cz) y ∧ VM w' y ∧ w.grownBy w' none
theorem cz_vm (w : World) : VM w cz := ⟨⟨rfl, fun _ => ⟨rfl, rfl⟩, Nat.le_refl _, (fun ad e => by cases e), (fun x hx => by cases hx)⟩, ST.nilv w, ST.nilv w⟩
theorem results_cells2 {fn : Func} {p q : Tmp} {ty ty2 : TypeId} (h : fn.results = #[.cell p ty, .cell q ty2]) (tmps : Array Value) (P : Program) (w : World) :
    (results fn tmps).run P w = ((asAddr (tmps.getD p undef)).run P w).andThen fun a w₁ => ((loadVar ty a).run P w₁).andThen fun v w₂ => ((asAddr (tmps.getD q undef)).run P w₂).andThen fun a2 w₃ => ((loadVar ty2 a2).run P w₃).andThen fun v2 w₄ => .ok (.tuple #[v, v2]) w₄ := by
  simp only [results, h]
  simp [Sem.run_bind, Result.andThen]
set_option maxRecDepth 100000 in
set_option maxHeartbeats 16000000 in
theorem knode_any (w : World) (s : Sl) (T : CT) (hS : ST w s T) (hc : T.cnt ≤ 1000000) (hcd : Cnd T) (at_ : Int) : Calls Try.prog 30 #[.slice s.a s.n s.c, .int .i64 at_] w (RetKN (nodA T.pre at_) w) := by
  have HS := Lib.hid hS
  have HC := Lib.hid hc
  have HCD := Lib.hid hcd
  clear hS hc hcd
  refine (callsIn_wide (n := 5)).1 ?_
  refine callsIn_of_wp_marks Try.func30 rfl trivial ?_ rfl
  simp only [Try.ntmps30, List.size_toArray, List.length_cons, List.length_nil, Nat.reduceAdd, Nat.reduceSub, Array.replicate_succ, Array.replicate_zero, List.push_toArray, List.append_toArray, List.nil_append, List.cons_append]
  gi_wp2_with ((first | refine ⟨trivial, wd _, ?_⟩ | refine ⟨trivial, ?_⟩); gi_at_call 73; refine (callsIn_wide.2 (preo_any _ _ _ _)).mono ?_; rintro e w4 ⟨rfl, rfl⟩)
  obtain ⟨w1, hw1⟩ : ∃ w1, w1 = w.alloc (.cells #[.int .i64 at_] 3) := ⟨_, rfl⟩
  obtain ⟨w2, hw2⟩ : ∃ w2, w2 = w1.alloc (.cells #[.int .i64 0, .int .i64 0, .slice none 0 0, .slice none 0 0, .slice none 0 0] 67) := ⟨_, rfl⟩
  obtain ⟨w3, hw3⟩ : ∃ w3, w3 = w2.alloc (.cells #[.bool false] 4) := ⟨_, rfl⟩
  obtain ⟨w4, hw4⟩ : ∃ w4, w4 = w3.alloc (.cells #[.int .i64 0] 3) := ⟨_, rfl⟩
  obtain ⟨w5, hw5⟩ : ∃ w5, w5 = w4.alloc (.cells #[.slice s.a s.n s.c] 28) := ⟨_, rfl⟩
  have S1 : w1.heap.size = w.heap.size + 1 := by rw [hw1, sz_al]
  have S2 : w2.heap.size = w.heap.size + 1 + 1 := by rw [hw2, sz_al, S1]
  have S3 : w3.heap.size = w.heap.size + 1 + 1 + 1 := by rw [hw3, sz_al, S2]
  have S4 : w4.heap.size = w.heap.size + 1 + 1 + 1 + 1 := by rw [hw4, sz_al, S3]
  have S5 : w5.heap.size = w.heap.size + 1 + 1 + 1 + 1 + 1 := by rw [hw5, sz_al, S4]
  have A1 := IsB.new w 3 #[.int .i64 at_]
  have A2 := IsB.new w1 67 #[.int .i64 0, .int .i64 0, .slice none 0 0, .slice none 0 0, .slice none 0 0]
  have A3 := IsB.new w2 4 #[.bool false]
  have A4 := IsB.new w3 3 #[.int .i64 0]
  have A5 := IsB.new w4 28 #[.slice s.a s.n s.c]
  rw [S1] at A2
  rw [S2] at A3
  rw [S3] at A4
  rw [S4] at A5
  have G1 := gb_alloc w (.cells #[.int .i64 at_] 3) none
  have G2 := gb_alloc w1 (.cells #[.int .i64 0, .int .i64 0, .slice none 0 0, .slice none 0 0, .slice none 0 0] 67) none
  have G3 := gb_alloc w2 (.cells #[.bool false] 4) none
  have G4 := gb_alloc w3 (.cells #[.int .i64 0] 3) none
  have G5 := gb_alloc w4 (.cells #[.slice s.a s.n s.c] 28) none
  rw [← hw1] at A1 G1 ⊢
  rw [← hw2] at A2 G2 ⊢
  rw [← hw3] at A3 G3 ⊢
  rw [← hw4] at A4 G4 ⊢
  rw [← hw5] at A5 G5 ⊢
  have L1 := Lib.hid (A1.keep0 (gb_trans (gb_trans G2 G3) (gb_trans G4 G5)))
  have L2 := Lib.hid (A2.keep0 (gb_trans G3 (gb_trans G4 G5)))
  have L3 := Lib.hid (A3.keep0 (gb_trans G4 G5))
  have L4 := Lib.hid (A4.keep0 G5)
  have L5 := Lib.hid A5
  have GG := Lib.hid (gb_trans (gb_trans G1 G2) (gb_trans G3 (gb_trans G4 G5)))
  have SS := Lib.hid S5
  clear hw1 hw2 hw3 hw4 hw5 S1 S2 S3 S4 S5 A1 A2 A3 A4 A5 G1 G2 G3 G4 G5
  obtain ⟨z, hz⟩ : ∃ z, z = w.heap.size := ⟨_, rfl⟩
  have HZ := Lib.hid hz
  rw [← hz] at L1 L2 L3 L4 L5 SS ⊢
  clear hz
  refine wpIn_rangeX rfl (by omega) (gf := 103) (lb := #[.pointer (some ⟨z + 1 + 1 + 1 + 1, 0, none⟩)]) rfl trivial (enters_of Try.func103 (by kernel_rfl) rfl) (encs := enC) (TC := TOB z (z + 1 + 1 + 1 + 1)) (TI := TZ) (xs := T.pre)
    (fun W2 gW hsz => preo_seq w W2 _ (TOB z (z + 1 + 1 + 1 + 1)) (fun k t h e => by have e := e.1; have := HZ.out; omega) (fun k h e => by have e := e.2; have := SS.out; omega) s T HC.out HS.out (Kc.of_gb (gb_trans GG.out gW)) (z + 1 + 1 + 1 + 1) (L5.out.keep0 gW)) (fun _ => rfl)
    (fun pre w6 => IsB w6 z 3 #[.int .i64 at_] ∧ (∃ u0 u1 u2 u3 u4, IsB w6 (z + 1) 67 #[u0, u1, u2, u3, u4]) ∧ (∃ b, IsB w6 (z + 1 + 1) 4 #[.bool b]) ∧ IsB w6 (z + 1 + 1 + 1) 3 #[.int .i64 (pre.length : Int)] ∧ w.grownBy w6 none ∧ ¬ (0 ≤ at_ ∧ at_ < (pre.length : Int)))
    (fun c pre w6 => c = .ret ∧ ∃ x y : CV, nodA T.pre at_ = some x ∧ EqN x y ∧ VM w6 y ∧ IsB w6 (z + 1) 67 y.cs ∧ IsB w6 (z + 1 + 1) 4 #[.bool true] ∧ w.grownBy w6 none)
    (fun t A C h k => by
      obtain ⟨h1, ⟨u0, u1, u2, u3, u4, h2⟩, ⟨b, h4⟩, h5, h6, h7⟩ := h
      exact ⟨k.isb h1 kiz, ⟨_, _, _, _, _, k.isb h2 kiz⟩, ⟨b, k.isb h4 kiz⟩, k.isb h5 kiz, k.from_ h6 (fun i o hi => kiz_low (by have := SS.out; have := HZ.out; omega) hi), h7⟩)
    (fun c t A C h k => by
      obtain ⟨e, x, y, h1, h2, h3, h4, h5, h6⟩ := h
      exact ⟨e, x, y, h1, h2, h3.keepc (kc_tz k), k.isb h4 kiz, k.isb h5 kiz, k.from_ h6 (fun i o hi => kiz_low (by have := SS.out; have := HZ.out; omega) hi)⟩)
    ⟨L1.out, ⟨_, _, _, _, _, L2.out⟩, ⟨_, L3.out⟩, L4.out, GG.out, by simp⟩ ?round ?done ?stop
  case round =>
    rintro l2 pre x W5 hp ⟨v1, ⟨u0, u1, u2, u3, u4, v2⟩, ⟨b, v3⟩, v4, g5, hna⟩
    have PC := Lib.hid (show pre.length + 1 ≤ T.cnt by have h := hp.length_le; unfold CT.cnt; simp at h; omega)
    have XM := Lib.hid (show x ∈ T.pre from hp.subset (by simp))
    have XA := Lib.hid (show T.pre.getD pre.length cz = x by obtain ⟨t, ht⟩ := hp; rw [← ht]; simp)
    obtain ⟨p1, p2, p3, p4⟩ := pre_mem T x XM.out
    have CN := Lib.hid (fun (w2 : World) (hx : VM w2 x) => cnode_any w2 x (by have := HC.out; omega) (by have := HC.out; omega) (fun y hy => HCD.out y (p3 y hy)) (fun y hy => HCD.out y (p4 y hy)) (HCD.out x XM.out) hx)
    have VX := Lib.hid (HS.out.vm x XM.out)
    unfold RetCV at CN
    clear p1 p2 p3 p4
    dsimp only [enC]
    gi_wp2
    refine ⟨gb_alloc _ _ none, fun W6 k6 kk6 => ?_⟩
    have X6 := Lib.hid (show IsB W6 W5.heap.size 67 #[.int .i64 x.k, .int .i64 x.t, .slice x.c.a x.c.n x.c.c, .slice x.s.a x.s.n x.s.c, .slice x.u.a x.u.n x.u.c] from k6.isb (IsB.new _ _ _) id)
    have V1 := Lib.hid (kk6.isb v1 kiz)
    have V2 := Lib.hid (kk6.isb v2 kiz)
    have V3 := Lib.hid (kk6.isb v3 kiz)
    have V4 := Lib.hid (kk6.isb v4 kiz)
    have G6 := Lib.hid (kk6.from_ g5 (fun i o hi => kiz_low (by have := SS.out; have := HZ.out; omega) hi))
    have HNA := Lib.hid hna
    have x0 := X6.out.cell 0
    have x1 := X6.out.cell 1
    have x2 := X6.out.cell 2
    have x3 := X6.out.cell 3
    have x4 := X6.out.cell 4
    dsimp at x0 x1 x2 x3 x4
    have c1 : W6.cell? ⟨z, 0, none⟩ = some (.int .i64 at_) := V1.out.cell 0
    have c4 : W6.cell? ⟨z + 1 + 1 + 1, 0, none⟩ = some (.int .i64 (pre.length : Int)) := V4.out.cell 0
    have f4 := V4.out.free 0
    have hwj : wrap64 ((pre.length : Int) + 1) = (pre.length : Int) + 1 := by have := PC.out; have := HC.out; rw [IntWalk.wrap64_in _ (by omega)]
    clear v1 v2 v3 v4 g5 k6 kk6 hp hna
    by_cases he : at_ = (pre.length : Int)
    · subst he
      gi_wp2_with ((first | refine ⟨trivial, wd _, ?_⟩ | refine ⟨trivial, ?_⟩); gi_at_call 77; refine (callsIn_wide.2 (CN.out _ (VX.out.keep0 G6.out))).mono ?_; rintro e w7 ⟨y, rfl, eq7, rob7, g7⟩; have EQ7 := Lib.hid eq7; have RO7 := Lib.hid rob7; have G7 := Lib.hid g7; have U2 := Lib.hid (V2.out.keep0 g7); have U3 := Lib.hid (V3.out.keep0 g7); have q0 := U2.out.free 0; have q1 := U2.out.free 1; have q2 := U2.out.free 2; have q3 := U2.out.free 3; have q4 := U2.out.free 4; have q5 := U3.out.free 0; have k0 := U2.out.cell 0; have k1 := U2.out.cell 1; have k2 := U2.out.cell 2; have k3 := U2.out.cell 3; have k4 := U2.out.cell 4; have k5 := U3.out.cell 0; dsimp at k0 k1 k2 k3 k4 k5; clear eq7 rob7 g7 x0 x1 x2 x3 x4 c1 c4 f4)
      have YS := Lib.hid (show nodA T.pre (pre.length : Int) = some x by
        unfold nodA
        rw [if_pos ⟨by omega, by have := PC.out; show (pre.length : Int) < (T.cnt : Int); omega⟩, Int.toNat_natCast, XA.out])
      have s0 := U2.out.set 0 (.int .i64 y.k)
      have s1 := s0.set 1 (.int .i64 y.t)
      have s2 := s1.set 2 (.slice y.c.a y.c.n y.c.c)
      have s3 := s2.set 3 (.slice y.s.a y.s.n y.s.c)
      have s4 := s3.set 4 (.slice y.u.a y.u.n y.u.c)
      have t0 := (((((U3.out.set_far (g2 := z + 1) (by omega) 0 (.int .i64 y.k)).set_far (g2 := z + 1) (by omega) 1 (.int .i64 y.t)).set_far (g2 := z + 1) (by omega) 2 (.slice y.c.a y.c.n y.c.c)).set_far (g2 := z + 1) (by omega) 3 (.slice y.s.a y.s.n y.s.c)).set_far (g2 := z + 1) (by omega) 4 (.slice y.u.a y.u.n y.u.c))
      have hz1 : w.heap.size ≤ z + 1 := by rw [HZ.out]; omega
      have hz2 : w.heap.size ≤ z + 1 + 1 := by rw [HZ.out]; omega
      have far : ∀ k, z + 1 + 1 + 1 ≤ k → ((((((w7.setCell ⟨z + 1, 0, none⟩ (.int .i64 y.k)).setCell ⟨z + 1, 1, none⟩ (.int .i64 y.t)).setCell ⟨z + 1, 2, none⟩ (.slice y.c.a y.c.n y.c.c)).setCell ⟨z + 1, 3, none⟩ (.slice y.s.a y.s.n y.s.c)).setCell ⟨z + 1, 4, none⟩ (.slice y.u.a y.u.n y.u.c)).setCell ⟨z + 1 + 1, 0, none⟩ (.bool true)).heap[k]? = w7.heap[k]? := by
        intro k hk
        iterate 6 rw [Below.heap_setCell _ _ _ _ (by dsimp only; omega)]
      have szl : z + 1 + 1 + 1 + 1 ≤ W6.heap.size := (Array.getElem?_eq_some_iff.1 V4.out).1
      have kb : ∀ (A : World) (c : Nat) (v : Value) (q : Nat), z ≤ q → q < z + 1 + 1 + 1 + 1 → (∃ cs t, IsB A q t cs) → Kt (KB (TOB z (z + 1 + 1 + 1 + 1)) w5.heap.size) A (A.setCell ⟨q, c, none⟩ v) := by
        rintro A c v q h1 h2 ⟨cs, t, hb⟩
        exact Kt.of_row (gb_set _ _ _ _) (fun o h => by rw [show A.heap[q]? = _ from hb] at h; cases h; exact ⟨h1, h2⟩)
      refine ⟨(Kt.of_gb G7.out).trans ((kb _ 0 _ _ (by omega) (by omega) ⟨_, _, U2.out⟩).trans ((kb _ 1 _ _ (by omega) (by omega) ⟨_, _, s0⟩).trans ((kb _ 2 _ _ (by omega) (by omega) ⟨_, _, s1⟩).trans ((kb _ 3 _ _ (by omega) (by omega) ⟨_, _, s2⟩).trans ((kb _ 4 _ _ (by omega) (by omega) ⟨_, _, s3⟩).trans (kb _ 0 _ _ (by omega) (by omega) ⟨_, _, t0⟩)))))), rfl, x, y, YS.out, EQ7.out, RO7.out _ (fun k h1 h2 => far k (by omega)), s4.set_far (by omega) _ _, t0.set 0 (.bool true), ?_⟩
      exact gb_put (gb_put (gb_put (gb_put (gb_put (gb_put (gb_trans G6.out G7.out) hz1) hz1) hz1) hz1) hz1) hz2
    · have e1 : ((pre.length : Int) == at_) = false := by rw [beq_eq_false_iff_ne]; omega
      have e2 : decide ((pre.length : Int) = at_) = false := decide_eq_false (by omega)
      have e3 : ¬ (pre.length : Int) = at_ := by omega
      gi_wp2
      refine ⟨Kt.of_row (gb_set _ _ _ _) (fun o h => by rw [show W6.heap[z + 1 + 1 + 1]? = _ from V4.out] at h; cases h; exact ⟨by omega, by omega⟩), V1.out.set_far (by omega) _ _, ⟨_, _, _, _, _, V2.out.set_far (by omega) _ _⟩, ⟨_, V3.out.set_far (by omega) _ _⟩, ?_, gb_put G6.out (by rw [HZ.out]; omega), by have := HNA.out; simp; omega⟩
      have q := V4.out.set 0 (.int .i64 ((pre.length : Int) + 1))
      rw [show (((pre ++ [x]).length : Nat) : Int) = (pre.length : Int) + 1 by simp]
      exact q
  case done =>
    rintro D w6 hD ⟨v1, ⟨u0, u1, u2, u3, u4, v2⟩, ⟨b, v3⟩, v4, g5, hna⟩ hK
    have NO := Lib.hid (show nodA T.pre at_ = none by unfold nodA; rw [if_neg hna])
    have q0 := v2.free 0
    have q1 := v2.free 1
    have q2 := v2.free 2
    have q3 := v2.free 3
    have q4 := v2.free 4
    have q5 := v3.free 0
    have k0 := v2.cell 0
    have k1 := v2.cell 1
    have k2 := v2.cell 2
    have k3 := v2.cell 3
    have k4 := v2.cell 4
    have k5 := v3.cell 0
    dsimp at k0 k1 k2 k3 k4 k5
    have V2 := Lib.hid v2
    have V3 := Lib.hid v3
    have G5 := Lib.hid g5
    have HK := Lib.hid hK
    have HD := Lib.hid hD
    clear v1 v2 v3 v4 g5 hna hK hD
    gi_wp2
    have far : ∀ k, z + 1 + 1 + 1 ≤ k → ((((((w6.setCell ⟨z + 1, 0, none⟩ (.int .i64 0)).setCell ⟨z + 1, 1, none⟩ (.int .i64 0)).setCell ⟨z + 1, 2, none⟩ (.slice none 0 0)).setCell ⟨z + 1, 3, none⟩ (.slice none 0 0)).setCell ⟨z + 1, 4, none⟩ (.slice none 0 0)).setCell ⟨z + 1 + 1, 0, none⟩ (.bool false)).heap[k]? = w6.heap[k]? := by
      intro k hk
      iterate 6 rw [Below.heap_setCell _ _ _ _ (by dsimp only; omega)]
    have hk' := (far D (by have := HD.out; have := SS.out; omega)).trans HK.out
    refine ⟨by simp, .inl ⟨_, _, rfl, run_takeDeferred hk', ?_⟩⟩
    have k := Kt.put (own := KI TZ w5.heap.size) (.deferred none) (fun o h => by rw [hk'] at h; cases h; exact ⟨HD.out, trivial⟩)
    have s0 := V2.out.set 0 (.int .i64 0)
    have s1 := s0.set 1 (.int .i64 0)
    have s2 := s1.set 2 (.slice none 0 0)
    have s3 := s2.set 3 (.slice none 0 0)
    have s4 := s3.set 4 (.slice none 0 0)
    have t0 := (((((V3.out.set_far (g2 := z + 1) (by omega) 0 (.int .i64 0)).set_far (g2 := z + 1) (by omega) 1 (.int .i64 0)).set_far (g2 := z + 1) (by omega) 2 (.slice none 0 0)).set_far (g2 := z + 1) (by omega) 3 (.slice none 0 0)).set_far (g2 := z + 1) (by omega) 4 (.slice none 0 0)).set 0 (.bool false)
    have r4 := k.isb (s4.set_far (g2 := z + 1 + 1) (by omega) 0 (.bool false)) kiz
    have r5 := k.isb t0 kiz
    have m0 := r4.cell 0
    have m1 := r4.cell 1
    have m2 := r4.cell 2
    have m3 := r4.cell 3
    have m4 := r4.cell 4
    have m5 := r5.cell 0
    (try dsimp at m0 m1 m2 m3 m4 m5)
    have hz1 : w.heap.size ≤ z + 1 := by rw [HZ.out]; omega
    have hz2 : w.heap.size ≤ z + 1 + 1 := by rw [HZ.out]; omega
    refine ⟨.tuple #[.agg cz.cs, .bool false], by rw [results_cells2 rfl]; go_simp; exact ⟨rfl, rfl, ⟨rfl, rfl, rfl⟩, ⟨rfl, rfl, rfl⟩, rfl, rfl, rfl⟩, cz, ?_, ?_, cz_vm _, k.from_ (gb_put (gb_put (gb_put (gb_put (gb_put (gb_put G5.out hz1) hz1) hz1) hz1) hz1) hz2) (fun i o hi => kiz_low (by have := SS.out; have := HZ.out; omega) hi)⟩
    · rw [NO.out] <;> rfl
    · rw [NO.out]; exact EqN.refl _
  case stop =>
    rintro D c pre w6 hD hp ⟨rfl, x, y, h1, h2, h3, h4, h5, h6⟩ hK
    have YS := Lib.hid h1
    have EQ := Lib.hid h2
    have VY := Lib.hid h3
    have V2 := Lib.hid h4
    have V3 := Lib.hid h5
    have G5 := Lib.hid h6
    clear h1 h2 h3 h4 h5 h6
    gi_wp2
    refine ⟨by simp, .inl ⟨_, _, rfl, run_takeDeferred hK, ?_⟩⟩
    have k : Kt (KI TZ w5.heap.size) w6 (w6.putObj D (.deferred none)) := Kt.put _ fun o h => by rw [hK] at h; cases h; exact ⟨hD, trivial⟩
    have r4 := k.isb V2.out kiz
    have r5 := k.isb V3.out kiz
    have m0 := r4.cell 0
    have m1 := r4.cell 1
    have m2 := r4.cell 2
    have m3 := r4.cell 3
    have m4 := r4.cell 4
    have m5 := r5.cell 0
    (try dsimp at m0 m1 m2 m3 m4 m5)
    refine ⟨.tuple #[.agg y.cs, .bool true], by rw [results_cells2 rfl]; go_simp, y, ?_, ?_, VY.out.keepc (kc_tz k), k.from_ G5.out (fun i o hi => kiz_low (by have := SS.out; have := HZ.out; omega) hi)⟩
    · rw [YS.out] <;> rfl
    · rw [YS.out]; exact EQ.out
end Go.Proofs.Ytdbjeihbfooipaa
