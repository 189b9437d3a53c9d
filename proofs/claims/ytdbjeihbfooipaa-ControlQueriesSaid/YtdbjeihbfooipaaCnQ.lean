/- Control: the program's Check; no condition but that the tree lies in memory and is not large, and the tables are not many. -/
import Derived.Test.YtdbjeihbfooipaaCnP
import Derived.Test.YtdbjeihbfooipaaCnH
import Derived.Test.YtdbjeihbfooipaaCnF
import Derived.Test.YtdbjeihbfooipaaCnN
import Derived.Test.YtdbjeihbfooipaaMt
import Derived.Test.YtdbjeihbfooipaaOrI
namespace Go.Proofs.Ytdbjeihbfooipaa
open Go.RowKit Go.Shelf
set_option linter.unusedVariables false
attribute [local go_sem] Oper.semAt_some

/-- The first node with a fault: its place and the fault. -/
def chkL (H : List (ByteArray × List Fld)) (M : List Fld) (tn : Nat) : List CV → List Int → Nat → Int × Int
  | [], _, _ => (0, 0)
  | x :: l, ap, i => if nodE H M tn ap x = 0 then chkL H M tn l (if appl' x = true then ap ++ [x.t] else ap) (i + 1) else ((i : Int), nodE H M tn ap x)
def chkC (H : List (ByteArray × List Fld)) (M : List Fld) (tn : Nat) (T : CT) : Int × Int :=
  if 24 < T.cnt then (-1, 12) else if 6 < T.nest then (-1, 14) else chkL H M tn T.pre [] 0
theorem tabL_step (pre : List CV) (x : CV) : (if appl' x = true then tabL pre ++ [x.t] else tabL pre) = tabL (pre ++ [x]) := by
  have e : appl' x = appl x := rfl
  rw [e]
  cases h : appl x with
  | true => rw [if_pos rfl, tabL_yes _ _ h]
  | false => rw [if_neg (by decide), tabL_no _ _ h]
theorem mi_same {w w2 : World} {b : Nat} {S : List Int} (h : MI w b S) (k : ∀ o, w.heap[b]? = some o → (∀ cs t m, o ≠ .cells cs t m) → w2.heap[b]? = some o) : MI w2 b S := by
  obtain ⟨D, n, h1, h2, h3⟩ := h
  obtain ⟨es, clock, hb, r⟩ := h1
  exact ⟨D, n, ⟨es, clock, k _ hb (by intros; simp), r⟩, h2, h3⟩
theorem CK.kt {B : Nat} {A C : World} {cb mb : Nat} {X : KX} {ap : List Int} (h : CK A cb mb X ap) (k : Kt (KI TZ B) A C) (hb : mb < B) : CK C cb mb X ap :=
  ⟨k.isb h.c kiz, mi_same h.m (fun o ho _ => k.same _ _ ho (fun q => by have := q.1; omega)), h.ne⟩
theorem CK.set {w : World} {cb mb : Nat} {X : KX} {ap : List Int} (h : CK w cb mb X ap) {g : Nat} (h1 : g ≠ cb) (h2 : g ≠ mb) (i : Nat) (v : Value) : CK (w.setCell ⟨g, i, none⟩ v) cb mb X ap :=
  ⟨h.c.set_far (Ne.symm h1) _ _, h.m.keep (gb_set w g i v) (by intro e; injection e with e; exact h2 e.symm), h.ne⟩
theorem opF_skip {F : Fence} {n : Nat} {P : Program} {ops : Array Oper} {o : Oper} {a : Act} {w w1 : World} {K : Act → World → Prop} {Q : Exit → Act → World → Prop} {Z : Prop} (hgd : o.guard = none) (nd : ∀ c, o.op ≠ .defer c) (ha : o.about P w a.eval = none)
    (hr : (execOp a.eval o).run P w = .ok .skip w1) (h : K (a.put o.dst undef) w1) : if Region.wanted o (yielded ops a.tmps) = true then Oper.wpIn F n P o a w K Q else Z := by
  have hw : Region.wanted o (yielded ops a.tmps) = true := by simp [Region.wanted, hgd]
  rw [if_pos hw]
  unfold Oper.wpIn
  refine ⟨fun f hf => (by rw [ha] at hf; cases hf), ?_⟩
  rw [Oper.semAt_eq _ _ _ nd, hr]
  unfold Oper.uponIn
  exact h
def RetCk (r : Int × Int) (w : World) (e : Ending) (w' : World) : Prop := e = .returned (.tuple #[.int .i64 r.1, .int .i64 r.2]) ∧ w.grownBy w' none
set_option maxRecDepth 100000 in
set_option maxHeartbeats 16000000 in
theorem kchk_any (w : World) (X : KX) (H : List (ByteArray × List Fld)) (M : List Fld) (T : CT) (hS : ST w ⟨X.a4, X.n4, X.c4⟩ T) (hp : PR w X H M) (hc : T.cnt ≤ 1000000) (hT : X.n2 ≤ 1000000) :
    Calls Try.prog 28 #[.agg #[.string X.nm, .slice X.ha X.hn X.hc, .slice X.ma X.mn X.mc, .slice X.a0 X.n0 X.c0, .slice X.a1 X.n1 X.c1, .slice X.a2 X.n2 X.c2, .slice X.a3 X.n3 X.c3, .slice X.a4 X.n4 X.c4, .slice X.a5 X.n5 X.c5]] w (RetCk (chkC H M X.n2 T) w) := by
  have HS := Lib.hid hS
  have HP := Lib.hid hp
  have HC := Lib.hid hc
  have HT := Lib.hid hT
  have MO := Lib.hid (fun (w2 : World) (g : w.grownBy w2 none) => more_any w2 ⟨X.a4, X.n4, X.c4⟩ T (hS.keep0 g) hc 24 (by decide))
  have NE := Lib.hid (fun (w2 : World) (g : w.grownBy w2 none) => knest_any w2 ⟨X.a4, X.n4, X.c4⟩ T (hS.keep0 g) hc)
  have CE := Lib.hid (show chkC H M X.n2 T = if 24 < T.cnt then (-1, 12) else if 6 < T.nest then (-1, 14) else chkL H M X.n2 T.pre [] 0 from rfl)
  unfold RetV at MO NE
  dsimp only at MO NE
  clear hS hp hc hT
  refine (callsIn_wide (n := 5)).1 ?_
  obtain ⟨w1, hw1⟩ : ∃ w1, w1 = w.alloc (.cells #[.string X.nm, .slice X.ha X.hn X.hc, .slice X.ma X.mn X.mc, .slice X.a0 X.n0 X.c0, .slice X.a1 X.n1 X.c1, .slice X.a2 X.n2 X.c2, .slice X.a3 X.n3 X.c3, .slice X.a4 X.n4 X.c4, .slice X.a5 X.n5 X.c5] 31) := ⟨_, rfl⟩
  obtain ⟨w2, hw2⟩ : ∃ w2, w2 = w1.alloc (.cells #[.int .i64 0] 3) := ⟨_, rfl⟩
  obtain ⟨w3, hw3⟩ : ∃ w3, w3 = w2.alloc (.cells #[.int .i64 0] 55) := ⟨_, rfl⟩
  have S1 : w1.heap.size = w.heap.size + 1 := by rw [hw1, sz_al]
  have S2 : w2.heap.size = w.heap.size + 1 + 1 := by rw [hw2, sz_al, S1]
  have S3 : w3.heap.size = w.heap.size + 1 + 1 + 1 := by rw [hw3, sz_al, S2]
  have A1 := IsB.new w 31 #[.string X.nm, .slice X.ha X.hn X.hc, .slice X.ma X.mn X.mc, .slice X.a0 X.n0 X.c0, .slice X.a1 X.n1 X.c1, .slice X.a2 X.n2 X.c2, .slice X.a3 X.n3 X.c3, .slice X.a4 X.n4 X.c4, .slice X.a5 X.n5 X.c5]
  have A2 := IsB.new w1 3 #[.int .i64 0]
  have A3 := IsB.new w2 55 #[.int .i64 0]
  rw [S1] at A2
  rw [S2] at A3
  have G1 := gb_alloc w (.cells #[.string X.nm, .slice X.ha X.hn X.hc, .slice X.ma X.mn X.mc, .slice X.a0 X.n0 X.c0, .slice X.a1 X.n1 X.c1, .slice X.a2 X.n2 X.c2, .slice X.a3 X.n3 X.c3, .slice X.a4 X.n4 X.c4, .slice X.a5 X.n5 X.c5] 31) none
  have G2 := gb_alloc w1 (.cells #[.int .i64 0] 3) none
  have G3 := gb_alloc w2 (.cells #[.int .i64 0] 55) none
  rw [← hw1] at A1 G1
  rw [← hw2] at A2 G2
  rw [← hw3] at A3 G3
  have L1 := Lib.hid (A1.keep0 (gb_trans G2 G3))
  have L2 := Lib.hid (A2.keep0 G3)
  have L3 := Lib.hid A3
  have GG := Lib.hid (gb_trans G1 (gb_trans G2 G3))
  have SS := Lib.hid S3
  have W3 := Lib.hid (show w3 = ((w.alloc (.cells #[.string X.nm, .slice X.ha X.hn X.hc, .slice X.ma X.mn X.mc, .slice X.a0 X.n0 X.c0, .slice X.a1 X.n1 X.c1, .slice X.a2 X.n2 X.c2, .slice X.a3 X.n3 X.c3, .slice X.a4 X.n4 X.c4, .slice X.a5 X.n5 X.c5] 31)).alloc (.cells #[.int .i64 0] 3)).alloc (.cells #[.int .i64 0] 55) by rw [hw3, hw2, hw1])
  clear hw1 hw2 hw3 S1 S2 S3 A1 A2 A3 G1 G2 G3
  obtain ⟨z, hz⟩ : ∃ z, z = w.heap.size := ⟨_, rfl⟩
  have HZ := Lib.hid hz
  rw [← hz] at L1 L2 L3 SS
  have ZI := Lib.hid (show w.heap.size ≤ z by omega)
  clear hz
  have c7 := L1.out.cell 7
  have k0 := L2.out.cell 0
  have k1 := L3.out.cell 0
  dsimp at c7 k0 k1
  have f0 := L2.out.free 0
  have f1 := L3.out.free 0
  refine callsIn_of_wp_marks Try.func28 rfl trivial ?_ rfl
  simp only [Try.ntmps28, List.size_toArray, List.length_cons, List.length_nil, Nat.reduceAdd, Nat.reduceSub, Array.replicate_succ, Array.replicate_zero, List.push_toArray, List.append_toArray, List.nil_append, List.cons_append]
  gi_wp2_with fail
  rw [← W3.out, ← HZ.out]
  clear W3
  refine ⟨trivial, ?_⟩
  by_cases hm : 24 < T.cnt
  · rw [decide_eq_true hm] at MO
    have CF := Lib.hid (show chkC H M X.n2 T = (-1, 12) by rw [CE.out, if_pos hm])
    refine (callsIn_wide.2 (MO.out _ GG.out)).mono ?_
    rintro e w4 ⟨rfl, g4⟩
    have G4 := Lib.hid (gb_trans GG.out g4)
    have M2 := Lib.hid (L2.out.keep0 g4)
    have M3 := Lib.hid (L3.out.keep0 g4)
    clear c7 k0 k1 f0 f1 g4 MO NE
    have k0 := M2.out.cell 0
    have k1 := M3.out.cell 0
    dsimp at k0 k1
    have f0 := M2.out.free 0
    have f1 := M3.out.free 0
    gi_wp2
    refine ⟨.tuple #[.int .i64 (-1), .int .i64 12], by rw [results_cells2 rfl]; go_simp, ?_⟩
    rw [CF.out]
    exact ⟨rfl, gb_put (gb_put G4.out (by have := ZI.out; omega)) (by have := ZI.out; omega)⟩
  rw [decide_eq_false hm] at MO
  rw [if_neg hm] at CE
  have CL := Lib.hid (show T.cnt ≤ 24 by omega)
  clear hm
  refine (callsIn_wide.2 (MO.out _ GG.out)).mono ?_
  rintro e w4 ⟨rfl, g4⟩
  have G4 := Lib.hid (gb_trans GG.out g4)
  have M1 := Lib.hid (L1.out.keep0 g4)
  have M2 := Lib.hid (L2.out.keep0 g4)
  have M3 := Lib.hid (L3.out.keep0 g4)
  have SZ4 := Lib.hid (show z + 1 + 1 + 1 ≤ w4.heap.size by have := g4.size; rw [SS.out] at this; exact this)
  clear c7 k0 k1 f0 f1 g4 MO L1 L2 L3 SS GG
  have c7 := M1.out.cell 7
  dsimp at c7
  by_cases hn : 6 < T.nest
  · have i6 : (6 : Int) < (T.nest : Int) := by omega
    have CF := Lib.hid (show chkC H M X.n2 T = (-1, 14) by rw [CE.out, if_pos hn])
    clear hn
    gi_wp2_with ((first | refine ⟨trivial, wd _, ?_⟩ | refine ⟨trivial, ?_⟩ | refine ⟨fun _ _ => trivial, ?_⟩); gi_at_call 34; refine (callsIn_wide.2 (NE.out _ G4.out)).mono ?_; rintro e w5 ⟨rfl, g5⟩; have G5 := Lib.hid (gb_trans G4.out g5); have N2 := Lib.hid (M2.out.keep0 g5); have N3 := Lib.hid (M3.out.keep0 g5); clear c7 g5 NE; have k0 := N2.out.cell 0; have k1 := N3.out.cell 0; have f0 := N2.out.free 0; have f1 := N3.out.free 0; dsimp at k0 k1)
    refine ⟨.tuple #[.int .i64 (-1), .int .i64 14], by rw [results_cells2 rfl]; go_simp, ?_⟩
    rw [CF.out]
    exact ⟨rfl, gb_put (gb_put G5.out (by have := ZI.out; omega)) (by have := ZI.out; omega)⟩
  have i6 : ¬ (6 : Int) < (T.nest : Int) := by omega
  rw [if_neg hn] at CE
  clear hn
  have hmm := @run_makeMap Try.prog
  gi_wp2_with (first
    | ((first | refine ⟨trivial, wd _, ?_⟩ | refine ⟨trivial, ?_⟩ | refine ⟨fun _ _ => trivial, ?_⟩); gi_at_call 34; refine (callsIn_wide.2 (NE.out _ G4.out)).mono ?_; rintro e w5 ⟨rfl, g5⟩; have G5 := Lib.hid (gb_trans G4.out g5); have N1 := Lib.hid (M1.out.keep0 g5); have N2 := Lib.hid (M2.out.keep0 g5); have N3 := Lib.hid (M3.out.keep0 g5); have SZ5 := Lib.hid (Nat.le_trans SZ4.out g5.size); clear c7 g5 NE; have c0 := N1.out.cell 0; have c1 := N1.out.cell 1; have c2 := N1.out.cell 2; have c3 := N1.out.cell 3; have c4 := N1.out.cell 4; have c5 := N1.out.cell 5; have c6 := N1.out.cell 6; have c7 := N1.out.cell 7; have c8 := N1.out.cell 8; dsimp at c0 c1 c2 c3 c4 c5 c6 c7 c8; have d7 : ((w5.alloc (.map #[] 0)).alloc (.cells #[.string X.nm, .slice X.ha X.hn X.hc, .slice X.ma X.mn X.mc, .slice X.a0 X.n0 X.c0, .slice X.a1 X.n1 X.c1, .slice X.a2 X.n2 X.c2, .slice X.a3 X.n3 X.c3, .slice X.a4 X.n4 X.c4, .slice X.a5 X.n5 X.c5, .map (some w5.heap.size)] 137)).cell? ⟨z, 7, none⟩ = some (.slice X.a4 X.n4 X.c4) := (N1.out.keep0 (gb_trans (gb_alloc w5 (.map #[] 0) none) (gb_alloc _ (.cells #[.string X.nm, .slice X.ha X.hn X.hc, .slice X.ma X.mn X.mc, .slice X.a0 X.n0 X.c0, .slice X.a1 X.n1 X.c1, .slice X.a2 X.n2 X.c2, .slice X.a3 X.n3 X.c3, .slice X.a4 X.n4 X.c4, .slice X.a5 X.n5 X.c5, .map (some w5.heap.size)] 137) none))).cell 7)
    | ((first | refine ⟨trivial, wd _, ?_⟩ | refine ⟨trivial, ?_⟩ | refine ⟨fun _ _ => trivial, ?_⟩); gi_at_call 73; refine (callsIn_wide.2 (preo_any _ _ _ _)).mono ?_; rintro e w6 ⟨rfl, rfl⟩))
  obtain ⟨w6, hw6⟩ : ∃ w6, w6 = w5.alloc (.map #[] 0) := ⟨_, rfl⟩
  obtain ⟨w7, hw7⟩ : ∃ w7, w7 = w6.alloc (.cells #[.string X.nm, .slice X.ha X.hn X.hc, .slice X.ma X.mn X.mc, .slice X.a0 X.n0 X.c0, .slice X.a1 X.n1 X.c1, .slice X.a2 X.n2 X.c2, .slice X.a3 X.n3 X.c3, .slice X.a4 X.n4 X.c4, .slice X.a5 X.n5 X.c5, .map (some w5.heap.size)] 137) := ⟨_, rfl⟩
  obtain ⟨w8, hw8⟩ : ∃ w8, w8 = w7.alloc (.cells #[.slice X.a4 X.n4 X.c4] 28) := ⟨_, rfl⟩
  have S6 : w6.heap.size = w5.heap.size + 1 := by rw [hw6, sz_al]
  have S7 : w7.heap.size = w5.heap.size + 1 + 1 := by rw [hw7, sz_al, S6]
  have S8 : w8.heap.size = w5.heap.size + 1 + 1 + 1 := by rw [hw8, sz_al, S7]
  have M6 := MI.new w5
  have A7 := IsB.new w6 137 #[.string X.nm, .slice X.ha X.hn X.hc, .slice X.ma X.mn X.mc, .slice X.a0 X.n0 X.c0, .slice X.a1 X.n1 X.c1, .slice X.a2 X.n2 X.c2, .slice X.a3 X.n3 X.c3, .slice X.a4 X.n4 X.c4, .slice X.a5 X.n5 X.c5, .map (some w5.heap.size)]
  have A8 := IsB.new w7 28 #[.slice X.a4 X.n4 X.c4]
  rw [S6] at A7
  rw [S7] at A8
  have G6 := gb_alloc w5 (.map #[] 0) none
  have G7 := gb_alloc w6 (.cells #[.string X.nm, .slice X.ha X.hn X.hc, .slice X.ma X.mn X.mc, .slice X.a0 X.n0 X.c0, .slice X.a1 X.n1 X.c1, .slice X.a2 X.n2 X.c2, .slice X.a3 X.n3 X.c3, .slice X.a4 X.n4 X.c4, .slice X.a5 X.n5 X.c5, .map (some w5.heap.size)] 137) none
  have G8 := gb_alloc w7 (.cells #[.slice X.a4 X.n4 X.c4] 28) none
  rw [← hw6] at M6 G6 ⊢
  rw [← hw7] at A7 G7 ⊢
  rw [← hw8] at A8 G8 ⊢
  have L2 := Lib.hid (N2.out.keep0 (gb_trans G6 (gb_trans G7 G8)))
  have L3 := Lib.hid (N3.out.keep0 (gb_trans G6 (gb_trans G7 G8)))
  have K8 := Lib.hid (show CK w8 (w5.heap.size + 1) w5.heap.size X [] from ⟨A7.keep0 G8, M6.keep0 (gb_trans G7 G8), by omega⟩)
  have L8 := Lib.hid A8
  have GG := Lib.hid (gb_trans G5.out (gb_trans G6 (gb_trans G7 G8)))
  have SS := Lib.hid S8
  obtain ⟨mb, hmb⟩ : ∃ mb, mb = w5.heap.size := ⟨_, rfl⟩
  have MZ := Lib.hid (show z + 1 + 1 + 1 ≤ mb by rw [hmb]; exact SZ5.out)
  rw [← hmb] at K8 L8 SS ⊢
  clear hw6 hw7 hw8 S6 S7 S8 M6 A7 A8 G6 G7 G8 hmb N1 N2 N3 G5 SZ5 M1 M2 M3 G4 SZ4 c0 c1 c2 c3 c4 c5 c6 c7 c8 d7 hmm
  have TL := Lib.hid (fun (pre : List CV) (h : pre <+: T.pre) => (show (tabL pre).length ≤ 1000 by have := tabL_len pre; have := h.length_le; have := CL.out; unfold CT.cnt at this; omega))
  refine wpIn_rangeX rfl (by omega) (gf := 103) (lb := #[.pointer (some ⟨mb + 1 + 1, 0, none⟩)]) rfl trivial (enters_of Try.func103 (by kernel_rfl) rfl) (encs := enC) (TC := TOB z (z + 1 + 1 + 1)) (TI := TZ) (xs := T.pre)
    (fun W2 gW hsz => preo_seq w W2 _ (TOB z (z + 1 + 1 + 1)) (fun k t h e => by have e := e.1; have := HZ.out; omega) (fun k h e => by have e := e.2; have := SS.out; have := MZ.out; omega) ⟨X.a4, X.n4, X.c4⟩ T HC.out HS.out (Kc.of_gb (gb_trans GG.out gW)) (mb + 1 + 1) (L8.out.keep0 gW)) (fun _ => rfl)
    (fun pre w9 => IsB w9 (z + 1) 3 #[.int .i64 (pre.length : Int)] ∧ (∃ v, IsB w9 (z + 1 + 1) 55 #[v]) ∧ CK w9 (mb + 1) mb X (tabL pre) ∧ w.grownBy w9 none ∧ ∀ rest, pre ++ rest = T.pre → chkL H M X.n2 T.pre [] 0 = chkL H M X.n2 rest (tabL pre) pre.length)
    (fun c pre w9 => c = .ret ∧ ∃ i e : Int, chkL H M X.n2 T.pre [] 0 = (i, e) ∧ IsB w9 (z + 1) 3 #[.int .i64 i] ∧ IsB w9 (z + 1 + 1) 55 #[.int .i64 e] ∧ w.grownBy w9 none)
    (fun t A C h k => by
      obtain ⟨h1, ⟨v, h2⟩, h3, h4, h5⟩ := h
      exact ⟨k.isb h1 kiz, ⟨v, k.isb h2 kiz⟩, h3.kt k (by have := SS.out; omega), k.from_ h4 (fun i o hi => kiz_low (by have := SS.out; have := MZ.out; have := HZ.out; omega) hi), h5⟩)
    (fun c t A C h k => by
      obtain ⟨e, i, er, h1, h2, h3, h4⟩ := h
      exact ⟨e, i, er, h1, k.isb h2 kiz, k.isb h3 kiz, k.from_ h4 (fun i o hi => kiz_low (by have := SS.out; have := MZ.out; have := HZ.out; omega) hi)⟩)
    ⟨L2.out, ⟨_, L3.out⟩, K8.out, GG.out, fun rest h => by rw [← h]; rfl⟩ ?round ?done ?stop
  case round =>
    rintro l2 pre x W5 hp ⟨v1, ⟨v, v2⟩, ck, g5, hch⟩
    have PC := Lib.hid (show pre.length + 1 ≤ T.cnt by have h := hp.length_le; unfold CT.cnt; simp at h; omega)
    have XM := Lib.hid (show x ∈ T.pre from hp.subset (by simp))
    have VX := Lib.hid (HS.out.vm x XM.out)
    have TP := Lib.hid (TL.out pre (List.IsPrefix.trans (List.prefix_append _ _) hp))
    obtain ⟨rest, hrest⟩ := hp
    have CHS := Lib.hid ((hch (x :: rest) (by rw [← hrest]; simp)).trans (show chkL H M X.n2 (x :: rest) (tabL pre) pre.length = if nodE H M X.n2 (tabL pre) x = 0 then chkL H M X.n2 rest (if appl' x = true then tabL pre ++ [x.t] else tabL pre) (pre.length + 1) else ((pre.length : Int), nodE H M X.n2 (tabL pre) x) from rfl))
    have HR := Lib.hid hrest
    clear hch hrest
    dsimp only [enC]
    gi_wp2
    refine ⟨gb_alloc _ _ none, fun W6 k6 kk6 => ?_⟩
    have X6 := Lib.hid (show IsB W6 W5.heap.size 67 #[.int .i64 x.k, .int .i64 x.t, .slice x.c.a x.c.n x.c.c, .slice x.s.a x.s.n x.s.c, .slice x.u.a x.u.n x.u.c] from k6.isb (IsB.new _ _ _) id)
    have V1 := Lib.hid (kk6.isb v1 kiz)
    have V2 := Lib.hid (kk6.isb v2 kiz)
    have CK6 := Lib.hid (ck.kt kk6 (by have := SS.out; omega))
    have G6 := Lib.hid (kk6.from_ g5 (fun i o hi => kiz_low (by have := SS.out; have := MZ.out; have := HZ.out; omega) hi))
    have x0 := X6.out.cell 0
    have x1 := X6.out.cell 1
    have x2 := X6.out.cell 2
    have x3 := X6.out.cell 3
    have x4 := X6.out.cell 4
    dsimp at x0 x1 x2 x3 x4
    by_cases h1 : x.k = 1
    · have NO := Lib.hid (fun w => (nodeOf_any w x).mono (R' := fun e w' => e = .returned (.iface 173 (.agg #[.int .i64 1, .int .i64 x.t, .slice x.c.a x.c.n x.c.c, .slice x.s.a x.s.n x.s.c, .slice x.u.a x.u.n x.u.c])) ∧ w.grownBy w' none) (fun e w' hq => by obtain ⟨q1, q2⟩ := hq; rw [show nodV x = .iface 173 (.agg #[.int .i64 1, .int .i64 x.t, .slice x.c.a x.c.n x.c.c, .slice x.s.a x.s.n x.s.c, .slice x.u.a x.u.n x.u.c]) by unfold nodV; rw [if_pos h1]] at q1; exact ⟨q1, q2⟩))
      have CHK := Lib.hid (fun (w2 : World) (hk : CK w2 (mb + 1) mb X (tabL pre)) (gw : w.grownBy w2 none) => (by have z := capply_any w2 (mb + 1) mb X H M (tabL pre) hk TP.out HT.out x h1; rw [h1] at z; exact z))
      have mt : ∀ (v : Value) (w : World), Sem.run Try.prog (method 365 173 v "patchbay/control.check") w = .ok (199, v) w := fun v w => mt_apply 364 v w
      unfold RetCh at CHK
      obtain ⟨E, hE⟩ : ∃ E, E = nodE H M X.n2 (tabL pre) x := ⟨_, rfl⟩
      rw [← hE] at CHK CHS
      clear h1
      clear hE
      by_cases e0 : E = 0
      · subst e0
        have hwj : wrap64 ((pre.length : Int) + 1) = (pre.length : Int) + 1 := by have := PC.out; have := HC.out; rw [IntWalk.wrap64_in _ (by omega)]
        gi_wp2_with (first
          | ((first | refine ⟨trivial, wd _, ?_⟩ | refine ⟨trivial, ?_⟩ | refine ⟨fun _ _ => trivial, ?_⟩); gi_at_call 74; refine (callsIn_wide.2 (NO.out _)).mono ?_; clear NO; rintro e w7 ⟨rfl, g7⟩; have G7 := Lib.hid (gb_trans G6.out g7); have H7 := Lib.hid g7; have U1 := Lib.hid (V1.out.keep0 g7); have U2 := Lib.hid (V2.out.keep0 g7); have CK7 := Lib.hid (CK6.out.keep0 g7); clear g7 x0 x1 x2 x3 x4)
          | ((first | refine ⟨trivial, wd _, ?_⟩ | refine ⟨trivial, ?_⟩ | refine ⟨fun _ _ => trivial, ?_⟩); gi_at_call 199; refine (callsIn_wide.2 (CHK.out _ CK7.out G7.out)).mono ?_; clear CHK; rintro e w9 ⟨rfl, k9, g9⟩; have CK9 := Lib.hid (show CK w9 (mb + 1) mb X (if appl' x = true then tabL pre ++ [x.t] else tabL pre) from k9 (by first | rfl | trivial)); have G9 := Lib.hid g9; have Y1 := Lib.hid (U1.out.keep g9 (by have := MZ.out; intro q; injection q with q; omega)); have Y2 := Lib.hid (U2.out.keep g9 (by have := MZ.out; intro q; injection q with q; omega)); clear k9 g9; have a1 := Y1.out.cell 0; have a2 := Y2.out.cell 0; have b1 := Y1.out.free 0; have b2 := Y2.out.free 0; dsimp at a1 a2))
        have NP := Lib.hid (show ∀ rest', (pre ++ [x]) ++ rest' = T.pre → chkL H M X.n2 T.pre [] 0 = chkL H M X.n2 rest' (tabL (pre ++ [x])) (pre ++ [x]).length by
          intro rest' hr'
          have e : rest' = rest := List.append_cancel_left (hr'.trans HR.out.symm)
          subst e
          rw [CHS.out, if_pos (by first | rfl | trivial), tabL_step, List.length_append, List.length_singleton])
        have CKe := Lib.hid (show CK w9 (mb + 1) mb X (tabL (pre ++ [x])) by rw [← tabL_step]; exact CK9.out)
        have y2 := Y2.out.set 0 (.int .i64 0)
        have y1 := Y1.out.set_far (g2 := z + 1 + 1) (by omega) 0 (.int .i64 0)
        have hz1 : w.heap.size ≤ z + 1 := by rw [HZ.out]; omega
        have hz2 : w.heap.size ≤ z + 1 + 1 := by rw [HZ.out]; omega
        have mz := MZ.out
        have kb : ∀ (A : World) (v : Value) (q : Nat), z ≤ q → q < z + 1 + 1 + 1 → (∃ cs t, IsB A q t cs) → Kt (KB (TOB z (z + 1 + 1 + 1)) w8.heap.size) A (A.setCell ⟨q, 0, none⟩ v) := by
          rintro A v q h1 h2 ⟨cs, t, hb⟩
          exact Kt.of_row (gb_set _ _ _ _) (fun o h => by rw [show A.heap[q]? = _ from hb] at h; cases h; exact ⟨h1, h2⟩)
        have km : Kt (KB (TOB z (z + 1 + 1 + 1)) w8.heap.size) w7 w9 := Kt.of_row G9.out (fun o h => by
          obtain ⟨D, n, ⟨es, clock, hb, _⟩, _⟩ := CK7.out.m
          rw [show w7.heap[mb]? = _ from hb] at h; cases h
          show mb < w8.heap.size
          rw [SS.out]; omega)
        refine ⟨(Kt.of_gb H7.out).trans (km.trans ((kb _ _ _ (by omega) (by omega) ⟨_, _, Y2.out⟩).trans (kb _ _ _ (by omega) (by omega) ⟨_, _, y1⟩))), ?_, ⟨_, y2.set_far (by omega) _ _⟩, (CKe.out.set (by omega) (by omega) 0 _).set (by omega) (by omega) 0 _, ?_, NP.out⟩
        · have q := y1.set 0 (.int .i64 ((pre.length : Int) + 1))
          rw [show (((pre ++ [x]).length : Nat) : Int) = (pre.length : Int) + 1 by simp]
          exact q
        · exact gb_put (gb_put (gb_lows G7.out G9.out (fun k e => by cases e; rw [← HZ.out]; omega)) hz2) hz1
      · have d1 : (E != 0) = true := by rw [bne_iff_ne]; exact e0
        have d2 : (E == 0) = false := by rw [beq_eq_false_iff_ne]; exact e0
        have E0 := Lib.hid e0
        gi_wp2_with (first
          | ((first | refine ⟨trivial, wd _, ?_⟩ | refine ⟨trivial, ?_⟩ | refine ⟨fun _ _ => trivial, ?_⟩); gi_at_call 74; refine (callsIn_wide.2 (NO.out _)).mono ?_; clear NO; rintro e w7 ⟨rfl, g7⟩; have G7 := Lib.hid (gb_trans G6.out g7); have H7 := Lib.hid g7; have U1 := Lib.hid (V1.out.keep0 g7); have U2 := Lib.hid (V2.out.keep0 g7); have CK7 := Lib.hid (CK6.out.keep0 g7); clear g7 x0 x1 x2 x3 x4)
          | ((first | refine ⟨trivial, wd _, ?_⟩ | refine ⟨trivial, ?_⟩ | refine ⟨fun _ _ => trivial, ?_⟩); gi_at_call 199; refine (callsIn_wide.2 (CHK.out _ CK7.out G7.out)).mono ?_; clear CHK; rintro e w9 ⟨rfl, k9, g9⟩; have G9 := Lib.hid g9; have Y1 := Lib.hid (U1.out.keep g9 (by have := MZ.out; intro q; injection q with q; omega)); have Y2 := Lib.hid (U2.out.keep g9 (by have := MZ.out; intro q; injection q with q; omega)); clear k9 g9; have a1 := Y1.out.cell 0; have a2 := Y2.out.cell 0; have b1 := Y1.out.free 0; have b2 := Y2.out.free 0; dsimp at a1 a2))
        have y2 := Y2.out.set 0 (.int .i64 E)
        have y1 := Y1.out.set_far (g2 := z + 1 + 1) (by omega) 0 (.int .i64 E)
        obtain ⟨wa, hwa⟩ : ∃ wa, wa = w9.setCell ⟨z + 1 + 1, 0, none⟩ (.int .i64 E) := ⟨_, rfl⟩
        have hz1 : w.heap.size ≤ z + 1 := by rw [HZ.out]; omega
        have hz2 : w.heap.size ≤ z + 1 + 1 := by rw [HZ.out]; omega
        have GA := Lib.hid (show w.grownBy wa none by rw [hwa]; exact gb_put (gb_lows G7.out G9.out (fun k e => by cases e; rw [← HZ.out]; have := MZ.out; omega)) hz2)
        have KA := Lib.hid (show Kt (KB (TOB z (z + 1 + 1 + 1)) w8.heap.size) W6 wa by
          rw [hwa]
          refine (Kt.of_gb H7.out).trans ((Kt.of_row G9.out (fun o h => by
            obtain ⟨D, n, ⟨es, clock, hb, _⟩, _⟩ := CK7.out.m
            rw [show w7.heap[mb]? = _ from hb] at h; cases h
            show mb < w8.heap.size
            rw [SS.out]; omega)).trans (Kt.of_row (gb_set _ _ _ _) (fun o h => by rw [show w9.heap[z + 1 + 1]? = _ from Y2.out] at h; cases h; exact ⟨by omega, by omega⟩))))
        rw [← hwa] at y1 y2 ⊢
        clear hwa
        have Z1 := Lib.hid y1
        have Z2 := Lib.hid (show IsB wa (z + 1 + 1) 55 #[.int .i64 E] from y2)
        clear y1 y2 a1 a2 b1 b2
        refine wpIn_region_F (S := fun w' : World => w'.cell? ⟨z + 1, 0, none⟩ = some (.int .i64 (pre.length : Int)) ∧ w'.cell? ⟨z + 1 + 1, 0, none⟩ = some (.int .i64 E)) (by kernel_rfl) ⟨(Z1.out.keep0 (gb_drew wa none)).cell 0, (Z2.out.keep0 (gb_drew wa none)).cell 0⟩ (fun hH0 => ?_)
        refine wpAnyF_take (i := 0) (v := ?v9102) rfl (by kernel_rfl) (by kernel_rfl) (by kernel_rfl) (by kernel_rfl) (fun _ _ _ h => h) (Or.inl ⟨by rfl, ?hy9102⟩) (fun _ => rfl) (by assumption) ?rest9102
        case hy9102 => (intro wz hSw; (try dsimp only at hSw); first | (go_simp; done) | (go_simp; with_reducible rfl))
        try simp only [Act.put, List.getElem_toArray, List.getElem_cons_zero, List.setIfInBounds_toArray, List.set_cons_zero, List.set_cons_succ]
        refine wpAnyF_take (i := 1) (v := ?v9103) rfl (by kernel_rfl) (by kernel_rfl) (by kernel_rfl) (by kernel_rfl) (fun _ _ _ h => h) (Or.inl ⟨by rfl, ?hy9103⟩) (fun _ => rfl) (by assumption) ?rest9103
        case hy9103 => (intro wz hSw; (try dsimp only at hSw); first | (go_simp; done) | (go_simp; with_reducible rfl))
        try simp only [Act.put, List.getElem_toArray, List.getElem_cons_succ, List.getElem_cons_zero, List.setIfInBounds_toArray, List.set_cons_zero, List.set_cons_succ]
        have D1 := Lib.hid (Z1.out.keep0 (gb_drew wa none))
        have D2 := Lib.hid (Z2.out.keep0 (gb_drew wa none))
        have p1 := Z1.out.cell 0
        have p2 := Z2.out.cell 0
        have r1 := Z1.out.free 0
        have r2 := Z2.out.free 0
        dsimp at p1 p2
        have t1 := Lib.hid (D1.out.set 0 (.int .i64 (pre.length : Int)))
        have t2 := Lib.hid (D2.out.set_far (g2 := z + 1) (by omega) 0 (.int .i64 (pre.length : Int)))
        refine wpAnyF_ready (rs := [2]) (by kernel_rfl) (by simp) ?_
        refine AllF.cons (o := _) rfl (fun K' hK => ?_) AllF.nil
        refine opF_skip (w1 := wa.drew.setCell ⟨z + 1, 0, none⟩ (.int .i64 (pre.length : Int))) rfl (by intro c hc; cases hc) rfl (by go_simp) ?_
        refine hK.out _ _ (⟨t1.out.cell 0, t2.out.cell 0⟩ : (fun w' : World => w'.cell? ⟨z + 1, 0, none⟩ = some (.int .i64 (pre.length : Int)) ∧ w'.cell? ⟨z + 1 + 1, 0, none⟩ = some (.int .i64 E)) _) (fun hH1 => ?_)
        clear hK K' hH0
        have s1 := Lib.hid (t1.out.set_far (g2 := z + 1 + 1) (by omega) 0 (.int .i64 E))
        have s2 := Lib.hid (t2.out.set 0 (.int .i64 E))
        try simp only [Act.put, List.getElem_toArray, List.getElem_cons_succ, List.getElem_cons_zero]
        refine wpAnyF_ready (rs := [3]) (by kernel_rfl) (by simp) ?_
        refine AllF.cons (o := _) rfl (fun K' hK => ?_) AllF.nil
        refine opF_skip (w1 := (wa.drew.setCell ⟨z + 1, 0, none⟩ (.int .i64 (pre.length : Int))).setCell ⟨z + 1 + 1, 0, none⟩ (.int .i64 E)) rfl (by intro c hc; cases hc) rfl (by go_simp) ?_
        refine hK.out _ _ (⟨s1.out.cell 0, s2.out.cell 0⟩ : (fun w' : World => w'.cell? ⟨z + 1, 0, none⟩ = some (.int .i64 (pre.length : Int)) ∧ w'.cell? ⟨z + 1 + 1, 0, none⟩ = some (.int .i64 E)) _) (fun hH2 => ?_)
        clear hK K' hH1
        try simp only [Act.put, List.getElem_toArray, List.getElem_cons_succ, List.getElem_cons_zero]
        refine wpAnyF_done (by kernel_rfl) ?_ _
        clear hH2
        have CHE := Lib.hid (show chkL H M X.n2 T.pre [] 0 = ((pre.length : Int), E) by rw [CHS.out, if_neg E0.out])
        gi_wp2
        refine ⟨KA.out.trans ((Kt.of_gb (gb_drew wa none)).trans ((Kt.of_row (gb_set _ _ _ _) (fun o h => by rw [show wa.drew.heap[z + 1]? = _ from D1.out] at h; cases h; exact ⟨by omega, by omega⟩)).trans (Kt.of_row (gb_set _ _ _ _) (fun o h => by rw [show (wa.drew.setCell ⟨z + 1, 0, none⟩ (.int .i64 (pre.length : Int))).heap[z + 1 + 1]? = _ from t2.out] at h; cases h; exact ⟨by omega, by omega⟩)))), rfl, (pre.length : Int), E, CHE.out, s1.out, s2.out, gb_put (gb_put (gb_trans GA.out (gb_drew wa none)) hz1) hz2⟩
    by_cases h2 : x.k = 2
    · have NO := Lib.hid (fun w => (nodeOf_any w x).mono (R' := fun e w' => e = .returned (.iface 174 (.agg #[.int .i64 2, .int .i64 x.t, .slice x.c.a x.c.n x.c.c, .slice x.s.a x.s.n x.s.c, .slice x.u.a x.u.n x.u.c])) ∧ w.grownBy w' none) (fun e w' hq => by obtain ⟨q1, q2⟩ := hq; rw [show nodV x = .iface 174 (.agg #[.int .i64 2, .int .i64 x.t, .slice x.c.a x.c.n x.c.c, .slice x.s.a x.s.n x.s.c, .slice x.u.a x.u.n x.u.c]) by unfold nodV; rw [if_neg h1, if_pos h2]] at q1; exact ⟨q1, q2⟩))
      have CHK := Lib.hid (fun (w2 : World) (hk : CK w2 (mb + 1) mb X (tabL pre)) (gw : w.grownBy w2 none) => (by have z := cif_any w2 (mb + 1) mb X H M (tabL pre) hk (HP.out.keep0 gw) x (VX.out.keep0 gw).c h2 X.n2; rw [h2] at z; exact z))
      have mt : ∀ (v : Value) (w : World), Sem.run Try.prog (method 365 174 v "patchbay/control.check") w = .ok (201, v) w := fun v w => mt_if 364 v w
      unfold RetCh at CHK
      obtain ⟨E, hE⟩ : ∃ E, E = nodE H M X.n2 (tabL pre) x := ⟨_, rfl⟩
      rw [← hE] at CHK CHS
      clear h1 h2
      clear hE
      by_cases e0 : E = 0
      · subst e0
        have hwj : wrap64 ((pre.length : Int) + 1) = (pre.length : Int) + 1 := by have := PC.out; have := HC.out; rw [IntWalk.wrap64_in _ (by omega)]
        gi_wp2_with (first
          | ((first | refine ⟨trivial, wd _, ?_⟩ | refine ⟨trivial, ?_⟩ | refine ⟨fun _ _ => trivial, ?_⟩); gi_at_call 74; refine (callsIn_wide.2 (NO.out _)).mono ?_; clear NO; rintro e w7 ⟨rfl, g7⟩; have G7 := Lib.hid (gb_trans G6.out g7); have H7 := Lib.hid g7; have U1 := Lib.hid (V1.out.keep0 g7); have U2 := Lib.hid (V2.out.keep0 g7); have CK7 := Lib.hid (CK6.out.keep0 g7); clear g7 x0 x1 x2 x3 x4)
          | ((first | refine ⟨trivial, wd _, ?_⟩ | refine ⟨trivial, ?_⟩ | refine ⟨fun _ _ => trivial, ?_⟩); gi_at_call 201; refine (callsIn_wide.2 (CHK.out _ CK7.out G7.out)).mono ?_; clear CHK; rintro e w9 ⟨rfl, k9, g9⟩; have CK9 := Lib.hid (show CK w9 (mb + 1) mb X (if appl' x = true then tabL pre ++ [x.t] else tabL pre) from k9 (by first | rfl | trivial)); have G9 := Lib.hid g9; have Y1 := Lib.hid (U1.out.keep g9 (by have := MZ.out; intro q; injection q with q; omega)); have Y2 := Lib.hid (U2.out.keep g9 (by have := MZ.out; intro q; injection q with q; omega)); clear k9 g9; have a1 := Y1.out.cell 0; have a2 := Y2.out.cell 0; have b1 := Y1.out.free 0; have b2 := Y2.out.free 0; dsimp at a1 a2))
        have NP := Lib.hid (show ∀ rest', (pre ++ [x]) ++ rest' = T.pre → chkL H M X.n2 T.pre [] 0 = chkL H M X.n2 rest' (tabL (pre ++ [x])) (pre ++ [x]).length by
          intro rest' hr'
          have e : rest' = rest := List.append_cancel_left (hr'.trans HR.out.symm)
          subst e
          rw [CHS.out, if_pos (by first | rfl | trivial), tabL_step, List.length_append, List.length_singleton])
        have CKe := Lib.hid (show CK w9 (mb + 1) mb X (tabL (pre ++ [x])) by rw [← tabL_step]; exact CK9.out)
        have y2 := Y2.out.set 0 (.int .i64 0)
        have y1 := Y1.out.set_far (g2 := z + 1 + 1) (by omega) 0 (.int .i64 0)
        have hz1 : w.heap.size ≤ z + 1 := by rw [HZ.out]; omega
        have hz2 : w.heap.size ≤ z + 1 + 1 := by rw [HZ.out]; omega
        have mz := MZ.out
        have kb : ∀ (A : World) (v : Value) (q : Nat), z ≤ q → q < z + 1 + 1 + 1 → (∃ cs t, IsB A q t cs) → Kt (KB (TOB z (z + 1 + 1 + 1)) w8.heap.size) A (A.setCell ⟨q, 0, none⟩ v) := by
          rintro A v q h1 h2 ⟨cs, t, hb⟩
          exact Kt.of_row (gb_set _ _ _ _) (fun o h => by rw [show A.heap[q]? = _ from hb] at h; cases h; exact ⟨h1, h2⟩)
        have km : Kt (KB (TOB z (z + 1 + 1 + 1)) w8.heap.size) w7 w9 := Kt.of_row G9.out (fun o h => by
          obtain ⟨D, n, ⟨es, clock, hb, _⟩, _⟩ := CK7.out.m
          rw [show w7.heap[mb]? = _ from hb] at h; cases h
          show mb < w8.heap.size
          rw [SS.out]; omega)
        refine ⟨(Kt.of_gb H7.out).trans (km.trans ((kb _ _ _ (by omega) (by omega) ⟨_, _, Y2.out⟩).trans (kb _ _ _ (by omega) (by omega) ⟨_, _, y1⟩))), ?_, ⟨_, y2.set_far (by omega) _ _⟩, (CKe.out.set (by omega) (by omega) 0 _).set (by omega) (by omega) 0 _, ?_, NP.out⟩
        · have q := y1.set 0 (.int .i64 ((pre.length : Int) + 1))
          rw [show (((pre ++ [x]).length : Nat) : Int) = (pre.length : Int) + 1 by simp]
          exact q
        · exact gb_put (gb_put (gb_lows G7.out G9.out (fun k e => by cases e; rw [← HZ.out]; omega)) hz2) hz1
      · have d1 : (E != 0) = true := by rw [bne_iff_ne]; exact e0
        have d2 : (E == 0) = false := by rw [beq_eq_false_iff_ne]; exact e0
        have E0 := Lib.hid e0
        gi_wp2_with (first
          | ((first | refine ⟨trivial, wd _, ?_⟩ | refine ⟨trivial, ?_⟩ | refine ⟨fun _ _ => trivial, ?_⟩); gi_at_call 74; refine (callsIn_wide.2 (NO.out _)).mono ?_; clear NO; rintro e w7 ⟨rfl, g7⟩; have G7 := Lib.hid (gb_trans G6.out g7); have H7 := Lib.hid g7; have U1 := Lib.hid (V1.out.keep0 g7); have U2 := Lib.hid (V2.out.keep0 g7); have CK7 := Lib.hid (CK6.out.keep0 g7); clear g7 x0 x1 x2 x3 x4)
          | ((first | refine ⟨trivial, wd _, ?_⟩ | refine ⟨trivial, ?_⟩ | refine ⟨fun _ _ => trivial, ?_⟩); gi_at_call 201; refine (callsIn_wide.2 (CHK.out _ CK7.out G7.out)).mono ?_; clear CHK; rintro e w9 ⟨rfl, k9, g9⟩; have G9 := Lib.hid g9; have Y1 := Lib.hid (U1.out.keep g9 (by have := MZ.out; intro q; injection q with q; omega)); have Y2 := Lib.hid (U2.out.keep g9 (by have := MZ.out; intro q; injection q with q; omega)); clear k9 g9; have a1 := Y1.out.cell 0; have a2 := Y2.out.cell 0; have b1 := Y1.out.free 0; have b2 := Y2.out.free 0; dsimp at a1 a2))
        have y2 := Y2.out.set 0 (.int .i64 E)
        have y1 := Y1.out.set_far (g2 := z + 1 + 1) (by omega) 0 (.int .i64 E)
        obtain ⟨wa, hwa⟩ : ∃ wa, wa = w9.setCell ⟨z + 1 + 1, 0, none⟩ (.int .i64 E) := ⟨_, rfl⟩
        have hz1 : w.heap.size ≤ z + 1 := by rw [HZ.out]; omega
        have hz2 : w.heap.size ≤ z + 1 + 1 := by rw [HZ.out]; omega
        have GA := Lib.hid (show w.grownBy wa none by rw [hwa]; exact gb_put (gb_lows G7.out G9.out (fun k e => by cases e; rw [← HZ.out]; have := MZ.out; omega)) hz2)
        have KA := Lib.hid (show Kt (KB (TOB z (z + 1 + 1 + 1)) w8.heap.size) W6 wa by
          rw [hwa]
          refine (Kt.of_gb H7.out).trans ((Kt.of_row G9.out (fun o h => by
            obtain ⟨D, n, ⟨es, clock, hb, _⟩, _⟩ := CK7.out.m
            rw [show w7.heap[mb]? = _ from hb] at h; cases h
            show mb < w8.heap.size
            rw [SS.out]; omega)).trans (Kt.of_row (gb_set _ _ _ _) (fun o h => by rw [show w9.heap[z + 1 + 1]? = _ from Y2.out] at h; cases h; exact ⟨by omega, by omega⟩))))
        rw [← hwa] at y1 y2 ⊢
        clear hwa
        have Z1 := Lib.hid y1
        have Z2 := Lib.hid (show IsB wa (z + 1 + 1) 55 #[.int .i64 E] from y2)
        clear y1 y2 a1 a2 b1 b2
        refine wpIn_region_F (S := fun w' : World => w'.cell? ⟨z + 1, 0, none⟩ = some (.int .i64 (pre.length : Int)) ∧ w'.cell? ⟨z + 1 + 1, 0, none⟩ = some (.int .i64 E)) (by kernel_rfl) ⟨(Z1.out.keep0 (gb_drew wa none)).cell 0, (Z2.out.keep0 (gb_drew wa none)).cell 0⟩ (fun hH0 => ?_)
        refine wpAnyF_take (i := 0) (v := ?v9106) rfl (by kernel_rfl) (by kernel_rfl) (by kernel_rfl) (by kernel_rfl) (fun _ _ _ h => h) (Or.inl ⟨by rfl, ?hy9106⟩) (fun _ => rfl) (by assumption) ?rest9106
        case hy9106 => (intro wz hSw; (try dsimp only at hSw); first | (go_simp; done) | (go_simp; with_reducible rfl))
        try simp only [Act.put, List.getElem_toArray, List.getElem_cons_zero, List.setIfInBounds_toArray, List.set_cons_zero, List.set_cons_succ]
        refine wpAnyF_take (i := 1) (v := ?v9107) rfl (by kernel_rfl) (by kernel_rfl) (by kernel_rfl) (by kernel_rfl) (fun _ _ _ h => h) (Or.inl ⟨by rfl, ?hy9107⟩) (fun _ => rfl) (by assumption) ?rest9107
        case hy9107 => (intro wz hSw; (try dsimp only at hSw); first | (go_simp; done) | (go_simp; with_reducible rfl))
        try simp only [Act.put, List.getElem_toArray, List.getElem_cons_succ, List.getElem_cons_zero, List.setIfInBounds_toArray, List.set_cons_zero, List.set_cons_succ]
        have D1 := Lib.hid (Z1.out.keep0 (gb_drew wa none))
        have D2 := Lib.hid (Z2.out.keep0 (gb_drew wa none))
        have p1 := Z1.out.cell 0
        have p2 := Z2.out.cell 0
        have r1 := Z1.out.free 0
        have r2 := Z2.out.free 0
        dsimp at p1 p2
        have t1 := Lib.hid (D1.out.set 0 (.int .i64 (pre.length : Int)))
        have t2 := Lib.hid (D2.out.set_far (g2 := z + 1) (by omega) 0 (.int .i64 (pre.length : Int)))
        refine wpAnyF_ready (rs := [2]) (by kernel_rfl) (by simp) ?_
        refine AllF.cons (o := _) rfl (fun K' hK => ?_) AllF.nil
        refine opF_skip (w1 := wa.drew.setCell ⟨z + 1, 0, none⟩ (.int .i64 (pre.length : Int))) rfl (by intro c hc; cases hc) rfl (by go_simp) ?_
        refine hK.out _ _ (⟨t1.out.cell 0, t2.out.cell 0⟩ : (fun w' : World => w'.cell? ⟨z + 1, 0, none⟩ = some (.int .i64 (pre.length : Int)) ∧ w'.cell? ⟨z + 1 + 1, 0, none⟩ = some (.int .i64 E)) _) (fun hH1 => ?_)
        clear hK K' hH0
        have s1 := Lib.hid (t1.out.set_far (g2 := z + 1 + 1) (by omega) 0 (.int .i64 E))
        have s2 := Lib.hid (t2.out.set 0 (.int .i64 E))
        try simp only [Act.put, List.getElem_toArray, List.getElem_cons_succ, List.getElem_cons_zero]
        refine wpAnyF_ready (rs := [3]) (by kernel_rfl) (by simp) ?_
        refine AllF.cons (o := _) rfl (fun K' hK => ?_) AllF.nil
        refine opF_skip (w1 := (wa.drew.setCell ⟨z + 1, 0, none⟩ (.int .i64 (pre.length : Int))).setCell ⟨z + 1 + 1, 0, none⟩ (.int .i64 E)) rfl (by intro c hc; cases hc) rfl (by go_simp) ?_
        refine hK.out _ _ (⟨s1.out.cell 0, s2.out.cell 0⟩ : (fun w' : World => w'.cell? ⟨z + 1, 0, none⟩ = some (.int .i64 (pre.length : Int)) ∧ w'.cell? ⟨z + 1 + 1, 0, none⟩ = some (.int .i64 E)) _) (fun hH2 => ?_)
        clear hK K' hH1
        try simp only [Act.put, List.getElem_toArray, List.getElem_cons_succ, List.getElem_cons_zero]
        refine wpAnyF_done (by kernel_rfl) ?_ _
        clear hH2
        have CHE := Lib.hid (show chkL H M X.n2 T.pre [] 0 = ((pre.length : Int), E) by rw [CHS.out, if_neg E0.out])
        gi_wp2
        refine ⟨KA.out.trans ((Kt.of_gb (gb_drew wa none)).trans ((Kt.of_row (gb_set _ _ _ _) (fun o h => by rw [show wa.drew.heap[z + 1]? = _ from D1.out] at h; cases h; exact ⟨by omega, by omega⟩)).trans (Kt.of_row (gb_set _ _ _ _) (fun o h => by rw [show (wa.drew.setCell ⟨z + 1, 0, none⟩ (.int .i64 (pre.length : Int))).heap[z + 1 + 1]? = _ from t2.out] at h; cases h; exact ⟨by omega, by omega⟩)))), rfl, (pre.length : Int), E, CHE.out, s1.out, s2.out, gb_put (gb_put (gb_trans GA.out (gb_drew wa none)) hz1) hz2⟩
    by_cases h3 : x.k = 3
    · have NO := Lib.hid (fun w => (nodeOf_any w x).mono (R' := fun e w' => e = .returned (.iface 175 (.agg #[.int .i64 3, .int .i64 x.t, .slice x.c.a x.c.n x.c.c, .slice x.s.a x.s.n x.s.c, .slice x.u.a x.u.n x.u.c])) ∧ w.grownBy w' none) (fun e w' hq => by obtain ⟨q1, q2⟩ := hq; rw [show nodV x = .iface 175 (.agg #[.int .i64 3, .int .i64 x.t, .slice x.c.a x.c.n x.c.c, .slice x.s.a x.s.n x.s.c, .slice x.u.a x.u.n x.u.c]) by unfold nodV; rw [if_neg h1, if_neg h2, if_pos h3]] at q1; exact ⟨q1, q2⟩))
      have CHK := Lib.hid (fun (w2 : World) (hk : CK w2 (mb + 1) mb X (tabL pre)) (gw : w.grownBy w2 none) => (by have z := chit_any w2 (mb + 1) mb X H M (tabL pre) hk TP.out HT.out x h3; rw [h3] at z; exact z))
      have mt : ∀ (v : Value) (w : World), Sem.run Try.prog (method 365 175 v "patchbay/control.check") w = .ok (204, v) w := fun v w => mt_hit 364 v w
      unfold RetCh at CHK
      obtain ⟨E, hE⟩ : ∃ E, E = nodE H M X.n2 (tabL pre) x := ⟨_, rfl⟩
      rw [← hE] at CHK CHS
      clear h1 h2 h3
      clear hE
      by_cases e0 : E = 0
      · subst e0
        have hwj : wrap64 ((pre.length : Int) + 1) = (pre.length : Int) + 1 := by have := PC.out; have := HC.out; rw [IntWalk.wrap64_in _ (by omega)]
        gi_wp2_with (first
          | ((first | refine ⟨trivial, wd _, ?_⟩ | refine ⟨trivial, ?_⟩ | refine ⟨fun _ _ => trivial, ?_⟩); gi_at_call 74; refine (callsIn_wide.2 (NO.out _)).mono ?_; clear NO; rintro e w7 ⟨rfl, g7⟩; have G7 := Lib.hid (gb_trans G6.out g7); have H7 := Lib.hid g7; have U1 := Lib.hid (V1.out.keep0 g7); have U2 := Lib.hid (V2.out.keep0 g7); have CK7 := Lib.hid (CK6.out.keep0 g7); clear g7 x0 x1 x2 x3 x4)
          | ((first | refine ⟨trivial, wd _, ?_⟩ | refine ⟨trivial, ?_⟩ | refine ⟨fun _ _ => trivial, ?_⟩); gi_at_call 204; refine (callsIn_wide.2 (CHK.out _ CK7.out G7.out)).mono ?_; clear CHK; rintro e w9 ⟨rfl, k9, g9⟩; have CK9 := Lib.hid (show CK w9 (mb + 1) mb X (if appl' x = true then tabL pre ++ [x.t] else tabL pre) from k9 (by first | rfl | trivial)); have G9 := Lib.hid g9; have Y1 := Lib.hid (U1.out.keep g9 (by have := MZ.out; intro q; injection q with q; omega)); have Y2 := Lib.hid (U2.out.keep g9 (by have := MZ.out; intro q; injection q with q; omega)); clear k9 g9; have a1 := Y1.out.cell 0; have a2 := Y2.out.cell 0; have b1 := Y1.out.free 0; have b2 := Y2.out.free 0; dsimp at a1 a2))
        have NP := Lib.hid (show ∀ rest', (pre ++ [x]) ++ rest' = T.pre → chkL H M X.n2 T.pre [] 0 = chkL H M X.n2 rest' (tabL (pre ++ [x])) (pre ++ [x]).length by
          intro rest' hr'
          have e : rest' = rest := List.append_cancel_left (hr'.trans HR.out.symm)
          subst e
          rw [CHS.out, if_pos (by first | rfl | trivial), tabL_step, List.length_append, List.length_singleton])
        have CKe := Lib.hid (show CK w9 (mb + 1) mb X (tabL (pre ++ [x])) by rw [← tabL_step]; exact CK9.out)
        have y2 := Y2.out.set 0 (.int .i64 0)
        have y1 := Y1.out.set_far (g2 := z + 1 + 1) (by omega) 0 (.int .i64 0)
        have hz1 : w.heap.size ≤ z + 1 := by rw [HZ.out]; omega
        have hz2 : w.heap.size ≤ z + 1 + 1 := by rw [HZ.out]; omega
        have mz := MZ.out
        have kb : ∀ (A : World) (v : Value) (q : Nat), z ≤ q → q < z + 1 + 1 + 1 → (∃ cs t, IsB A q t cs) → Kt (KB (TOB z (z + 1 + 1 + 1)) w8.heap.size) A (A.setCell ⟨q, 0, none⟩ v) := by
          rintro A v q h1 h2 ⟨cs, t, hb⟩
          exact Kt.of_row (gb_set _ _ _ _) (fun o h => by rw [show A.heap[q]? = _ from hb] at h; cases h; exact ⟨h1, h2⟩)
        have km : Kt (KB (TOB z (z + 1 + 1 + 1)) w8.heap.size) w7 w9 := Kt.of_row G9.out (fun o h => by
          obtain ⟨D, n, ⟨es, clock, hb, _⟩, _⟩ := CK7.out.m
          rw [show w7.heap[mb]? = _ from hb] at h; cases h
          show mb < w8.heap.size
          rw [SS.out]; omega)
        refine ⟨(Kt.of_gb H7.out).trans (km.trans ((kb _ _ _ (by omega) (by omega) ⟨_, _, Y2.out⟩).trans (kb _ _ _ (by omega) (by omega) ⟨_, _, y1⟩))), ?_, ⟨_, y2.set_far (by omega) _ _⟩, (CKe.out.set (by omega) (by omega) 0 _).set (by omega) (by omega) 0 _, ?_, NP.out⟩
        · have q := y1.set 0 (.int .i64 ((pre.length : Int) + 1))
          rw [show (((pre ++ [x]).length : Nat) : Int) = (pre.length : Int) + 1 by simp]
          exact q
        · exact gb_put (gb_put (gb_lows G7.out G9.out (fun k e => by cases e; rw [← HZ.out]; omega)) hz2) hz1
      · have d1 : (E != 0) = true := by rw [bne_iff_ne]; exact e0
        have d2 : (E == 0) = false := by rw [beq_eq_false_iff_ne]; exact e0
        have E0 := Lib.hid e0
        gi_wp2_with (first
          | ((first | refine ⟨trivial, wd _, ?_⟩ | refine ⟨trivial, ?_⟩ | refine ⟨fun _ _ => trivial, ?_⟩); gi_at_call 74; refine (callsIn_wide.2 (NO.out _)).mono ?_; clear NO; rintro e w7 ⟨rfl, g7⟩; have G7 := Lib.hid (gb_trans G6.out g7); have H7 := Lib.hid g7; have U1 := Lib.hid (V1.out.keep0 g7); have U2 := Lib.hid (V2.out.keep0 g7); have CK7 := Lib.hid (CK6.out.keep0 g7); clear g7 x0 x1 x2 x3 x4)
          | ((first | refine ⟨trivial, wd _, ?_⟩ | refine ⟨trivial, ?_⟩ | refine ⟨fun _ _ => trivial, ?_⟩); gi_at_call 204; refine (callsIn_wide.2 (CHK.out _ CK7.out G7.out)).mono ?_; clear CHK; rintro e w9 ⟨rfl, k9, g9⟩; have G9 := Lib.hid g9; have Y1 := Lib.hid (U1.out.keep g9 (by have := MZ.out; intro q; injection q with q; omega)); have Y2 := Lib.hid (U2.out.keep g9 (by have := MZ.out; intro q; injection q with q; omega)); clear k9 g9; have a1 := Y1.out.cell 0; have a2 := Y2.out.cell 0; have b1 := Y1.out.free 0; have b2 := Y2.out.free 0; dsimp at a1 a2))
        have y2 := Y2.out.set 0 (.int .i64 E)
        have y1 := Y1.out.set_far (g2 := z + 1 + 1) (by omega) 0 (.int .i64 E)
        obtain ⟨wa, hwa⟩ : ∃ wa, wa = w9.setCell ⟨z + 1 + 1, 0, none⟩ (.int .i64 E) := ⟨_, rfl⟩
        have hz1 : w.heap.size ≤ z + 1 := by rw [HZ.out]; omega
        have hz2 : w.heap.size ≤ z + 1 + 1 := by rw [HZ.out]; omega
        have GA := Lib.hid (show w.grownBy wa none by rw [hwa]; exact gb_put (gb_lows G7.out G9.out (fun k e => by cases e; rw [← HZ.out]; have := MZ.out; omega)) hz2)
        have KA := Lib.hid (show Kt (KB (TOB z (z + 1 + 1 + 1)) w8.heap.size) W6 wa by
          rw [hwa]
          refine (Kt.of_gb H7.out).trans ((Kt.of_row G9.out (fun o h => by
            obtain ⟨D, n, ⟨es, clock, hb, _⟩, _⟩ := CK7.out.m
            rw [show w7.heap[mb]? = _ from hb] at h; cases h
            show mb < w8.heap.size
            rw [SS.out]; omega)).trans (Kt.of_row (gb_set _ _ _ _) (fun o h => by rw [show w9.heap[z + 1 + 1]? = _ from Y2.out] at h; cases h; exact ⟨by omega, by omega⟩))))
        rw [← hwa] at y1 y2 ⊢
        clear hwa
        have Z1 := Lib.hid y1
        have Z2 := Lib.hid (show IsB wa (z + 1 + 1) 55 #[.int .i64 E] from y2)
        clear y1 y2 a1 a2 b1 b2
        refine wpIn_region_F (S := fun w' : World => w'.cell? ⟨z + 1, 0, none⟩ = some (.int .i64 (pre.length : Int)) ∧ w'.cell? ⟨z + 1 + 1, 0, none⟩ = some (.int .i64 E)) (by kernel_rfl) ⟨(Z1.out.keep0 (gb_drew wa none)).cell 0, (Z2.out.keep0 (gb_drew wa none)).cell 0⟩ (fun hH0 => ?_)
        refine wpAnyF_take (i := 0) (v := ?v9110) rfl (by kernel_rfl) (by kernel_rfl) (by kernel_rfl) (by kernel_rfl) (fun _ _ _ h => h) (Or.inl ⟨by rfl, ?hy9110⟩) (fun _ => rfl) (by assumption) ?rest9110
        case hy9110 => (intro wz hSw; (try dsimp only at hSw); first | (go_simp; done) | (go_simp; with_reducible rfl))
        try simp only [Act.put, List.getElem_toArray, List.getElem_cons_zero, List.setIfInBounds_toArray, List.set_cons_zero, List.set_cons_succ]
        refine wpAnyF_take (i := 1) (v := ?v9111) rfl (by kernel_rfl) (by kernel_rfl) (by kernel_rfl) (by kernel_rfl) (fun _ _ _ h => h) (Or.inl ⟨by rfl, ?hy9111⟩) (fun _ => rfl) (by assumption) ?rest9111
        case hy9111 => (intro wz hSw; (try dsimp only at hSw); first | (go_simp; done) | (go_simp; with_reducible rfl))
        try simp only [Act.put, List.getElem_toArray, List.getElem_cons_succ, List.getElem_cons_zero, List.setIfInBounds_toArray, List.set_cons_zero, List.set_cons_succ]
        have D1 := Lib.hid (Z1.out.keep0 (gb_drew wa none))
        have D2 := Lib.hid (Z2.out.keep0 (gb_drew wa none))
        have p1 := Z1.out.cell 0
        have p2 := Z2.out.cell 0
        have r1 := Z1.out.free 0
        have r2 := Z2.out.free 0
        dsimp at p1 p2
        have t1 := Lib.hid (D1.out.set 0 (.int .i64 (pre.length : Int)))
        have t2 := Lib.hid (D2.out.set_far (g2 := z + 1) (by omega) 0 (.int .i64 (pre.length : Int)))
        refine wpAnyF_ready (rs := [2]) (by kernel_rfl) (by simp) ?_
        refine AllF.cons (o := _) rfl (fun K' hK => ?_) AllF.nil
        refine opF_skip (w1 := wa.drew.setCell ⟨z + 1, 0, none⟩ (.int .i64 (pre.length : Int))) rfl (by intro c hc; cases hc) rfl (by go_simp) ?_
        refine hK.out _ _ (⟨t1.out.cell 0, t2.out.cell 0⟩ : (fun w' : World => w'.cell? ⟨z + 1, 0, none⟩ = some (.int .i64 (pre.length : Int)) ∧ w'.cell? ⟨z + 1 + 1, 0, none⟩ = some (.int .i64 E)) _) (fun hH1 => ?_)
        clear hK K' hH0
        have s1 := Lib.hid (t1.out.set_far (g2 := z + 1 + 1) (by omega) 0 (.int .i64 E))
        have s2 := Lib.hid (t2.out.set 0 (.int .i64 E))
        try simp only [Act.put, List.getElem_toArray, List.getElem_cons_succ, List.getElem_cons_zero]
        refine wpAnyF_ready (rs := [3]) (by kernel_rfl) (by simp) ?_
        refine AllF.cons (o := _) rfl (fun K' hK => ?_) AllF.nil
        refine opF_skip (w1 := (wa.drew.setCell ⟨z + 1, 0, none⟩ (.int .i64 (pre.length : Int))).setCell ⟨z + 1 + 1, 0, none⟩ (.int .i64 E)) rfl (by intro c hc; cases hc) rfl (by go_simp) ?_
        refine hK.out _ _ (⟨s1.out.cell 0, s2.out.cell 0⟩ : (fun w' : World => w'.cell? ⟨z + 1, 0, none⟩ = some (.int .i64 (pre.length : Int)) ∧ w'.cell? ⟨z + 1 + 1, 0, none⟩ = some (.int .i64 E)) _) (fun hH2 => ?_)
        clear hK K' hH1
        try simp only [Act.put, List.getElem_toArray, List.getElem_cons_succ, List.getElem_cons_zero]
        refine wpAnyF_done (by kernel_rfl) ?_ _
        clear hH2
        have CHE := Lib.hid (show chkL H M X.n2 T.pre [] 0 = ((pre.length : Int), E) by rw [CHS.out, if_neg E0.out])
        gi_wp2
        refine ⟨KA.out.trans ((Kt.of_gb (gb_drew wa none)).trans ((Kt.of_row (gb_set _ _ _ _) (fun o h => by rw [show wa.drew.heap[z + 1]? = _ from D1.out] at h; cases h; exact ⟨by omega, by omega⟩)).trans (Kt.of_row (gb_set _ _ _ _) (fun o h => by rw [show (wa.drew.setCell ⟨z + 1, 0, none⟩ (.int .i64 (pre.length : Int))).heap[z + 1 + 1]? = _ from t2.out] at h; cases h; exact ⟨by omega, by omega⟩)))), rfl, (pre.length : Int), E, CHE.out, s1.out, s2.out, gb_put (gb_put (gb_trans GA.out (gb_drew wa none)) hz1) hz2⟩
    · have NO := Lib.hid (fun w => (nodeOf_any w x).mono (R' := fun e w' => e = .returned (.iface 177 (.agg #[])) ∧ w.grownBy w' none) (fun e w' hq => by obtain ⟨q1, q2⟩ := hq; rw [show nodV x = .iface 177 (.agg #[]) by unfold nodV; rw [if_neg h1, if_neg h2, if_neg h3]] at q1; exact ⟨q1, q2⟩))
      have CHK := Lib.hid (fun (w2 : World) (hk : CK w2 (mb + 1) mb X (tabL pre)) (gw : w.grownBy w2 none) => cunk_any w2 (mb + 1) mb X H M X.n2 (tabL pre) x ⟨h1, h2, h3⟩)
      have mt : ∀ (v : Value) (w : World), Sem.run Try.prog (method 365 177 v "patchbay/control.check") w = .ok (206, v) w := fun v w => mt_unk 364 v w
      unfold RetCh at CHK
      obtain ⟨E, hE⟩ : ∃ E, E = nodE H M X.n2 (tabL pre) x := ⟨_, rfl⟩
      rw [← hE] at CHK CHS
      clear h1 h2 h3
      clear hE
      by_cases e0 : E = 0
      · subst e0
        have hwj : wrap64 ((pre.length : Int) + 1) = (pre.length : Int) + 1 := by have := PC.out; have := HC.out; rw [IntWalk.wrap64_in _ (by omega)]
        gi_wp2_with (first
          | ((first | refine ⟨trivial, wd _, ?_⟩ | refine ⟨trivial, ?_⟩ | refine ⟨fun _ _ => trivial, ?_⟩); gi_at_call 74; refine (callsIn_wide.2 (NO.out _)).mono ?_; clear NO; rintro e w7 ⟨rfl, g7⟩; have G7 := Lib.hid (gb_trans G6.out g7); have H7 := Lib.hid g7; have U1 := Lib.hid (V1.out.keep0 g7); have U2 := Lib.hid (V2.out.keep0 g7); have CK7 := Lib.hid (CK6.out.keep0 g7); clear g7 x0 x1 x2 x3 x4)
          | ((first | refine ⟨trivial, wd _, ?_⟩ | refine ⟨trivial, ?_⟩ | refine ⟨fun _ _ => trivial, ?_⟩); gi_at_call 206; refine (callsIn_wide.2 (CHK.out _ CK7.out G7.out)).mono ?_; clear CHK; rintro e w9 ⟨rfl, k9, g9⟩; have CK9 := Lib.hid (show CK w9 (mb + 1) mb X (if appl' x = true then tabL pre ++ [x.t] else tabL pre) from k9 (by first | rfl | trivial)); have G9 := Lib.hid g9; have Y1 := Lib.hid (U1.out.keep g9 (by have := MZ.out; intro q; injection q with q; omega)); have Y2 := Lib.hid (U2.out.keep g9 (by have := MZ.out; intro q; injection q with q; omega)); clear k9 g9; have a1 := Y1.out.cell 0; have a2 := Y2.out.cell 0; have b1 := Y1.out.free 0; have b2 := Y2.out.free 0; dsimp at a1 a2))
        have NP := Lib.hid (show ∀ rest', (pre ++ [x]) ++ rest' = T.pre → chkL H M X.n2 T.pre [] 0 = chkL H M X.n2 rest' (tabL (pre ++ [x])) (pre ++ [x]).length by
          intro rest' hr'
          have e : rest' = rest := List.append_cancel_left (hr'.trans HR.out.symm)
          subst e
          rw [CHS.out, if_pos (by first | rfl | trivial), tabL_step, List.length_append, List.length_singleton])
        have CKe := Lib.hid (show CK w9 (mb + 1) mb X (tabL (pre ++ [x])) by rw [← tabL_step]; exact CK9.out)
        have y2 := Y2.out.set 0 (.int .i64 0)
        have y1 := Y1.out.set_far (g2 := z + 1 + 1) (by omega) 0 (.int .i64 0)
        have hz1 : w.heap.size ≤ z + 1 := by rw [HZ.out]; omega
        have hz2 : w.heap.size ≤ z + 1 + 1 := by rw [HZ.out]; omega
        have mz := MZ.out
        have kb : ∀ (A : World) (v : Value) (q : Nat), z ≤ q → q < z + 1 + 1 + 1 → (∃ cs t, IsB A q t cs) → Kt (KB (TOB z (z + 1 + 1 + 1)) w8.heap.size) A (A.setCell ⟨q, 0, none⟩ v) := by
          rintro A v q h1 h2 ⟨cs, t, hb⟩
          exact Kt.of_row (gb_set _ _ _ _) (fun o h => by rw [show A.heap[q]? = _ from hb] at h; cases h; exact ⟨h1, h2⟩)
        have km : Kt (KB (TOB z (z + 1 + 1 + 1)) w8.heap.size) w7 w9 := Kt.of_row G9.out (fun o h => by
          obtain ⟨D, n, ⟨es, clock, hb, _⟩, _⟩ := CK7.out.m
          rw [show w7.heap[mb]? = _ from hb] at h; cases h
          show mb < w8.heap.size
          rw [SS.out]; omega)
        refine ⟨(Kt.of_gb H7.out).trans (km.trans ((kb _ _ _ (by omega) (by omega) ⟨_, _, Y2.out⟩).trans (kb _ _ _ (by omega) (by omega) ⟨_, _, y1⟩))), ?_, ⟨_, y2.set_far (by omega) _ _⟩, (CKe.out.set (by omega) (by omega) 0 _).set (by omega) (by omega) 0 _, ?_, NP.out⟩
        · have q := y1.set 0 (.int .i64 ((pre.length : Int) + 1))
          rw [show (((pre ++ [x]).length : Nat) : Int) = (pre.length : Int) + 1 by simp]
          exact q
        · exact gb_put (gb_put (gb_lows G7.out G9.out (fun k e => by cases e; rw [← HZ.out]; omega)) hz2) hz1
      · have d1 : (E != 0) = true := by rw [bne_iff_ne]; exact e0
        have d2 : (E == 0) = false := by rw [beq_eq_false_iff_ne]; exact e0
        have E0 := Lib.hid e0
        gi_wp2_with (first
          | ((first | refine ⟨trivial, wd _, ?_⟩ | refine ⟨trivial, ?_⟩ | refine ⟨fun _ _ => trivial, ?_⟩); gi_at_call 74; refine (callsIn_wide.2 (NO.out _)).mono ?_; clear NO; rintro e w7 ⟨rfl, g7⟩; have G7 := Lib.hid (gb_trans G6.out g7); have H7 := Lib.hid g7; have U1 := Lib.hid (V1.out.keep0 g7); have U2 := Lib.hid (V2.out.keep0 g7); have CK7 := Lib.hid (CK6.out.keep0 g7); clear g7 x0 x1 x2 x3 x4)
          | ((first | refine ⟨trivial, wd _, ?_⟩ | refine ⟨trivial, ?_⟩ | refine ⟨fun _ _ => trivial, ?_⟩); gi_at_call 206; refine (callsIn_wide.2 (CHK.out _ CK7.out G7.out)).mono ?_; clear CHK; rintro e w9 ⟨rfl, k9, g9⟩; have G9 := Lib.hid g9; have Y1 := Lib.hid (U1.out.keep g9 (by have := MZ.out; intro q; injection q with q; omega)); have Y2 := Lib.hid (U2.out.keep g9 (by have := MZ.out; intro q; injection q with q; omega)); clear k9 g9; have a1 := Y1.out.cell 0; have a2 := Y2.out.cell 0; have b1 := Y1.out.free 0; have b2 := Y2.out.free 0; dsimp at a1 a2))
        have y2 := Y2.out.set 0 (.int .i64 E)
        have y1 := Y1.out.set_far (g2 := z + 1 + 1) (by omega) 0 (.int .i64 E)
        obtain ⟨wa, hwa⟩ : ∃ wa, wa = w9.setCell ⟨z + 1 + 1, 0, none⟩ (.int .i64 E) := ⟨_, rfl⟩
        have hz1 : w.heap.size ≤ z + 1 := by rw [HZ.out]; omega
        have hz2 : w.heap.size ≤ z + 1 + 1 := by rw [HZ.out]; omega
        have GA := Lib.hid (show w.grownBy wa none by rw [hwa]; exact gb_put (gb_lows G7.out G9.out (fun k e => by cases e; rw [← HZ.out]; have := MZ.out; omega)) hz2)
        have KA := Lib.hid (show Kt (KB (TOB z (z + 1 + 1 + 1)) w8.heap.size) W6 wa by
          rw [hwa]
          refine (Kt.of_gb H7.out).trans ((Kt.of_row G9.out (fun o h => by
            obtain ⟨D, n, ⟨es, clock, hb, _⟩, _⟩ := CK7.out.m
            rw [show w7.heap[mb]? = _ from hb] at h; cases h
            show mb < w8.heap.size
            rw [SS.out]; omega)).trans (Kt.of_row (gb_set _ _ _ _) (fun o h => by rw [show w9.heap[z + 1 + 1]? = _ from Y2.out] at h; cases h; exact ⟨by omega, by omega⟩))))
        rw [← hwa] at y1 y2 ⊢
        clear hwa
        have Z1 := Lib.hid y1
        have Z2 := Lib.hid (show IsB wa (z + 1 + 1) 55 #[.int .i64 E] from y2)
        clear y1 y2 a1 a2 b1 b2
        refine wpIn_region_F (S := fun w' : World => w'.cell? ⟨z + 1, 0, none⟩ = some (.int .i64 (pre.length : Int)) ∧ w'.cell? ⟨z + 1 + 1, 0, none⟩ = some (.int .i64 E)) (by kernel_rfl) ⟨(Z1.out.keep0 (gb_drew wa none)).cell 0, (Z2.out.keep0 (gb_drew wa none)).cell 0⟩ (fun hH0 => ?_)
        refine wpAnyF_take (i := 0) (v := ?v9114) rfl (by kernel_rfl) (by kernel_rfl) (by kernel_rfl) (by kernel_rfl) (fun _ _ _ h => h) (Or.inl ⟨by rfl, ?hy9114⟩) (fun _ => rfl) (by assumption) ?rest9114
        case hy9114 => (intro wz hSw; (try dsimp only at hSw); first | (go_simp; done) | (go_simp; with_reducible rfl))
        try simp only [Act.put, List.getElem_toArray, List.getElem_cons_zero, List.setIfInBounds_toArray, List.set_cons_zero, List.set_cons_succ]
        refine wpAnyF_take (i := 1) (v := ?v9115) rfl (by kernel_rfl) (by kernel_rfl) (by kernel_rfl) (by kernel_rfl) (fun _ _ _ h => h) (Or.inl ⟨by rfl, ?hy9115⟩) (fun _ => rfl) (by assumption) ?rest9115
        case hy9115 => (intro wz hSw; (try dsimp only at hSw); first | (go_simp; done) | (go_simp; with_reducible rfl))
        try simp only [Act.put, List.getElem_toArray, List.getElem_cons_succ, List.getElem_cons_zero, List.setIfInBounds_toArray, List.set_cons_zero, List.set_cons_succ]
        have D1 := Lib.hid (Z1.out.keep0 (gb_drew wa none))
        have D2 := Lib.hid (Z2.out.keep0 (gb_drew wa none))
        have p1 := Z1.out.cell 0
        have p2 := Z2.out.cell 0
        have r1 := Z1.out.free 0
        have r2 := Z2.out.free 0
        dsimp at p1 p2
        have t1 := Lib.hid (D1.out.set 0 (.int .i64 (pre.length : Int)))
        have t2 := Lib.hid (D2.out.set_far (g2 := z + 1) (by omega) 0 (.int .i64 (pre.length : Int)))
        refine wpAnyF_ready (rs := [2]) (by kernel_rfl) (by simp) ?_
        refine AllF.cons (o := _) rfl (fun K' hK => ?_) AllF.nil
        refine opF_skip (w1 := wa.drew.setCell ⟨z + 1, 0, none⟩ (.int .i64 (pre.length : Int))) rfl (by intro c hc; cases hc) rfl (by go_simp) ?_
        refine hK.out _ _ (⟨t1.out.cell 0, t2.out.cell 0⟩ : (fun w' : World => w'.cell? ⟨z + 1, 0, none⟩ = some (.int .i64 (pre.length : Int)) ∧ w'.cell? ⟨z + 1 + 1, 0, none⟩ = some (.int .i64 E)) _) (fun hH1 => ?_)
        clear hK K' hH0
        have s1 := Lib.hid (t1.out.set_far (g2 := z + 1 + 1) (by omega) 0 (.int .i64 E))
        have s2 := Lib.hid (t2.out.set 0 (.int .i64 E))
        try simp only [Act.put, List.getElem_toArray, List.getElem_cons_succ, List.getElem_cons_zero]
        refine wpAnyF_ready (rs := [3]) (by kernel_rfl) (by simp) ?_
        refine AllF.cons (o := _) rfl (fun K' hK => ?_) AllF.nil
        refine opF_skip (w1 := (wa.drew.setCell ⟨z + 1, 0, none⟩ (.int .i64 (pre.length : Int))).setCell ⟨z + 1 + 1, 0, none⟩ (.int .i64 E)) rfl (by intro c hc; cases hc) rfl (by go_simp) ?_
        refine hK.out _ _ (⟨s1.out.cell 0, s2.out.cell 0⟩ : (fun w' : World => w'.cell? ⟨z + 1, 0, none⟩ = some (.int .i64 (pre.length : Int)) ∧ w'.cell? ⟨z + 1 + 1, 0, none⟩ = some (.int .i64 E)) _) (fun hH2 => ?_)
        clear hK K' hH1
        try simp only [Act.put, List.getElem_toArray, List.getElem_cons_succ, List.getElem_cons_zero]
        refine wpAnyF_done (by kernel_rfl) ?_ _
        clear hH2
        have CHE := Lib.hid (show chkL H M X.n2 T.pre [] 0 = ((pre.length : Int), E) by rw [CHS.out, if_neg E0.out])
        gi_wp2
        refine ⟨KA.out.trans ((Kt.of_gb (gb_drew wa none)).trans ((Kt.of_row (gb_set _ _ _ _) (fun o h => by rw [show wa.drew.heap[z + 1]? = _ from D1.out] at h; cases h; exact ⟨by omega, by omega⟩)).trans (Kt.of_row (gb_set _ _ _ _) (fun o h => by rw [show (wa.drew.setCell ⟨z + 1, 0, none⟩ (.int .i64 (pre.length : Int))).heap[z + 1 + 1]? = _ from t2.out] at h; cases h; exact ⟨by omega, by omega⟩)))), rfl, (pre.length : Int), E, CHE.out, s1.out, s2.out, gb_put (gb_put (gb_trans GA.out (gb_drew wa none)) hz1) hz2⟩
  case done =>
    rintro D w9 hD ⟨v1, ⟨v, v2⟩, ck, g5, hch⟩ hK
    have CF := Lib.hid (show chkC H M X.n2 T = (0, 0) by rw [CE.out, hch [] (by simp)]; rfl)
    have k0 := v1.cell 0
    have k1 := v2.cell 0
    have f0 := v1.free 0
    have f1 := v2.free 0
    dsimp at k0 k1
    have V1 := Lib.hid v1
    have V2 := Lib.hid v2
    have G5 := Lib.hid g5
    have HK := Lib.hid hK
    have HD := Lib.hid hD
    clear v1 v2 ck g5 hch hK hD
    gi_wp2
    have hk' : ((w9.setCell ⟨z + 1, 0, none⟩ (.int .i64 0)).setCell ⟨z + 1 + 1, 0, none⟩ (.int .i64 0)).heap[D]? = some (.deferred (some [])) := by
      have := HD.out
      have := SS.out
      have := MZ.out
      rw [Below.heap_setCell _ _ _ _ (by dsimp only; omega), Below.heap_setCell _ _ _ _ (by dsimp only; omega)]
      exact HK.out
    refine ⟨by simp, .inl ⟨_, _, rfl, run_takeDeferred hk', ?_⟩⟩
    have k := Kt.put (own := KI TZ w8.heap.size) (.deferred none) (fun o h => by rw [hk'] at h; cases h; exact ⟨HD.out, trivial⟩)
    have r1 := k.isb ((V1.out.set 0 (.int .i64 0)).set_far (g2 := z + 1 + 1) (by omega) 0 (.int .i64 0)) kiz
    have r2 := k.isb ((V2.out.set_far (g2 := z + 1) (by omega) 0 (.int .i64 0)).set 0 (.int .i64 0)) kiz
    have m1 := r1.cell 0
    have m2 := r2.cell 0
    (try dsimp at m1 m2)
    have hz1 : w.heap.size ≤ z + 1 := by rw [HZ.out]; omega
    have hz2 : w.heap.size ≤ z + 1 + 1 := by rw [HZ.out]; omega
    refine ⟨.tuple #[.int .i64 0, .int .i64 0], by rw [results_cells2 rfl]; go_simp, ?_⟩
    rw [CF.out]
    exact ⟨rfl, k.from_ (gb_put (gb_put G5.out hz1) hz2) (fun i o hi => kiz_low (by have := SS.out; have := MZ.out; have := HZ.out; omega) hi)⟩
  case stop =>
    rintro D c pre w9 hD hp ⟨rfl, i, e, h1, h2, h3, h4⟩ hK
    have CF := Lib.hid (show chkC H M X.n2 T = (i, e) by rw [CE.out, h1])
    have V1 := Lib.hid h2
    have V2 := Lib.hid h3
    have G5 := Lib.hid h4
    clear h1 h2 h3 h4
    gi_wp2
    refine ⟨by simp, .inl ⟨_, _, rfl, run_takeDeferred hK, ?_⟩⟩
    have k : Kt (KI TZ w8.heap.size) w9 (w9.putObj D (.deferred none)) := Kt.put _ fun o h => by rw [hK] at h; cases h; exact ⟨hD, trivial⟩
    have r1 := k.isb V1.out kiz
    have r2 := k.isb V2.out kiz
    have m1 := r1.cell 0
    have m2 := r2.cell 0
    (try dsimp at m1 m2)
    refine ⟨.tuple #[.int .i64 i, .int .i64 e], by rw [results_cells2 rfl]; go_simp, ?_⟩
    rw [CF.out]
    exact ⟨rfl, k.from_ G5.out (fun i o hi => kiz_low (by have := SS.out; have := MZ.out; have := HZ.out; omega) hi)⟩
end Go.Proofs.Ytdbjeihbfooipaa
