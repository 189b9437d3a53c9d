/- The queue's heap: the walk of pop. -/
import Derived.Test.YtmldoeigemippaaPqB
import Derived.Laws.ResultCell
namespace Go.Proofs.Ytmldoeigemippaa
open Go.RowKit
set_option linter.unusedVariables false

theorem results_cell1 {fn : Func} {p : Tmp} {ty : TypeId} (h : fn.results = #[.cell p ty]) (tmps : Array Value) (P : Program) (w : World) :
    (results fn tmps).run P w = ((asAddr (tmps.getD p undef)).run P w).andThen fun a w₁ => ((loadVar ty a).run P w₁) := by
  simp only [results, h]
  simp [Sem.run_bind, Result.andThen]
theorem alloc_sz (w : World) (o : Obj) : (w.alloc o).heap.size = w.heap.size + 1 := by show (w.heap.push _).size = _; simp
theorem set_sz (w : World) (a : Addr) (v : Value) : (w.setCell a v).heap.size = w.heap.size := by simp [World.setCell]
theorem gb_put {W0 w : World} {g i : Nat} {u : Value} (h : W0.grownBy w none) (hg : W0.heap.size ≤ g) : W0.grownBy (w.setCell ⟨g, i, none⟩ u) none := gb_new (gb_trans (gb_any h) (gb_set _ _ _ _)) hg
theorem isb_last (w : World) (o : Obj) (t : TypeId) (cs : Array Value) : IsB ((w.alloc o).alloc (.cells cs t)) (w.heap.size + 1) t cs := by
  have h := IsB.new (w.alloc o) t cs
  rwa [alloc_sz] at h
theorem new_old (w : World) (o : Obj) (t : TypeId) (cs : Array Value) : IsB ((w.alloc (.cells cs t)).alloc o) w.heap.size t cs := (IsB.new w t cs).alloc o
theorem it_take (E : Int → Int) (L : List Int) (m : Nat) : (L.take m).flatMap (itC E) = (L.flatMap (itC E)).take (m * 3) := by
  induction L generalizing m with
  | nil => simp
  | cons t s ih =>
    cases m with
    | zero => simp
    | succ m =>
      rw [List.take_succ_cons, List.flatMap_cons, List.flatMap_cons, ih, show (m + 1) * 3 = (itC E t).length + m * 3 by simp [itC]; omega, List.take_length_add_append]
theorem PL.pre {w : World} {base b n c : Nat} {E : Int → Int} {H : List Int} (h : PL w base (.slice (some ⟨b, 0, none⟩) n c) E H) (hn : n = H.length) (m : Nat) (hm : m ≤ n) : PL w base (.slice (some ⟨b, 0, none⟩) m c) E (H.take m) := by
  subst hn
  unfold PL at h ⊢
  have hl : (H.take m).length = m := by simp; omega
  rw [hl]
  rcases h.2 with ⟨h1, _⟩ | ⟨g, cap, cur, h1, h2, h3, h4, h5, h6, h7⟩
  · injection h1 with h1; cases h1
  · cases h1
    refine ⟨by rw [it_len, hl], Or.inr ⟨b, c, cur, rfl, h2, h3, by omega, h5, h6, ?_⟩⟩
    rw [it_take, ← h7, List.take_take, Nat.min_eq_left (by omega)]
/-- A store behind the row's end does not show. -/
theorem PL.beyond {w : World} {base b n c : Nat} {E : Int → Int} {H : List Int} (h : PL w base (.slice (some ⟨b, 0, none⟩) n c) E H) (hn : n = H.length) (j : Nat) (hj : n * 3 ≤ j) (u : Value) : PL (w.setCell ⟨b, j, none⟩ u) base (.slice (some ⟨b, 0, none⟩) n c) E H := by
  subst hn
  have k := (World.ownsRow.stored h j u).1
  rwa [List.set_eq_of_length_le (by rw [it_len]; exact hj)] at k
/-- A heap in memory: cell o of block hb holds its slice; its row; beside them the world only grew. -/
structure HQ (W : World) (hb o : Nat) (t : TypeId) (cs : Array Value) (base : Nat) (V : Value) (E : Int → Int) (H : List Int) (w : World) : Prop where
  var : IsB w hb t cs
  at_ : cs[o]? = some V
  row : PL w base V E H
  grown : W.grownBy w none
  lowv : W.heap.size ≤ hb
  lowr : W.heap.size ≤ base
/-- Behind the call no block but hb and r has changed. -/
structure Fr (w w2 : World) (hb : Nat) (r : Option Nat) : Prop where
  os : w2.os = w.os
  tape : w2.tape = w.tape
  output : w2.output = w.output
  size : w.heap.size ≤ w2.heap.size
  block : ∀ i, i < w.heap.size → i ≠ hb → r ≠ some i → w2.heap[i]? = w.heap[i]?
theorem Fr.refl (w : World) (hb : Nat) (r : Option Nat) : Fr w w hb r := ⟨rfl, rfl, rfl, Nat.le_refl _, fun _ _ _ _ => rfl⟩
theorem Fr.step {w w1 w2 : World} {hb : Nat} {r row : Option Nat} (h : Fr w w1 hb r) (k : w1.grownBy w2 row) (hq : ∀ q, row = some q → q = hb ∨ r = some q ∨ w.heap.size ≤ q) : Fr w w2 hb r := by
  refine ⟨k.os.trans h.os, k.tape.trans h.tape, k.output.trans h.output, Nat.le_trans h.size k.size, fun i hi h1 h2 => ?_⟩
  rw [k.block i (Nat.lt_of_lt_of_le hi h.size) (fun e => ?_)]
  · exact h.block i hi h1 h2
  · rcases hq i e.symm with q | q | q
    · exact h1 q
    · exact h2 q
    · omega
theorem Fr.trans {w w1 w2 : World} {hb : Nat} {r r2 : Option Nat} (h : Fr w w1 hb r) (k : Fr w1 w2 hb r2) (hq : r2 = r ∨ ∃ q, r2 = some q ∧ w.heap.size ≤ q) : Fr w w2 hb r := by
  refine ⟨k.os.trans h.os, k.tape.trans h.tape, k.output.trans h.output, Nat.le_trans h.size k.size, fun i hi h1 h2 => ?_⟩
  rw [k.block i (Nat.lt_of_lt_of_le hi h.size) h1 (fun e => ?_)]
  · exact h.block i hi h1 h2
  · rcases hq with q | ⟨q, q1, q2⟩
    · exact h2 (q ▸ e)
    · rw [q1] at e; injection e with e; omega
def popL (H : List Int) : List Int := sinkF (H.length - 1) 0 ((H.set 0 (H.getD (H.length - 1) 0)).take (H.length - 1))
theorem getD_cut (H : List Int) (m j : Nat) (y : Int) (hm : m < H.length) (hj : j < m) : ((H.set 0 y).take m).getD j 0 = if j = 0 then y else H.getD j 0 := by
  simp only [List.getD_eq_getElem?_getD, List.getElem?_take, hj, if_true, List.getElem?_set]
  by_cases h : j = 0
  · subst h; simp [show 0 < H.length by omega]
  · have : ¬ 0 = j := fun e => h e.symm
    simp [h, this]
theorem Dist.cut {H : List Int} (h : Dist H) (m : Nat) (hm : H.length = m + 1) : Dist ((H.set 0 (H.getD m 0)).take m) := by
  intro i j hi hj e
  simp only [List.length_take, List.length_set] at hi hj
  rw [getD_cut H m i _ (by omega) (by omega), getD_cut H m j _ (by omega) (by omega)] at e
  by_cases a : i = 0 <;> by_cases b : j = 0
  · omega
  · rw [if_pos a, if_neg b] at e
    have := h m j (by omega) (by omega) e; omega
  · rw [if_neg a, if_pos b] at e
    have := h i m (by omega) (by omega) e; omega
  · rw [if_neg a, if_neg b] at e
    exact h i j (by omega) (by omega) e
set_option maxRecDepth 100000 in
set_option maxHeartbeats 4000000 in
theorem pop_any (W w : World) (hb o : Nat) (t : TypeId) (cs : Array Value) (base : Nat) (V : Value) (E : Int → Int) (H : List Int) (h : HQ W hb o t cs base V E H w) (ht : t ≠ 65) (h1 : 1 ≤ H.length) (hn : H.length ≤ 100000) (hd : Dist H) :
    Calls Try.prog 23 #[.pointer (some ⟨hb, o, none⟩)] w fun e w' => e = .returned (.agg #[.int .i64 (kC (H.getD 0 0)), .int .u64 (tC (H.getD 0 0)), .int .i64 (E (tC (H.getD 0 0)))]) ∧ ∃ V', HQ W hb o t (cs.setIfInBounds o V') base V' E (popL H) w' ∧ V'.ownBlock = V.ownBlock ∧ Fr w w' hb V.ownBlock := by
  obtain ⟨b, c, rfl⟩ := h.row.headn (n := H.length) rfl (by omega)
  have HH := Lib.hid h
  obtain ⟨m, hm⟩ : ∃ m, H.length = m + 1 := ⟨H.length - 1, by omega⟩
  obtain ⟨cb, hbk⟩ := own_blk h.row
  have hne : hb ≠ b := IsB.ne h.var hbk ht
  have hne2 : b ≠ hb := fun e => hne e.symm
  have hlowb : base ≤ b := (World.ownsRow.lt h.row b rfl).1
  have hcap : H.length ≤ c := own_cap h.row
  have hbl : hb < w.heap.size := h.var.lt
  have hbl2 : b < w.heap.size := hbk.lt
  obtain ⟨x, hx⟩ : ∃ x, x = H.getD 0 0 := ⟨_, rfl⟩
  obtain ⟨y, hy⟩ : ∃ y, y = H.getD m 0 := ⟨_, rfl⟩
  have HX := Lib.hid hx
  have HY := Lib.hid hy
  have v1 : ∀ ob, (w.alloc ob).cell? ⟨hb, o, none⟩ = some (.slice (some ⟨b, 0, none⟩) H.length c) := fun ob => by rw [(h.var.alloc ob).cell o]; exact h.at_
  have X0 := fun ob => (h.row.keep0 (gb_alloc w ob none)).at_ rfl 0 (by omega)
  rw [← hx] at X0 ⊢
  have x1 := fun ob => (X0 ob).1
  have x2 := fun ob => (X0 ob).2.1
  have x3 := fun ob => (X0 ob).2.2
  have hsub : (H.length : Int) - 1 = (m : Int) := by omega
  have i0 : (0 : Int) < H.length := by omega
  have HM := Lib.hid hm
  have HD := Lib.hid hd
  clear h hm hx hy hbk X0 hd
  simp only [Nat.zero_mul, Nat.zero_add] at x1 x2 x3
  go_enter Try.func23, Try.ntmps23
  go_upto_region 3 with fail
  have B1 := new_old w (.cells #[.int .i64 (kC x), .int .u64 (tC x), .int .i64 (E (tC x))] 65) 65 #[.int .i64 0, .int .u64 0, .int .i64 0]
  have B2 := isb_last w (.cells #[.int .i64 0, .int .u64 0, .int .i64 0] 65) 65 #[.int .i64 (kC x), .int .u64 (tC x), .int .i64 (E (tC x))]
  have G2 := gb_trans (gb_alloc w (.cells #[.int .i64 0, .int .u64 0, .int .i64 0] 65) none) (gb_alloc _ (.cells #[.int .i64 (kC x), .int .u64 (tC x), .int .i64 (E (tC x))] 65) none)
  generalize (w.alloc (.cells #[.int .i64 0, .int .u64 0, .int .i64 0] 65)).alloc (.cells #[.int .i64 (kC x), .int .u64 (tC x), .int .i64 (E (tC x))] 65) = w2 at *
  obtain ⟨z, hz⟩ : ∃ z, z = w.heap.size := ⟨_, rfl⟩
  have HZ := Lib.hid hz
  rw [← hz] at B1 B2 hbl hbl2 ⊢
  have HB1 := Lib.hid B1
  have HB2 := Lib.hid B2
  have HG2 := Lib.hid G2
  have R2 := HH.out.row.keep0 G2
  obtain ⟨y1, y2, y3⟩ := R2.at_ rfl m (by have := HM.out; omega)
  rw [← HY.out] at y1 y2 y3
  have fr := fun j => R2.free rfl j
  have f0 := fr 0
  have f1 := fr 1
  have f2 := fr 2
  have fm0 := fr (m * 3)
  have fm1 := fr (m * 3 + 1)
  have fm2 := fr (m * 3 + 2)
  obtain ⟨c0, c1, c2⟩ := R2.at_ rfl 0 (by have := HM.out; omega)
  simp only [Nat.zero_mul, Nat.zero_add] at c0 c1 c2
  have Q1 := R2.put rfl 0 y
  simp only [Nat.zero_mul, Nat.zero_add] at Q1
  have FR2 := Lib.hid ((((Fr.refl w hb (some b)).step G2 (by intro q e; cases e)).step (gb_set w2 b 0 (.int .i64 (kC y))) (by intro q e; injection e with e; exact .inr (.inl (by rw [e])))).step (gb_trans (gb_set _ b 1 (.int .u64 (tC y))) (gb_set _ b 2 (.int .i64 (E (tC y))))) (by intro q e; injection e with e; exact .inr (.inl (by rw [e]))))
  have HV2 := Lib.hid ((((HH.out.var.keep0 G2).set_far hne 0 (.int .i64 (kC y))).set_far hne 1 (.int .u64 (tC y))).set_far hne 2 (.int .i64 (E (tC y))))
  have imc : (m : Int) ≤ c := by have := HM.out; omega
  have imc2 : m ≤ c := by have := HM.out; omega
  have iml : (m : Int) < H.length := by have := HM.out; omega
  have im0 : (0 : Int) ≤ (m : Int) := by omega
  have nz1 : b ≠ z := by omega
  have nz2 : b ≠ z + 1 := by omega
  have nz3 : hb ≠ z := by omega
  have nz4 : hb ≠ z + 1 := by omega
  have GW := Lib.hid (gb_put (i := 2) (u := .int .i64 (E (tC y))) (gb_put (i := 1) (u := .int .u64 (tC y)) (gb_put (i := 0) (u := .int .i64 (kC y)) (gb_trans HH.out.grown G2) (Nat.le_trans HH.out.lowr hlowb)) (Nat.le_trans HH.out.lowr hlowb)) (Nat.le_trans HH.out.lowr hlowb))
  have HB1 := Lib.hid (((HB1.out.set_far (Ne.symm nz1) 0 (.int .i64 (kC y))).set_far (Ne.symm nz1) 1 (.int .u64 (tC y))).set_far (Ne.symm nz1) 2 (.int .i64 (E (tC y))))
  have HB2 := Lib.hid (((HB2.out.set_far (Ne.symm nz2) 0 (.int .i64 (kC y))).set_far (Ne.symm nz2) 1 (.int .u64 (tC y))).set_far (Ne.symm nz2) 2 (.int .i64 (E (tC y))))
  clear B1 B2 G2 R2 fm0 fm1 fm2 v1 x1 x2 x3 hz HG2
  go_upto_region 4 with fail
  generalize ((w2.setCell ⟨b, 0, none⟩ (.int .i64 (kC y))).setCell ⟨b, 1, none⟩ (.int .u64 (tC y))).setCell ⟨b, 2, none⟩ (.int .i64 (E (tC y))) = w3 at *
  have hl3 : H.length = (H.set 0 y).length := by simp
  obtain ⟨d0, d1, d2⟩ := Q1.at_ hl3 m (by rw [← hl3]; have := HM.out; omega)
  have e0 := Q1.free hl3 (m * 3)
  have e1 := Q1.free hl3 (m * 3 + 1)
  have e2 := Q1.free hl3 (m * 3 + 2)
  have P1 := Q1.pre hl3 m (by have := HM.out; omega)
  have hlen : ((H.set 0 y).take m).length = m := by simp; have := HM.out; omega
  have P2 := ((P1.beyond hlen.symm (m * 3) (Nat.le_refl _) (.int .i64 0)).beyond hlen.symm (m * 3 + 1) (by omega) (.int .u64 0)).beyond hlen.symm (m * 3 + 2) (by omega) (.int .i64 0)
  have HSK := Lib.hid (sink_any _ base b m c E _ P2 hlen.symm (by have := HM.out; omega) (by rw [HY.out]; exact HD.out.cut m HM.out))
  have FR3 := Lib.hid (FR2.out.step (gb_trans (gb_trans (gb_set _ b (m * 3) (.int .i64 0)) (gb_set _ b (m * 3 + 1) (.int .u64 0))) (gb_set _ b (m * 3 + 2) (.int .i64 0))) (by intro q e; injection e with e; exact .inr (.inl (by rw [e]))))
  have GW := Lib.hid (gb_put (i := m * 3 + 2) (u := .int .i64 0) (gb_put (i := m * 3 + 1) (u := .int .u64 0) (gb_put (i := m * 3) (u := .int .i64 0) GW.out (Nat.le_trans HH.out.lowr hlowb)) (Nat.le_trans HH.out.lowr hlowb)) (Nat.le_trans HH.out.lowr hlowb))
  have HB1 := Lib.hid (((HB1.out.set_far (Ne.symm nz1) (m * 3) (.int .i64 0)).set_far (Ne.symm nz1) (m * 3 + 1) (.int .u64 0)).set_far (Ne.symm nz1) (m * 3 + 2) (.int .i64 0))
  have HB2 := Lib.hid (((HB2.out.set_far (Ne.symm nz2) (m * 3) (.int .i64 0)).set_far (Ne.symm nz2) (m * 3 + 1) (.int .u64 0)).set_far (Ne.symm nz2) (m * 3 + 2) (.int .i64 0))
  have HV2 := Lib.hid (((HV2.out.set_far hne (m * 3) (.int .i64 0)).set_far hne (m * 3 + 1) (.int .u64 0)).set_far hne (m * 3 + 2) (.int .i64 0))
  clear P1 P2 Q1 hlen hl3 c0 c1 c2 y1 y2 y3 f0 f1 f2
  go_wp2_with fail
  refine HSK.out.mono ?_
  rintro e w4 ⟨rfl, o4, g4⟩
  have V4 := Lib.hid (HV2.out.keep g4 (by intro e; injection e with e; exact hne e))
  have T1 := Lib.hid (HB1.out.keep g4 (by intro e; injection e with e; exact nz1 e.symm))
  have T2 := Lib.hid (HB2.out.keep g4 (by intro e; injection e with e; exact nz2 e.symm))
  have G4 := Lib.hid (gb_new (gb_trans (gb_any GW.out) g4) (Nat.le_trans HH.out.lowr hlowb))
  have F4 := Lib.hid (FR3.out.step g4 (by intro q e; injection e with e; exact .inr (.inl (by rw [e]))))
  have O4 := Lib.hid o4
  have vc : w4.cell? ⟨hb, o, none⟩ = some (.slice (some ⟨b, 0, none⟩) H.length c) := by rw [V4.out.cell o]; exact HH.out.at_
  have vf := V4.out.free o
  have t0 : w4.cell? ⟨z + 1, 0, none⟩ = some (.int .i64 (kC x)) := T2.out.cell 0
  have t1 : w4.cell? ⟨z + 1, 1, none⟩ = some (.int .u64 (tC x)) := T2.out.cell 1
  have t2 : w4.cell? ⟨z + 1, 2, none⟩ = some (.int .i64 (E (tC x))) := T2.out.cell 2
  have s0 : w4.cell? ⟨z, 0, none⟩ = some (.int .i64 0) := T1.out.cell 0
  have s1 : w4.cell? ⟨z, 1, none⟩ = some (.int .u64 0) := T1.out.cell 1
  have s2 : w4.cell? ⟨z, 2, none⟩ = some (.int .i64 0) := T1.out.cell 2
  have u0 := T1.out.free 0
  have u1 := T1.out.free 1
  have u2 := T1.out.free 2
  have nz5 : z ≠ hb := fun e => nz3 e.symm
  have nz6 : z + 1 ≠ hb := fun e => nz4 e.symm
  have lv := HH.out.lowv
  have lr := HH.out.lowr
  have lz : W.heap.size ≤ z := by rw [HZ.out]; exact HH.out.grown.size
  clear o4 g4 HSK d0 d1 d2 e0 e1 e2
  go_wp2
  have E2 : popL H = sinkF m 0 ((H.set 0 y).take m) := by unfold popL; rw [HM.out, Nat.add_sub_cancel, ← HY.out]
  have ob : some b ≠ some hb := by intro e; injection e with e; exact hne2 e
  have oz : some b ≠ some z := by intro e; injection e with e; exact nz1 e
  refine bodyPost_ret (v := .agg #[.int .i64 (kC x), .int .u64 (tC x), .int .i64 (E (tC x))]) (by rw [results_cell1 rfl]; go_simp) rfl ⟨rfl, .slice (some ⟨b, 0, none⟩) m c, ⟨?_, ?_, ?_, ?_, lv, lr⟩, rfl, ?_⟩
  · exact (((V4.out.set o _).set_far nz3 0 _).set_far nz3 1 _).set_far nz3 2 _
  · have hs : o < cs.size := by
      refine Nat.lt_of_not_le fun hh => ?_
      have := HH.out.at_
      rw [Array.getElem?_eq_none hh] at this
      cases this
    simp [hs]
  · rw [E2]
    exact World.ownsRow.kept (World.ownsRow.kept (World.ownsRow.kept (World.ownsRow.kept O4.out (gb_set _ _ _ _) (.inr ob)) (gb_set _ _ _ _) (.inr oz)) (gb_set _ _ _ _) (.inr oz)) (gb_set _ _ _ _) (.inr oz)
  · exact gb_put (gb_put (gb_put (gb_put G4.out lv) lz) lz) lz
  · have lzz : w.heap.size ≤ z := by rw [HZ.out]; exact Nat.le_refl _
    exact (F4.out.step (gb_set _ _ _ _) (by intro q e; injection e with e; exact .inl e.symm)).step (gb_trans (gb_trans (gb_set _ _ _ _) (gb_set _ _ _ _)) (gb_set _ _ _ _)) (by intro q e; injection e with e; exact .inr (.inr (by omega)))
end Go.Proofs.Ytmldoeigemippaa
