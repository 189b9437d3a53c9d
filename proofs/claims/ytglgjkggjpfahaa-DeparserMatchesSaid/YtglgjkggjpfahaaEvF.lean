/- Env: equality of rows; the declarations and the values as lists of lists; no condition but sizes. -/
import Derived.Test.YtglgjkggjpfahaaEvB
import Derived.Deep.Slices
namespace Go.Proofs.Ytglgjkggjpfahaa
open Go.RowKit Go.Deep
set_option linter.unusedVariables false
theorem SY.some {w : World} {a : Option Addr} {n c : Nat} {L : List Int} (h : SY w a n c L) (hn : 0 < n) : ∃ ad, a = some ad := by
  cases a with
  | none => have := (h.slr.2.1 rfl).1; omega
  | some ad => exact ⟨ad, rfl⟩
theorem SY.cells {w : World} {a : Option Addr} {n c : Nat} {L : List Int} (h : SY w a n c L) : ∀ ad, a = .some ad → ∀ j, j < n → w.cell? (ad.add j) = .some (.int .u8 (L.getD j 0)) := by
  intro ad e j hj
  subst e
  exact h.slr.cellAt j (by rw [h.len]; exact hj)
/-- A slice of slices of fields. -/
structure SFF (w : World) (a : Option Addr) (n c : Nat) (D : List (List Fld)) : Prop where
  len : D.length = n
  nil : a = none → n = 0 ∧ c = 0
  cap : n ≤ c
  cells : ∀ ad, a = some ad → ∀ j, j < n → ∃ fa fn fc, w.cell? (ad.add j) = some (.slice fa fn fc) ∧ SF w fa fn fc (D.getD j [])
theorem SFF.keep0 {w w2 : World} {a : Option Addr} {n c : Nat} {D : List (List Fld)} (h : SFF w a n c D) (k : w.grownBy w2 none) : SFF w2 a n c D :=
  ⟨h.len, h.nil, h.cap, fun ad e j hj => by obtain ⟨fa, fn, fc, h1, h2⟩ := h.cells ad e j hj; exact ⟨fa, fn, fc, k.cell h1 (by simp), h2.keep0 k⟩⟩
theorem SFF.some {w : World} {a : Option Addr} {n c : Nat} {D : List (List Fld)} (h : SFF w a n c D) (hn : 0 < n) : ∃ ad, a = some ad := by
  cases a with
  | none => have := (h.nil rfl).1; omega
  | some ad => exact ⟨ad, rfl⟩
/-- Heads that lead to fields. -/
def RF (w : World) (Vs : List Value) (D : List (List Fld)) : Prop := Vs.length = D.length ∧ ∀ j, j < D.length → ∃ fa fn fc, Vs.getD j nilV = .slice fa fn fc ∧ SF w fa fn fc (D.getD j [])
theorem RF.add {w : World} {Vs : List Value} {D : List (List Fld)} (h : RF w Vs D) {fa : Option Addr} {fn fc : Nat} {l : List Fld} (s : SF w fa fn fc l) : RF w (Vs ++ [.slice fa fn fc]) (D ++ [l]) := by
  refine ⟨by simp [h.1], fun j hj => ?_⟩
  by_cases e : j < D.length
  · obtain ⟨ga, gn, gc, h1, h2⟩ := h.2 j e
    refine ⟨ga, gn, gc, ?_, ?_⟩
    · rw [List.getD_eq_getElem?_getD, List.getElem?_append_left (by rw [h.1]; exact e), ← List.getD_eq_getElem?_getD]; exact h1
    · rw [List.getD_eq_getElem?_getD, List.getElem?_append_left e, ← List.getD_eq_getElem?_getD]; exact h2
  · simp at hj
    obtain rfl : j = D.length := by omega
    refine ⟨fa, fn, fc, ?_, ?_⟩
    · rw [List.getD_eq_getElem?_getD, List.getElem?_append_right (by rw [h.1]; omega)]; simp [h.1]
    · rw [List.getD_eq_getElem?_getD, List.getElem?_append_right (Nat.le_refl _)]; simpa using s
theorem rf_sff {w w2 : World} {base n c : Nat} {a : Option Addr} {Vs : List Value} {D : List (List Fld)} (h : RF w Vs D) (k : w.grownBy w2 none) (o : w2.ownsRow base 23 1 (.slice a n c) n Vs) (hn : D.length = n) : SFF w2 a n c D := by
  have s := own_slr o
  refine ⟨hn, s.2.1, own_cap o, fun ad e j hj => ?_⟩
  obtain ⟨fa, fn, fc, h1, h2⟩ := h.2 j (by omega)
  have hv : j < Vs.length := by rw [h.1]; omega
  refine ⟨fa, fn, fc, ?_, h2.keep0 k⟩
  rw [← h1]
  exact s.2.2 ad e j _ (by simp [hv])
theorem infoFs : (Try.prog.info? 23).map (fun i => (i.zero, i.size, i.bytes)) = some (some (.slice none 0 0), 1, 24) := by kernel_rfl
theorem fpush_any {w : World} {ops : Array Oper} {rest : List Oper} {o : Oper} {a : Act} {Q : Exit → Act → World → Prop} (hgd : o.guard = none) (s x : Operand)
    (ho : o.op = .call { callee := .builtin .append, args := #[s, x], argTypes := #[169, 169] }) (base : Nat) (V : Value) (Vs : List Value) (hs : a.eval s = V) (hown : w.ownsRow base 23 1 V Vs.length Vs)
    (ad : Addr) (c : Nat) (R : Value) (hx : a.eval x = .slice (some ad) 1 c) (hM : ∀ (j : Nat) (u : Value), ([R] : List Value)[j]? = some u → w.cell? (ad.add j) = some u) (hR : R.oneCell' = true) (hlen : Vs.length + 1 ≤ 1000000) (hbase : base ≤ w.heap.size)
    (h : ∀ V' w', w'.ownsRow base 23 1 V' (Vs ++ [R]).length (Vs ++ [R]) → w.grownBy w' V.ownBlock → wpList Try.prog ops Q rest (a.put o.dst V') w') : wpList Try.prog ops Q (o :: rest) a w := by
  obtain ⟨i0, hi, hz0, hz1, hz2⟩ := info_parts infoFs
  refine wpList_append_own w hgd s x 169 ho base 23 i0 (.slice none 0 0) 1 24 Try.underlying169 hi hz0 hz1 hz2 rfl (by decide) V Vs.length Vs hs hown ad 1 c [R] hx (by simp) hM (one_one _ hR) (by unfold maxLen; omega) (by omega) hbase ?_
  intro V' w' h1 h2 h3
  exact h V' w' (by simpa using h1) h2
/-- The declarations of the metadata and of the headers. -/
def dclL (H : List (ByteArray × List Fld)) (M : List Fld) : List (List Fld) := M :: H.map (·.2)
theorem dcl_len (H : List (ByteArray × List Fld)) (M : List Fld) : (dclL H M).length = H.length + 1 := by simp [dclL]
theorem dcl_take (H : List (ByteArray × List Fld)) (M : List Fld) (k : Nat) (h : k < H.length) : (dclL H M).take (k + 1) ++ [(H.getD k hz).2] = (dclL H M).take (k + 1 + 1) := by
  unfold dclL
  rw [List.take_succ_cons, List.take_succ_cons, List.take_succ_eq_append_getElem (by simpa using h)]
  simp [h]
def RetFF (D : List (List Fld)) (w : World) (e : Ending) (w' : World) : Prop := ∃ a c, e = .returned (.slice a D.length c) ∧ SFF w' a D.length c D ∧ w.grownBy w' none
def RetRR (L : List (List Int)) (w : World) (e : Ending) (w' : World) : Prop := ∃ a c, e = .returned (.slice a L.length c) ∧ SR w' a L.length c L ∧ w.grownBy w' none
theorem slr_lit {w : World} {g : Nat} {t : TypeId} {v : Value} (h : IsB w g t #[v]) : SlR w (some ⟨g, 0, none⟩) 1 1 [v] :=
  ⟨rfl, (fun e => by cases e), fun ad e j u hu => by
    cases e
    match j, hu with
    | 0, hu => simp at hu; subst hu; simpa [Addr.add] using h.cell 0⟩
theorem sx_two {w : World} {g : Nat} {t : TypeId} {a b : Option Addr} {n c m d : Nat} {K L : List Value} (h : IsB w g t #[.slice a n c, .slice b m d]) (hk : SlR w a n c K) (hl : SlR w b m d L) : SX w (some ⟨g, 0, none⟩) 2 2 [K, L] :=
  ⟨rfl, (fun e => by cases e), fun ad e j hj => by
    cases e
    match j, hj with
    | 0, _ => exact ⟨a, n, c, by simpa [Addr.add] using h.cell 0, hk⟩
    | 1, _ => exact ⟨b, m, d, by simpa [Addr.add] using h.cell 1, hl⟩⟩
theorem one_two {a : Option Addr} {n c : Nat} {Vs : List Value} (h : ∀ u ∈ Vs, u.oneCell' = true) : ∀ l ∈ ([[.slice a n c], Vs] : List (List Value)), ∀ u ∈ l, u.oneCell' = true := by
  intro l hl u hu
  rcases List.mem_cons.1 hl with rfl | hl
  · rw [List.mem_singleton.1 hu]; rfl
  · rw [List.mem_singleton.1 hl] at hu; exact h u hu
theorem own_one (w : World) (e : TypeId) (v : Value) : (w.alloc (.cells #[v] e)).ownsRow w.heap.size e 1 (.slice (some ⟨w.heap.size, 0, none⟩) 1 1) ([v] : List Value).length [v] :=
  World.ownsRow_lit (base := w.heap.size) (e := e) (size := 1) w #[v] 1 (Nat.le_refl _) (by unfold maxLen; omega) (by simp)
set_option maxRecDepth 100000 in
set_option maxHeartbeats 2000000 in
theorem dcl_any (w : World) (nm v3 v4 v5 v6 v7 v8 : Value) (ha ma : Option Addr) (hn hc mn mc : Nat) (H : List (ByteArray × List Fld)) (M : List Fld) (hH : SH w ha hn hc H) (hM : SF w ma mn mc M) (hb : hn ≤ 100000) :
    Calls Try.prog 137 #[.agg #[nm, .slice ha hn hc, .slice ma mn mc, v3, v4, v5, v6, v7, v8]] w (RetFF (dclL H M) w) := by
  have HH := Lib.hid hH
  have HM := Lib.hid hM
  have HL := Lib.hid hH.len
  have G1 := Lib.hid (gb_alloc w (.cells #[nm, .slice ha hn hc, .slice ma mn mc, v3, v4, v5, v6, v7, v8] 31) none)
  have B1 := IsB.new w 31 #[nm, .slice ha hn hc, .slice ma mn mc, v3, v4, v5, v6, v7, v8]
  replace B1 := Lib.hid B1
  clear hH hM
  go_enter Try.func137, Try.ntmps137
  go_upto_region 1 with fail
  generalize w.alloc (.cells #[nm, .slice ha hn hc, .slice ma mn mc, v3, v4, v5, v6, v7, v8] 31) = w1 at *
  obtain ⟨bx, hbx⟩ : ∃ b, b = w.heap.size := ⟨_, rfl⟩
  have Lbx := Lib.hid (show w.heap.size ≤ bx by rw [hbx]; exact Nat.le_refl _)
  rw [← hbx] at B1 ⊢
  clear hbx
  have c0 := B1.out.cell 0
  have c1 := B1.out.cell 1
  have c2 := B1.out.cell 2
  have c3 := B1.out.cell 3
  have c4 := B1.out.cell 4
  have c5 := B1.out.cell 5
  have c6 := B1.out.cell 6
  have c7 := B1.out.cell 7
  have c8 := B1.out.cell 8
  dsimp at c0 c1 c2 c3 c4 c5 c6 c7 c8
  have O2 := own_one w1 23 (.slice ma mn mc)
  have G2 := Lib.hid (gb_trans G1.out (gb_alloc w1 (.cells #[.slice ma mn mc] 23) none))
  have B2 := Lib.hid (B1.out.alloc (.cells #[.slice ma mn mc] 23))
  go_upto_region 2 with fail
  generalize w1.alloc (.cells #[.slice ma mn mc] 23) = w2 at *
  obtain ⟨V0, hV0⟩ : ∃ V0, V0 = (Value.slice (some ⟨w1.heap.size, 0, none⟩) 1 1) := ⟨_, rfl⟩
  rw [← hV0] at O2 ⊢
  have O2 := Lib.hid (own_low O2 G1.out.size)
  have F2 := Lib.hid (show RF w [.slice ma mn mc] ((dclL H M).take 1) by
    refine ⟨rfl, fun j hj => ?_⟩
    have : j = 0 := by simp [dclL] at hj; omega
    subst this
    exact ⟨ma, mn, mc, rfl, HM.out⟩)
  clear hV0 c0 c1 c2 c3 c4 c5 c6 c7 c8
  have c1 := B2.out.cell 1
  dsimp at c1
  go_wp2
  clear c1
  go_loopw [3, 12] (fun v i wr => ∃ (j : Nat) (Vs : List Value), j ≤ hn ∧ i = .int .i64 j ∧ wr.ownsRow w.heap.size 23 1 v Vs.length Vs ∧ RF w Vs ((dclL H M).take (j + 1)) ∧ w.grownBy wr none) (fun _ i _ => hn - (intOf i).toNat)
  case atStart => exact ⟨0, [.slice ma mn mc], Nat.zero_le _, rfl, O2.out, F2.out, G2.out⟩
  case round =>
    rename_i v0 w0
    obtain ⟨j, Vs, hj, rfl, ho, hf, hg⟩ := hrel
    have HO := Lib.hid ho
    have HF := Lib.hid hf
    have HG := Lib.hid hg
    clear ho hf hg O2 F2 G2 B2
    by_cases hlt : j < hn
    · obtain ⟨ad, rfl⟩ := HH.out.some (by omega)
      obtain ⟨d0, fa, fn, fc, d1, sf⟩ := (HH.out.keep0 HG.out).cells ad rfl j hlt
      have SF0 := Lib.hid (show SF w fa fn fc (H.getD j hz).2 by
        obtain ⟨_, ga, gn, gc, e1, s1⟩ := HH.out.cells ad rfl j hlt
        have e2 := HG.out.cell e1 (by simp)
        rw [e2] at d1
        injection d1 with d1
        injection d1 with q1 q2 q3
        subst q1 q2 q3
        exact s1)
      have i1 : (j : Int) < hn := by omega
      have i0 : (0 : Int) ≤ (j : Int) := by omega
      have hw : IntKind.i64.wrap ((j : Int) + 1) = ((j + 1 : Nat) : Int) := by rw [IntKind.wrap_i64]; omega
      have TK := Lib.hid (dcl_take H M j (by rw [HL.out]; exact hlt))
      have VB := Lib.hid (show Vs.length + 1 ≤ 1000000 by have := HF.out.1; rw [this, List.length_take]; omega)
      generalize (H.getD j hz).1 = hnm at *
      have GA := Lib.hid (gb_trans (gb_alloc wr (.cells #[.string hnm, .slice fa fn fc] 66) none) (gb_alloc _ (.cells #[.slice fa fn fc] 23) none))
      have NB1 := Lib.hid (IsB.new (wr.alloc (.cells #[.string hnm, .slice fa fn fc] 66)) 23 #[.slice fa fn fc])
      have OA := Lib.hid (own_keep0 HO.out GA.out)
      have SZ := Lib.hid (Nat.le_trans HG.out.size GA.out.size)
      clear sf
      go_wp2_with (at_builtin; refine fpush_any rfl _ _ rfl w.heap.size _ Vs rfl OA.out _ _ (.slice fa fn fc) rfl (one_cell _ _ _ _ (sz_al _ _).symm) rfl VB.out SZ.out ?_; intro V' w3 ho3 hg3)
      have O3 := Lib.hid ho3
      have G3 := Lib.hid (gb_lows (gb_trans HG.out GA.out) hg3 fun g e => (World.ownsRow.lt OA.out g e).1)
      clear ho3 hg3
      go_roundw
      case rel => exact ⟨j + 1, _, by omega, by first | rfl | (congr 1), O3.out, by rw [← TK.out]; exact HF.out.add SF0.out, G3.out⟩
      case measure => simp [intOf]; omega
    · have i1 : ¬ (j : Int) < hn := by omega
      obtain rfl : j = hn := by omega
      have TA := Lib.hid (show (dclL H M).take (j + 1) = dclL H M from List.take_of_length_le (by rw [dcl_len, HL.out]; exact Nat.le_refl _))
      rw [TA.out] at HF
      have hl := HF.out.1
      go_wp2
      obtain ⟨va, vc, hv⟩ := own_shape HO.out
      rw [hl] at hv
      subst hv
      go_ret
      refine ⟨va, vc, rfl, rf_sff HF.out HG.out (base := w.heap.size) (by have k := HO.out; rwa [hl] at k) rfl, HG.out⟩
theorem sr_vals {w : World} {a : Option Addr} {n c : Nat} {F : List (List Int)} (h : SR w a n c F) : ∃ Vs : List Value, SlR w a n c Vs ∧ Vs.length = n ∧ (∀ u ∈ Vs, u.oneCell' = true) ∧ ∀ j, j < n → ∃ fa fn fc, Vs.getD j nilV = .slice fa fn fc ∧ SU w fa fn fc (F.getD j []) := by
  cases a with
  | none =>
    obtain ⟨rfl, rfl⟩ := h.nil rfl
    exact ⟨[], ⟨rfl, fun _ => ⟨rfl, rfl⟩, fun ad e => by cases e⟩, rfl, (by intro u hu; cases hu), fun j hj => absurd hj (Nat.not_lt_zero _)⟩
  | some ad =>
    have each : ∀ i, i < n → ∃ v : Value, w.cell? (ad.add i) = some v ∧ ∃ fa fn fc, v = .slice fa fn fc ∧ SU w fa fn fc (F.getD i []) := by
      intro i hi
      obtain ⟨fa, fn, fc, h1, h2⟩ := h.cells ad rfl i hi
      exact ⟨_, h1, fa, fn, fc, rfl, h2⟩
    obtain ⟨V, hV⟩ := choose_lt each
    refine ⟨(List.range n).map V, ⟨by simp, (fun e => by cases e), fun ad2 e j u hu => ?_⟩, by simp, ?_, fun j hj => ?_⟩
    · cases e
      have hj : j < n := by have := (List.getElem?_eq_some_iff.1 hu).1; simpa using this
      simp [hj] at hu
      rw [← hu]; exact (hV j hj).1
    · intro u hu
      obtain ⟨j, hj, rfl⟩ := List.mem_map.1 hu
      obtain ⟨_, fa, fn, fc, e, _⟩ := hV j (List.mem_range.1 hj)
      rw [e]; rfl
    · obtain ⟨_, fa, fn, fc, e, su⟩ := hV j hj
      exact ⟨fa, fn, fc, by simp [hj, e], su⟩
theorem vals_sr {w w2 : World} {base m : Nat} {a : Option Addr} {c : Nat} {ta : Option Addr} {tn tc n : Nat} {Vs : List Value} {T : List Int} {F : List (List Int)} (k : w.grownBy w2 none) (hT : SU w ta tn tc T) (hl : Vs.length = n) (hF : F.length = n) (hV : ∀ j, j < n → ∃ fa fn fc, Vs.getD j nilV = .slice fa fn fc ∧ SU w fa fn fc (F.getD j []))
    (hm : (T :: F).length = m) (o : w2.ownsRow base 40 1 (.slice a m c) m (.slice ta tn tc :: Vs)) : SR w2 a m c (T :: F) := by
  have s := own_slr o
  refine ⟨hm, s.2.1, own_cap o, fun ad e j hj => ?_⟩
  cases j with
  | zero => exact ⟨ta, tn, tc, s.2.2 ad e 0 _ rfl, hT.keep0 k⟩
  | succ j =>
    have hj2 : j < n := by simp at hm; omega
    obtain ⟨fa, fn, fc, h1, h2⟩ := hV j hj2
    refine ⟨fa, fn, fc, ?_, h2.keep0 k⟩
    rw [← h1]
    exact s.2.2 ad e (j + 1) _ (by simp [hl, hj2])
set_option maxRecDepth 100000 in
set_option maxHeartbeats 2000000 in
theorem vals_any (w : World) (X : EX) (L : EL) (h : ER w X L) (hb : X.fn ≤ 5864062014634) : Calls Try.prog 138 #[.agg #[.slice X.va X.vn X.vc, .slice X.fa X.fn X.fc, .slice X.ta X.tn X.tc, .slice X.pa X.pn X.pc]] w (RetRR (L.T :: L.F) w) := by
  obtain ⟨Vs, s1, s2, s3, s4⟩ := sr_vals h.f
  have HT := Lib.hid h.t
  have FL := Lib.hid h.f.len
  have S1 := Lib.hid s1
  have S2 := Lib.hid s2
  have S3 := Lib.hid s3
  have S4 := Lib.hid s4
  have G1 := Lib.hid (gb_alloc w (.cells #[.slice X.va X.vn X.vc, .slice X.fa X.fn X.fc, .slice X.ta X.tn X.tc, .slice X.pa X.pn X.pc] 42) none)
  have B1 := IsB.new w 42 #[.slice X.va X.vn X.vc, .slice X.fa X.fn X.fc, .slice X.ta X.tn X.tc, .slice X.pa X.pn X.pc]
  replace B1 := Lib.hid B1
  clear h s1 s2 s3 s4
  go_enter Try.func138, Try.ntmps138
  go_upto_region 1 with fail
  generalize w.alloc (.cells #[.slice X.va X.vn X.vc, .slice X.fa X.fn X.fc, .slice X.ta X.tn X.tc, .slice X.pa X.pn X.pc] 42) = w1 at *
  obtain ⟨bx, hbx⟩ : ∃ b, b = w.heap.size := ⟨_, rfl⟩
  have Lbx := Lib.hid (show w.heap.size ≤ bx by rw [hbx]; exact Nat.le_refl _)
  rw [← hbx] at B1 ⊢
  clear hbx
  have c0 := B1.out.cell 0
  have c1 := B1.out.cell 1
  have c2 := B1.out.cell 2
  have c3 := B1.out.cell 3
  dsimp at c0 c1 c2 c3
  have g2 := gb_alloc w1 (.cells #[.slice X.ta X.tn X.tc] 40) none
  have N1 := IsB.new w1 40 #[.slice X.ta X.tn X.tc]
  have g3 := gb_alloc (w1.alloc (.cells #[.slice X.ta X.tn X.tc] 40)) (.cells #[.slice (some ⟨w1.heap.size, 0, none⟩) 1 1, .slice X.fa X.fn X.fc] 39) none
  have N2 := IsB.new (w1.alloc (.cells #[.slice X.ta X.tn X.tc] 40)) 39 #[.slice (some ⟨w1.heap.size, 0, none⟩) 1 1, .slice X.fa X.fn X.fc]
  rw [sz_al] at N2
  have SXX := sx_two N2 ((slr_lit N1).keep0 g3) (S1.out.keep0 (gb_trans G1.out (gb_trans g2 g3)))
  have G3 := Lib.hid (gb_trans G1.out (gb_trans g2 g3))
  have JN := Lib.hid (jnR_any _ _ 2 2 [[.slice X.ta X.tn X.tc], Vs] SXX (one_two S3.out) (by decide) (by have := S2.out; simp; omega))
  have d1 := (B1.out.alloc (.cells #[.slice X.ta X.tn X.tc] 40)).cell 1
  dsimp at d1
  clear g2 g3 N1 N2 SXX
  rw [show ([[Value.slice X.ta X.tn X.tc], Vs] : List (List Value)).flatten = Value.slice X.ta X.tn X.tc :: Vs by simp] at JN
  go_wp2_with (go_at_call 143; refine JN.out.mono ?_; rintro e w4 ⟨V, rfl, r4, g4⟩)
  have hlen : (Value.slice X.ta X.tn X.tc :: Vs).length = (L.T :: L.F).length := by simp [S2.out, FL.out]
  rw [hlen] at r4
  obtain ⟨va, vc, rfl⟩ := own_shape r4
  go_ret
  exact ⟨va, vc, rfl, vals_sr (gb_trans G3.out g4) HT.out S2.out FL.out S4.out rfl r4, gb_trans G3.out g4⟩
end Go.Proofs.Ytglgjkggjpfahaa
