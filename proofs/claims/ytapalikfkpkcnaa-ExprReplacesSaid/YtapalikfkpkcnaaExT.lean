/- Expr: the laws' join and same; no condition but the lengths. -/
import Derived.Test.YtapalikfkpkcnaaExN
import Derived.Test.YtapalikfkpkcnaaExO
namespace Go.Proofs.Ytapalikfkpkcnaa
open Go.RowKit
set_option linter.unusedVariables false
def ndC (x : Nd) : List Value := [.int .i64 x.1, .int .i64 x.2.1, .int .i64 x.2.2]
/-- A slice of nodes of the call's own. -/
def OL (w : World) (base : Nat) (V : Value) (M : List Nd) : Prop := w.ownsRow base 63 3 V M.length (M.flatMap ndC)
theorem OL.nil (w : World) (base : Nat) : OL w base (.slice none 0 0) [] := World.ownsRow_nil _ _ _ _
theorem OL.keep0 {w w2 : World} {base : Nat} {V : Value} {M : List Nd} (h : OL w base V M) (k : w.grownBy w2 none) : OL w2 base V M := own_keep0 h k
theorem OL.shape {w : World} {base : Nat} {V : Value} {M : List Nd} (h : OL w base V M) : ∃ a c, V = .slice a M.length c := own_shape h
theorem infoNd : (Try.prog.info? 63).map (fun i => (i.zero, i.size, i.bytes)) = some (some (.agg #[.int .i64 0, .int .i64 0, .int .i64 0]), 3, 24) := by kernel_rfl
theorem ndC_one (t : Nd) : ∀ u ∈ ndC t, u.oneCell' = true := by
  intro u hu
  simp only [ndC, List.mem_cons, List.not_mem_nil, or_false] at hu
  rcases hu with rfl | rfl | rfl <;> rfl
theorem nds_one (L : List Nd) : ∀ u ∈ L.flatMap ndC, u.oneCell' = true := by
  intro u hu
  obtain ⟨p, _, h⟩ := List.mem_flatMap.1 hu
  exact ndC_one p u h
theorem ndC_len (M : List Nd) : (M.flatMap ndC).length = M.length * 3 := by
  induction M with
  | nil => rfl
  | cons p L ih => rw [List.flatMap_cons, List.length_append, ih, List.length_cons]; show 3 + _ = _; omega
theorem ndC_at (L : List Nd) (j : Nat) (h : j < L.length) : (L.flatMap ndC)[j * 3]? = some (.int .i64 (L.getD j nz).1) ∧ (L.flatMap ndC)[j * 3 + 1]? = some (.int .i64 (L.getD j nz).2.1) ∧ (L.flatMap ndC)[j * 3 + 2]? = some (.int .i64 (L.getD j nz).2.2) := by
  induction L generalizing j with
  | nil => simp at h
  | cons t s ih =>
    cases j with
    | zero => simp [ndC]
    | succ j =>
      have e1 : (j + 1) * 3 = j * 3 + 3 := by omega
      have e2 : (j + 1) * 3 + 1 = (j * 3 + 1) + 3 := by omega
      have e3 : (j + 1) * 3 + 2 = (j * 3 + 2) + 3 := by omega
      have k := ih j (by simpa using h)
      rw [List.flatMap_cons, e2, e3, e1]
      simpa [ndC] using k
theorem sn_flat {w : World} {ad : Addr} {n c : Nat} {L : List Nd} (h : SN w (some ad) n c L) : ∀ j u, (L.flatMap ndC)[j]? = some u → w.cell? (ad.add j) = some u := by
  intro j u hu
  have hj : j < n * 3 := by
    have := (List.getElem?_eq_some_iff.1 hu).1
    rwa [ndC_len, h.len] at this
  obtain ⟨c1, c2, c3⟩ := h.cells ad rfl (j / 3) (by omega)
  obtain ⟨k1, k2, k3⟩ := ndC_at L (j / 3) (by rw [h.len]; omega)
  rw [add_nextR] at c2
  have a2 : (⟨(ad.add (j / 3 * 3)).block, (ad.add (j / 3 * 3)).off + 2, none⟩ : Addr) = ad.add (j / 3 * 3 + 2) := by rw [← Addr.add_add]; rfl
  rw [a2] at c3
  rcases (show j % 3 = 0 ∨ j % 3 = 1 ∨ j % 3 = 2 by omega) with e | e | e
  · have e2 : j / 3 * 3 = j := by omega
    rw [e2] at c1 k1
    rw [c1, ← hu, k1]
  · have e2 : j / 3 * 3 + 1 = j := by omega
    rw [e2] at c2 k2
    rw [c2, ← hu, k2]
  · have e2 : j / 3 * 3 + 2 = j := by omega
    rw [e2] at c3 k3
    rw [c3, ← hu, k3]
theorem pushNds {w : World} {ops : Array Oper} {rest : List Oper} {o : Oper} {a : Act} {Q : Exit → Act → World → Prop} (hgd : o.guard = none) (s x : Operand)
    (ho : o.op = .call { callee := .builtin .append, args := #[s, x], argTypes := #[32, 32] }) (base : Nat) (V : Value) (M : List Nd) (hs : a.eval s = V) (hown : OL w base V M)
    (ad : Option Addr) (m c : Nat) (L : List Nd) (hx : a.eval x = .slice ad m c) (hL : SN w ad m c L) (hlen : M.length + L.length ≤ 1000000) (hbase : base ≤ w.heap.size)
    (h : ∀ V' w', OL w' base V' (M ++ L) → w.grownBy w' V.ownBlock → wpList Try.prog ops Q rest (a.put o.dst V') w') : wpList Try.prog ops Q (o :: rest) a w := by
  obtain ⟨i0, hi, hz0, hz1, hz2⟩ := info_parts infoNd
  have hl := hL.len
  subst hl
  cases ad with
  | none =>
    obtain ⟨h0, rfl⟩ := hL.nil rfl
    have hm : L = [] := List.length_eq_zero_iff.1 h0
    subst hm
    refine wpList_append_own_none hgd s x 32 ho base 63 i0 3 Try.underlying32 hi V M.length (M.flatMap ndC) hs hown hx ?_
    refine h V w (by simpa using hown) ?_
    cases V.ownBlock <;> exact gb_refl _ _
  | some ad =>
    refine wpList_append_own w hgd s x 32 ho base 63 i0 _ 3 24 Try.underlying32 hi hz0 hz1 hz2 rfl (by decide) V M.length (M.flatMap ndC) hs hown ad L.length c (L.flatMap ndC) hx (ndC_len L) (sn_flat hL) (nds_one L) (by unfold maxLen; omega) (by omega) hbase ?_
    intro V' w' h1 h2 h3
    refine h V' w' ?_ h2
    unfold OL
    rw [List.flatMap_append, List.length_append]
    exact h1
theorem OL.at_ {w : World} {base g c : Nat} {L : List Nd} (h : OL w base (.slice (some ⟨g, 0, none⟩) L.length c) L) (j : Nat) (hj : j < L.length) :
    w.cell? ⟨g, j * 3, none⟩ = some (.int .i64 (L.getD j nz).1) ∧ w.cell? ⟨g, j * 3 + 1, none⟩ = some (.int .i64 (L.getD j nz).2.1) ∧ w.cell? ⟨g, j * 3 + 2, none⟩ = some (.int .i64 (L.getD j nz).2.2) := by
  obtain ⟨k1, k2, k3⟩ := ndC_at L j hj
  have hl := ndC_len L
  refine ⟨?_, ?_, ?_⟩
  · rw [World.ownsRow.cellAt h (j * 3) (by omega), k1]
  · rw [World.ownsRow.cellAt h (j * 3 + 1) (by omega), k2]
  · rw [World.ownsRow.cellAt h (j * 3 + 2) (by omega), k3]
theorem sn_own {w : World} {base c : Nat} {a : Option Addr} {L : List Nd} (h : OL w base (.slice a L.length c) L) (hr : ∀ x ∈ L, -9223372036854775808 ≤ x.2.1 ∧ x.2.1 ≤ 9223372036854775807) : SN w a L.length c L := by
  refine ⟨rfl, ?_, own_cap h, ?_, hr⟩
  · intro ha
    subst ha
    rcases h.2 with ⟨k, h0⟩ | ⟨g, cap, cur, k, _⟩
    · injection k with _ _ kc; exact ⟨h0, kc⟩
    · injection k with k; cases k
  · intro ad ha j hj
    subst ha
    obtain ⟨g, d, hV⟩ := own_head h (by omega)
    injection hV with hV1 hV2 hV3
    injection hV1 with hV1
    subst hV1
    obtain ⟨k1, k2, k3⟩ := OL.at_ h j hj
    rw [addR0]
    exact ⟨k1, k2, k3⟩
theorem sn_nil (w : World) : SN w none 0 0 [] := ⟨rfl, fun _ => ⟨rfl, rfl⟩, Nat.le_refl _, (fun ad e => by cases e), (fun x hx => by cases hx)⟩
set_option maxRecDepth 100000 in
set_option maxHeartbeats 4000000 in
theorem join_any (w : World) (a b d : Option Addr) (n c m e l f : Nat) (A B D : List Nd) (hA : SN w a n c A) (hB : SN w b m e B) (hD : SN w d l f D) (h1 : n ≤ 1000) (h2 : m ≤ 1000) (h3 : l ≤ 1000) :
    Calls Try.prog 17 #[.slice a n c, .slice b m e, .slice d l f] w (fun en w' => ∃ ra rc, en = .returned (.slice ra (A ++ (B ++ D)).length rc) ∧ SN w' ra (A ++ (B ++ D)).length rc (A ++ (B ++ D)) ∧ w.grownBy w' none) := by
  have HA := Lib.hid hA
  have HB := Lib.hid hB
  have HD := Lib.hid hD
  have LA := hA.len
  have LB := hB.len
  have LD := hD.len
  have RG := Lib.hid (show ∀ x ∈ A ++ (B ++ D), -9223372036854775808 ≤ x.2.1 ∧ x.2.1 ≤ 9223372036854775807 from fun x hx => by
    rcases List.mem_append.1 hx with hx | hx
    · exact hA.rng x hx
    · rcases List.mem_append.1 hx with hx | hx
      · exact hB.rng x hx
      · exact hD.rng x hx)
  have g1 := Lib.hid (show A.length ≤ 1000 by omega)
  have g2 := Lib.hid (show B.length ≤ 1000 by omega)
  have g3 := Lib.hid (show D.length ≤ 1000 by omega)
  clear hA hB hD LA LB LD
  go_enter Try.func17, Try.ntmps17
  go_wp2_with (at_builtin; refine pushNds rfl _ _ rfl w.heap.size _ [] rfl (OL.nil _ _) a n c A rfl HA.out (by have := g1.out; simp; omega) (Nat.le_refl _) ?_)
  intro V1 w1 o1 k1
  have o1 : OL w1 w.heap.size V1 A := o1
  have G1 := Lib.hid (show w.grownBy w1 none from k1)
  have O1 := Lib.hid o1
  clear o1 k1
  go_wp2_with (at_builtin; refine pushNds rfl _ _ rfl w.heap.size _ A rfl O1.out b m e B rfl (HB.out.keep0 G1.out) (by have := g1.out; have := g2.out; omega) G1.out.size ?_)
  intro V2 w2 o2 k2
  have G2 := Lib.hid (gb_own G1.out O1.out (Nat.le_refl _) k2)
  have O2 := Lib.hid o2
  clear o2 k2
  go_wp2_with (at_builtin; refine pushNds rfl _ _ rfl w.heap.size _ (A ++ B) rfl O2.out d l f D rfl (HD.out.keep0 G2.out) (by have := g1.out; have := g2.out; have := g3.out; rw [List.length_append]; omega) G2.out.size ?_)
  intro V3 w3 o3 k3
  have G3 := Lib.hid (gb_own G2.out O2.out (Nat.le_refl _) k3)
  have o3 : OL w3 w.heap.size V3 (A ++ (B ++ D)) := by first | exact o3 | (rw [← List.append_assoc]; exact o3)
  obtain ⟨ra, rc, rfl⟩ := o3.shape
  have S3 := Lib.hid (sn_own o3 RG.out)
  clear o3 k3
  go_wp2
  go_ret
  exact ⟨_, _, rfl, S3.out, G3.out⟩
set_option maxRecDepth 100000 in
set_option maxHeartbeats 20000000 in
theorem same_any (w : World) (X : KX) (C : Cx) (N : List Nd) (hC : CR w X C N) (a b : Option Addr) (n c m d : Nat) (NA NB : List Nd) (tw tv : Int) (ha : SN w a n c NA) (hb : SN w b m d NB) (hra : wholeT C NA = .ok (tw, tv)) (hrb : wholeT C NB = .ok (tw, tv)) :
    Calls Try.prog 18 #[.agg #[.string X.nm, .slice X.ha X.hn X.hc, .slice X.ma X.mn X.mc, .slice X.a0 X.n0 X.c0, .slice X.a1 X.n1 X.c1, .slice X.a2 X.n2 X.c2, .slice X.a3 X.n3 X.c3, .slice X.a4 X.n4 X.c4, .slice X.a5 X.n5 X.c5, .slice X.pa X.pn X.pc, .slice X.na X.nn X.nc, .slice X.va X.vn X.vc, .slice X.fa X.fn X.fc, .slice X.ta X.tn X.tc, .slice X.la X.ln X.lc, .slice X.aa X.an X.ac], .slice a n c, .slice b m d] w (RetV (.bool true) w) := by
  have CC := Lib.hid hC
  have SA := Lib.hid ha
  have SB := Lib.hid hb
  have SCo := Lib.hid (fun w => scope_any w X)
  unfold RetV at SCo
  obtain ⟨A, hA⟩ : ∃ A, A = w.heap.size := ⟨_, rfl⟩
  obtain ⟨w1, hw1⟩ : ∃ w1, w1 = w.alloc (.cells #[.string X.nm, .slice X.ha X.hn X.hc, .slice X.ma X.mn X.mc, .slice X.a0 X.n0 X.c0, .slice X.a1 X.n1 X.c1, .slice X.a2 X.n2 X.c2, .slice X.a3 X.n3 X.c3, .slice X.a4 X.n4 X.c4, .slice X.a5 X.n5 X.c5, .slice X.pa X.pn X.pc, .slice X.na X.nn X.nc, .slice X.va X.vn X.vc, .slice X.fa X.fn X.fc, .slice X.ta X.tn X.tc, .slice X.la X.ln X.lc, .slice X.aa X.an X.ac] 40) := ⟨_, rfl⟩
  have BA := Lib.hid (show IsB w1 A 40 #[.string X.nm, .slice X.ha X.hn X.hc, .slice X.ma X.mn X.mc, .slice X.a0 X.n0 X.c0, .slice X.a1 X.n1 X.c1, .slice X.a2 X.n2 X.c2, .slice X.a3 X.n3 X.c3, .slice X.a4 X.n4 X.c4, .slice X.a5 X.n5 X.c5, .slice X.pa X.pn X.pc, .slice X.na X.nn X.nc, .slice X.va X.vn X.vc, .slice X.fa X.fn X.fc, .slice X.ta X.tn X.tc, .slice X.la X.ln X.lc, .slice X.aa X.an X.ac] from by rw [hw1, hA]; exact IsB.new _ _ _)
  have GZ := Lib.hid (show w.grownBy w1 none from by rw [hw1]; exact gb_al (gb_refl _ _))
  have XN := fun (al : Option Addr) (nl cl : Nat) (L : List Nd) (hL : SN w al nl cl L) (hr : wholeT C L = .ok (tw, tv)) (w2 : World) (g : w.grownBy w2 none) => kcheck_any w2 { X with na := al, nn := nl, nc := cl } C L ⟨hL.keep0 g, hC.hd.keep0 g, hC.md.keep0 g, hC.pd.keep0 g, hC.vd.keep0 g, hC.fd.keep0 g, hC.td.keep0 g, hC.ad.keep0 g⟩
  have XE := fun (al : Option Addr) (nl cl : Nat) (L : List Nd) (hL : SN w al nl cl L) (hr : wholeT C L = .ok (tw, tv)) (w2 : World) (g : w.grownBy w2 none) => keval_any w2 { X with na := al, nn := nl, nc := cl } C L ⟨hL.keep0 g, hC.hd.keep0 g, hC.md.keep0 g, hC.pd.keep0 g, hC.vd.keep0 g, hC.fd.keep0 g, hC.td.keep0 g, hC.ad.keep0 g⟩
  have K1 := Lib.hid (show ∀ (w2 : World), w.grownBy w2 none → Calls Try.prog 8 #[.slice a n c, .agg #[.string X.nm, .slice X.ha X.hn X.hc, .slice X.ma X.mn X.mc, .slice X.a0 X.n0 X.c0, .slice X.a1 X.n1 X.c1, .slice X.a2 X.n2 X.c2, .slice X.a3 X.n3 X.c3, .slice X.a4 X.n4 X.c4, .slice X.a5 X.n5 X.c5, .slice X.pa X.pn X.pc]] w2 (fun e w' => e = .returned (.tuple #[.int .i64 tw, .int .i64 0]) ∧ w2.grownBy w' none) from fun w2 g => by
    have := XN a n c NA ha hra w2 g
    unfold RetWE at this
    rw [hra] at this
    exact this)
  have K2 := Lib.hid (show ∀ (w2 : World), w.grownBy w2 none → Calls Try.prog 8 #[.slice b m d, .agg #[.string X.nm, .slice X.ha X.hn X.hc, .slice X.ma X.mn X.mc, .slice X.a0 X.n0 X.c0, .slice X.a1 X.n1 X.c1, .slice X.a2 X.n2 X.c2, .slice X.a3 X.n3 X.c3, .slice X.a4 X.n4 X.c4, .slice X.a5 X.n5 X.c5, .slice X.pa X.pn X.pc]] w2 (fun e w' => e = .returned (.tuple #[.int .i64 tw, .int .i64 0]) ∧ w2.grownBy w' none) from fun w2 g => by
    have := XN b m d NB hb hrb w2 g
    unfold RetWE at this
    rw [hrb] at this
    exact this)
  have E1 := Lib.hid (show ∀ (w2 : World), w.grownBy w2 none → Calls Try.prog 10 #[.slice a n c, .agg #[.string X.nm, .slice X.ha X.hn X.hc, .slice X.ma X.mn X.mc, .slice X.a0 X.n0 X.c0, .slice X.a1 X.n1 X.c1, .slice X.a2 X.n2 X.c2, .slice X.a3 X.n3 X.c3, .slice X.a4 X.n4 X.c4, .slice X.a5 X.n5 X.c5, .slice X.pa X.pn X.pc], .agg #[.slice X.va X.vn X.vc, .slice X.fa X.fn X.fc, .slice X.ta X.tn X.tc, .slice X.la X.ln X.lc], .slice X.aa X.an X.ac] w2 (fun e w' => e = .returned (.int .u32 tv) ∧ w2.grownBy w' none) from fun w2 g => by
    have := XE a n c NA ha hra w2 g
    unfold RetV at this
    rw [hra] at this
    exact this)
  have E2 := Lib.hid (show ∀ (w2 : World), w.grownBy w2 none → Calls Try.prog 10 #[.slice b m d, .agg #[.string X.nm, .slice X.ha X.hn X.hc, .slice X.ma X.mn X.mc, .slice X.a0 X.n0 X.c0, .slice X.a1 X.n1 X.c1, .slice X.a2 X.n2 X.c2, .slice X.a3 X.n3 X.c3, .slice X.a4 X.n4 X.c4, .slice X.a5 X.n5 X.c5, .slice X.pa X.pn X.pc], .agg #[.slice X.va X.vn X.vc, .slice X.fa X.fn X.fc, .slice X.ta X.tn X.tc, .slice X.la X.ln X.lc], .slice X.aa X.an X.ac] w2 (fun e w' => e = .returned (.int .u32 tv) ∧ w2.grownBy w' none) from fun w2 g => by
    have := XE b m d NB hb hrb w2 g
    unfold RetV at this
    rw [hrb] at this
    exact this)
  clear XN XE hC ha hb hra hrb
  go_enter Try.func18, Try.ntmps18
  go_upto_region 1 with fail
  rw [← hw1, ← hA]
  clear hw1 hA
  have s0 : w1.cell? ⟨A, 0, none⟩ = some (.string X.nm) := (BA.out).cell 0
  have s1 : w1.cell? ⟨A, 1, none⟩ = some (.slice X.ha X.hn X.hc) := (BA.out).cell 1
  have s2 : w1.cell? ⟨A, 2, none⟩ = some (.slice X.ma X.mn X.mc) := (BA.out).cell 2
  have s3 : w1.cell? ⟨A, 3, none⟩ = some (.slice X.a0 X.n0 X.c0) := (BA.out).cell 3
  have s4 : w1.cell? ⟨A, 4, none⟩ = some (.slice X.a1 X.n1 X.c1) := (BA.out).cell 4
  have s5 : w1.cell? ⟨A, 5, none⟩ = some (.slice X.a2 X.n2 X.c2) := (BA.out).cell 5
  have s6 : w1.cell? ⟨A, 6, none⟩ = some (.slice X.a3 X.n3 X.c3) := (BA.out).cell 6
  have s7 : w1.cell? ⟨A, 7, none⟩ = some (.slice X.a4 X.n4 X.c4) := (BA.out).cell 7
  have s8 : w1.cell? ⟨A, 8, none⟩ = some (.slice X.a5 X.n5 X.c5) := (BA.out).cell 8
  have s9 : w1.cell? ⟨A, 9, none⟩ = some (.slice X.pa X.pn X.pc) := (BA.out).cell 9
  have s10 : w1.cell? ⟨A, 10, none⟩ = some (.slice X.na X.nn X.nc) := (BA.out).cell 10
  have s11 : w1.cell? ⟨A, 11, none⟩ = some (.slice X.va X.vn X.vc) := (BA.out).cell 11
  have s12 : w1.cell? ⟨A, 12, none⟩ = some (.slice X.fa X.fn X.fc) := (BA.out).cell 12
  have s13 : w1.cell? ⟨A, 13, none⟩ = some (.slice X.ta X.tn X.tc) := (BA.out).cell 13
  have s14 : w1.cell? ⟨A, 14, none⟩ = some (.slice X.la X.ln X.lc) := (BA.out).cell 14
  have s15 : w1.cell? ⟨A, 15, none⟩ = some (.slice X.aa X.an X.ac) := (BA.out).cell 15
  go_wp2_with fail
  refine (SCo.out _).mono ?_
  rintro e x1 ⟨rfl, g⟩
  replace GZ := Lib.hid (gb_trans GZ.out g)
  replace BA := Lib.hid (BA.out.keep0 g)
  clear s0 s1 s2 s3 s4 s5 s6 s7 s8 s9 s10 s11 s12 s13 s14 s15
  clear g
  go_wp2_with fail
  refine (K1.out _ GZ.out).mono ?_
  rintro e x2 ⟨rfl, g⟩
  replace GZ := Lib.hid (gb_trans GZ.out g)
  replace BA := Lib.hid (BA.out.keep0 g)
  clear g
  have s0 : x2.cell? ⟨A, 0, none⟩ = some (.string X.nm) := (BA.out).cell 0
  have s1 : x2.cell? ⟨A, 1, none⟩ = some (.slice X.ha X.hn X.hc) := (BA.out).cell 1
  have s2 : x2.cell? ⟨A, 2, none⟩ = some (.slice X.ma X.mn X.mc) := (BA.out).cell 2
  have s3 : x2.cell? ⟨A, 3, none⟩ = some (.slice X.a0 X.n0 X.c0) := (BA.out).cell 3
  have s4 : x2.cell? ⟨A, 4, none⟩ = some (.slice X.a1 X.n1 X.c1) := (BA.out).cell 4
  have s5 : x2.cell? ⟨A, 5, none⟩ = some (.slice X.a2 X.n2 X.c2) := (BA.out).cell 5
  have s6 : x2.cell? ⟨A, 6, none⟩ = some (.slice X.a3 X.n3 X.c3) := (BA.out).cell 6
  have s7 : x2.cell? ⟨A, 7, none⟩ = some (.slice X.a4 X.n4 X.c4) := (BA.out).cell 7
  have s8 : x2.cell? ⟨A, 8, none⟩ = some (.slice X.a5 X.n5 X.c5) := (BA.out).cell 8
  have s9 : x2.cell? ⟨A, 9, none⟩ = some (.slice X.pa X.pn X.pc) := (BA.out).cell 9
  have s10 : x2.cell? ⟨A, 10, none⟩ = some (.slice X.na X.nn X.nc) := (BA.out).cell 10
  have s11 : x2.cell? ⟨A, 11, none⟩ = some (.slice X.va X.vn X.vc) := (BA.out).cell 11
  have s12 : x2.cell? ⟨A, 12, none⟩ = some (.slice X.fa X.fn X.fc) := (BA.out).cell 12
  have s13 : x2.cell? ⟨A, 13, none⟩ = some (.slice X.ta X.tn X.tc) := (BA.out).cell 13
  have s14 : x2.cell? ⟨A, 14, none⟩ = some (.slice X.la X.ln X.lc) := (BA.out).cell 14
  have s15 : x2.cell? ⟨A, 15, none⟩ = some (.slice X.aa X.an X.ac) := (BA.out).cell 15
  go_wp2_with fail
  refine (SCo.out _).mono ?_
  rintro e x3 ⟨rfl, g⟩
  replace GZ := Lib.hid (gb_trans GZ.out g)
  replace BA := Lib.hid (BA.out.keep0 g)
  clear s0 s1 s2 s3 s4 s5 s6 s7 s8 s9 s10 s11 s12 s13 s14 s15
  clear g
  go_wp2_with fail
  refine (K2.out _ GZ.out).mono ?_
  rintro e x4 ⟨rfl, g⟩
  replace GZ := Lib.hid (gb_trans GZ.out g)
  replace BA := Lib.hid (BA.out.keep0 g)
  clear g
  go_upto_region 3 with fail
  have KT := Lib.hid (fun (w' : World) (h : IsB w' A 40 #[.string X.nm, .slice X.ha X.hn X.hc, .slice X.ma X.mn X.mc, .slice X.a0 X.n0 X.c0, .slice X.a1 X.n1 X.c1, .slice X.a2 X.n2 X.c2, .slice X.a3 X.n3 X.c3, .slice X.a4 X.n4 X.c4, .slice X.a5 X.n5 X.c5, .slice X.pa X.pn X.pc, .slice X.na X.nn X.nc, .slice X.va X.vn X.vc, .slice X.fa X.fn X.fc, .slice X.ta X.tn X.tc, .slice X.la X.ln X.lc, .slice X.aa X.an X.ac]) => (⟨h.cell 0, h.cell 1, h.cell 2, h.cell 3, h.cell 4, h.cell 5, h.cell 6, h.cell 7, h.cell 8, h.cell 9, h.cell 10, h.cell 11, h.cell 12, h.cell 13, h.cell 14, h.cell 15, trivial⟩ : (fun w' : World => w'.cell? ⟨A, 0, none⟩ = some (.string X.nm) ∧ w'.cell? ⟨A, 1, none⟩ = some (.slice X.ha X.hn X.hc) ∧ w'.cell? ⟨A, 2, none⟩ = some (.slice X.ma X.mn X.mc) ∧ w'.cell? ⟨A, 3, none⟩ = some (.slice X.a0 X.n0 X.c0) ∧ w'.cell? ⟨A, 4, none⟩ = some (.slice X.a1 X.n1 X.c1) ∧ w'.cell? ⟨A, 5, none⟩ = some (.slice X.a2 X.n2 X.c2) ∧ w'.cell? ⟨A, 6, none⟩ = some (.slice X.a3 X.n3 X.c3) ∧ w'.cell? ⟨A, 7, none⟩ = some (.slice X.a4 X.n4 X.c4) ∧ w'.cell? ⟨A, 8, none⟩ = some (.slice X.a5 X.n5 X.c5) ∧ w'.cell? ⟨A, 9, none⟩ = some (.slice X.pa X.pn X.pc) ∧ w'.cell? ⟨A, 10, none⟩ = some (.slice X.na X.nn X.nc) ∧ w'.cell? ⟨A, 11, none⟩ = some (.slice X.va X.vn X.vc) ∧ w'.cell? ⟨A, 12, none⟩ = some (.slice X.fa X.fn X.fc) ∧ w'.cell? ⟨A, 13, none⟩ = some (.slice X.ta X.tn X.tc) ∧ w'.cell? ⟨A, 14, none⟩ = some (.slice X.la X.ln X.lc) ∧ w'.cell? ⟨A, 15, none⟩ = some (.slice X.aa X.an X.ac) ∧ True) w'))
  refine wp_region_held_drew (S := (fun w' : World => w'.cell? ⟨A, 0, none⟩ = some (.string X.nm) ∧ w'.cell? ⟨A, 1, none⟩ = some (.slice X.ha X.hn X.hc) ∧ w'.cell? ⟨A, 2, none⟩ = some (.slice X.ma X.mn X.mc) ∧ w'.cell? ⟨A, 3, none⟩ = some (.slice X.a0 X.n0 X.c0) ∧ w'.cell? ⟨A, 4, none⟩ = some (.slice X.a1 X.n1 X.c1) ∧ w'.cell? ⟨A, 5, none⟩ = some (.slice X.a2 X.n2 X.c2) ∧ w'.cell? ⟨A, 6, none⟩ = some (.slice X.a3 X.n3 X.c3) ∧ w'.cell? ⟨A, 7, none⟩ = some (.slice X.a4 X.n4 X.c4) ∧ w'.cell? ⟨A, 8, none⟩ = some (.slice X.a5 X.n5 X.c5) ∧ w'.cell? ⟨A, 9, none⟩ = some (.slice X.pa X.pn X.pc) ∧ w'.cell? ⟨A, 10, none⟩ = some (.slice X.na X.nn X.nc) ∧ w'.cell? ⟨A, 11, none⟩ = some (.slice X.va X.vn X.vc) ∧ w'.cell? ⟨A, 12, none⟩ = some (.slice X.fa X.fn X.fc) ∧ w'.cell? ⟨A, 13, none⟩ = some (.slice X.ta X.tn X.tc) ∧ w'.cell? ⟨A, 14, none⟩ = some (.slice X.la X.ln X.lc) ∧ w'.cell? ⟨A, 15, none⟩ = some (.slice X.aa X.an X.ac) ∧ True)) (by kernel_rfl) (KT.out _ (BA.out.keep0 (gb_drew _ none))) (fun hH0 => ?_)
  have g := gb_drew x4 none
  replace GZ := Lib.hid (gb_trans GZ.out g)
  replace BA := Lib.hid (BA.out.keep0 g)
  clear g
  refine wpAnyH_take (i := 0) (v := ?v1) rfl (by kernel_rfl) (by kernel_rfl) (by kernel_rfl) (fun _ _ _ h => h) (Or.inl ⟨by rfl, ?hy1⟩) (by assumption) ?rest1
  case hy1 => (intro wz hSw; (try dsimp only at hSw); first | (go_simp; done) | (go_simp; with_reducible rfl))
  try simp only [Act.put, List.getElem_toArray, List.getElem_cons_zero, List.setIfInBounds_toArray, List.set_cons_zero, List.set_cons_succ]
  refine wpAnyH_take (i := 1) (v := ?v2) rfl (by kernel_rfl) (by kernel_rfl) (by kernel_rfl) (fun _ _ _ h => h) (Or.inl ⟨by rfl, ?hy2⟩) (by assumption) ?rest2
  case hy2 => (intro wz hSw; (try dsimp only at hSw); first | (go_simp; done) | (go_simp; with_reducible rfl))
  try simp only [Act.put, List.getElem_toArray, List.getElem_cons_succ, List.getElem_cons_zero, List.setIfInBounds_toArray, List.set_cons_zero, List.set_cons_succ]
  refine wpAnyH_take (i := 2) (v := ?v3) rfl (by kernel_rfl) (by kernel_rfl) (by kernel_rfl) (fun _ _ _ h => h) (Or.inl ⟨by rfl, ?hy3⟩) (by assumption) ?rest3
  case hy3 => (intro wz hSw; (try dsimp only at hSw); first | (go_simp; done) | (go_simp; with_reducible rfl))
  try simp only [Act.put, List.getElem_toArray, List.getElem_cons_succ, List.getElem_cons_zero, List.setIfInBounds_toArray, List.set_cons_zero, List.set_cons_succ]
  refine wpAnyH_take (i := 3) (v := ?v4) rfl (by kernel_rfl) (by kernel_rfl) (by kernel_rfl) (fun _ _ _ h => h) (Or.inl ⟨by rfl, ?hy4⟩) (by assumption) ?rest4
  case hy4 => (intro wz hSw; (try dsimp only at hSw); first | (go_simp; done) | (go_simp; with_reducible rfl))
  try simp only [Act.put, List.getElem_toArray, List.getElem_cons_succ, List.getElem_cons_zero, List.setIfInBounds_toArray, List.set_cons_zero, List.set_cons_succ]
  refine wpAnyH_take (i := 4) (v := ?v5) rfl (by kernel_rfl) (by kernel_rfl) (by kernel_rfl) (fun _ _ _ h => h) (Or.inl ⟨by rfl, ?hy5⟩) (by assumption) ?rest5
  case hy5 => (intro wz hSw; (try dsimp only at hSw); first | (go_simp; done) | (go_simp; with_reducible rfl))
  try simp only [Act.put, List.getElem_toArray, List.getElem_cons_succ, List.getElem_cons_zero, List.setIfInBounds_toArray, List.set_cons_zero, List.set_cons_succ]
  refine wpAnyH_take (i := 5) (v := ?v6) rfl (by kernel_rfl) (by kernel_rfl) (by kernel_rfl) (fun _ _ _ h => h) (Or.inl ⟨by rfl, ?hy6⟩) (by assumption) ?rest6
  case hy6 => (intro wz hSw; (try dsimp only at hSw); first | (go_simp; done) | (go_simp; with_reducible rfl))
  try simp only [Act.put, List.getElem_toArray, List.getElem_cons_succ, List.getElem_cons_zero, List.setIfInBounds_toArray, List.set_cons_zero, List.set_cons_succ]
  refine wpAnyH_take (i := 6) (v := ?v7) rfl (by kernel_rfl) (by kernel_rfl) (by kernel_rfl) (fun _ _ _ h => h) (Or.inl ⟨by rfl, ?hy7⟩) (by assumption) ?rest7
  case hy7 => (intro wz hSw; (try dsimp only at hSw); first | (go_simp; done) | (go_simp; with_reducible rfl))
  try simp only [Act.put, List.getElem_toArray, List.getElem_cons_succ, List.getElem_cons_zero, List.setIfInBounds_toArray, List.set_cons_zero, List.set_cons_succ]
  refine wpAnyH_take (i := 7) (v := ?v8) rfl (by kernel_rfl) (by kernel_rfl) (by kernel_rfl) (fun _ _ _ h => h) (Or.inl ⟨by rfl, ?hy8⟩) (by assumption) ?rest8
  case hy8 => (intro wz hSw; (try dsimp only at hSw); first | (go_simp; done) | (go_simp; with_reducible rfl))
  try simp only [Act.put, List.getElem_toArray, List.getElem_cons_succ, List.getElem_cons_zero, List.setIfInBounds_toArray, List.set_cons_zero, List.set_cons_succ]
  refine wpAnyH_take (i := 8) (v := ?v9) rfl (by kernel_rfl) (by kernel_rfl) (by kernel_rfl) (fun _ _ _ h => h) (Or.inl ⟨by rfl, ?hy9⟩) (by assumption) ?rest9
  case hy9 => (intro wz hSw; (try dsimp only at hSw); first | (go_simp; done) | (go_simp; with_reducible rfl))
  try simp only [Act.put, List.getElem_toArray, List.getElem_cons_succ, List.getElem_cons_zero, List.setIfInBounds_toArray, List.set_cons_zero, List.set_cons_succ]
  refine wpAnyH_take (i := 9) (v := ?v10) rfl (by kernel_rfl) (by kernel_rfl) (by kernel_rfl) (fun _ _ _ h => h) (Or.inl ⟨by rfl, ?hy10⟩) (by assumption) ?rest10
  case hy10 => (intro wz hSw; (try dsimp only at hSw); first | (go_simp; done) | (go_simp; with_reducible rfl))
  try simp only [Act.put, List.getElem_toArray, List.getElem_cons_succ, List.getElem_cons_zero, List.setIfInBounds_toArray, List.set_cons_zero, List.set_cons_succ]
  refine wpAnyH_take (i := 10) (v := ?v11) rfl (by kernel_rfl) (by kernel_rfl) (by kernel_rfl) (fun _ _ _ h => h) (Or.inl ⟨by rfl, ?hy11⟩) (by assumption) ?rest11
  case hy11 => (intro wz hSw; (try dsimp only at hSw); first | (go_simp; done) | (go_simp; with_reducible rfl))
  try simp only [Act.put, List.getElem_toArray, List.getElem_cons_succ, List.getElem_cons_zero, List.setIfInBounds_toArray, List.set_cons_zero, List.set_cons_succ]
  refine wpAnyH_take (i := 12) (v := ?v12) rfl (by kernel_rfl) (by kernel_rfl) (by kernel_rfl) (fun _ _ _ h => h) (Or.inl ⟨by rfl, ?hy12⟩) (by assumption) ?rest12
  case hy12 => (intro wz hSw; (try dsimp only at hSw); first | (go_simp; done) | (go_simp; with_reducible rfl))
  try simp only [Act.put, List.getElem_toArray, List.getElem_cons_succ, List.getElem_cons_zero, List.setIfInBounds_toArray, List.set_cons_zero, List.set_cons_succ]
  refine wpAnyH_take (i := 13) (v := ?v13) rfl (by kernel_rfl) (by kernel_rfl) (by kernel_rfl) (fun _ _ _ h => h) (Or.inl ⟨by rfl, ?hy13⟩) (by assumption) ?rest13
  case hy13 => (intro wz hSw; (try dsimp only at hSw); first | (go_simp; done) | (go_simp; with_reducible rfl))
  try simp only [Act.put, List.getElem_toArray, List.getElem_cons_succ, List.getElem_cons_zero, List.setIfInBounds_toArray, List.set_cons_zero, List.set_cons_succ]
  refine wpAnyH_take (i := 14) (v := ?v14) rfl (by kernel_rfl) (by kernel_rfl) (by kernel_rfl) (fun _ _ _ h => h) (Or.inl ⟨by rfl, ?hy14⟩) (by assumption) ?rest14
  case hy14 => (intro wz hSw; (try dsimp only at hSw); first | (go_simp; done) | (go_simp; with_reducible rfl))
  try simp only [Act.put, List.getElem_toArray, List.getElem_cons_succ, List.getElem_cons_zero, List.setIfInBounds_toArray, List.set_cons_zero, List.set_cons_succ]
  refine wpAnyH_take (i := 15) (v := ?v15) rfl (by kernel_rfl) (by kernel_rfl) (by kernel_rfl) (fun _ _ _ h => h) (Or.inl ⟨by rfl, ?hy15⟩) (by assumption) ?rest15
  case hy15 => (intro wz hSw; (try dsimp only at hSw); first | (go_simp; done) | (go_simp; with_reducible rfl))
  try simp only [Act.put, List.getElem_toArray, List.getElem_cons_succ, List.getElem_cons_zero, List.setIfInBounds_toArray, List.set_cons_zero, List.set_cons_succ]
  refine wpAnyH_take (i := 17) (v := ?v16) rfl (by kernel_rfl) (by kernel_rfl) (by kernel_rfl) (fun _ _ _ h => h) (Or.inl ⟨by rfl, ?hy16⟩) (by assumption) ?rest16
  case hy16 => (intro wz hSw; (try dsimp only at hSw); first | (go_simp; done) | (go_simp; with_reducible rfl))
  try simp only [Act.put, List.getElem_toArray, List.getElem_cons_succ, List.getElem_cons_zero, List.setIfInBounds_toArray, List.set_cons_zero, List.set_cons_succ]
  refine wpAnyH_take (i := 18) (v := ?v17) rfl (by kernel_rfl) (by kernel_rfl) (by kernel_rfl) (fun _ _ _ h => h) (Or.inl ⟨by rfl, ?hy17⟩) (by assumption) ?rest17
  case hy17 => (intro wz hSw; (try dsimp only at hSw); first | (go_simp; done) | (go_simp; with_reducible rfl))
  try simp only [Act.put, List.getElem_toArray, List.getElem_cons_succ, List.getElem_cons_zero, List.setIfInBounds_toArray, List.set_cons_zero, List.set_cons_succ]
  refine wpAnyH_take (i := 20) (v := ?v18) rfl (by kernel_rfl) (by kernel_rfl) (by kernel_rfl) (fun _ _ _ h => h) (Or.inl ⟨by rfl, ?hy18⟩) (by assumption) ?rest18
  case hy18 => (intro wz hSw; (try dsimp only at hSw); first | (go_simp; done) | (go_simp; with_reducible rfl))
  try simp only [Act.put, List.getElem_toArray, List.getElem_cons_succ, List.getElem_cons_zero, List.setIfInBounds_toArray, List.set_cons_zero, List.set_cons_succ]
  refine wpAnyH_take (i := 21) (v := ?v19) rfl (by kernel_rfl) (by kernel_rfl) (by kernel_rfl) (fun _ _ _ h => h) (Or.inl ⟨by rfl, ?hy19⟩) (by assumption) ?rest19
  case hy19 => (intro wz hSw; (try dsimp only at hSw); first | (go_simp; done) | (go_simp; with_reducible rfl))
  try simp only [Act.put, List.getElem_toArray, List.getElem_cons_succ, List.getElem_cons_zero, List.setIfInBounds_toArray, List.set_cons_zero, List.set_cons_succ]
  refine wpAnyH_take (i := 22) (v := ?v20) rfl (by kernel_rfl) (by kernel_rfl) (by kernel_rfl) (fun _ _ _ h => h) (Or.inl ⟨by rfl, ?hy20⟩) (by assumption) ?rest20
  case hy20 => (intro wz hSw; (try dsimp only at hSw); first | (go_simp; done) | (go_simp; with_reducible rfl))
  try simp only [Act.put, List.getElem_toArray, List.getElem_cons_succ, List.getElem_cons_zero, List.setIfInBounds_toArray, List.set_cons_zero, List.set_cons_succ]
  refine wpAnyH_take (i := 23) (v := ?v21) rfl (by kernel_rfl) (by kernel_rfl) (by kernel_rfl) (fun _ _ _ h => h) (Or.inl ⟨by rfl, ?hy21⟩) (by assumption) ?rest21
  case hy21 => (intro wz hSw; (try dsimp only at hSw); first | (go_simp; done) | (go_simp; with_reducible rfl))
  try simp only [Act.put, List.getElem_toArray, List.getElem_cons_succ, List.getElem_cons_zero, List.setIfInBounds_toArray, List.set_cons_zero, List.set_cons_succ]
  refine wpAnyH_ready (rs := [11]) (by kernel_rfl) (by simp) ?_
  refine AllReadyH.cons (o := _) rfl (fun K hK => ?_) AllReadyH.nil
  go_simp
  refine (SCo.out _).mono ?_
  rintro e x5 ⟨rfl, g⟩
  try dsimp only
  replace GZ := Lib.hid (gb_trans GZ.out g)
  replace BA := Lib.hid (BA.out.keep0 g)
  clear g
  refine hK.out _ _ (KT.out _ BA.out) (fun hH1 => ?_)
  clear hK K hH0
  try simp only [Act.put, List.getElem_toArray, List.getElem_cons_succ, List.getElem_cons_zero, List.setIfInBounds_toArray, List.set_cons_zero, List.set_cons_succ]
  refine wpAnyH_ready (rs := [16]) (by kernel_rfl) (by simp) ?_
  refine AllReadyH.cons (o := _) rfl (fun K hK => ?_) AllReadyH.nil
  go_simp
  refine (E1.out _ GZ.out).mono ?_
  rintro e x6 ⟨rfl, g⟩
  try dsimp only
  replace GZ := Lib.hid (gb_trans GZ.out g)
  replace BA := Lib.hid (BA.out.keep0 g)
  clear g
  refine hK.out _ _ (KT.out _ BA.out) (fun hH2 => ?_)
  clear hK K hH1
  try simp only [Act.put, List.getElem_toArray, List.getElem_cons_succ, List.getElem_cons_zero, List.setIfInBounds_toArray, List.set_cons_zero, List.set_cons_succ]
  refine wpAnyH_ready (rs := [19]) (by kernel_rfl) (by simp) ?_
  refine AllReadyH.cons (o := _) rfl (fun K hK => ?_) AllReadyH.nil
  go_simp
  refine (SCo.out _).mono ?_
  rintro e x7 ⟨rfl, g⟩
  try dsimp only
  replace GZ := Lib.hid (gb_trans GZ.out g)
  replace BA := Lib.hid (BA.out.keep0 g)
  clear g
  refine hK.out _ _ (KT.out _ BA.out) (fun hH3 => ?_)
  clear hK K hH2
  try simp only [Act.put, List.getElem_toArray, List.getElem_cons_succ, List.getElem_cons_zero, List.setIfInBounds_toArray, List.set_cons_zero, List.set_cons_succ]
  refine wpAnyH_ready (rs := [24]) (by kernel_rfl) (by simp) ?_
  refine AllReadyH.cons (o := _) rfl (fun K hK => ?_) AllReadyH.nil
  go_simp
  refine (E2.out _ GZ.out).mono ?_
  rintro e x8 ⟨rfl, g⟩
  try dsimp only
  replace GZ := Lib.hid (gb_trans GZ.out g)
  replace BA := Lib.hid (BA.out.keep0 g)
  clear g
  refine hK.out _ _ (KT.out _ BA.out) (fun hH4 => ?_)
  clear hK K hH3
  try simp only [Act.put, List.getElem_toArray, List.getElem_cons_succ, List.getElem_cons_zero, List.setIfInBounds_toArray, List.set_cons_zero, List.set_cons_succ]
  refine wpAnyH_take (i := 25) (v := ?v22) rfl (by kernel_rfl) (by kernel_rfl) (by kernel_rfl) (fun _ _ _ h => h) (Or.inl ⟨by rfl, ?hy22⟩) (by assumption) ?rest22
  case hy22 => (intro wz hSw; (try dsimp only at hSw); first | (go_simp; done) | (go_simp; with_reducible rfl))
  try simp only [Act.put, List.getElem_toArray, List.getElem_cons_succ, List.getElem_cons_zero, List.setIfInBounds_toArray, List.set_cons_zero, List.set_cons_succ]
  refine wpAnyH_take (i := 26) (v := ?v23) rfl (by kernel_rfl) (by kernel_rfl) (by kernel_rfl) (fun _ _ _ h => h) (Or.inl ⟨by rfl, ?hy23⟩) (by assumption) ?rest23
  case hy23 => (intro wz hSw; (try dsimp only at hSw); first | (go_simp; done) | (go_simp; with_reducible rfl))
  try simp only [Act.put, List.getElem_toArray, List.getElem_cons_succ, List.getElem_cons_zero, List.setIfInBounds_toArray, List.set_cons_zero, List.set_cons_succ]
  refine wpAnyH_take (i := 27) (v := ?v24) rfl (by kernel_rfl) (by kernel_rfl) (by kernel_rfl) (fun _ _ _ h => h) (Or.inl ⟨by rfl, ?hy24⟩) (by assumption) ?rest24
  case hy24 => (intro wz hSw; (try dsimp only at hSw); first | (go_simp; done) | (go_simp; with_reducible rfl))
  try simp only [Act.put, List.getElem_toArray, List.getElem_cons_succ, List.getElem_cons_zero, List.setIfInBounds_toArray, List.set_cons_zero, List.set_cons_succ]
  refine wpAnyH_done (by kernel_rfl) ?_ _
  clear hH4 KT
  go_wp2
  go_ret
  exact ⟨rfl, GZ.out⟩
end Go.Proofs.Ytapalikfkpkcnaa
