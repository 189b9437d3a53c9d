/- Table: a map whose keys are numbers; what both sides check of the actions; no condition but sizes. -/
import Derived.Test.YtgdefahnmgonlaaTbE
import Derived.Maps.OwnSet
import Derived.DeepKeys4
namespace Go.Proofs.Ytgdefahnmgonlaa
open Go.RowKit
set_option linter.unusedVariables false
theorem intLaw : Maps.Keyed Try.prog 3 := Maps.int_keyed Try.underlying3
def Rng (x : Int) : Prop := -9223372036854775808 ≤ x ∧ x ≤ 9223372036854775807
theorem int_key (x : Int) (h : Rng x) : keyOf Try.prog 3 (.int .i64 x) = some (.int .i64 x) := by
  have w : (Lit.int .i64 x).wf = true := by unfold Rng at h; simp [Lit.wf, IntKind.min, IntKind.max, IntKind.bits, IntKind.signed]; omega
  simp [keyOf, Try.underlying3, mapKey, w]
/-- Block b is a map that holds the numbers S, each with true. -/
def MI (w : World) (b : Nat) (S : List Int) : Prop := ∃ (D : DataW Unit) (n : Nat), w.ownsMap Try.prog 3 (plainElem Try.prog 4) b n D ∧ n ≤ S.length ∧
  ∀ p, Rng p → D.atKey (.int .i64 p) (.lit (.bool false)) = .lit (.bool (decide (p ∈ S)))
theorem MI.keep {w w2 : World} {row : Option Nat} {b : Nat} {S : List Int} (h : MI w b S) (k : w.grownBy w2 row) (hn : some b ≠ row) : MI w2 b S := by
  obtain ⟨D, n, h1, h2⟩ := h
  exact ⟨D, n, h1.kept k hn, h2⟩
theorem MI.keep0 {w w2 : World} {b : Nat} {S : List Int} (h : MI w b S) (k : w.grownBy w2 none) : MI w2 b S := h.keep k (by simp)
theorem MI.new (w : World) : MI (w.alloc (.map #[] 0)) w.heap.size [] :=
  ⟨.map [], 0, World.ownsMap_made w _ _ _, Nat.le_refl _, fun p _ => by simp [DataW.atKey]⟩
theorem MI.look {w : World} {b : Nat} {S : List Int} (h : MI w b S) (x : Int) (hx : Rng x) : (Instr.lookup 105 (.map (some b)) (.int .i64 x) false).run Try.prog w = .ok (.bool (decide (x ∈ S))) w := by
  obtain ⟨D, n, o, _, hD⟩ := h
  have hk := int_key x hx
  obtain ⟨y, ps, hr, hy⟩ := o.lookup intLaw Try.underlying105 (z := .bool false) (by kernel_rfl) (plainElem_bool Try.underlying4 false) hk
  rw [hD x hx] at hy
  have : y = .bool (decide (x ∈ S)) := by
    unfold plainElem at hy
    cases y <;> simp [Try.underlying4] at hy
    rw [hy.1]
  subst this
  exact hr
theorem MI.put {w : World} {b : Nat} {S : List Int} (h : MI w b S) (x : Int) (hx : Rng x) (hn : S.length < 100000) : ∃ w', (Instr.mapUpdate 105 (.map (some b)) (.int .i64 x) (.bool true)).run Try.prog w = .ok () w' ∧ MI w' b (S ++ [x]) ∧ w.grownBy w' (some b) := by
  obtain ⟨D, n, o, ho, hD⟩ := h
  have hk := int_key x hx
  obtain ⟨w', hr, o', g⟩ := o.update intLaw Try.underlying105 (by unfold maxLen; omega) hk (plainElem_bool Try.underlying4 true)
  refine ⟨w', hr, ⟨_, n + 1, o', by rw [List.length_append]; simp; omega, fun p hp => ?_⟩, g⟩
  by_cases e : p = x
  · subst e
    rw [Maps.atKey_put_same o.isMap (intLaw.key hk)]
    simp
  · rw [Maps.atKey_put_other (fun q => e (by injection q)), hD p hp]
    simp [e]
def actX (n : Nat) (acs : List Int) (j : Nat) : Int := if isX (acs.getD j 0) n = true then (if acs.getD j 0 ∈ acs.take j then 7 else 0) else 8
def actsE (n : Nat) (acs : List Int) : Int := match fstE (actX n acs) acs.length with
  | some j => actX n acs j
  | none => 0
theorem actsE_bad {n : Nat} {acs : List Int} {j : Nat} (hj : j < acs.length) (b : ∀ i, i < j → actX n acs i = 0) (h : actX n acs j ≠ 0) : actsE n acs = actX n acs j := by
  unfold actsE
  rw [fst_some hj h b]
theorem actsE_ok {n : Nat} {acs : List Int} (b : ∀ i, i < acs.length → actX n acs i = 0) : actsE n acs = 0 := by
  unfold actsE
  rw [fst_none b]
/-- What the set of the actions is: the set, or the number of the first fault. -/
def RetM (w : World) (AE : Int) (acs : List Int) (e : Ending) (w' : World) : Prop := w.grownBy w' none ∧ ((AE = 0 ∧ ∃ b, e = .returned (.tuple #[.map (some b), .int .i64 0]) ∧ MI w' b acs) ∨ (AE ≠ 0 ∧ e = .returned (.tuple #[.map none, .int .i64 AE])))
def actionsE (A : List Actn) (tb : Tbl) : Int := if actsE A.length tb.acs = 0 then (if tb.da ∈ tb.acs then callE A tb.da tb.ar else 8) else actsE A.length tb.acs
set_option maxRecDepth 100000 in
set_option maxHeartbeats 4000000 in
theorem allow_any (w : World) (X : PX) (P : Pg) (hp : SP w X P) (Y : TX) (tb : Tbl) (h : ST w Y tb) (hn : Y.cn ≤ 1000) : Calls Try.prog 52 #[.agg #[.string X.nm, .slice X.ha X.hn X.hc, .slice X.ma X.mn X.mc, .slice X.ra X.rn X.rc, .slice X.aa X.an X.ac, .slice X.ta X.tn X.tc, .slice X.sa X.sn X.sc, .slice X.ca X.cn X.cc, .slice X.da X.dn X.dc], .agg #[.string tb.nm, .slice Y.ka Y.kn Y.kc, .slice Y.ca Y.cn Y.cc, .int .i64 tb.da, .slice Y.ra Y.rn Y.rc, .int .i64 tb.sz]] w (RetM w (actsE P.A.length tb.acs) tb.acs) := by
  have HS := Lib.hid h
  have HN := Lib.hid hn
  have HL := Lib.hid (show tb.acs.length = Y.cn from h.c.len)
  have AL := Lib.hid (show P.A.length = X.an from hp.a.len)
  have AR := Lib.hid (fun j => (show Rng (tb.acs.getD j 0) from h.c.at_ j))
  rw [AL.out]
  have AB := Lib.hid (fun (j : Nat) (hj : j < Y.cn) => actsE_bad (n := X.an) (acs := tb.acs) (j := j) (by rw [HL.out]; exact hj))
  have AO := Lib.hid (actsE_ok (n := X.an) (acs := tb.acs))
  obtain ⟨AE, hae⟩ : ∃ d, d = actsE X.an tb.acs := ⟨_, rfl⟩
  rw [← hae] at AB AO ⊢
  have G2 := Lib.hid (gb_trans (gb_alloc w (.cells #[.string X.nm, .slice X.ha X.hn X.hc, .slice X.ma X.mn X.mc, .slice X.ra X.rn X.rc, .slice X.aa X.an X.ac, .slice X.ta X.tn X.tc, .slice X.sa X.sn X.sc, .slice X.ca X.cn X.cc, .slice X.da X.dn X.dc] 31) none) (gb_alloc _ (.cells #[.string tb.nm, .slice Y.ka Y.kn Y.kc, .slice Y.ca Y.cn Y.cc, .int .i64 tb.da, .slice Y.ra Y.rn Y.rc, .int .i64 tb.sz] 60) none))
  have B1 := (IsB.new w 31 #[.string X.nm, .slice X.ha X.hn X.hc, .slice X.ma X.mn X.mc, .slice X.ra X.rn X.rc, .slice X.aa X.an X.ac, .slice X.ta X.tn X.tc, .slice X.sa X.sn X.sc, .slice X.ca X.cn X.cc, .slice X.da X.dn X.dc]).alloc (.cells #[.string tb.nm, .slice Y.ka Y.kn Y.kc, .slice Y.ca Y.cn Y.cc, .int .i64 tb.da, .slice Y.ra Y.rn Y.rc, .int .i64 tb.sz] 60)
  have B2 := IsB.new (w.alloc (.cells #[.string X.nm, .slice X.ha X.hn X.hc, .slice X.ma X.mn X.mc, .slice X.ra X.rn X.rc, .slice X.aa X.an X.ac, .slice X.ta X.tn X.tc, .slice X.sa X.sn X.sc, .slice X.ca X.cn X.cc, .slice X.da X.dn X.dc] 31)) 60 #[.string tb.nm, .slice Y.ka Y.kn Y.kc, .slice Y.ca Y.cn Y.cc, .int .i64 tb.da, .slice Y.ra Y.rn Y.rc, .int .i64 tb.sz]
  simp only [sz_al] at B2
  replace B1 := Lib.hid B1
  replace B2 := Lib.hid B2
  clear h hp hn hae
  have hmm := @run_makeMap Try.prog
  go_enter Try.func52, Try.ntmps52
  go_upto_region 1 with fail
  generalize (w.alloc (.cells #[.string X.nm, .slice X.ha X.hn X.hc, .slice X.ma X.mn X.mc, .slice X.ra X.rn X.rc, .slice X.aa X.an X.ac, .slice X.ta X.tn X.tc, .slice X.sa X.sn X.sc, .slice X.ca X.cn X.cc, .slice X.da X.dn X.dc] 31)).alloc (.cells #[.string tb.nm, .slice Y.ka Y.kn Y.kc, .slice Y.ca Y.cn Y.cc, .int .i64 tb.da, .slice Y.ra Y.rn Y.rc, .int .i64 tb.sz] 60) = w2 at *
  obtain ⟨bx, hbx⟩ : ∃ b, b = w.heap.size := ⟨_, rfl⟩
  have Lbx := Lib.hid (show w.heap.size ≤ bx by rw [hbx]; exact Nat.le_refl _)
  rw [← hbx] at B1 B2 ⊢
  clear hbx
  replace HS := Lib.hid (HS.out.keep0 G2.out)
  obtain ⟨b, hb⟩ : ∃ b, b = w2.heap.size := ⟨_, rfl⟩
  obtain ⟨w3, hw3⟩ : ∃ w3, w3 = w2.alloc (.map #[] 0) := ⟨_, rfl⟩
  have M3 := Lib.hid (show MI w3 b [] by rw [hw3, hb]; exact MI.new w2)
  have G3 := Lib.hid (show w2.grownBy w3 none by rw [hw3]; exact gb_alloc _ _ _)
  have LB := Lib.hid (show w2.heap.size ≤ b by rw [hb]; exact Nat.le_refl _)
  go_upto_region 2 with fail
  rw [← hw3, ← hb]
  clear hw3 hb
  have d0 := (B2.out.keep0 G3.out).cell 0
  have d1 := (B2.out.keep0 G3.out).cell 1
  have d2 := (B2.out.keep0 G3.out).cell 2
  have d3 := (B2.out.keep0 G3.out).cell 3
  have d4 := (B2.out.keep0 G3.out).cell 4
  have d5 := (B2.out.keep0 G3.out).cell 5
  dsimp at d0 d1 d2 d3 d4 d5
  go_wp2
  clear d0 d1 d2 d3 d4 d5
  go_loopw [13] (fun i wr => ∃ j : Nat, j ≤ Y.cn ∧ i = .int .i64 j ∧ MI wr b (tb.acs.take j) ∧ (∀ x, x < j → actX X.an tb.acs x = 0) ∧ w2.grownBy wr none) (fun i _ => Y.cn - (intOf i).toNat)
  case atStart => exact ⟨0, Nat.zero_le _, rfl, M3.out, (fun x hx => absurd hx (Nat.not_lt_zero _)), G3.out⟩
  case round =>
    obtain ⟨j, hj, rfl, hm, hb, hg⟩ := hrel
    have HB := Lib.hid hb
    have G := Lib.hid hg
    have M := Lib.hid hm
    clear hb hg hm M3 G3
    by_cases hlt : j < Y.cn
    · obtain ⟨ad, had⟩ := HS.out.c.some (by omega)
      have e0 := (HS.out.c.keep0 G.out).cells ad had j hlt
      have KJ := Lib.hid (AB.out j hlt HB.out)
      have NX := Lib.hid (fun (q : actX X.an tb.acs j = 0) => next_all HB.out q)
      have XD := Lib.hid (show actX X.an tb.acs j = if isX (tb.acs.getD j 0) X.an = true then (if tb.acs.getD j 0 ∈ tb.acs.take j then 7 else 0) else 8 from rfl)
      have RJ := Lib.hid (AR.out j)
      have TK := Lib.hid (take_one 0 tb.acs j (by rw [HL.out]; exact hlt))
      have TL := Lib.hid (show (tb.acs.take j).length < 100000 by rw [List.length_take]; have := HN.out; have := HL.out; omega)
      generalize actX X.an tb.acs j = kv at *
      generalize tb.acs.getD j 0 = x at *
      generalize tb.acs.take j = S at *
      have i1 : (j : Int) < Y.cn := by omega
      have i0 : (0 : Int) ≤ (j : Int) := by omega
      have hw : IntKind.i64.wrap ((j : Int) + 1) = ((j + 1 : Nat) : Int) := by have := HN.out; rw [IntKind.wrap_i64]; omega
      have c4 := (B1.out.keep0 G.out).cell 4
      dsimp at c4
      rw [had]
      clear had hlt
      cases hx : isX x X.an
      · have K := Lib.hid (show AE = 8 by rw [KJ.out (by rw [XD.out, if_neg (by rw [hx]; decide)]; decide), XD.out, if_neg (by rw [hx]; decide)])
        go_wp2_with (go_at_call 43; refine (tisx_any wr x X.an).mono ?_; rw [hx]; rintro e w4 ⟨rfl, rfl⟩)
        go_ret2
        exact ⟨gb_trans G2.out G.out, .inr ⟨by rw [K.out]; decide, by rw [K.out] <;> rfl⟩⟩
      · rw [hx, if_pos rfl] at XD
        have ML := MI.look M.out x RJ.out
        by_cases hd : x ∈ S
        · rw [decide_eq_true hd] at ML
          have K := Lib.hid (show AE = 7 by rw [KJ.out (by rw [XD.out, if_pos hd]; decide), XD.out, if_pos hd])
          go_wp2_with (go_at_call 43; refine (tisx_any wr x X.an).mono ?_; rw [hx]; rintro e w4 ⟨rfl, rfl⟩)
          go_ret2
          exact ⟨gb_trans G2.out G.out, .inr ⟨by rw [K.out]; decide, by rw [K.out] <;> rfl⟩⟩
        · rw [decide_eq_false hd] at ML
          have K0 := Lib.hid (NX.out (by rw [XD.out, if_neg hd]))
          obtain ⟨w5, hrun, m5, g5⟩ := MI.put M.out x RJ.out TL.out
          have M5 := Lib.hid m5
          have G5 := Lib.hid (show w2.grownBy w5 none from ⟨g5.os.trans G.out.os, g5.tape.trans G.out.tape, g5.output.trans G.out.output, Nat.le_trans G.out.size g5.size, fun i hi _ => (g5.block i (Nat.lt_of_lt_of_le hi G.out.size) (by intro e; injection e with e; have := LB.out; omega)).trans (G.out.block i hi (by simp))⟩)
          clear m5 g5
          go_wp2_with (go_at_call 43; refine (tisx_any wr x X.an).mono ?_; rw [hx]; rintro e w4 ⟨rfl, rfl⟩)
          go_roundw
          case rel => exact ⟨j + 1, by omega, by first | rfl | (congr 1), by rw [TK.out]; exact M5.out, K0.out, G5.out⟩
          case measure => simp [intOf]; omega
    · have i1 : ¬ (j : Int) < Y.cn := by omega
      have K := Lib.hid (show AE = 0 from AO.out (fun i hi => HB.out i (by rw [HL.out] at hi; omega)))
      have CE := Lib.hid (show tb.acs.take j = tb.acs by rw [List.take_of_length_le]; rw [HL.out]; omega)
      go_wp2
      go_ret2
      exact ⟨gb_trans G2.out G.out, .inl ⟨K.out, b, rfl, by rw [← CE.out]; exact M.out⟩⟩
set_option maxRecDepth 100000 in
set_option maxHeartbeats 4000000 in
theorem checkActions_any (w : World) (X : PX) (P : Pg) (hp : SP w X P) (Y : TX) (tb : Tbl) (h : ST w Y tb) (hn : Y.cn ≤ 1000) (hr : Y.rn ≤ 1000) : Calls Try.prog 47 #[.agg #[.string X.nm, .slice X.ha X.hn X.hc, .slice X.ma X.mn X.mc, .slice X.ra X.rn X.rc, .slice X.aa X.an X.ac, .slice X.ta X.tn X.tc, .slice X.sa X.sn X.sc, .slice X.ca X.cn X.cc, .slice X.da X.dn X.dc], .agg #[.string tb.nm, .slice Y.ka Y.kn Y.kc, .slice Y.ca Y.cn Y.cc, .int .i64 tb.da, .slice Y.ra Y.rn Y.rc, .int .i64 tb.sz]] w (RetV (.int .i64 (actionsE P.A tb)) w) := by
  have AC := Lib.hid (fun (W : World) (q : w.grownBy W none) => allow_any W X P (hp.keep0 q) Y tb (h.keep0 q) hn)
  have CC := Lib.hid (fun (W : World) (q : w.grownBy W none) => pcall_any W X P (hp.keep0 q) tb.da Y.ra Y.rn Y.rc tb.ar (h.r.keep0 q) hr)
  have DR := Lib.hid (show Rng tb.da from h.d)
  obtain ⟨RE, hre⟩ : ∃ d, d = actionsE P.A tb := ⟨_, rfl⟩
  have HR := Lib.hid hre
  unfold actionsE at HR
  rw [← hre]
  generalize actsE P.A.length tb.acs = ae at *
  unfold RetM at AC
  unfold RetV at CC
  have G2 := Lib.hid (gb_trans (gb_alloc w (.cells #[.string X.nm, .slice X.ha X.hn X.hc, .slice X.ma X.mn X.mc, .slice X.ra X.rn X.rc, .slice X.aa X.an X.ac, .slice X.ta X.tn X.tc, .slice X.sa X.sn X.sc, .slice X.ca X.cn X.cc, .slice X.da X.dn X.dc] 31) none) (gb_alloc _ (.cells #[.string tb.nm, .slice Y.ka Y.kn Y.kc, .slice Y.ca Y.cn Y.cc, .int .i64 tb.da, .slice Y.ra Y.rn Y.rc, .int .i64 tb.sz] 60) none))
  have B1 := (IsB.new w 31 #[.string X.nm, .slice X.ha X.hn X.hc, .slice X.ma X.mn X.mc, .slice X.ra X.rn X.rc, .slice X.aa X.an X.ac, .slice X.ta X.tn X.tc, .slice X.sa X.sn X.sc, .slice X.ca X.cn X.cc, .slice X.da X.dn X.dc]).alloc (.cells #[.string tb.nm, .slice Y.ka Y.kn Y.kc, .slice Y.ca Y.cn Y.cc, .int .i64 tb.da, .slice Y.ra Y.rn Y.rc, .int .i64 tb.sz] 60)
  have B2 := IsB.new (w.alloc (.cells #[.string X.nm, .slice X.ha X.hn X.hc, .slice X.ma X.mn X.mc, .slice X.ra X.rn X.rc, .slice X.aa X.an X.ac, .slice X.ta X.tn X.tc, .slice X.sa X.sn X.sc, .slice X.ca X.cn X.cc, .slice X.da X.dn X.dc] 31)) 60 #[.string tb.nm, .slice Y.ka Y.kn Y.kc, .slice Y.ca Y.cn Y.cc, .int .i64 tb.da, .slice Y.ra Y.rn Y.rc, .int .i64 tb.sz]
  simp only [sz_al] at B2
  replace B1 := Lib.hid B1
  replace B2 := Lib.hid B2
  clear h hp hn hr hre
  go_enter Try.func47, Try.ntmps47
  go_upto_region 1 with fail
  generalize (w.alloc (.cells #[.string X.nm, .slice X.ha X.hn X.hc, .slice X.ma X.mn X.mc, .slice X.ra X.rn X.rc, .slice X.aa X.an X.ac, .slice X.ta X.tn X.tc, .slice X.sa X.sn X.sc, .slice X.ca X.cn X.cc, .slice X.da X.dn X.dc] 31)).alloc (.cells #[.string tb.nm, .slice Y.ka Y.kn Y.kc, .slice Y.ca Y.cn Y.cc, .int .i64 tb.da, .slice Y.ra Y.rn Y.rc, .int .i64 tb.sz] 60) = w2 at *
  obtain ⟨bx, hbx⟩ : ∃ b, b = w.heap.size := ⟨_, rfl⟩
  have Lbx := Lib.hid (show w.heap.size ≤ bx by rw [hbx]; exact Nat.le_refl _)
  rw [← hbx] at B1 B2 ⊢
  clear hbx
  have c0 := (B1.out.keep0 (gb_refl _ _)).cell 0
  have c1 := (B1.out.keep0 (gb_refl _ _)).cell 1
  have c2 := (B1.out.keep0 (gb_refl _ _)).cell 2
  have c3 := (B1.out.keep0 (gb_refl _ _)).cell 3
  have c4 := (B1.out.keep0 (gb_refl _ _)).cell 4
  have c5 := (B1.out.keep0 (gb_refl _ _)).cell 5
  have c6 := (B1.out.keep0 (gb_refl _ _)).cell 6
  have c7 := (B1.out.keep0 (gb_refl _ _)).cell 7
  have c8 := (B1.out.keep0 (gb_refl _ _)).cell 8
  dsimp at c0 c1 c2 c3 c4 c5 c6 c7 c8
  have d0 := (B2.out.keep0 (gb_refl _ _)).cell 0
  have d1 := (B2.out.keep0 (gb_refl _ _)).cell 1
  have d2 := (B2.out.keep0 (gb_refl _ _)).cell 2
  have d3 := (B2.out.keep0 (gb_refl _ _)).cell 3
  have d4 := (B2.out.keep0 (gb_refl _ _)).cell 4
  have d5 := (B2.out.keep0 (gb_refl _ _)).cell 5
  dsimp at d0 d1 d2 d3 d4 d5
  go_wp2_with fail
  refine (AC.out w2 G2.out).mono ?_
  rintro e w3 ⟨g, hc⟩
  have G3 := Lib.hid g
  clear g c0 c1 c2 c3 c4 c5 c6 c7 c8 d0 d1 d2 d3 d4 d5
  rcases hc with ⟨a0, b, rfl, m⟩ | ⟨a0, rfl⟩
  · rw [if_pos a0] at HR
    have ML := MI.look m tb.da DR.out
    have c0 := (B1.out.keep0 G3.out).cell 0
    have c1 := (B1.out.keep0 G3.out).cell 1
    have c2 := (B1.out.keep0 G3.out).cell 2
    have c3 := (B1.out.keep0 G3.out).cell 3
    have c4 := (B1.out.keep0 G3.out).cell 4
    have c5 := (B1.out.keep0 G3.out).cell 5
    have c6 := (B1.out.keep0 G3.out).cell 6
    have c7 := (B1.out.keep0 G3.out).cell 7
    have c8 := (B1.out.keep0 G3.out).cell 8
    dsimp at c0 c1 c2 c3 c4 c5 c6 c7 c8
    have d0 := (B2.out.keep0 G3.out).cell 0
    have d1 := (B2.out.keep0 G3.out).cell 1
    have d2 := (B2.out.keep0 G3.out).cell 2
    have d3 := (B2.out.keep0 G3.out).cell 3
    have d4 := (B2.out.keep0 G3.out).cell 4
    have d5 := (B2.out.keep0 G3.out).cell 5
    dsimp at d0 d1 d2 d3 d4 d5
    clear m a0
    by_cases hd : tb.da ∈ tb.acs
    · rw [decide_eq_true hd] at ML
      rw [if_pos hd] at HR
      go_wp2_with fail
      refine (CC.out w3 (gb_trans G2.out G3.out)).mono ?_
      rw [← HR.out]
      rintro e w4 ⟨rfl, g⟩
      have G4 := Lib.hid g
      clear g
      go_wp2
      go_ret
      exact ⟨rfl, gb_trans G2.out (gb_trans G3.out G4.out)⟩
    · rw [decide_eq_false hd] at ML
      rw [if_neg hd] at HR
      go_wp2
      go_ret
      exact ⟨by rw [HR.out] <;> rfl, gb_trans G2.out G3.out⟩
  · rw [if_neg a0] at HR
    have a1 : (ae != 0) = true := by simp [a0]
    go_wp2
    go_ret
    exact ⟨by rw [HR.out] <;> rfl, gb_trans G2.out G3.out⟩
theorem idx_lt {l : List Int} {j : Nat} (hj : j < l.length) : (l.getD j 0 ∈ l.take j → idxI l (l.getD j 0) < j) ∧ (l.getD j 0 ∉ l.take j → idxI l (l.getD j 0) = j) := by
  constructor
  · intro h
    unfold idxI
    cases hf : l.findIdx? (fun x => x == l.getD j 0) with
    | none =>
      rw [List.findIdx?_eq_none_iff] at hf
      have := hf (l.getD j 0) (List.mem_of_mem_take h)
      simp at this
    | some i =>
      rw [List.findIdx?_eq_some_iff_getElem] at hf
      obtain ⟨hi, _, hb⟩ := hf
      obtain ⟨k, hk, ek⟩ := List.mem_iff_getElem.1 h
      have hk2 : k < j := by rw [List.length_take] at hk; omega
      by_cases q : i ≤ k
      · show (i : Int) < j; omega
      · have := hb k (by omega)
        rw [List.getElem_take] at ek
        simp [ek] at this
  · intro h
    refine idx_yes hj rfl (fun i hi e => h ?_)
    rw [← e]
    have hl : i < (l.take j).length := by rw [List.length_take]; omega
    have : l.getD i 0 = (l.take j)[i] := by simp [show i < l.length by omega]
    rw [this]
    exact List.getElem_mem _
theorem idx_mem (l : List Int) (x : Int) : idxI l x < 0 ↔ x ∉ l := by
  unfold idxI
  cases hf : l.findIdx? (fun y => y == x) with
  | none =>
    rw [List.findIdx?_eq_none_iff] at hf
    simp only [show ((-1 : Int) < 0) = True by simp, true_iff]
    intro h
    have := hf x h
    simp at this
  | some i =>
    rw [List.findIdx?_eq_some_iff_getElem] at hf
    obtain ⟨hi, e, _⟩ := hf
    constructor
    · intro q
      have q : (i : Int) < 0 := q
      omega
    · intro q
      exfalso
      apply q
      rw [← eq_of_beq e]
      exact List.getElem_mem _
set_option maxRecDepth 100000 in
set_option maxHeartbeats 4000000 in
theorem ractions_any (w : World) (X : PX) (P : Pg) (hp : SP w X P) (Y : TX) (tb : Tbl) (h : ST w Y tb) (hn : Y.cn ≤ 1000) (hr : Y.rn ≤ 1000) : Calls Try.prog 57 #[.agg #[.string X.nm, .slice X.ha X.hn X.hc, .slice X.ma X.mn X.mc, .slice X.ra X.rn X.rc, .slice X.aa X.an X.ac, .slice X.ta X.tn X.tc, .slice X.sa X.sn X.sc, .slice X.ca X.cn X.cc, .slice X.da X.dn X.dc], .agg #[.string tb.nm, .slice Y.ka Y.kn Y.kc, .slice Y.ca Y.cn Y.cc, .int .i64 tb.da, .slice Y.ra Y.rn Y.rc, .int .i64 tb.sz]] w (RetV (.int .i64 (actionsE P.A tb)) w) := by
  have CC := Lib.hid (fun (W : World) (q : w.grownBy W none) => rcall_any W X P (hp.keep0 q) tb.da Y.ra Y.rn Y.rc tb.ar (h.r.keep0 q) hr)
  have HS := Lib.hid h
  have HN := Lib.hid hn
  have HL := Lib.hid (show tb.acs.length = Y.cn from h.c.len)
  have AL := Lib.hid (show P.A.length = X.an from hp.a.len)
  obtain ⟨RE, hre⟩ : ∃ d, d = actionsE P.A tb := ⟨_, rfl⟩
  have HR := Lib.hid hre
  unfold actionsE at HR
  rw [AL.out] at HR
  rw [← hre]
  have AB := Lib.hid (fun (j : Nat) (hj : j < Y.cn) => actsE_bad (n := X.an) (acs := tb.acs) (j := j) (by rw [HL.out]; exact hj))
  have AO := Lib.hid (actsE_ok (n := X.an) (acs := tb.acs))
  generalize actsE X.an tb.acs = ae at *
  unfold RetV at CC
  have G2 := Lib.hid (gb_trans (gb_alloc w (.cells #[.string X.nm, .slice X.ha X.hn X.hc, .slice X.ma X.mn X.mc, .slice X.ra X.rn X.rc, .slice X.aa X.an X.ac, .slice X.ta X.tn X.tc, .slice X.sa X.sn X.sc, .slice X.ca X.cn X.cc, .slice X.da X.dn X.dc] 31) none) (gb_alloc _ (.cells #[.string tb.nm, .slice Y.ka Y.kn Y.kc, .slice Y.ca Y.cn Y.cc, .int .i64 tb.da, .slice Y.ra Y.rn Y.rc, .int .i64 tb.sz] 60) none))
  have B1 := (IsB.new w 31 #[.string X.nm, .slice X.ha X.hn X.hc, .slice X.ma X.mn X.mc, .slice X.ra X.rn X.rc, .slice X.aa X.an X.ac, .slice X.ta X.tn X.tc, .slice X.sa X.sn X.sc, .slice X.ca X.cn X.cc, .slice X.da X.dn X.dc]).alloc (.cells #[.string tb.nm, .slice Y.ka Y.kn Y.kc, .slice Y.ca Y.cn Y.cc, .int .i64 tb.da, .slice Y.ra Y.rn Y.rc, .int .i64 tb.sz] 60)
  have B2 := IsB.new (w.alloc (.cells #[.string X.nm, .slice X.ha X.hn X.hc, .slice X.ma X.mn X.mc, .slice X.ra X.rn X.rc, .slice X.aa X.an X.ac, .slice X.ta X.tn X.tc, .slice X.sa X.sn X.sc, .slice X.ca X.cn X.cc, .slice X.da X.dn X.dc] 31)) 60 #[.string tb.nm, .slice Y.ka Y.kn Y.kc, .slice Y.ca Y.cn Y.cc, .int .i64 tb.da, .slice Y.ra Y.rn Y.rc, .int .i64 tb.sz]
  simp only [sz_al] at B2
  replace B1 := Lib.hid B1
  replace B2 := Lib.hid B2
  clear h hp hn hr hre
  go_enter Try.func57, Try.ntmps57
  go_upto_region 1 with fail
  generalize (w.alloc (.cells #[.string X.nm, .slice X.ha X.hn X.hc, .slice X.ma X.mn X.mc, .slice X.ra X.rn X.rc, .slice X.aa X.an X.ac, .slice X.ta X.tn X.tc, .slice X.sa X.sn X.sc, .slice X.ca X.cn X.cc, .slice X.da X.dn X.dc] 31)).alloc (.cells #[.string tb.nm, .slice Y.ka Y.kn Y.kc, .slice Y.ca Y.cn Y.cc, .int .i64 tb.da, .slice Y.ra Y.rn Y.rc, .int .i64 tb.sz] 60) = w2 at *
  obtain ⟨bx, hbx⟩ : ∃ b, b = w.heap.size := ⟨_, rfl⟩
  have Lbx := Lib.hid (show w.heap.size ≤ bx by rw [hbx]; exact Nat.le_refl _)
  rw [← hbx] at B1 B2 ⊢
  clear hbx
  replace HS := Lib.hid (HS.out.keep0 G2.out)
  go_wp2
  go_loopw [5] (fun i wr => ∃ j : Nat, j ≤ Y.cn ∧ i = .int .i64 j ∧ (∀ x, x < j → actX X.an tb.acs x = 0) ∧ w2.grownBy wr none) (fun i _ => Y.cn - (intOf i).toNat)
  case atStart => exact ⟨0, Nat.zero_le _, rfl, (fun x hx => absurd hx (Nat.not_lt_zero _)), gb_refl _ _⟩
  case round =>
    obtain ⟨j, hj, rfl, hb, hg⟩ := hrel
    have HB := Lib.hid hb
    have G := Lib.hid hg
    clear hb hg
    have d2 := (B2.out.keep0 G.out).cell 2
    dsimp at d2
    by_cases hlt : j < Y.cn
    · obtain ⟨ad, had⟩ := HS.out.c.some (by omega)
      have e0 := (HS.out.c.keep0 G.out).cells ad had j hlt
      have KJ := Lib.hid (AB.out j hlt HB.out)
      have NX := Lib.hid (fun (q : actX X.an tb.acs j = 0) => next_all HB.out q)
      have XD := Lib.hid (show actX X.an tb.acs j = if isX (tb.acs.getD j 0) X.an = true then (if tb.acs.getD j 0 ∈ tb.acs.take j then 7 else 0) else 8 from rfl)
      have IL := Lib.hid (idx_lt (l := tb.acs) (j := j) (by rw [HL.out]; exact hlt))
      have RI := Lib.hid (fun (W : World) (q : w2.grownBy W none) => rindex_any W Y.ca Y.cn Y.cc tb.acs (HS.out.c.keep0 q) (by have := HN.out; omega) (tb.acs.getD j 0))
      generalize actX X.an tb.acs j = kv at *
      generalize tb.acs.getD j 0 = x at *
      have i1 : (j : Int) < Y.cn := by omega
      have i0 : (0 : Int) ≤ (j : Int) := by omega
      have hw : IntKind.i64.wrap ((j : Int) + 1) = ((j + 1 : Nat) : Int) := by have := HN.out; rw [IntKind.wrap_i64]; omega
      have K4 := Lib.hid (fun (w' : World) (q : wr.grownBy w' none) => (⟨by have := (B2.out.keep0 (gb_trans G.out q)).cell 2; rw [had] at this; exact this, q.cell e0 (by simp), (B1.out.keep0 (gb_trans G.out q)).cell 4, trivial⟩ : (fun w' : World => w'.cell? ⟨bx + 1, 2, none⟩ = some (.slice (some ad) Y.cn Y.cc) ∧ w'.cell? (ad.add j) = some (.int .i64 x) ∧ w'.cell? ⟨bx, 4, none⟩ = some (.slice X.aa X.an X.ac) ∧ True) w'))
      have K6 := Lib.hid (fun (w' : World) (q : wr.grownBy w' none) => (⟨(K4.out w' q).1, (K4.out w' q).2.1, trivial⟩ : (fun w' : World => w'.cell? ⟨bx + 1, 2, none⟩ = some (.slice (some ad) Y.cn Y.cc) ∧ w'.cell? (ad.add j) = some (.int .i64 x) ∧ True) w'))
      rw [had] at d2 RI
      rw [had]
      unfold RetS at RI
      clear had hlt e0
      go_upto_region 4 with fail
      clear d2
      by_cases x0 : x < 0
      · have K := Lib.hid (show RE = 8 by
          have e : kv = 8 := by rw [XD.out, if_neg (by rw [isX_no (n := X.an) (i := x) (by omega)]; decide)]
          rw [HR.out, if_neg (by rw [KJ.out (by rw [e]; decide), e]; decide), KJ.out (by rw [e]; decide), e])
        have G0 := Lib.hid (gb_drew wr none)
        refine wp_region_held_drew (S := (fun w' : World => w'.cell? ⟨bx + 1, 2, none⟩ = some (.slice (some ad) Y.cn Y.cc) ∧ w'.cell? (ad.add j) = some (.int .i64 x) ∧ w'.cell? ⟨bx, 4, none⟩ = some (.slice X.aa X.an X.ac) ∧ True)) (by kernel_rfl) (K4.out _ G0.out) (fun hH0 => ?_)
        refine wpAnyH_take (i := 0) (v := ?v1) rfl (by kernel_rfl) (by kernel_rfl) (by kernel_rfl) (fun _ _ _ h => h) (Or.inl ⟨by rfl, ?hy1⟩) (by assumption) ?rest1
        case hy1 => (intro wz hSw; (try dsimp only at hSw); first | (go_simp; done) | (go_simp; with_reducible rfl))
        try simp only [Act.put, List.getElem_toArray, List.getElem_cons_zero, List.setIfInBounds_toArray, List.set_cons_zero, List.set_cons_succ]
        refine wpAnyH_take (i := 1) (v := ?v2) rfl (by kernel_rfl) (by kernel_rfl) (by kernel_rfl) (fun _ _ _ h => h) (Or.inl ⟨by rfl, ?hy2⟩) (by assumption) ?rest2
        case hy2 => (intro wz hSw; (try dsimp only at hSw); first | (go_simp; done) | (go_simp; with_reducible rfl))
        try simp only [Act.put, List.getElem_toArray, List.getElem_cons_succ, List.getElem_cons_zero, List.setIfInBounds_toArray, List.set_cons_zero, List.set_cons_succ]
        refine wpAnyH_take (i := 2) (v := ?v3) rfl (by kernel_rfl) (by kernel_rfl) (by kernel_rfl) (fun _ _ _ h => h) (Or.inl ⟨by rfl, ?hy3⟩) (by assumption) ?rest3
        case hy3 => (intro wz hSw; (try dsimp only at hSw); first | (go_simp; done) | (go_simp; with_reducible rfl))
        try simp only [Act.put, List.getElem_toArray, List.getElem_cons_succ, List.getElem_cons_zero, List.setIfInBounds_toArray, List.set_cons_zero, List.set_cons_succ]
        refine wpAnyH_take (i := 3) (v := ?v4) rfl (by kernel_rfl) (by kernel_rfl) (by kernel_rfl) (fun _ _ _ h => h) (Or.inl ⟨by rfl, ?hy4⟩) (by assumption) ?rest4
        case hy4 => (intro wz hSw; (try dsimp only at hSw); first | (go_simp; done) | (go_simp; with_reducible rfl))
        try simp only [Act.put, List.getElem_toArray, List.getElem_cons_succ, List.getElem_cons_zero, List.setIfInBounds_toArray, List.set_cons_zero, List.set_cons_succ]
        refine wpAnyH_take (i := 4) (v := ?v5) rfl (by kernel_rfl) (by kernel_rfl) (by kernel_rfl) (fun _ _ _ h => h) (Or.inl ⟨by rfl, ?hy5⟩) (by assumption) ?rest5
        case hy5 => (intro wz hSw; (try dsimp only at hSw); first | (go_simp; done) | (go_simp; with_reducible rfl))
        try simp only [Act.put, List.getElem_toArray, List.getElem_cons_succ, List.getElem_cons_zero, List.setIfInBounds_toArray, List.set_cons_zero, List.set_cons_succ]
        refine wpAnyH_take (i := 5) (v := ?v6) rfl (by kernel_rfl) (by kernel_rfl) (by kernel_rfl) (fun _ _ _ h => h) (Or.inl ⟨by rfl, ?hy6⟩) (by assumption) ?rest6
        case hy6 => (intro wz hSw; (try dsimp only at hSw); first | (go_simp; done) | (go_simp; with_reducible rfl))
        try simp only [Act.put, List.getElem_toArray, List.getElem_cons_succ, List.getElem_cons_zero, List.setIfInBounds_toArray, List.set_cons_zero, List.set_cons_succ]
        refine wpAnyH_take (i := 6) (v := ?v7) rfl (by kernel_rfl) (by kernel_rfl) (by kernel_rfl) (fun _ _ _ h => h) (Or.inl ⟨by rfl, ?hy7⟩) (by assumption) ?rest7
        case hy7 => (intro wz hSw; (try dsimp only at hSw); first | (go_simp; done) | (go_simp; with_reducible rfl))
        try simp only [Act.put, List.getElem_toArray, List.getElem_cons_succ, List.getElem_cons_zero, List.setIfInBounds_toArray, List.set_cons_zero, List.set_cons_succ]
        refine wpAnyH_take (i := 7) (v := undef) rfl (by kernel_rfl) (by kernel_rfl) (by kernel_rfl) (fun _ _ _ h => h) (Or.inr ⟨by rfl, rfl⟩) (by assumption) ?_
        try simp only [Act.put, List.getElem_toArray, List.getElem_cons_succ, List.getElem_cons_zero, List.setIfInBounds_toArray, List.set_cons_zero, List.set_cons_succ]
        refine wpAnyH_take (i := 8) (v := undef) rfl (by kernel_rfl) (by kernel_rfl) (by kernel_rfl) (fun _ _ _ h => h) (Or.inr ⟨by rfl, rfl⟩) (by assumption) ?_
        try simp only [Act.put, List.getElem_toArray, List.getElem_cons_succ, List.getElem_cons_zero, List.setIfInBounds_toArray, List.set_cons_zero, List.set_cons_succ]
        refine wpAnyH_take (i := 9) (v := undef) rfl (by kernel_rfl) (by kernel_rfl) (by kernel_rfl) (fun _ _ _ h => h) (Or.inr ⟨by rfl, rfl⟩) (by assumption) ?_
        try simp only [Act.put, List.getElem_toArray, List.getElem_cons_succ, List.getElem_cons_zero, List.setIfInBounds_toArray, List.set_cons_zero, List.set_cons_succ]
        refine wpAnyH_take (i := 10) (v := undef) rfl (by kernel_rfl) (by kernel_rfl) (by kernel_rfl) (fun _ _ _ h => h) (Or.inr ⟨by rfl, rfl⟩) (by assumption) ?_
        try simp only [Act.put, List.getElem_toArray, List.getElem_cons_succ, List.getElem_cons_zero, List.setIfInBounds_toArray, List.set_cons_zero, List.set_cons_succ]
        refine wpAnyH_take (i := 11) (v := undef) rfl (by kernel_rfl) (by kernel_rfl) (by kernel_rfl) (fun _ _ _ h => h) (Or.inr ⟨by rfl, rfl⟩) (by assumption) ?_
        try simp only [Act.put, List.getElem_toArray, List.getElem_cons_succ, List.getElem_cons_zero, List.setIfInBounds_toArray, List.set_cons_zero, List.set_cons_succ]
        refine wpAnyH_take (i := 12) (v := undef) rfl (by kernel_rfl) (by kernel_rfl) (by kernel_rfl) (fun _ _ _ h => h) (Or.inr ⟨by rfl, rfl⟩) (by assumption) ?_
        try simp only [Act.put, List.getElem_toArray, List.getElem_cons_succ, List.getElem_cons_zero, List.setIfInBounds_toArray, List.set_cons_zero, List.set_cons_succ]
        refine wpAnyH_take (i := 13) (v := undef) rfl (by kernel_rfl) (by kernel_rfl) (by kernel_rfl) (fun _ _ _ h => h) (Or.inr ⟨by rfl, rfl⟩) (by assumption) ?_
        try simp only [Act.put, List.getElem_toArray, List.getElem_cons_succ, List.getElem_cons_zero, List.setIfInBounds_toArray, List.set_cons_zero, List.set_cons_succ]
        refine wpAnyH_take (i := 14) (v := undef) rfl (by kernel_rfl) (by kernel_rfl) (by kernel_rfl) (fun _ _ _ h => h) (Or.inr ⟨by rfl, rfl⟩) (by assumption) ?_
        try simp only [Act.put, List.getElem_toArray, List.getElem_cons_succ, List.getElem_cons_zero, List.setIfInBounds_toArray, List.set_cons_zero, List.set_cons_succ]
        refine wpAnyH_take (i := 15) (v := undef) rfl (by kernel_rfl) (by kernel_rfl) (by kernel_rfl) (fun _ _ _ h => h) (Or.inr ⟨by rfl, rfl⟩) (by assumption) ?_
        try simp only [Act.put, List.getElem_toArray, List.getElem_cons_succ, List.getElem_cons_zero, List.setIfInBounds_toArray, List.set_cons_zero, List.set_cons_succ]
        refine wpAnyH_take (i := 16) (v := ?v17) rfl (by kernel_rfl) (by kernel_rfl) (by kernel_rfl) (fun _ _ _ h => h) (Or.inl ⟨by rfl, ?hy17⟩) (by assumption) ?rest17
        case hy17 => (intro wz hSw; (try dsimp only at hSw); first | (go_simp; done) | (go_simp; with_reducible rfl))
        try simp only [Act.put, List.getElem_toArray, List.getElem_cons_succ, List.getElem_cons_zero, List.setIfInBounds_toArray, List.set_cons_zero, List.set_cons_succ]
        refine wpAnyH_take (i := 17) (v := ?v18) rfl (by kernel_rfl) (by kernel_rfl) (by kernel_rfl) (fun _ _ _ h => h) (Or.inl ⟨by rfl, ?hy18⟩) (by assumption) ?rest18
        case hy18 => (intro wz hSw; (try dsimp only at hSw); first | (go_simp; done) | (go_simp; with_reducible rfl))
        try simp only [Act.put, List.getElem_toArray, List.getElem_cons_succ, List.getElem_cons_zero, List.setIfInBounds_toArray, List.set_cons_zero, List.set_cons_succ]
        refine wpAnyH_done (by kernel_rfl) ?_ _
        clear hH0
        go_wp2
        go_ret
        exact ⟨by rw [K.out] <;> rfl, gb_trans G2.out (gb_trans G.out G0.out)⟩
      · by_cases x1 : (X.an : Int) ≤ x
        · have K := Lib.hid (show RE = 8 by
            have e : kv = 8 := by rw [XD.out, if_neg (by rw [isX_no (n := X.an) (i := x) (by omega)]; decide)]
            rw [HR.out, if_neg (by rw [KJ.out (by rw [e]; decide), e]; decide), KJ.out (by rw [e]; decide), e])
          have x2 : ¬ x < (X.an : Int) := by omega
          have G0 := Lib.hid (gb_drew wr none)
          refine wp_region_held_drew (S := (fun w' : World => w'.cell? ⟨bx + 1, 2, none⟩ = some (.slice (some ad) Y.cn Y.cc) ∧ w'.cell? (ad.add j) = some (.int .i64 x) ∧ w'.cell? ⟨bx, 4, none⟩ = some (.slice X.aa X.an X.ac) ∧ True)) (by kernel_rfl) (K4.out _ G0.out) (fun hH0 => ?_)
          refine wpAnyH_take (i := 0) (v := ?v19) rfl (by kernel_rfl) (by kernel_rfl) (by kernel_rfl) (fun _ _ _ h => h) (Or.inl ⟨by rfl, ?hy19⟩) (by assumption) ?rest19
          case hy19 => (intro wz hSw; (try dsimp only at hSw); first | (go_simp; done) | (go_simp; with_reducible rfl))
          try simp only [Act.put, List.getElem_toArray, List.getElem_cons_zero, List.setIfInBounds_toArray, List.set_cons_zero, List.set_cons_succ]
          refine wpAnyH_take (i := 1) (v := ?v20) rfl (by kernel_rfl) (by kernel_rfl) (by kernel_rfl) (fun _ _ _ h => h) (Or.inl ⟨by rfl, ?hy20⟩) (by assumption) ?rest20
          case hy20 => (intro wz hSw; (try dsimp only at hSw); first | (go_simp; done) | (go_simp; with_reducible rfl))
          try simp only [Act.put, List.getElem_toArray, List.getElem_cons_succ, List.getElem_cons_zero, List.setIfInBounds_toArray, List.set_cons_zero, List.set_cons_succ]
          refine wpAnyH_take (i := 2) (v := ?v21) rfl (by kernel_rfl) (by kernel_rfl) (by kernel_rfl) (fun _ _ _ h => h) (Or.inl ⟨by rfl, ?hy21⟩) (by assumption) ?rest21
          case hy21 => (intro wz hSw; (try dsimp only at hSw); first | (go_simp; done) | (go_simp; with_reducible rfl))
          try simp only [Act.put, List.getElem_toArray, List.getElem_cons_succ, List.getElem_cons_zero, List.setIfInBounds_toArray, List.set_cons_zero, List.set_cons_succ]
          refine wpAnyH_take (i := 3) (v := ?v22) rfl (by kernel_rfl) (by kernel_rfl) (by kernel_rfl) (fun _ _ _ h => h) (Or.inl ⟨by rfl, ?hy22⟩) (by assumption) ?rest22
          case hy22 => (intro wz hSw; (try dsimp only at hSw); first | (go_simp; done) | (go_simp; with_reducible rfl))
          try simp only [Act.put, List.getElem_toArray, List.getElem_cons_succ, List.getElem_cons_zero, List.setIfInBounds_toArray, List.set_cons_zero, List.set_cons_succ]
          refine wpAnyH_take (i := 4) (v := ?v23) rfl (by kernel_rfl) (by kernel_rfl) (by kernel_rfl) (fun _ _ _ h => h) (Or.inl ⟨by rfl, ?hy23⟩) (by assumption) ?rest23
          case hy23 => (intro wz hSw; (try dsimp only at hSw); first | (go_simp; done) | (go_simp; with_reducible rfl))
          try simp only [Act.put, List.getElem_toArray, List.getElem_cons_succ, List.getElem_cons_zero, List.setIfInBounds_toArray, List.set_cons_zero, List.set_cons_succ]
          refine wpAnyH_take (i := 5) (v := ?v24) rfl (by kernel_rfl) (by kernel_rfl) (by kernel_rfl) (fun _ _ _ h => h) (Or.inl ⟨by rfl, ?hy24⟩) (by assumption) ?rest24
          case hy24 => (intro wz hSw; (try dsimp only at hSw); first | (go_simp; done) | (go_simp; with_reducible rfl))
          try simp only [Act.put, List.getElem_toArray, List.getElem_cons_succ, List.getElem_cons_zero, List.setIfInBounds_toArray, List.set_cons_zero, List.set_cons_succ]
          refine wpAnyH_take (i := 6) (v := ?v25) rfl (by kernel_rfl) (by kernel_rfl) (by kernel_rfl) (fun _ _ _ h => h) (Or.inl ⟨by rfl, ?hy25⟩) (by assumption) ?rest25
          case hy25 => (intro wz hSw; (try dsimp only at hSw); first | (go_simp; done) | (go_simp; with_reducible rfl))
          try simp only [Act.put, List.getElem_toArray, List.getElem_cons_succ, List.getElem_cons_zero, List.setIfInBounds_toArray, List.set_cons_zero, List.set_cons_succ]
          refine wpAnyH_take (i := 7) (v := ?v26) rfl (by kernel_rfl) (by kernel_rfl) (by kernel_rfl) (fun _ _ _ h => h) (Or.inl ⟨by rfl, ?hy26⟩) (by assumption) ?rest26
          case hy26 => (intro wz hSw; (try dsimp only at hSw); first | (go_simp; done) | (go_simp; with_reducible rfl))
          try simp only [Act.put, List.getElem_toArray, List.getElem_cons_succ, List.getElem_cons_zero, List.setIfInBounds_toArray, List.set_cons_zero, List.set_cons_succ]
          refine wpAnyH_take (i := 8) (v := ?v27) rfl (by kernel_rfl) (by kernel_rfl) (by kernel_rfl) (fun _ _ _ h => h) (Or.inl ⟨by rfl, ?hy27⟩) (by assumption) ?rest27
          case hy27 => (intro wz hSw; (try dsimp only at hSw); first | (go_simp; done) | (go_simp; with_reducible rfl))
          try simp only [Act.put, List.getElem_toArray, List.getElem_cons_succ, List.getElem_cons_zero, List.setIfInBounds_toArray, List.set_cons_zero, List.set_cons_succ]
          refine wpAnyH_take (i := 9) (v := ?v28) rfl (by kernel_rfl) (by kernel_rfl) (by kernel_rfl) (fun _ _ _ h => h) (Or.inl ⟨by rfl, ?hy28⟩) (by assumption) ?rest28
          case hy28 => (intro wz hSw; (try dsimp only at hSw); first | (go_simp; done) | (go_simp; with_reducible rfl))
          try simp only [Act.put, List.getElem_toArray, List.getElem_cons_succ, List.getElem_cons_zero, List.setIfInBounds_toArray, List.set_cons_zero, List.set_cons_succ]
          refine wpAnyH_take (i := 10) (v := ?v29) rfl (by kernel_rfl) (by kernel_rfl) (by kernel_rfl) (fun _ _ _ h => h) (Or.inl ⟨by rfl, ?hy29⟩) (by assumption) ?rest29
          case hy29 => (intro wz hSw; (try dsimp only at hSw); first | (go_simp; done) | (go_simp; with_reducible rfl))
          try simp only [Act.put, List.getElem_toArray, List.getElem_cons_succ, List.getElem_cons_zero, List.setIfInBounds_toArray, List.set_cons_zero, List.set_cons_succ]
          refine wpAnyH_take (i := 11) (v := ?v30) rfl (by kernel_rfl) (by kernel_rfl) (by kernel_rfl) (fun _ _ _ h => h) (Or.inl ⟨by rfl, ?hy30⟩) (by assumption) ?rest30
          case hy30 => (intro wz hSw; (try dsimp only at hSw); first | (go_simp; done) | (go_simp; with_reducible rfl))
          try simp only [Act.put, List.getElem_toArray, List.getElem_cons_succ, List.getElem_cons_zero, List.setIfInBounds_toArray, List.set_cons_zero, List.set_cons_succ]
          refine wpAnyH_take (i := 12) (v := ?v31) rfl (by kernel_rfl) (by kernel_rfl) (by kernel_rfl) (fun _ _ _ h => h) (Or.inl ⟨by rfl, ?hy31⟩) (by assumption) ?rest31
          case hy31 => (intro wz hSw; (try dsimp only at hSw); first | (go_simp; done) | (go_simp; with_reducible rfl))
          try simp only [Act.put, List.getElem_toArray, List.getElem_cons_succ, List.getElem_cons_zero, List.setIfInBounds_toArray, List.set_cons_zero, List.set_cons_succ]
          refine wpAnyH_take (i := 13) (v := ?v32) rfl (by kernel_rfl) (by kernel_rfl) (by kernel_rfl) (fun _ _ _ h => h) (Or.inl ⟨by rfl, ?hy32⟩) (by assumption) ?rest32
          case hy32 => (intro wz hSw; (try dsimp only at hSw); first | (go_simp; done) | (go_simp; with_reducible rfl))
          try simp only [Act.put, List.getElem_toArray, List.getElem_cons_succ, List.getElem_cons_zero, List.setIfInBounds_toArray, List.set_cons_zero, List.set_cons_succ]
          refine wpAnyH_take (i := 14) (v := ?v33) rfl (by kernel_rfl) (by kernel_rfl) (by kernel_rfl) (fun _ _ _ h => h) (Or.inl ⟨by rfl, ?hy33⟩) (by assumption) ?rest33
          case hy33 => (intro wz hSw; (try dsimp only at hSw); first | (go_simp; done) | (go_simp; with_reducible rfl))
          try simp only [Act.put, List.getElem_toArray, List.getElem_cons_succ, List.getElem_cons_zero, List.setIfInBounds_toArray, List.set_cons_zero, List.set_cons_succ]
          refine wpAnyH_take (i := 15) (v := ?v34) rfl (by kernel_rfl) (by kernel_rfl) (by kernel_rfl) (fun _ _ _ h => h) (Or.inl ⟨by rfl, ?hy34⟩) (by assumption) ?rest34
          case hy34 => (intro wz hSw; (try dsimp only at hSw); first | (go_simp; done) | (go_simp; with_reducible rfl))
          try simp only [Act.put, List.getElem_toArray, List.getElem_cons_succ, List.getElem_cons_zero, List.setIfInBounds_toArray, List.set_cons_zero, List.set_cons_succ]
          refine wpAnyH_take (i := 16) (v := ?v35) rfl (by kernel_rfl) (by kernel_rfl) (by kernel_rfl) (fun _ _ _ h => h) (Or.inl ⟨by rfl, ?hy35⟩) (by assumption) ?rest35
          case hy35 => (intro wz hSw; (try dsimp only at hSw); first | (go_simp; done) | (go_simp; with_reducible rfl))
          try simp only [Act.put, List.getElem_toArray, List.getElem_cons_succ, List.getElem_cons_zero, List.setIfInBounds_toArray, List.set_cons_zero, List.set_cons_succ]
          refine wpAnyH_take (i := 17) (v := ?v36) rfl (by kernel_rfl) (by kernel_rfl) (by kernel_rfl) (fun _ _ _ h => h) (Or.inl ⟨by rfl, ?hy36⟩) (by assumption) ?rest36
          case hy36 => (intro wz hSw; (try dsimp only at hSw); first | (go_simp; done) | (go_simp; with_reducible rfl))
          try simp only [Act.put, List.getElem_toArray, List.getElem_cons_succ, List.getElem_cons_zero, List.setIfInBounds_toArray, List.set_cons_zero, List.set_cons_succ]
          refine wpAnyH_done (by kernel_rfl) ?_ _
          clear hH0
          go_wp2
          go_ret
          exact ⟨by rw [K.out] <;> rfl, gb_trans G2.out (gb_trans G.out G0.out)⟩
        · rw [if_pos ((isX_iff x X.an).2 (by omega))] at XD
          have x2 : x < (X.an : Int) := by omega
          have G0 := Lib.hid (gb_drew wr none)
          refine wp_region_held_drew (S := (fun w' : World => w'.cell? ⟨bx + 1, 2, none⟩ = some (.slice (some ad) Y.cn Y.cc) ∧ w'.cell? (ad.add j) = some (.int .i64 x) ∧ w'.cell? ⟨bx, 4, none⟩ = some (.slice X.aa X.an X.ac) ∧ True)) (by kernel_rfl) (K4.out _ G0.out) (fun hH0 => ?_)
          refine wpAnyH_take (i := 0) (v := ?v37) rfl (by kernel_rfl) (by kernel_rfl) (by kernel_rfl) (fun _ _ _ h => h) (Or.inl ⟨by rfl, ?hy37⟩) (by assumption) ?rest37
          case hy37 => (intro wz hSw; (try dsimp only at hSw); first | (go_simp; done) | (go_simp; with_reducible rfl))
          try simp only [Act.put, List.getElem_toArray, List.getElem_cons_zero, List.setIfInBounds_toArray, List.set_cons_zero, List.set_cons_succ]
          refine wpAnyH_take (i := 1) (v := ?v38) rfl (by kernel_rfl) (by kernel_rfl) (by kernel_rfl) (fun _ _ _ h => h) (Or.inl ⟨by rfl, ?hy38⟩) (by assumption) ?rest38
          case hy38 => (intro wz hSw; (try dsimp only at hSw); first | (go_simp; done) | (go_simp; with_reducible rfl))
          try simp only [Act.put, List.getElem_toArray, List.getElem_cons_succ, List.getElem_cons_zero, List.setIfInBounds_toArray, List.set_cons_zero, List.set_cons_succ]
          refine wpAnyH_take (i := 2) (v := ?v39) rfl (by kernel_rfl) (by kernel_rfl) (by kernel_rfl) (fun _ _ _ h => h) (Or.inl ⟨by rfl, ?hy39⟩) (by assumption) ?rest39
          case hy39 => (intro wz hSw; (try dsimp only at hSw); first | (go_simp; done) | (go_simp; with_reducible rfl))
          try simp only [Act.put, List.getElem_toArray, List.getElem_cons_succ, List.getElem_cons_zero, List.setIfInBounds_toArray, List.set_cons_zero, List.set_cons_succ]
          refine wpAnyH_take (i := 3) (v := ?v40) rfl (by kernel_rfl) (by kernel_rfl) (by kernel_rfl) (fun _ _ _ h => h) (Or.inl ⟨by rfl, ?hy40⟩) (by assumption) ?rest40
          case hy40 => (intro wz hSw; (try dsimp only at hSw); first | (go_simp; done) | (go_simp; with_reducible rfl))
          try simp only [Act.put, List.getElem_toArray, List.getElem_cons_succ, List.getElem_cons_zero, List.setIfInBounds_toArray, List.set_cons_zero, List.set_cons_succ]
          refine wpAnyH_take (i := 4) (v := ?v41) rfl (by kernel_rfl) (by kernel_rfl) (by kernel_rfl) (fun _ _ _ h => h) (Or.inl ⟨by rfl, ?hy41⟩) (by assumption) ?rest41
          case hy41 => (intro wz hSw; (try dsimp only at hSw); first | (go_simp; done) | (go_simp; with_reducible rfl))
          try simp only [Act.put, List.getElem_toArray, List.getElem_cons_succ, List.getElem_cons_zero, List.setIfInBounds_toArray, List.set_cons_zero, List.set_cons_succ]
          refine wpAnyH_take (i := 5) (v := ?v42) rfl (by kernel_rfl) (by kernel_rfl) (by kernel_rfl) (fun _ _ _ h => h) (Or.inl ⟨by rfl, ?hy42⟩) (by assumption) ?rest42
          case hy42 => (intro wz hSw; (try dsimp only at hSw); first | (go_simp; done) | (go_simp; with_reducible rfl))
          try simp only [Act.put, List.getElem_toArray, List.getElem_cons_succ, List.getElem_cons_zero, List.setIfInBounds_toArray, List.set_cons_zero, List.set_cons_succ]
          refine wpAnyH_take (i := 6) (v := ?v43) rfl (by kernel_rfl) (by kernel_rfl) (by kernel_rfl) (fun _ _ _ h => h) (Or.inl ⟨by rfl, ?hy43⟩) (by assumption) ?rest43
          case hy43 => (intro wz hSw; (try dsimp only at hSw); first | (go_simp; done) | (go_simp; with_reducible rfl))
          try simp only [Act.put, List.getElem_toArray, List.getElem_cons_succ, List.getElem_cons_zero, List.setIfInBounds_toArray, List.set_cons_zero, List.set_cons_succ]
          refine wpAnyH_take (i := 7) (v := ?v44) rfl (by kernel_rfl) (by kernel_rfl) (by kernel_rfl) (fun _ _ _ h => h) (Or.inl ⟨by rfl, ?hy44⟩) (by assumption) ?rest44
          case hy44 => (intro wz hSw; (try dsimp only at hSw); first | (go_simp; done) | (go_simp; with_reducible rfl))
          try simp only [Act.put, List.getElem_toArray, List.getElem_cons_succ, List.getElem_cons_zero, List.setIfInBounds_toArray, List.set_cons_zero, List.set_cons_succ]
          refine wpAnyH_take (i := 8) (v := ?v45) rfl (by kernel_rfl) (by kernel_rfl) (by kernel_rfl) (fun _ _ _ h => h) (Or.inl ⟨by rfl, ?hy45⟩) (by assumption) ?rest45
          case hy45 => (intro wz hSw; (try dsimp only at hSw); first | (go_simp; done) | (go_simp; with_reducible rfl))
          try simp only [Act.put, List.getElem_toArray, List.getElem_cons_succ, List.getElem_cons_zero, List.setIfInBounds_toArray, List.set_cons_zero, List.set_cons_succ]
          refine wpAnyH_take (i := 9) (v := ?v46) rfl (by kernel_rfl) (by kernel_rfl) (by kernel_rfl) (fun _ _ _ h => h) (Or.inl ⟨by rfl, ?hy46⟩) (by assumption) ?rest46
          case hy46 => (intro wz hSw; (try dsimp only at hSw); first | (go_simp; done) | (go_simp; with_reducible rfl))
          try simp only [Act.put, List.getElem_toArray, List.getElem_cons_succ, List.getElem_cons_zero, List.setIfInBounds_toArray, List.set_cons_zero, List.set_cons_succ]
          refine wpAnyH_take (i := 10) (v := ?v47) rfl (by kernel_rfl) (by kernel_rfl) (by kernel_rfl) (fun _ _ _ h => h) (Or.inl ⟨by rfl, ?hy47⟩) (by assumption) ?rest47
          case hy47 => (intro wz hSw; (try dsimp only at hSw); first | (go_simp; done) | (go_simp; with_reducible rfl))
          try simp only [Act.put, List.getElem_toArray, List.getElem_cons_succ, List.getElem_cons_zero, List.setIfInBounds_toArray, List.set_cons_zero, List.set_cons_succ]
          refine wpAnyH_take (i := 11) (v := ?v48) rfl (by kernel_rfl) (by kernel_rfl) (by kernel_rfl) (fun _ _ _ h => h) (Or.inl ⟨by rfl, ?hy48⟩) (by assumption) ?rest48
          case hy48 => (intro wz hSw; (try dsimp only at hSw); first | (go_simp; done) | (go_simp; with_reducible rfl))
          try simp only [Act.put, List.getElem_toArray, List.getElem_cons_succ, List.getElem_cons_zero, List.setIfInBounds_toArray, List.set_cons_zero, List.set_cons_succ]
          refine wpAnyH_take (i := 12) (v := ?v49) rfl (by kernel_rfl) (by kernel_rfl) (by kernel_rfl) (fun _ _ _ h => h) (Or.inl ⟨by rfl, ?hy49⟩) (by assumption) ?rest49
          case hy49 => (intro wz hSw; (try dsimp only at hSw); first | (go_simp; done) | (go_simp; with_reducible rfl))
          try simp only [Act.put, List.getElem_toArray, List.getElem_cons_succ, List.getElem_cons_zero, List.setIfInBounds_toArray, List.set_cons_zero, List.set_cons_succ]
          refine wpAnyH_take (i := 13) (v := ?v50) rfl (by kernel_rfl) (by kernel_rfl) (by kernel_rfl) (fun _ _ _ h => h) (Or.inl ⟨by rfl, ?hy50⟩) (by assumption) ?rest50
          case hy50 => (intro wz hSw; (try dsimp only at hSw); first | (go_simp; done) | (go_simp; with_reducible rfl))
          try simp only [Act.put, List.getElem_toArray, List.getElem_cons_succ, List.getElem_cons_zero, List.setIfInBounds_toArray, List.set_cons_zero, List.set_cons_succ]
          refine wpAnyH_take (i := 14) (v := ?v51) rfl (by kernel_rfl) (by kernel_rfl) (by kernel_rfl) (fun _ _ _ h => h) (Or.inl ⟨by rfl, ?hy51⟩) (by assumption) ?rest51
          case hy51 => (intro wz hSw; (try dsimp only at hSw); first | (go_simp; done) | (go_simp; with_reducible rfl))
          try simp only [Act.put, List.getElem_toArray, List.getElem_cons_succ, List.getElem_cons_zero, List.setIfInBounds_toArray, List.set_cons_zero, List.set_cons_succ]
          refine wpAnyH_take (i := 15) (v := ?v52) rfl (by kernel_rfl) (by kernel_rfl) (by kernel_rfl) (fun _ _ _ h => h) (Or.inl ⟨by rfl, ?hy52⟩) (by assumption) ?rest52
          case hy52 => (intro wz hSw; (try dsimp only at hSw); first | (go_simp; done) | (go_simp; with_reducible rfl))
          try simp only [Act.put, List.getElem_toArray, List.getElem_cons_succ, List.getElem_cons_zero, List.setIfInBounds_toArray, List.set_cons_zero, List.set_cons_succ]
          refine wpAnyH_take (i := 16) (v := ?v53) rfl (by kernel_rfl) (by kernel_rfl) (by kernel_rfl) (fun _ _ _ h => h) (Or.inl ⟨by rfl, ?hy53⟩) (by assumption) ?rest53
          case hy53 => (intro wz hSw; (try dsimp only at hSw); first | (go_simp; done) | (go_simp; with_reducible rfl))
          try simp only [Act.put, List.getElem_toArray, List.getElem_cons_succ, List.getElem_cons_zero, List.setIfInBounds_toArray, List.set_cons_zero, List.set_cons_succ]
          refine wpAnyH_take (i := 17) (v := ?v54) rfl (by kernel_rfl) (by kernel_rfl) (by kernel_rfl) (fun _ _ _ h => h) (Or.inl ⟨by rfl, ?hy54⟩) (by assumption) ?rest54
          case hy54 => (intro wz hSw; (try dsimp only at hSw); first | (go_simp; done) | (go_simp; with_reducible rfl))
          try simp only [Act.put, List.getElem_toArray, List.getElem_cons_succ, List.getElem_cons_zero, List.setIfInBounds_toArray, List.set_cons_zero, List.set_cons_succ]
          refine wpAnyH_done (by kernel_rfl) ?_ _
          clear hH0
          have GW := Lib.hid G0.out
          go_upto_region 6 with fail
          generalize wr.drew = wz at *
          have KZ := Lib.hid (fun (w' : World) (q : wz.grownBy w' none) => K6.out w' (gb_trans GW.out q))
          clear G0
          by_cases hd : x ∈ tb.acs.take j
          · have K := Lib.hid (show RE = 7 by
              have e : kv = 7 := by rw [XD.out, if_pos hd]
              rw [HR.out, if_neg (by rw [KJ.out (by rw [e]; decide), e]; decide), KJ.out (by rw [e]; decide), e])
            have i2 := IL.out.1 hd
            have i3 : idxI tb.acs x < (j : Int) := i2
            clear hd
            have G0 := Lib.hid (gb_drew wz none)
            refine wp_region_held_drew (S := (fun w' : World => w'.cell? ⟨bx + 1, 2, none⟩ = some (.slice (some ad) Y.cn Y.cc) ∧ w'.cell? (ad.add j) = some (.int .i64 x) ∧ True)) (by kernel_rfl) (KZ.out _ G0.out) (fun hH0 => ?_)
            refine wpAnyH_take (i := 0) (v := ?v55) rfl (by kernel_rfl) (by kernel_rfl) (by kernel_rfl) (fun _ _ _ h => h) (Or.inl ⟨by rfl, ?hy55⟩) (by assumption) ?rest55
            case hy55 => (intro wz hSw; (try dsimp only at hSw); first | (go_simp; done) | (go_simp; with_reducible rfl))
            try simp only [Act.put, List.getElem_toArray, List.getElem_cons_zero, List.setIfInBounds_toArray, List.set_cons_zero, List.set_cons_succ]
            refine wpAnyH_take (i := 1) (v := ?v56) rfl (by kernel_rfl) (by kernel_rfl) (by kernel_rfl) (fun _ _ _ h => h) (Or.inl ⟨by rfl, ?hy56⟩) (by assumption) ?rest56
            case hy56 => (intro wz hSw; (try dsimp only at hSw); first | (go_simp; done) | (go_simp; with_reducible rfl))
            try simp only [Act.put, List.getElem_toArray, List.getElem_cons_succ, List.getElem_cons_zero, List.setIfInBounds_toArray, List.set_cons_zero, List.set_cons_succ]
            refine wpAnyH_take (i := 2) (v := ?v57) rfl (by kernel_rfl) (by kernel_rfl) (by kernel_rfl) (fun _ _ _ h => h) (Or.inl ⟨by rfl, ?hy57⟩) (by assumption) ?rest57
            case hy57 => (intro wz hSw; (try dsimp only at hSw); first | (go_simp; done) | (go_simp; with_reducible rfl))
            try simp only [Act.put, List.getElem_toArray, List.getElem_cons_succ, List.getElem_cons_zero, List.setIfInBounds_toArray, List.set_cons_zero, List.set_cons_succ]
            refine wpAnyH_take (i := 3) (v := ?v58) rfl (by kernel_rfl) (by kernel_rfl) (by kernel_rfl) (fun _ _ _ h => h) (Or.inl ⟨by rfl, ?hy58⟩) (by assumption) ?rest58
            case hy58 => (intro wz hSw; (try dsimp only at hSw); first | (go_simp; done) | (go_simp; with_reducible rfl))
            try simp only [Act.put, List.getElem_toArray, List.getElem_cons_succ, List.getElem_cons_zero, List.setIfInBounds_toArray, List.set_cons_zero, List.set_cons_succ]
            refine wpAnyH_take (i := 4) (v := ?v59) rfl (by kernel_rfl) (by kernel_rfl) (by kernel_rfl) (fun _ _ _ h => h) (Or.inl ⟨by rfl, ?hy59⟩) (by assumption) ?rest59
            case hy59 => (intro wz hSw; (try dsimp only at hSw); first | (go_simp; done) | (go_simp; with_reducible rfl))
            try simp only [Act.put, List.getElem_toArray, List.getElem_cons_succ, List.getElem_cons_zero, List.setIfInBounds_toArray, List.set_cons_zero, List.set_cons_succ]
            refine wpAnyH_take (i := 5) (v := ?v60) rfl (by kernel_rfl) (by kernel_rfl) (by kernel_rfl) (fun _ _ _ h => h) (Or.inl ⟨by rfl, ?hy60⟩) (by assumption) ?rest60
            case hy60 => (intro wz hSw; (try dsimp only at hSw); first | (go_simp; done) | (go_simp; with_reducible rfl))
            try simp only [Act.put, List.getElem_toArray, List.getElem_cons_succ, List.getElem_cons_zero, List.setIfInBounds_toArray, List.set_cons_zero, List.set_cons_succ]
            refine wpAnyH_take (i := 6) (v := ?v61) rfl (by kernel_rfl) (by kernel_rfl) (by kernel_rfl) (fun _ _ _ h => h) (Or.inl ⟨by rfl, ?hy61⟩) (by assumption) ?rest61
            case hy61 => (intro wz hSw; (try dsimp only at hSw); first | (go_simp; done) | (go_simp; with_reducible rfl))
            try simp only [Act.put, List.getElem_toArray, List.getElem_cons_succ, List.getElem_cons_zero, List.setIfInBounds_toArray, List.set_cons_zero, List.set_cons_succ]
            refine wpAnyH_take (i := 8) (v := ?v62) rfl (by kernel_rfl) (by kernel_rfl) (by kernel_rfl) (fun _ _ _ h => h) (Or.inl ⟨by rfl, ?hy62⟩) (by assumption) ?rest62
            case hy62 => (intro wz hSw; (try dsimp only at hSw); first | (go_simp; done) | (go_simp; with_reducible rfl))
            try simp only [Act.put, List.getElem_toArray, List.getElem_cons_succ, List.getElem_cons_zero, List.setIfInBounds_toArray, List.set_cons_zero, List.set_cons_succ]
            refine wpAnyH_ready (rs := [7]) (by kernel_rfl) (by simp) ?_
            refine AllReadyH.cons (o := _) rfl (fun K hK => ?_) AllReadyH.nil
            go_simp
            refine (RI.out _ (gb_trans G.out (gb_trans GW.out G0.out))).mono ?_
            rintro e wh1 ⟨rfl, rfl⟩
            have g := gb_refl wz.drew none
            have G1 := Lib.hid (gb_trans G0.out g)
            clear g
            try dsimp only
            refine hK.out _ _ (KZ.out _ G1.out) (fun hH1 => ?_)
            clear hK K hH0
            try simp only [Act.put, List.getElem_toArray, List.getElem_cons_succ, List.getElem_cons_zero, List.setIfInBounds_toArray, List.set_cons_zero, List.set_cons_succ]
            refine wpAnyH_take (i := 9) (v := ?v63) rfl (by kernel_rfl) (by kernel_rfl) (by kernel_rfl) (fun _ _ _ h => h) (Or.inl ⟨by rfl, ?hy63⟩) (by assumption) ?rest63
            case hy63 => (intro wz hSw; (try dsimp only at hSw); first | (go_simp; done) | (go_simp; with_reducible rfl))
            try simp only [Act.put, List.getElem_toArray, List.getElem_cons_succ, List.getElem_cons_zero, List.setIfInBounds_toArray, List.set_cons_zero, List.set_cons_succ]
            refine wpAnyH_take (i := 10) (v := ?v64) rfl (by kernel_rfl) (by kernel_rfl) (by kernel_rfl) (fun _ _ _ h => h) (Or.inl ⟨by rfl, ?hy64⟩) (by assumption) ?rest64
            case hy64 => (intro wz hSw; (try dsimp only at hSw); first | (go_simp; done) | (go_simp; with_reducible rfl))
            try simp only [Act.put, List.getElem_toArray, List.getElem_cons_succ, List.getElem_cons_zero, List.setIfInBounds_toArray, List.set_cons_zero, List.set_cons_succ]
            refine wpAnyH_done (by kernel_rfl) ?_ _
            clear hH1
            go_wp2
            go_ret
            exact ⟨by rw [K.out] <;> rfl, gb_trans G2.out (gb_trans G.out (gb_trans GW.out G1.out))⟩
          · have K0 := Lib.hid (NX.out (by rw [XD.out, if_neg hd]))
            have i2 := IL.out.2 hd
            rw [i2] at RI
            clear hd i2
            have G0 := Lib.hid (gb_drew wz none)
            refine wp_region_held_drew (S := (fun w' : World => w'.cell? ⟨bx + 1, 2, none⟩ = some (.slice (some ad) Y.cn Y.cc) ∧ w'.cell? (ad.add j) = some (.int .i64 x) ∧ True)) (by kernel_rfl) (KZ.out _ G0.out) (fun hH0 => ?_)
            refine wpAnyH_take (i := 0) (v := ?v65) rfl (by kernel_rfl) (by kernel_rfl) (by kernel_rfl) (fun _ _ _ h => h) (Or.inl ⟨by rfl, ?hy65⟩) (by assumption) ?rest65
            case hy65 => (intro wz hSw; (try dsimp only at hSw); first | (go_simp; done) | (go_simp; with_reducible rfl))
            try simp only [Act.put, List.getElem_toArray, List.getElem_cons_zero, List.setIfInBounds_toArray, List.set_cons_zero, List.set_cons_succ]
            refine wpAnyH_take (i := 1) (v := ?v66) rfl (by kernel_rfl) (by kernel_rfl) (by kernel_rfl) (fun _ _ _ h => h) (Or.inl ⟨by rfl, ?hy66⟩) (by assumption) ?rest66
            case hy66 => (intro wz hSw; (try dsimp only at hSw); first | (go_simp; done) | (go_simp; with_reducible rfl))
            try simp only [Act.put, List.getElem_toArray, List.getElem_cons_succ, List.getElem_cons_zero, List.setIfInBounds_toArray, List.set_cons_zero, List.set_cons_succ]
            refine wpAnyH_take (i := 2) (v := ?v67) rfl (by kernel_rfl) (by kernel_rfl) (by kernel_rfl) (fun _ _ _ h => h) (Or.inl ⟨by rfl, ?hy67⟩) (by assumption) ?rest67
            case hy67 => (intro wz hSw; (try dsimp only at hSw); first | (go_simp; done) | (go_simp; with_reducible rfl))
            try simp only [Act.put, List.getElem_toArray, List.getElem_cons_succ, List.getElem_cons_zero, List.setIfInBounds_toArray, List.set_cons_zero, List.set_cons_succ]
            refine wpAnyH_take (i := 3) (v := ?v68) rfl (by kernel_rfl) (by kernel_rfl) (by kernel_rfl) (fun _ _ _ h => h) (Or.inl ⟨by rfl, ?hy68⟩) (by assumption) ?rest68
            case hy68 => (intro wz hSw; (try dsimp only at hSw); first | (go_simp; done) | (go_simp; with_reducible rfl))
            try simp only [Act.put, List.getElem_toArray, List.getElem_cons_succ, List.getElem_cons_zero, List.setIfInBounds_toArray, List.set_cons_zero, List.set_cons_succ]
            refine wpAnyH_take (i := 4) (v := ?v69) rfl (by kernel_rfl) (by kernel_rfl) (by kernel_rfl) (fun _ _ _ h => h) (Or.inl ⟨by rfl, ?hy69⟩) (by assumption) ?rest69
            case hy69 => (intro wz hSw; (try dsimp only at hSw); first | (go_simp; done) | (go_simp; with_reducible rfl))
            try simp only [Act.put, List.getElem_toArray, List.getElem_cons_succ, List.getElem_cons_zero, List.setIfInBounds_toArray, List.set_cons_zero, List.set_cons_succ]
            refine wpAnyH_take (i := 5) (v := ?v70) rfl (by kernel_rfl) (by kernel_rfl) (by kernel_rfl) (fun _ _ _ h => h) (Or.inl ⟨by rfl, ?hy70⟩) (by assumption) ?rest70
            case hy70 => (intro wz hSw; (try dsimp only at hSw); first | (go_simp; done) | (go_simp; with_reducible rfl))
            try simp only [Act.put, List.getElem_toArray, List.getElem_cons_succ, List.getElem_cons_zero, List.setIfInBounds_toArray, List.set_cons_zero, List.set_cons_succ]
            refine wpAnyH_take (i := 6) (v := ?v71) rfl (by kernel_rfl) (by kernel_rfl) (by kernel_rfl) (fun _ _ _ h => h) (Or.inl ⟨by rfl, ?hy71⟩) (by assumption) ?rest71
            case hy71 => (intro wz hSw; (try dsimp only at hSw); first | (go_simp; done) | (go_simp; with_reducible rfl))
            try simp only [Act.put, List.getElem_toArray, List.getElem_cons_succ, List.getElem_cons_zero, List.setIfInBounds_toArray, List.set_cons_zero, List.set_cons_succ]
            refine wpAnyH_take (i := 8) (v := ?v72) rfl (by kernel_rfl) (by kernel_rfl) (by kernel_rfl) (fun _ _ _ h => h) (Or.inl ⟨by rfl, ?hy72⟩) (by assumption) ?rest72
            case hy72 => (intro wz hSw; (try dsimp only at hSw); first | (go_simp; done) | (go_simp; with_reducible rfl))
            try simp only [Act.put, List.getElem_toArray, List.getElem_cons_succ, List.getElem_cons_zero, List.setIfInBounds_toArray, List.set_cons_zero, List.set_cons_succ]
            refine wpAnyH_ready (rs := [7]) (by kernel_rfl) (by simp) ?_
            refine AllReadyH.cons (o := _) rfl (fun K hK => ?_) AllReadyH.nil
            go_simp
            refine (RI.out _ (gb_trans G.out (gb_trans GW.out G0.out))).mono ?_
            rintro e wh1 ⟨rfl, rfl⟩
            have g := gb_refl wz.drew none
            have G1 := Lib.hid (gb_trans G0.out g)
            clear g
            try dsimp only
            refine hK.out _ _ (KZ.out _ G1.out) (fun hH1 => ?_)
            clear hK K hH0
            try simp only [Act.put, List.getElem_toArray, List.getElem_cons_succ, List.getElem_cons_zero, List.setIfInBounds_toArray, List.set_cons_zero, List.set_cons_succ]
            refine wpAnyH_take (i := 9) (v := ?v73) rfl (by kernel_rfl) (by kernel_rfl) (by kernel_rfl) (fun _ _ _ h => h) (Or.inl ⟨by rfl, ?hy73⟩) (by assumption) ?rest73
            case hy73 => (intro wz hSw; (try dsimp only at hSw); first | (go_simp; done) | (go_simp; with_reducible rfl))
            try simp only [Act.put, List.getElem_toArray, List.getElem_cons_succ, List.getElem_cons_zero, List.setIfInBounds_toArray, List.set_cons_zero, List.set_cons_succ]
            refine wpAnyH_take (i := 10) (v := ?v74) rfl (by kernel_rfl) (by kernel_rfl) (by kernel_rfl) (fun _ _ _ h => h) (Or.inl ⟨by rfl, ?hy74⟩) (by assumption) ?rest74
            case hy74 => (intro wz hSw; (try dsimp only at hSw); first | (go_simp; done) | (go_simp; with_reducible rfl))
            try simp only [Act.put, List.getElem_toArray, List.getElem_cons_succ, List.getElem_cons_zero, List.setIfInBounds_toArray, List.set_cons_zero, List.set_cons_succ]
            refine wpAnyH_done (by kernel_rfl) ?_ _
            clear hH1
            go_wp2
            go_roundw
            case rel => exact ⟨j + 1, by omega, by first | rfl | (congr 1), K0.out, gb_trans G.out (gb_trans GW.out G1.out)⟩
            case measure => simp [intOf]; omega
    · have i1 : ¬ (j : Int) < Y.cn := by omega
      have A0 := Lib.hid (show ae = 0 from AO.out (fun i hi => HB.out i (by rw [HL.out] at hi; omega)))
      rw [if_pos A0.out] at HR
      have RI := Lib.hid (rindex_any wr Y.ca Y.cn Y.cc tb.acs (HS.out.c.keep0 G.out) (by have := HN.out; omega) tb.da)
      have IM := Lib.hid (idx_mem tb.acs tb.da)
      unfold RetS at RI
      generalize idxI tb.acs tb.da = ix at *
      have d3 := (B2.out.keep0 G.out).cell 3
      have d4 := (B2.out.keep0 G.out).cell 4
      dsimp at d3 d4
      have c0 := (B1.out.keep0 G.out).cell 0
      have c1 := (B1.out.keep0 G.out).cell 1
      have c2 := (B1.out.keep0 G.out).cell 2
      have c3 := (B1.out.keep0 G.out).cell 3
      have c4 := (B1.out.keep0 G.out).cell 4
      have c5 := (B1.out.keep0 G.out).cell 5
      have c6 := (B1.out.keep0 G.out).cell 6
      have c7 := (B1.out.keep0 G.out).cell 7
      have c8 := (B1.out.keep0 G.out).cell 8
      dsimp at c0 c1 c2 c3 c4 c5 c6 c7 c8
      by_cases hd : tb.da ∈ tb.acs
      · rw [if_pos hd] at HR
        have n1 : ¬ ix < 0 := fun q => IM.out.1 q hd
        go_wp2_with (first
          | (go_at_call 63; refine RI.out.mono ?_; rintro e w3 ⟨rfl, rfl⟩)
          | (go_at_call 36; refine (CC.out _ (gb_trans G2.out G.out)).mono ?_; rw [← HR.out]; rintro e w4 ⟨rfl, g⟩; have G4 := Lib.hid g; clear g))
        go_ret
        exact ⟨rfl, gb_trans G2.out (gb_trans G.out G4.out)⟩
      · rw [if_neg hd] at HR
        have n1 : ix < 0 := IM.out.2 hd
        go_wp2_with (go_at_call 63; refine RI.out.mono ?_; rintro e w3 ⟨rfl, rfl⟩)
        go_ret
        exact ⟨by rw [HR.out] <;> rfl, gb_trans G2.out G.out⟩
end Go.Proofs.Ytgdefahnmgonlaa
