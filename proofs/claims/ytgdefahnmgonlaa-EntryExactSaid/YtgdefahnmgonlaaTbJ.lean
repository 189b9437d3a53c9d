/- Table: Kind, Widths, Bits, Allows, Key of the reference; no condition but sizes. -/
import Derived.Test.YtgdefahnmgonlaaTbI
namespace Go.Proofs.Ytgdefahnmgonlaa
open Go.RowKit
set_option linter.unusedVariables false
theorem nstep_any {ops : Array Oper} {o : Oper} {a : Act} {w : World} {K : Act → World → Prop} {Q : Exit → Act → World → Prop} {Z : Prop} (hgd : o.guard = none) (s x : Operand)
    (ho : o.op = .call { callee := .builtin .append, args := #[s, x], argTypes := #[29, 29] }) (base : Nat) (V : Value) (L : List Int) (hs : a.eval s = V) (hown : NL w base V L)
    (ad : Addr) (c : Nat) (v : Int) (hx : a.eval x = .slice (some ad) 1 c) (hM : ∀ (j : Nat) (u : Value), ([.int .i64 v] : List Value)[j]? = some u → w.cell? (ad.add j) = some u) (hlen : L.length + 1 ≤ 1000000) (hbase : base ≤ w.heap.size)
    (h : ∀ V' w', NL w' base V' (L ++ [v]) → w.grownBy w' V.ownBlock → K (a.put o.dst V') w') : if Region.wanted o (yielded ops a.tmps) = true then Oper.wp Try.prog o a w K Q else Z := by
  have hw : Region.wanted o (yielded ops a.tmps) = true := by simp [Region.wanted, hgd]
  rw [if_pos hw]
  obtain ⟨i0, hi, hz0, hz1, hz2⟩ := info_parts infoI64
  refine wp_append_own w s x 29 ho base 3 i0 (.int .i64 0) 1 8 Try.underlying29 hi hz0 hz1 hz2 rfl (by decide) V L.length (L.map (Value.int .i64)) hs hown ad 1 c [.int .i64 v] hx (by simp) hM (one_one _ rfl) (by unfold maxLen; omega) (by omega) hbase ?_
  intro V' w' h1 h2 h3
  exact h V' w' (by simpa [NL] using h1) h2
theorem ustep_any {ops : Array Oper} {o : Oper} {a : Act} {w : World} {K : Act → World → Prop} {Q : Exit → Act → World → Prop} {Z : Prop} (hgd : o.guard = none) (s x : Operand)
    (ho : o.op = .call { callee := .builtin .append, args := #[s, x], argTypes := #[33, 33] }) (base : Nat) (V : Value) (L : List Int) (hs : a.eval s = V) (hown : NU w base V L)
    (ad : Addr) (c : Nat) (v : Int) (hx : a.eval x = .slice (some ad) 1 c) (hM : ∀ (j : Nat) (u : Value), ([.int .u32 v] : List Value)[j]? = some u → w.cell? (ad.add j) = some u) (hlen : L.length + 1 ≤ 1000000) (hbase : base ≤ w.heap.size)
    (h : ∀ V' w', NU w' base V' (L ++ [v]) → w.grownBy w' V.ownBlock → K (a.put o.dst V') w') : if Region.wanted o (yielded ops a.tmps) = true then Oper.wp Try.prog o a w K Q else Z := by
  have hw : Region.wanted o (yielded ops a.tmps) = true := by simp [Region.wanted, hgd]
  rw [if_pos hw]
  obtain ⟨i0, hi, hz0, hz1, hz2⟩ := info_parts infoU32
  refine wp_append_own w s x 33 ho base 55 i0 (.int .u32 0) 1 4 Try.underlying33 hi hz0 hz1 hz2 rfl (by decide) V L.length (L.map (Value.int .u32)) hs hown ad 1 c [.int .u32 v] hx (by simp) hM (one_one _ rfl) (by unfold maxLen; omega) (by omega) hbase ?_
  intro V' w' h1 h2 h3
  exact h V' w' (by simpa [NU] using h1) h2
theorem isb_one {w : World} {g : Nat} {t : TypeId} {R : Value} (h : IsB w g t #[R]) : ∀ (j : Nat) (u : Value), ([R] : List Value)[j]? = some u → w.cell? ((⟨g, 0, none⟩ : Addr).add j) = some u := by
  intro j u hj
  match j, hj with
  | 0, hj => simp at hj; subst hj; simpa [Addr.add] using h.cell 0
def mxK (ks : List TKy) : Int := ks.foldl (fun m x => max m x.k) 1
theorem mxK_take (ks : List TKy) (j : Nat) (h : j < ks.length) : mxK (ks.take (j + 1)) = max (mxK (ks.take j)) (ks.getD j tkz).k := by
  rw [take_one tkz ks j h]
  unfold mxK
  rw [List.foldl_append]
  rfl
theorem key_kinds {H : List (ByteArray × List Fld)} {M : List Fld} {ks : List TKy} (h : (keysR H M ks).2 = 0) : ∀ i, i < ks.length → (ks.getD i tkz).k = 1 ∨ (ks.getD i tkz).k = 2 ∨ (ks.getD i tkz).k = 3 := by
  have a : ∀ i, i < ks.length → keyE H M (ks.getD i tkz) = 0 := by
    unfold keysR at h
    split at h
    · rename_i j hj
      unfold fstE at hj
      have := List.find?_some hj
      simp at this
      exact absurd h this
    · rename_i hj
      unfold fstE at hj
      rw [List.find?_eq_none] at hj
      intro i hi
      have := hj i (List.mem_range.2 hi)
      simpa using this
  intro i hi
  have q := a i hi
  unfold keyE at q
  split at q
  · cases q
  · split at q
    · assumption
    · cases q
theorem mx_kind (ks : List TKy) (h : ∀ i, i < ks.length → (ks.getD i tkz).k = 1 ∨ (ks.getD i tkz).k = 2 ∨ (ks.getD i tkz).k = 3) : ∀ j, j ≤ ks.length → mxK (ks.take j) = if 0 < cntK 3 (ks.take j) then 3 else if 0 < cntK 2 (ks.take j) then 2 else 1 := by
  intro j
  induction j with
  | zero => intro _; rfl
  | succ j ih =>
    intro hj
    rw [mxK_take ks j (by omega), cnt_take 3 ks j (by omega), cnt_take 2 ks j (by omega), ih (by omega)]
    generalize cntK 3 (ks.take j) = a
    generalize cntK 2 (ks.take j) = b
    rcases h j (by omega) with e | e | e <;> rw [e] <;> (repeat' split) <;> omega
theorem kind_mx {P : Pg} {t : Int} (h : okT P t = true) : kindT P t = mxK (tabV P t).ks := by
  unfold kindT
  rw [if_pos h]
  have := mx_kind (tabV P t).ks (key_kinds (ok_tab h).2.1) _ (Nat.le_refl _)
  rw [List.take_length] at this
  exact this.symm
theorem max_if (a b : Int) : max a b = if a < b then b else a := by
  by_cases h : a < b
  · rw [if_pos h]; omega
  · rw [if_neg h]; omega
set_option maxRecDepth 100000 in
set_option maxHeartbeats 4000000 in
theorem rkind_any (w : World) (X : PX) (P : Pg) (hp : SP w X P) (hz : szT P) (t : Int) : Calls Try.prog 34 #[.agg #[.string X.nm, .slice X.ha X.hn X.hc, .slice X.ma X.mn X.mc, .slice X.ra X.rn X.rc, .slice X.aa X.an X.ac, .slice X.ta X.tn X.tc, .slice X.sa X.sn X.sc, .slice X.ca X.cn X.cc, .slice X.da X.dn X.dc], .int .i64 t] w (RetV (.int .i64 (kindT P t)) w) := by
  have VD := Lib.hid (fun (W : World) (q : w.grownBy W none) => rvalid17_any W X P (hp.keep0 q) hz t)
  have HP := Lib.hid hp
  have TL := Lib.hid (show P.T.length = X.tn from hp.t.len)
  have OI := Lib.hid (fun q => ok_in (P := P) (t := t) q)
  have TS := Lib.hid (tabV_sz hz t)
  have TVd := Lib.hid (show tabV P t = if okT P t = true then P.T.getD t.toNat tbz else tbz from rfl)
  unfold RetV at VD
  have KM := Lib.hid (fun q => kind_mx (P := P) (t := t) q)
  have KN := Lib.hid (show okT P t = false → kindT P t = 0 from fun q => by unfold kindT; rw [if_neg (by rw [q]; decide)])
  generalize kindT P t = kd at *
  generalize tabV P t = tv at *
  generalize okT P t = ok at *
  have G2 := Lib.hid (gb_alloc w (.cells #[.string X.nm, .slice X.ha X.hn X.hc, .slice X.ma X.mn X.mc, .slice X.ra X.rn X.rc, .slice X.aa X.an X.ac, .slice X.ta X.tn X.tc, .slice X.sa X.sn X.sc, .slice X.ca X.cn X.cc, .slice X.da X.dn X.dc] 31) none)
  have B1 := IsB.new w 31 #[.string X.nm, .slice X.ha X.hn X.hc, .slice X.ma X.mn X.mc, .slice X.ra X.rn X.rc, .slice X.aa X.an X.ac, .slice X.ta X.tn X.tc, .slice X.sa X.sn X.sc, .slice X.ca X.cn X.cc, .slice X.da X.dn X.dc]
  replace B1 := Lib.hid B1
  clear hp hz
  go_enter Try.func34, Try.ntmps34
  go_upto_region 1 with fail
  generalize w.alloc (.cells #[.string X.nm, .slice X.ha X.hn X.hc, .slice X.ma X.mn X.mc, .slice X.ra X.rn X.rc, .slice X.aa X.an X.ac, .slice X.ta X.tn X.tc, .slice X.sa X.sn X.sc, .slice X.ca X.cn X.cc, .slice X.da X.dn X.dc] 31) = w2 at *
  obtain ⟨bx, hbx⟩ : ∃ b, b = w.heap.size := ⟨_, rfl⟩
  have Lbx := Lib.hid (show w.heap.size ≤ bx by rw [hbx]; exact Nat.le_refl _)
  rw [← hbx] at B1 ⊢
  clear hbx
  replace HP := Lib.hid (HP.out.keep0 G2.out)
  have c0 := (B1.out.keep0 (gb_refl _ _)).cell 0
  have c1 := (B1.out.keep0 (gb_refl _ _)).cell 1
  have c2 := (B1.out.keep0 (gb_refl _ _)).cell 2
  have c3 := (B1.out.keep0 (gb_refl _ _)).cell 3
  have c4 := (B1.out.keep0 (gb_refl _ _)).cell 4
  have c5 := (B1.out.keep0 (gb_refl _ _)).cell 5
  have c6 := (B1.out.keep0 (gb_refl _ _)).cell 6
  have c7 := (B1.out.keep0 (gb_refl _ _)).cell 7
  have c8 := (B1.out.keep0 (gb_refl _ _)).cell 8
  dsimp at c0 c1 c2 c3 c4 c5 c6 c7 c8
  go_wp2_with fail
  refine (VD.out w2 G2.out).mono ?_
  rintro e w3 ⟨rfl, g⟩
  have G3 := Lib.hid g
  clear g c0 c1 c2 c3 c4 c5 c6 c7 c8
  cases ok
  · have E := Lib.hid (KN.out rfl)
    go_wp2
    go_ret
    exact ⟨by rw [E.out] <;> rfl, gb_trans G2.out G3.out⟩
  · have E := Lib.hid (KM.out rfl)
    obtain ⟨k, rfl, hk⟩ := OI.out rfl
    rw [TL.out] at hk
    have k0 : (0 : Int) ≤ (k : Int) := by omega
    have k1 : (k : Int) < X.tn := by omega
    rw [if_pos rfl, Int.toNat_natCast] at TVd
    obtain ⟨tad, hta⟩ := HP.out.t.some (by omega)
    obtain ⟨Y, st, e0, e1, e2, e3, e4, e5⟩ := HP.out.tab hk hta
    rw [← TVd.out] at st e0 e3 e5
    have HS := Lib.hid st
    have HL := Lib.hid (show tv.ks.length = Y.kn from st.k.len)
    have HTA := Lib.hid hta
    have E1 := Lib.hid e1
    have E2 := Lib.hid e2
    clear st hta hk e0 e1 e2 e3 e4 e5
    go_wp2
    go_loopw [5, 6] (fun m i wr => ∃ j : Nat, j ≤ Y.kn ∧ i = .int .i64 j ∧ m = .int .i64 (mxK (tv.ks.take j)) ∧ w2.grownBy wr none) (fun _ i _ => Y.kn - (intOf i).toNat)
    case atStart => exact ⟨0, Nat.zero_le _, rfl, rfl, G3.out⟩
    case round =>
      obtain ⟨j, hj, rfl, rfl, hg⟩ := hrel
      have G := Lib.hid hg
      clear hg
      have c5 : wr.cell? ⟨bx, 5, none⟩ = some (Value.slice (some tad) X.tn X.tc) := by have := (B1.out.keep0 G.out).cell 5; rw [HTA.out] at this; exact this
      have x1 := G.out.cell E1.out (by simp)
      by_cases hlt : j < Y.kn
      · obtain ⟨ad, had⟩ := HS.out.k.some (by omega)
        obtain ⟨e0, e1, e2⟩ := (HS.out.k.keep0SKy G.out).cells ad had j hlt
        have MX := Lib.hid (mxK_take tv.ks j (by rw [HL.out]; exact hlt))
        rw [max_if] at MX
        generalize (tv.ks.getD j tkz).k = xk at *
        generalize mxK (tv.ks.take j) = m at *
        have i1 : (j : Int) < Y.kn := by omega
        have i0 : (0 : Int) ≤ (j : Int) := by omega
        have hw : IntKind.i64.wrap ((j : Int) + 1) = ((j + 1 : Nat) : Int) := by have := TS.out.2.1; have := HL.out; rw [IntKind.wrap_i64]; omega
        rw [had] at x1
        clear e0 e1
        by_cases q : m < xk
        · have M2 := Lib.hid (show mxK (tv.ks.take (j + 1)) = xk by rw [MX.out, if_pos q])
          go_wp2
          go_roundw
          case rel => exact ⟨j + 1, by omega, by first | rfl | (congr 1), by rw [M2.out] <;> first | rfl | (rw [if_pos q]) | (rw [if_neg q]), G.out⟩
          case measure => simp [intOf]; omega
        · have M2 := Lib.hid (show mxK (tv.ks.take (j + 1)) = m by rw [MX.out, if_neg q])
          go_wp2
          go_roundw
          case rel => exact ⟨j + 1, by omega, by first | rfl | (congr 1), by rw [M2.out] <;> first | rfl | (rw [if_pos q]) | (rw [if_neg q]), G.out⟩
          case measure => simp [intOf]; omega
      · have i1 : ¬ (j : Int) < Y.kn := by omega
        have CK := Lib.hid (show tv.ks.take j = tv.ks by rw [List.take_of_length_le]; rw [HL.out]; omega)
        rw [CK.out]
        go_wp2
        go_ret
        exact ⟨by rw [E.out] <;> rfl, gb_trans G2.out G.out⟩
set_option maxRecDepth 100000 in
set_option maxHeartbeats 4000000 in
theorem rallows_any (w : World) (X : PX) (P : Pg) (hp : SP w X P) (hz : szT P) (t : Int) (a : Int) : Calls Try.prog 35 #[.agg #[.string X.nm, .slice X.ha X.hn X.hc, .slice X.ma X.mn X.mc, .slice X.ra X.rn X.rc, .slice X.aa X.an X.ac, .slice X.ta X.tn X.tc, .slice X.sa X.sn X.sc, .slice X.ca X.cn X.cc, .slice X.da X.dn X.dc], .int .i64 t, .int .i64 a] w (RetV (.bool (decide (a ∈ (tabV P t).acs))) w) := by
  have VD := Lib.hid (fun (W : World) (q : w.grownBy W none) => rvalid17_any W X P (hp.keep0 q) hz t)
  have HP := Lib.hid hp
  have TL := Lib.hid (show P.T.length = X.tn from hp.t.len)
  have OI := Lib.hid (fun q => ok_in (P := P) (t := t) q)
  have TS := Lib.hid (tabV_sz hz t)
  have TVd := Lib.hid (show tabV P t = if okT P t = true then P.T.getD t.toNat tbz else tbz from rfl)
  unfold RetV at VD
  generalize tabV P t = tv at *
  generalize okT P t = ok at *
  have G2 := Lib.hid (gb_alloc w (.cells #[.string X.nm, .slice X.ha X.hn X.hc, .slice X.ma X.mn X.mc, .slice X.ra X.rn X.rc, .slice X.aa X.an X.ac, .slice X.ta X.tn X.tc, .slice X.sa X.sn X.sc, .slice X.ca X.cn X.cc, .slice X.da X.dn X.dc] 31) none)
  have B1 := IsB.new w 31 #[.string X.nm, .slice X.ha X.hn X.hc, .slice X.ma X.mn X.mc, .slice X.ra X.rn X.rc, .slice X.aa X.an X.ac, .slice X.ta X.tn X.tc, .slice X.sa X.sn X.sc, .slice X.ca X.cn X.cc, .slice X.da X.dn X.dc]
  replace B1 := Lib.hid B1
  clear hp hz
  go_enter Try.func35, Try.ntmps35
  go_upto_region 1 with fail
  generalize w.alloc (.cells #[.string X.nm, .slice X.ha X.hn X.hc, .slice X.ma X.mn X.mc, .slice X.ra X.rn X.rc, .slice X.aa X.an X.ac, .slice X.ta X.tn X.tc, .slice X.sa X.sn X.sc, .slice X.ca X.cn X.cc, .slice X.da X.dn X.dc] 31) = w2 at *
  obtain ⟨bx, hbx⟩ : ∃ b, b = w.heap.size := ⟨_, rfl⟩
  have Lbx := Lib.hid (show w.heap.size ≤ bx by rw [hbx]; exact Nat.le_refl _)
  rw [← hbx] at B1 ⊢
  clear hbx
  replace HP := Lib.hid (HP.out.keep0 G2.out)
  have c0 := (B1.out.keep0 (gb_refl _ _)).cell 0
  have c1 := (B1.out.keep0 (gb_refl _ _)).cell 1
  have c2 := (B1.out.keep0 (gb_refl _ _)).cell 2
  have c3 := (B1.out.keep0 (gb_refl _ _)).cell 3
  have c4 := (B1.out.keep0 (gb_refl _ _)).cell 4
  have c5 := (B1.out.keep0 (gb_refl _ _)).cell 5
  have c6 := (B1.out.keep0 (gb_refl _ _)).cell 6
  have c7 := (B1.out.keep0 (gb_refl _ _)).cell 7
  have c8 := (B1.out.keep0 (gb_refl _ _)).cell 8
  dsimp at c0 c1 c2 c3 c4 c5 c6 c7 c8
  cases ok
  · have AE : decide (a ∈ tv.acs) = false := by rw [TVd.out, if_neg (by decide)]; rfl
    have E := Lib.hid AE
    clear AE
    go_wp2_with (go_at_call 58; refine (VD.out w2 G2.out).mono ?_; rintro e w3 ⟨rfl, g⟩; have G3 := Lib.hid g; clear g)
    go_ret
    exact ⟨by rw [E.out] <;> rfl, gb_trans G2.out G3.out⟩
  · have IM := Lib.hid (idx_mem tv.acs a)
    obtain ⟨k, rfl, hk⟩ := OI.out rfl
    rw [TL.out] at hk
    have k0 : (0 : Int) ≤ (k : Int) := by omega
    have k1 : (k : Int) < X.tn := by omega
    rw [if_pos rfl, Int.toNat_natCast] at TVd
    obtain ⟨tad, hta⟩ := HP.out.t.some (by omega)
    obtain ⟨Y, st, e0, e1, e2, e3, e4, e5⟩ := HP.out.tab hk hta
    rw [← TVd.out] at st e0 e3 e5
    have HS := Lib.hid st
    have HL := Lib.hid (show tv.ks.length = Y.kn from st.k.len)
    have HTA := Lib.hid hta
    have E1 := Lib.hid e1
    have E2 := Lib.hid e2
    clear st hta hk e0 e1 e2 e3 e4 e5
    obtain ⟨b, hb⟩ : ∃ b, b = decide (a ∈ tv.acs) := ⟨_, rfl⟩
    have HB := Lib.hid hb
    rw [← hb]
    have RI := Lib.hid (fun (W : World) (q : w2.grownBy W none) => rindex_any W Y.ca Y.cn Y.cc tv.acs (HS.out.c.keep0 q) (by have := TS.out.2.2.1; have := HS.out.c.len; omega) a)
    unfold RetS at RI
    generalize idxI tv.acs a = ix at *
    clear hb
    cases b
    · have n1 : ix < 0 := IM.out.2 (by have := HB.out; simpa using this.symm)
      have n2 : ¬ 0 ≤ ix := by omega
      have n3 : decide (0 ≤ ix) = false := decide_eq_false n2
      go_wp2_with (first
        | (go_at_call 58; refine (VD.out w2 G2.out).mono ?_; rintro e w3 ⟨rfl, g⟩; have G3 := Lib.hid g; have c5 : w3.cell? ⟨bx, 5, none⟩ = some (.slice (some tad) X.tn X.tc) := (by have := (B1.out.keep0 g).cell 5; rw [HTA.out] at this; exact this); have x2 := g.cell E2.out (by simp); clear g)
        | (go_at_call 63; refine (RI.out w3 G3.out).mono ?_; rintro e w4 ⟨rfl, he⟩; obtain rfl := he.symm))
      go_ret
      exact ⟨by simp; have h := HB.out; simpa using h.symm, gb_trans G2.out G3.out⟩
    · have n1 : ¬ ix < 0 := fun q => by have := IM.out.1 q; have h := HB.out; simp [this] at h
      have n2 : 0 ≤ ix := by omega
      have n3 : decide (0 ≤ ix) = true := decide_eq_true n2
      go_wp2_with (first
        | (go_at_call 58; refine (VD.out w2 G2.out).mono ?_; rintro e w3 ⟨rfl, g⟩; have G3 := Lib.hid g; have c5 : w3.cell? ⟨bx, 5, none⟩ = some (.slice (some tad) X.tn X.tc) := (by have := (B1.out.keep0 g).cell 5; rw [HTA.out] at this; exact this); have x2 := g.cell E2.out (by simp); clear g)
        | (go_at_call 63; refine (RI.out w3 G3.out).mono ?_; rintro e w4 ⟨rfl, he⟩; obtain rfl := he.symm))
      go_ret
      exact ⟨by simp; have h := HB.out; simpa using h.symm, gb_trans G2.out G3.out⟩
end Go.Proofs.Ytgdefahnmgonlaa
