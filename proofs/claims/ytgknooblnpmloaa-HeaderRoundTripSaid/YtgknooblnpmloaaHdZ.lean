/- Header: the walk of HeaderRoundTrip; no condition but that the arguments can be read. -/
import Derived.Test.YtgknooblnpmloaaHdR
namespace Go.Proofs.Ytgknooblnpmloaa
open Go.RowKit
set_option linter.unusedVariables false

theorem bl_gb {W w w2 : World} (h : Below W.heap.size W w) (k : w.grownBy w2 none) : Below W.heap.size W w2 := gb_below h k h.size (by intro g e; cases e)
theorem bl_gt {W w w2 : World} {base : Nat} (h : Below W.heap.size W w) (k : GT base w w2) (h1 : W.heap.size ≤ base) (h2 : base ≤ w.heap.size) : Below W.heap.size W w2 := h.trans (Below.mono (k.below h2) h1)
theorem slr_cut {w : World} {ad : Addr} {n c : Nat} {xs : List Value} (h : SlR w (some ad) n c xs) (m : Nat) (hm : m ≤ n) : SlR w (some ad) m c (xs.take m) := by
  have hl := h.1
  refine ⟨by simp; omega, (fun e => by cases e), fun ad2 e j u hu => ?_⟩
  have hj : j < m := by
    have := (List.getElem?_eq_some_iff.1 hu).1
    simp at this; omega
  rw [List.getElem?_take, if_pos hj] at hu
  exact h.2.2 ad2 e j u hu
theorem step_pushU {ops : Array Oper} {o : Oper} {a : Act} {w : World} {K : Act → World → Prop} {Q : Exit → Act → World → Prop} {E : Prop} (hgd : o.guard = none) (s x : Operand)
    (ho : o.op = .call { callee := .builtin .append, args := #[s, x], argTypes := #[44, 44] }) (base : Nat) (V : Value) (L : List Int) (hs : a.eval s = V) (hown : UL w base V L)
    (ad : Addr) (m c : Nat) (M : List Int) (hx : a.eval x = .slice (some ad) m c) (hM : SlR w (some ad) m c (M.map (Value.int .u32))) (hlen : L.length + M.length ≤ 1000000) (hbase : base ≤ w.heap.size)
    (h : ∀ V' w', UL w' base V' (L ++ M) → w.grownBy w' V.ownBlock → K (a.put o.dst V') w') : if Region.wanted o (yielded ops a.tmps) = true then Oper.wp Try.prog o a w K Q else E := by
  have hw : Region.wanted o (yielded ops a.tmps) = true := by simp [Region.wanted, hgd]
  rw [if_pos hw]
  obtain ⟨i0, hi, hz0, hz1, hz2⟩ := info_parts infoU32
  have hl : M.length = m := by simpa using hM.1
  subst hl
  refine wp_append_own w s x 44 ho base 39 i0 (.int .u32 0) 1 4 Try.underlying44 hi hz0 hz1 hz2 rfl (by decide) V L.length (L.map (Value.int .u32)) hs hown ad M.length c (M.map (Value.int .u32)) hx (by simp) (hM.2.2 ad rfl) (ints_one _ _) (by unfold maxLen; omega) (by omega) hbase ?_
  intro V' w' h1 h2 h3
  exact h V' w' (by simpa [UL] using h1) h2
theorem slr_one2 (w : World) (k : IntKind) (x : Int) (t : TypeId) (g : Nat) (hg : g = w.heap.size) : SlR (w.alloc (.cells #[.int k x] t)) (some ⟨g, 0, none⟩) 1 1 ([x].map (Value.int k)) := by
  subst hg; exact slr_new w k [x] t
theorem gb_own2 {w w2 : World} {base : Nat} {e : TypeId} {size n : Nat} {v : Value} {xs : List Value} {w0 : World} (h0 : w0.grownBy w none) (hown : w.ownsRow base e size v n xs) (hb : w0.heap.size ≤ base) (k : w.grownBy w2 v.ownBlock) : w0.grownBy w2 none := by
  refine ⟨k.os.trans h0.os, k.tape.trans h0.tape, k.output.trans h0.output, Nat.le_trans h0.size k.size, fun i hi hn => ?_⟩
  refine (k.block i (Nat.lt_of_lt_of_le hi h0.size) ?_).trans (h0.block i hi (by simp))
  intro e1
  have := hown.lt i e1.symm
  omega
theorem isb_own {w w2 : World} {base g : Nat} {t e : TypeId} {size n : Nat} {v : Value} {xs : List Value} {cs : Array Value} (h : IsB w g t cs) (hown : w.ownsRow base e size v n xs) (hn : e ≠ t) (k : w.grownBy w2 v.ownBlock) : IsB w2 g t cs := h.keep k (fun e1 => own_ne hown h hn e1.symm)
theorem vFs_range (vals : List Int) (L : List Fld) (k : Nat) (hv : ∀ x ∈ vals, 0 ≤ x ∧ x < 4294967296) (hk : k ≤ vals.length) : ∀ x ∈ vFs vals L k, 0 ≤ x ∧ x < 4294967296 := by
  intro x hx
  obtain ⟨j, hj, rfl⟩ := List.mem_map.1 hx
  have hj := List.mem_range.1 hj
  have h := hv (vals.getD j 0) (by simp [show j < vals.length by omega])
  have hp := pow_pos' (32 - (L.getD j fz).2).toNat
  unfold vF
  refine ⟨Int.ediv_nonneg h.1 (by omega), ?_⟩
  have := Int.ediv_le_self (2 ^ (32 - (L.getD j fz).2).toNat) h.1
  omega
set_option maxRecDepth 100000 in
set_option maxHeartbeats 16000000 in
theorem hround_on (s0 : ByteArray) (a : Option Addr) (n c : Nat) (L : List Fld) (a1 : Option Addr) (len1 cap1 : Nat) (vals : List Int) (a2 : Option Addr) (len2 cap2 : Nat) (bs : List Int) (W : World) (h : SF W a n c L) (h1 : SlR W a1 len1 cap1 (vals.map (Value.int .u32))) (h2 : SlR W a2 len2 cap2 (bs.map (Value.int .u8)))
    (hv : ∀ x ∈ vals, 0 ≤ x ∧ x < 4294967296) (hb : ∀ x ∈ bs, 0 ≤ x ∧ x ≤ 255) (hsm : smallH s0 L = true) (hl1 : len1 ≤ 30) (hl2 : len2 ≤ 100) (hcap : len2 ≤ cap2) (hck : chkH s0 L = 0) (hnl : n ≤ len1) :
    Calls Try.prog 6 #[.agg #[.string s0, .slice a n c], .slice a1 len1 cap1, .slice a2 len2 cap2] W (HoldsT W) := by
  have hvl : vals.length = len1 := by simpa using h1.1
  have hbl : bs.length = len2 := by simpa using h2.1
  subst hvl
  subst hbl
  have OK := Lib.hid (hd_small h hsm)
  have HV := Lib.hid hv
  have HB := Lib.hid hb
  have S1 := Lib.hid h1
  have S2 := Lib.hid h2
  have HCK := Lib.hid hck
  have HLN := Lib.hid h.len
  have hL20 := (smallH_ok hsm).2.1
  have L20 := Lib.hid (show n ≤ 20 by rw [← h.len]; exact hL20)
  have BX := Lib.hid (IsB.new W 24 #[.string s0, .slice a n c])
  have G0 := Lib.hid (gb_alloc W (.cells #[.string s0, .slice a n c] 24) none)
  have SM := Lib.hid (small_any _ s0 a n c L (h.keep0 G0.out))
  rw [hsm] at SM
  have WK := Lib.hid (fun w => works_any w)
  have i1 : decide ((30 : Int) < vals.length) = false := by rw [decide_eq_false_iff_not]; omega
  have i2 : decide ((100 : Int) < bs.length) = false := by rw [decide_eq_false_iff_not]; omega
  have i3 : decide (vals.length < n) = false := by rw [decide_eq_false_iff_not]; omega
  have CK5 := Lib.hid (chk_ok s0 L hck).2.2.2.2
  clear h h1 h2 hv hb hsm hck hL20
  go_enter Try.func6, Try.ntmps6
  go_wp2_with fail
  refine SM.out.mono ?_
  rintro e w2 ⟨rfl, g2⟩
  have G2 := Lib.hid (gb_trans G0.out g2)
  have BX2 := Lib.hid (BX.out.keep0 g2)
  have b0 := BX2.out.cell 0
  have b1 := BX2.out.cell 1
  simp at b0 b1
  have C0 := Lib.hid (rcheck_any w2 s0 a n c L (OK.out.sf.keep0 G2.out) OK.out.few OK.out.nm OK.out.hn)
  clear g2 SM BX
  rw [HCK.out] at C0
  go_wp2_with fail
  refine C0.out.mono ?_
  rintro e w3 ⟨rfl, g3⟩
  have G3 := Lib.hid (gb_trans G2.out g3)
  have BX3 := Lib.hid (BX2.out.keep0 g3)
  clear g3 b0 b1 C0 BX2
  have b0 := BX3.out.cell 0
  have b1 := BX3.out.cell 1
  simp at b0 b1
  go_wp2_with fail
  go_loopw [8, 7] (fun i v wr => ∃ k : Nat, k ≤ n ∧ i = .int .i64 k ∧ UL wr W.heap.size v (vFs vals L k) ∧ IsB wr W.heap.size 24 #[.string s0, .slice a n c] ∧ W.grownBy wr none) (fun i _ _ => n - (intOf i).toNat)
  case atStart => exact ⟨0, Nat.zero_le _, rfl, World.ownsRow_nil _ _ _ _, BX3.out, G3.out⟩
  case round =>
    obtain ⟨k, hk, rfl, q1, q2, q3⟩ := hrel
    clear BX3 b0 b1 G3
    have U := Lib.hid q1
    have BX := Lib.hid q2
    have G := Lib.hid q3
    obtain ⟨av, cv, rfl⟩ := UL.shape q1
    have hvk := vFs_len vals L k
    clear q1 q2 q3
    have b1 := BX.out.cell 1
    simp at b1
    by_cases hlt : k < n
    · cases a1 with
      | none => exact absurd (S1.out.2.1 rfl).1 (by omega)
      | some ad =>
      have GW := Lib.hid G.out
      obtain ⟨ad2, rfl⟩ := sf_some OK.out.sf (by omega)
      have CC := Lib.hid (fun (w' : World) (g : W.grownBy w' none) => (OK.out.sf.keep0 g).cells ad2 rfl k hlt)
      have VC := Lib.hid (fun (w' : World) (g : W.grownBy w' none) => (S1.out.keep0 g).cellAt k (by omega))
      have j1 : (k : Int) < n := by omega
      have j2 : (k : Int) < vals.length := by omega
      have j0 : (0 : Int) ≤ (k : Int) := by omega
      have hl : k < L.length := by rw [HLN.out]; exact hlt
      have hgd := CK5.out ((wsL L).getD k 0) (by simp [show k < (wsL L).length by rw [wsL_len]; exact hl])
      rw [wsL_get L k hl] at hgd
      have SC := Lib.hid (vFs_succ vals L k)
      have VE := Lib.hid (show vF vals L k = vals.getD k 0 / 2 ^ (32 - (L.getD k fz).2).toNat from rfl)
      have hx := HV.out (vals.getD k 0) (by simp [show k < vals.length by omega])
      obtain ⟨p, hp⟩ : ∃ p, p = L.getD k fz := ⟨_, rfl⟩
      rw [← hp] at CC hgd VE
      obtain ⟨fn, m⟩ := p
      obtain ⟨x, hxx⟩ : ∃ x, x = vals.getD k 0 := ⟨_, rfl⟩
      rw [← hxx] at VC VE hx
      obtain ⟨y, hy⟩ : ∃ y, y = vF vals L k := ⟨_, rfl⟩
      rw [← hy] at SC VE
      obtain ⟨m1, m2⟩ := hgd
      have VE2 := Lib.hid (show x / 2 ^ (32 - m).toNat = y from VE.out.symm)
      have s1 : IntKind.i64.wrap (32 - m) = 32 - m := IntWalk.i64_in _ (by omega)
      have s2 : 0 ≤ 32 - m := by omega
      obtain ⟨vs, hvs⟩ : ∃ vs, vs = vFs vals L k := ⟨_, rfl⟩
      rw [← hvs] at U SC hvk ⊢
      have HVK := Lib.hid hvk
      clear hp hxx hy hl VE hvs hvk
      have KS := Lib.hid (fun (w' : World) (q : W.grownBy w' none) (b : IsB w' W.heap.size 24 #[.string s0, .slice (some ad2) n c]) => (⟨b.cell 1, VC.out _ q, (CC.out _ q).2, q, b⟩ : (fun w' : World => w'.cell? ⟨W.heap.size, 1, none⟩ = some (.slice (some ad2) n c) ∧ w'.cell? (ad.add k) = some (.int .u32 x) ∧ w'.cell? ⟨(ad2.add (k * 2)).block, (ad2.add (k * 2)).off + 1, none⟩ = some (.int .i64 m) ∧ W.grownBy w' none ∧ IsB w' W.heap.size 24 #[.string s0, .slice (some ad2) n c]) w'))
      go_wp2_with fail
      have OA := Lib.hid (fun (cs : Array Value) (ty : TypeId) => UL.keep0 U.out (gb_trans (gb_drew wr none) (gb_alloc wr.drew (.cells cs ty) none)))
      have BA := Lib.hid (fun (cs : Array Value) (ty : TypeId) => BX.out.keep0 (gb_trans (gb_drew wr none) (gb_alloc wr.drew (.cells cs ty) none)))
      have SZ := Lib.hid G.out.size
      go_region_held3 (fun w' : World => w'.cell? ⟨W.heap.size, 1, none⟩ = some (.slice (some ad2) n c) ∧ w'.cell? (ad.add k) = some (.int .u32 x) ∧ w'.cell? ⟨(ad2.add (k * 2)).block, (ad2.add (k * 2)).off + 1, none⟩ = some (.int .i64 m) ∧ W.grownBy w' none ∧ IsB w' W.heap.size 24 #[.string s0, .slice (some ad2) n c])
        (first
          | assumption
          | exact KS.out _ G2 B2
          | exact KS.out _ (gb_trans GW.out (by repeat' first
                                  | exact World.grownBy.refl _ _
                                  | exact gb_drew _ _
                                  | refine gb_trans ?_ (gb_alloc _ _ _)
                                  | refine gb_trans ?_ (gb_drew _ _))) (BX.out.keep0 (by repeat' first
                                  | exact World.grownBy.refl _ _
                                  | exact gb_drew _ _
                                  | refine gb_trans ?_ (gb_alloc _ _ _)
                                  | refine gb_trans ?_ (gb_drew _ _))))
        (first
          | (refine step_pushU rfl _ _ rfl W.heap.size _ vs rfl (OA.out _ _) _ _ _ [_] rfl (slr_one2 _ _ _ _ _ rfl) (by have := HVK.out; simp; omega) (by have := SZ.out; simp; omega) ?_; intro V2 w2 o2 g2; have G2 := gb_own2 (gb_trans G.out (gb_trans (gb_drew wr none) (gb_alloc _ _ _))) (OA.out _ _) (Nat.le_refl _) g2; have B2 := isb_own (BA.out _ _) (OA.out _ _) (by decide) g2))
      have O2 := Lib.hid (show UL w2 W.heap.size V2 (vFs vals L (k + 1)) by rw [SC.out, ← VE2.out]; exact o2)
      have GG := Lib.hid G2
      have BB := Lib.hid B2
      rename_i hHeld
      clear hHeld o2 g2 G2 B2 OA BA KS CC VC
      go_wp2
      go_roundw
      case rel => exact ⟨k + 1, by omega, by go_num, O2.out, BB.out, GG.out⟩
      case measure => simp [intOf]; omega
    · have hke : k = n := by omega
      subst hke
      obtain ⟨Bv, q, hw, hBl, hby, hpl, hbt, hq, hrd⟩ := round_ok vals HCK.out HV.out (by rw [HLN.out]; omega)
      rw [HLN.out] at hw hrd
      have hvr := vFs_range vals L k HV.out (by omega)
      obtain ⟨vs, hvs⟩ : ∃ vs, vs = vFs vals L k := ⟨_, rfl⟩
      rw [← hvs] at U hvk hw hrd hvr ⊢
      obtain ⟨cb, hcb⟩ : ∃ cb, cb = packB Bv := ⟨_, rfl⟩
      have hcr := packB_range Bv
      rw [← hcb] at hby hpl hrd hcr
      have HW := Lib.hid hw
      have HBL := Lib.hid hBl
      have HBY := Lib.hid hby
      have HPL := Lib.hid hpl
      have HBT := Lib.hid hbt
      have HQ := Lib.hid hq
      have HRD := Lib.hid hrd
      have HVR := Lib.hid hvr
      have HCR := Lib.hid hcr
      have HVK := Lib.hid hvk
      clear hw hBl hby hpl hbt hq hrd hvr hcr hvs hcb hvk hlt hk
      go_wp2_with fail
      refine (newWriter_any wr).mono ?_
      rintro e w4 ⟨rfl, g4, t4⟩
      have G4 := Lib.hid (gb_trans G.out g4)
      have BX4 := Lib.hid (BX.out.keep0 g4)
      have U4 := Lib.hid (UL.keep0 U.out g4)
      have WA := Lib.hid (write_any W w4 s0 a k c L OK.out wr.heap.size (wr.heap.size + 1) wr.heap.size (.slice none 0 0) [] (below_gb G4.out) G.out.size g4.size t4 av _ cv vs (UL.slr U4.out rfl) HVR.out (by simp) 0 Bv HW.out (fun w' g => own_slr (own_gt U4.out g (by decide) (by decide))))
      have SZ := Lib.hid (show W.heap.size ≤ wr.heap.size ∧ wr.heap.size ≤ w4.heap.size from ⟨G.out.size, g4.size⟩)
      generalize wr.heap.size = base at *
      clear g4 t4 b1 U BX G
      have b0 := BX4.out.cell 0
      have b1 := BX4.out.cell 1
      simp at b0 b1
      go_wp2_with fail
      refine WA.out.mono ?_
      rintro e w5 ⟨rfl, t5, V5, r5⟩
      have B5 := Lib.hid (bl_gt (below_gb G4.out) t5 SZ.out.1 SZ.out.2)
      have BX5 := Lib.hid (t5.kind _ _ _ BX4.out (by decide) (by decide))
      have U5 := Lib.hid (show UL w5 W.heap.size (.slice av vs.length cv) vs from own_gt U4.out t5 (by decide) (by decide))
      have BY := Lib.hid (bytes_any w5 base (base + 1) base V5 Bv r5 (by have := HBL.out; have := HQ.out; omega))
      rw [HBY.out] at BY
      clear b0 b1 t5 r5 WA BX4 U4 G4
      go_wp2_with fail
      refine BY.out.mono ?_
      rintro e w6 ⟨v6, rfl, g6, o6⟩
      rw [HPL.out] at o6
      have hsh : ∃ ap cp, v6 = .slice ap q cp := own_shape o6
      obtain ⟨ap, cp, rfl⟩ := hsh
      have O6 := Lib.hid (own_slr o6)
      have B6 := Lib.hid (bl_gb B5.out g6)
      have BX6 := Lib.hid (BX5.out.keep0 g6)
      have U6 := Lib.hid (UL.keep0 U5.out g6)
      clear g6 o6 BY B5 BX5 U5
      have KS := Lib.hid (fun (w' : World) (q : w6.grownBy w' none) => (⟨(BX6.out.keep0 q).cell 0, (BX6.out.keep0 q).cell 1, q⟩ : (fun w' : World => w'.cell? ⟨W.heap.size, 0, none⟩ = some (.string s0) ∧ w'.cell? ⟨W.heap.size, 1, none⟩ = some (.slice a k c) ∧ w6.grownBy w' none) w'))
      have NRD := Lib.hid (newReader_any w6.drew ap _ cp cb (O6.out.keep0 (gb_drew _ none)) (by have := HPL.out; have := HQ.out; omega))
      have RC := Lib.hid (fun (w' : World) (g : w6.grownBy w' none) (base r s : Nat) (V : Value) (hr : Rdr w' base r s V cb 0) (ls : w6.heap.size ≤ s) => read_any W w' s0 a k c L OK.out (bl_gb B6.out g) base r s V cb 0 hr (Nat.le_trans B6.out.size ls) HCR.out (by have := HPL.out; have := HQ.out; omega) (Nat.zero_le _) 0 vs (8 * q) HRD.out)
      go_wp2_with fail
      go_region_held3 (fun w' : World => w'.cell? ⟨W.heap.size, 0, none⟩ = some (.string s0) ∧ w'.cell? ⟨W.heap.size, 1, none⟩ = some (.slice a k c) ∧ w6.grownBy w' none)
        (first
          | assumption
          | exact KS.out _ (by repeat' first
                                  | assumption
                                  | exact (And.right (And.right (by assumption)))
                                  | exact World.grownBy.refl _ _
                                  | exact gb_drew _ _
                                  | refine gb_trans ?_ (gb_drew _ _)
                                  | refine gb_trans ?_ (by assumption)))
        (first
          | (go_at_call 16; refine NRD.out.mono ?_; rintro e w' ⟨r, s, V, rfl, gN, rdN, _, lr, ls⟩; have gN2 := gb_trans (gb_drew w6 none) gN; have ls2 : w6.heap.size ≤ s := ls)
          | (go_at_call 20; refine (RC.out _ gN2 _ r s V rdN ls2).mono ?_; rintro e w' ⟨v', rfl, gR, rdR, uR⟩; have gQ := gb_new (gb_trans (gb_any gN2) gR) ls2))
      have GQ := Lib.hid gQ
      have UQ := Lib.hid uR
      rename_i hHeld
      clear hHeld gR rdR uR gN rdN lr ls ls2 gN2 gQ RC NRD KS
      generalize w' = w7 at *
      obtain ⟨ax, cx, rfl⟩ := UQ.out.shape
      have B7 := Lib.hid (bl_gb B6.out GQ.out)
      have BX7 := Lib.hid (BX6.out.keep0 GQ.out)
      have U7 := Lib.hid (UL.keep0 U6.out GQ.out)
      have UX := Lib.hid (UL.slr UQ.out rfl)
      have UV := Lib.hid (UL.slr U7.out rfl)
      clear GQ UQ B6 BX6 U6 O6
      have b0 := BX7.out.cell 0
      have b1 := BX7.out.cell 1
      simp at b0 b1
      have BT := Lib.hid (fun (w' : World) (g : Below W.heap.size W w') => bits_any w' s0 a k c L (OK.out.keep0 (gb_of_below g)))
      rw [HBT.out] at BT
      have BT0 := Lib.hid (BT.out w7 B7.out)
      have q48 := HQ.out
      go_wp2_with fail
      refine BT0.out.mono ?_
      rintro e w8 ⟨rfl, g8⟩
      have B8 := Lib.hid (bl_gb B7.out g8)
      have BX8 := Lib.hid (BX7.out.keep0 g8)
      have EQ := Lib.hid (equ_same w8 ax av vs.length vs.length cx cv vs (UX.out.keep0 g8) (UV.out.keep0 g8) (by have := HVK.out; have := L20.out; omega))
      clear g8 b0 b1 BT0 B7 BX7 UX UV U7
      go_wp2_with fail
      refine EQ.out.mono ?_
      rintro e w9 ⟨rfl, g9, _⟩
      have B9 := Lib.hid (bl_gb B8.out g9)
      have BX9 := Lib.hid (BX8.out.keep0 g9)
      clear g9 EQ B8 BX8
      have NRD := Lib.hid (newReader_any w9.drew a2 _ cap2 bs ((S2.out.below B9.out).keep0 (gb_drew _ none)) (by omega))
      have KS := Lib.hid (fun (w' : World) (q : w9.grownBy w' none) => (⟨(BX9.out.keep0 q).cell 0, (BX9.out.keep0 q).cell 1, q⟩ : (fun w' : World => w'.cell? ⟨W.heap.size, 0, none⟩ = some (.string s0) ∧ w'.cell? ⟨W.heap.size, 1, none⟩ = some (.slice a k c) ∧ w9.grownBy w' none) w'))
      by_cases hsh : (bs.length : Int) * 8 < 8 * q
      · have RC := Lib.hid (fun (w' : World) (g : w9.grownBy w' none) (base r s : Nat) (V : Value) (hr : Rdr w' base r s V bs 0) (ls : w9.heap.size ≤ s) => read_any W w' s0 a k c L OK.out (bl_gb B9.out g) base r s V bs 0 hr (Nat.le_trans B9.out.size ls) HB.out (by omega) (Nat.zero_le _) 3 [] 0 (short_ok bs HCK.out (by rw [HBT.out]; exact hsh)))
        go_wp2_with fail
        go_region_held3 (fun w' : World => w'.cell? ⟨W.heap.size, 0, none⟩ = some (.string s0) ∧ w'.cell? ⟨W.heap.size, 1, none⟩ = some (.slice a k c) ∧ w9.grownBy w' none)
          (first
            | assumption
            | exact KS.out _ (by repeat' first
                                  | assumption
                                  | exact (And.right (And.right (by assumption)))
                                  | exact World.grownBy.refl _ _
                                  | exact gb_drew _ _
                                  | refine gb_trans ?_ (gb_drew _ _)
                                  | refine gb_trans ?_ (by assumption)))
          (first
            | (go_at_call 16; refine NRD.out.mono ?_; rintro e w' ⟨r, s, V, rfl, gN, rdN, _, lr, ls⟩; have gN2 := gb_trans (gb_drew w9 none) gN; have ls2 : w9.heap.size ≤ s := ls)
            | (go_at_call 20; refine (RC.out _ gN2 _ r s V rdN ls2).mono ?_; rintro e w' ⟨v', rfl, gR, rdR, uR⟩; have gQ := gb_new (gb_trans (gb_any gN2) gR) ls2))
        have GQ := Lib.hid gQ
        have UQ := Lib.hid uR
        rename_i hHeld
        clear hHeld gR rdR uR gN rdN lr ls ls2 gN2 gQ RC NRD KS
        generalize w' = w10 at *
        obtain ⟨ay, cy, rfl⟩ := UQ.out.shape
        have B10 := Lib.hid (bl_gb B9.out GQ.out)
        have BX10 := Lib.hid (BX9.out.keep0 GQ.out)
        clear GQ UQ B9 BX9
        have b0 := BX10.out.cell 0
        have b1 := BX10.out.cell 1
        simp at b0 b1
        have BT0 := Lib.hid (BT.out w10 B10.out)
        have z8 : (8 : Int) * bs.length < 8 * q := by omega
        have z9 : (bs.length : Int) < q := by omega
        clear hsh
        go_wp2_with fail
        refine BT0.out.mono ?_
        rintro e w11 ⟨rfl, g11⟩
        have B11 := Lib.hid (bl_gb B10.out g11)
        clear g11 b0 b1 BT0 B10 BX10 BT
        go_wp2_with fail
        refine (WK.out _).mono ?_
        rintro e w12 ⟨rfl, g12⟩
        have B12 := Lib.hid (bl_gb B11.out g12)
        clear g12
        go_wp2
        go_ret
        exact ⟨rfl, B12.out⟩
      · obtain ⟨ys, Bz, qz, hrd, hyl, hyr, hwz, hzl, hbz, hqz, htl⟩ := again_ok bs HCK.out HB.out (by rw [HBT.out]; exact hsh)
        have RC := Lib.hid (fun (w' : World) (g : w9.grownBy w' none) (base r s : Nat) (V : Value) (hr : Rdr w' base r s V bs 0) (ls : w9.heap.size ≤ s) => read_any W w' s0 a k c L OK.out (bl_gb B9.out g) base r s V bs 0 hr (Nat.le_trans B9.out.size ls) HB.out (by omega) (Nat.zero_le _) 0 ys (8 * qz) hrd)
        have hbl0 : bs.length ≠ 0 := by
          intro e
          obtain ⟨k1, k2, k3, k4, k5⟩ := chk_ok s0 L HCK.out
          have e3 := bits_ok HCK.out
          have e4 := isum_good _ k5
          have e5 := HBT.out
          have e6 : 1 ≤ isum (wsL L) := by
            obtain ⟨f, t, hft⟩ : ∃ f t, L = f :: t := by
              cases L with
              | nil => simp at k1
              | cons f t => exact ⟨f, t, rfl⟩
            rw [hft] at k5 ⊢
            have g1 := k5 f.2 (by simp [wsL])
            have g2 := (isum_good (wsL t) (fun n hn => k5 n (by simp [wsL] at hn ⊢; exact .inr hn))).2.1
            show 1 ≤ f.2 + isum (wsL t)
            omega
          omega
        obtain ⟨dz, hdz⟩ : ∃ d, d = bs.take qz := ⟨_, rfl⟩
        rw [← hdz] at hbz htl
        have HYL := Lib.hid hyl
        have HYR := Lib.hid hyr
        have HWZ := Lib.hid hwz
        have HZL := Lib.hid hzl
        have HBZ := Lib.hid hbz
        have HQZ := Lib.hid hqz
        have HTL := Lib.hid htl
        have HDZ := Lib.hid hdz
        clear hrd hyl hyr hwz hzl hbz hqz htl hdz
        go_wp2_with fail
        go_region_held3 (fun w' : World => w'.cell? ⟨W.heap.size, 0, none⟩ = some (.string s0) ∧ w'.cell? ⟨W.heap.size, 1, none⟩ = some (.slice a k c) ∧ w9.grownBy w' none)
          (first
            | assumption
            | exact KS.out _ (by repeat' first
                                  | assumption
                                  | exact (And.right (And.right (by assumption)))
                                  | exact World.grownBy.refl _ _
                                  | exact gb_drew _ _
                                  | refine gb_trans ?_ (gb_drew _ _)
                                  | refine gb_trans ?_ (by assumption)))
          (first
            | (go_at_call 16; refine NRD.out.mono ?_; rintro e w' ⟨r, s, V, rfl, gN, rdN, _, lr, ls⟩; have gN2 := gb_trans (gb_drew w9 none) gN; have ls2 : w9.heap.size ≤ s := ls)
            | (go_at_call 20; refine (RC.out _ gN2 _ r s V rdN ls2).mono ?_; rintro e w' ⟨v', rfl, gR, rdR, uR⟩; have gQ := gb_new (gb_trans (gb_any gN2) gR) ls2))
        have GQ := Lib.hid gQ
        have UQ := Lib.hid uR
        rename_i hHeld
        clear hHeld gR rdR uR gN rdN lr ls ls2 gN2 gQ RC NRD KS
        generalize w' = w10 at *
        obtain ⟨ay, cy, rfl⟩ := UQ.out.shape
        have B10 := Lib.hid (bl_gb B9.out GQ.out)
        have BX10 := Lib.hid (BX9.out.keep0 GQ.out)
        have Y10 := Lib.hid UQ.out
        clear GQ UQ B9 BX9
        have b0 := BX10.out.cell 0
        have b1 := BX10.out.cell 1
        simp at b0 b1
        have BT0 := Lib.hid (BT.out w10 B10.out)
        have z8 : ¬ (8 : Int) * bs.length < 8 * q := by omega
        have z9 : ¬ (bs.length : Int) < q := by omega
        clear hsh
        go_wp2_with fail
        refine BT0.out.mono ?_
        rintro e w11 ⟨rfl, g11⟩
        have B11 := Lib.hid (bl_gb B10.out g11)
        have BX11 := Lib.hid (BX10.out.keep0 g11)
        have Y11 := Lib.hid (UL.keep0 Y10.out g11)
        clear g11 b0 b1 BT0 B10 BX10 BT Y10
        go_wp2_with fail
        refine (newWriter_any w11).mono ?_
        rintro e w12 ⟨rfl, g12, t12⟩
        have B12 := Lib.hid (bl_gb B11.out g12)
        have BX12 := Lib.hid (BX11.out.keep0 g12)
        have Y12 := Lib.hid (UL.keep0 Y11.out g12)
        have WA := Lib.hid (write_any W w12 s0 a k c L OK.out w11.heap.size (w11.heap.size + 1) w11.heap.size (.slice none 0 0) [] B12.out B11.out.size g12.size t12 ay _ cy ys (UL.slr Y12.out rfl) HYR.out (by simp) 0 Bz HWZ.out (fun w' g => own_slr (own_gt Y12.out g (by decide) (by decide))))
        have SZ2 := Lib.hid (show W.heap.size ≤ w11.heap.size ∧ w11.heap.size ≤ w12.heap.size from ⟨B11.out.size, g12.size⟩)
        generalize w11.heap.size = basez at *
        clear g12 t12 B11 BX11 Y11
        have b0 := BX12.out.cell 0
        have b1 := BX12.out.cell 1
        simp at b0 b1
        go_wp2_with fail
        refine WA.out.mono ?_
        rintro e w13 ⟨rfl, t13, V13, r13⟩
        have B13 := Lib.hid (bl_gt B12.out t13 SZ2.out.1 SZ2.out.2)
        have BY := Lib.hid (bytes_any w13 basez (basez + 1) basez V13 Bz r13 (by have := HZL.out; omega))
        rw [HBZ.out] at BY
        clear b0 b1 t13 r13 WA BX12 Y12 B12
        go_wp2_with fail
        refine BY.out.mono ?_
        rintro e w14 ⟨v14, rfl, g14, o14⟩
        rw [HTL.out] at o14
        have hsh : ∃ ad cd, v14 = .slice ad qz cd := own_shape o14
        obtain ⟨ad, cd, rfl⟩ := hsh
        have O14 := Lib.hid (own_slr o14)
        have B14 := Lib.hid (bl_gb B13.out g14)
        clear g14 o14 BY B13
        obtain ⟨a2', ha2⟩ : ∃ x, a2 = some x := by
          cases a2 with
          | none => exact absurd (S2.out.2.1 rfl).1 hbl0
          | some x => exact ⟨x, rfl⟩
        subst ha2
        have CUT := Lib.hid (fun (w' : World) (g : w14.grownBy w' none) => (show SlR w' (some a2') qz cap2 (dz.map (Value.int .u8)) by
          have := slr_cut (S2.out.below (bl_gb B14.out g)) qz HQZ.out
          rw [HDZ.out, List.map_take]; exact this))
        have q1 : (qz : Int) ≤ bs.length := by have := HQZ.out; omega
        have q2 : (qz : Int) ≤ cap2 := by omega
        have q3 : (0 : Int) ≤ qz := by omega
        have KS := Lib.hid (fun (w' : World) (q : w14.grownBy w' none) => (⟨conv_str w' _ _ _ dz (O14.out.keep0 q), conv_str w' _ _ _ dz (CUT.out _ q), q⟩ : (fun w' : World => (convert 33 9 (.slice ad qz cd)).run Try.prog w' = .ok (.string (strOf dz)) w' ∧ (convert 33 9 (.slice (some a2') qz cap2)).run Try.prog w' = .ok (.string (strOf dz)) w' ∧ w14.grownBy w' none) w'))
        go_wp2_with fail
        go_region_held3 (fun w' : World => (convert 33 9 (.slice ad qz cd)).run Try.prog w' = .ok (.string (strOf dz)) w' ∧ (convert 33 9 (.slice (some a2') qz cap2)).run Try.prog w' = .ok (.string (strOf dz)) w' ∧ w14.grownBy w' none)
          (first
            | assumption
            | exact KS.out _ (by repeat' first
                                  | assumption
                                  | exact (And.right (And.right (by assumption)))
                                  | exact World.grownBy.refl _ _
                                  | exact gb_drew _ _
                                  | refine gb_trans ?_ (gb_drew _ _)
                                  | refine gb_trans ?_ (by assumption)))
          (first
            | (go_at_call 9; refine (WK.out _).mono ?_; rintro e w' ⟨rfl, g⟩))
        have gS : w14.grownBy w' none := And.right (And.right (by assumption))
        have F := Lib.hid (bl_gb B14.out gS)
        go_wp2
        go_ret
        exact ⟨rfl, F.out⟩
set_option maxRecDepth 100000 in
set_option maxHeartbeats 8000000 in
theorem round_walk (s0 : ByteArray) (a : Option Addr) (n c : Nat) (L : List Fld) (a1 : Option Addr) (len1 cap1 : Nat) (z1 : List Int) (a2 : Option Addr) (len2 cap2 : Nat) (z2 : List Int) (W : World) (h : SF W a n c L) (h1 : IsRow .u32 W a1 len1 cap1 z1) (h2 : IsRow .u8 W a2 len2 cap2 z2) :
    Calls Try.prog 6 #[.agg #[.string s0, .slice a n c], .slice a1 len1 cap1, .slice a2 len2 cap2] W (HoldsT W) := by
  have G0 := Lib.hid (gb_alloc W (.cells #[.string s0, .slice a n c] 24) none)
  have BX := Lib.hid (IsB.new W 24 #[.string s0, .slice a n c])
  have SM := Lib.hid (small_any _ s0 a n c L (h.keep0 G0.out))
  have WK := Lib.hid (fun w => works_any w)
  have hcap : len2 ≤ cap2 := by
    rcases h2 with ⟨_, e1, e2, _⟩ | ⟨x, _, e, _⟩
    · omega
    · exact e
  cases hsm : smallH s0 L
  · rw [hsm] at SM
    clear hsm hcap
    go_enter Try.func6, Try.ntmps6
    go_wp2_with fail
    refine SM.out.mono ?_
    rintro e w2 ⟨rfl, g2⟩
    have G2 := Lib.hid (gb_trans G0.out g2)
    clear g2 SM
    go_wp2_with fail
    refine (WK.out _).mono ?_
    rintro e w3 ⟨rfl, g3⟩
    have G3 := Lib.hid (gb_trans G2.out g3)
    clear g3
    go_wp2
    go_ret
    exact ⟨rfl, below_gb G3.out⟩
  · by_cases hl1 : len1 ≤ 30
    · by_cases hl2 : len2 ≤ 100
      · by_cases hck : chkH s0 L = 0
        · by_cases hnl : n ≤ len1
          · exact hround_on s0 a n c L a1 len1 cap1 (z1.take len1) a2 len2 cap2 (z2.take len2) W h (row_slr h1) (row_slr h2) (fun x hx => u32_bd (row_wf h1 x hx)) (fun x hx => u8_bd (row_wf h2 x hx)) hsm hl1 hl2 hcap hck hnl
          · have OK := Lib.hid (hd_small h hsm)
            have HCK := Lib.hid hck
            rw [hsm] at SM
            have i1 : decide ((30 : Int) < len1) = false := by rw [decide_eq_false_iff_not]; omega
            have i2 : decide ((100 : Int) < len2) = false := by rw [decide_eq_false_iff_not]; omega
            have i3 : len1 < n := by omega
            clear hsm hl1 hl2 hck hnl hcap
            go_enter Try.func6, Try.ntmps6
            go_wp2_with fail
            refine SM.out.mono ?_
            rintro e w2 ⟨rfl, g2⟩
            have G2 := Lib.hid (gb_trans G0.out g2)
            have BX2 := Lib.hid (BX.out.keep0 g2)
            have b0 := BX2.out.cell 0
            have b1 := BX2.out.cell 1
            simp at b0 b1
            have C0 := Lib.hid (rcheck_any w2 s0 a n c L (OK.out.sf.keep0 G2.out) OK.out.few OK.out.nm OK.out.hn)
            clear g2 SM BX
            rw [HCK.out] at C0
            go_wp2_with fail
            refine C0.out.mono ?_
            rintro e w3 ⟨rfl, g3⟩
            have G3 := Lib.hid (gb_trans G2.out g3)
            have BX3 := Lib.hid (BX2.out.keep0 g3)
            clear g3 b0 b1 C0 BX2
            have b0 := BX3.out.cell 0
            have b1 := BX3.out.cell 1
            simp at b0 b1
            go_wp2_with fail
            refine (WK.out _).mono ?_
            rintro e w8 ⟨rfl, g8⟩
            have G8 := Lib.hid (gb_trans G3.out g8)
            clear g8
            go_wp2
            go_ret
            exact ⟨rfl, below_gb G8.out⟩
        · have OK := Lib.hid (hd_small h hsm)
          rw [hsm] at SM
          have i1 : decide ((30 : Int) < len1) = false := by rw [decide_eq_false_iff_not]; omega
          have i2 : decide ((100 : Int) < len2) = false := by rw [decide_eq_false_iff_not]; omega
          obtain ⟨q, hq⟩ : ∃ q, q = chkH s0 L := ⟨_, rfl⟩
          have HCK := Lib.hid hq.symm
          rw [← hq] at hck
          have d1 : (q == 0) = false := by simp [hck]
          have d2 : (q != 0) = true := by simp [hck]
          clear hsm hl1 hl2 hck hcap hq
          go_enter Try.func6, Try.ntmps6
          go_wp2_with fail
          refine SM.out.mono ?_
          rintro e w2 ⟨rfl, g2⟩
          have G2 := Lib.hid (gb_trans G0.out g2)
          have BX2 := Lib.hid (BX.out.keep0 g2)
          have b0 := BX2.out.cell 0
          have b1 := BX2.out.cell 1
          simp at b0 b1
          have C0 := Lib.hid (rcheck_any w2 s0 a n c L (OK.out.sf.keep0 G2.out) OK.out.few OK.out.nm OK.out.hn)
          clear g2 SM BX
          rw [HCK.out] at C0
          go_wp2_with fail
          refine C0.out.mono ?_
          rintro e w3 ⟨rfl, g3⟩
          have G3 := Lib.hid (gb_trans G2.out g3)
          have BX3 := Lib.hid (BX2.out.keep0 g3)
          clear g3 b0 b1 C0 BX2
          have b0 := BX3.out.cell 0
          have b1 := BX3.out.cell 1
          simp at b0 b1
          go_wp2_with fail
          refine (WK.out _).mono ?_
          rintro e w8 ⟨rfl, g8⟩
          have G8 := Lib.hid (gb_trans G3.out g8)
          clear g8
          go_wp2
          go_ret
          exact ⟨rfl, below_gb G8.out⟩
      · rw [hsm] at SM
        have i1 : decide ((30 : Int) < len1) = false := by rw [decide_eq_false_iff_not]; omega
        have i2 : (100 : Int) < len2 := by omega
        clear hsm hl1 hl2 hcap
        go_enter Try.func6, Try.ntmps6
        go_wp2_with fail
        refine SM.out.mono ?_
        rintro e w2 ⟨rfl, g2⟩
        have G2 := Lib.hid (gb_trans G0.out g2)
        clear g2 SM
        go_wp2_with fail
        refine (WK.out _).mono ?_
        rintro e w3 ⟨rfl, g3⟩
        have G3 := Lib.hid (gb_trans G2.out g3)
        clear g3
        go_wp2
        go_ret
        exact ⟨rfl, below_gb G3.out⟩
    · rw [hsm] at SM
      have i1 : (30 : Int) < len1 := by omega
      clear hsm hl1 hcap
      go_enter Try.func6, Try.ntmps6
      go_wp2_with fail
      refine SM.out.mono ?_
      rintro e w2 ⟨rfl, g2⟩
      have G2 := Lib.hid (gb_trans G0.out g2)
      clear g2 SM
      go_wp2_with fail
      refine (WK.out _).mono ?_
      rintro e w3 ⟨rfl, g3⟩
      have G3 := Lib.hid (gb_trans G2.out g3)
      clear g3
      go_wp2
      go_ret
      exact ⟨rfl, below_gb G3.out⟩
end Go.Proofs.Ytgknooblnpmloaa
