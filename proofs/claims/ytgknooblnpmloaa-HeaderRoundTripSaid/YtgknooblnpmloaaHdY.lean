/- Header: the walk of HeaderWrites; no condition but that the arguments can be read. -/
import Derived.Test.YtgknooblnpmloaaHdW
namespace Go.Proofs.Ytgknooblnpmloaa
open Go.RowKit
set_option linter.unusedVariables false

theorem bytes_any (w : World) (base r s : Nat) (V : Value) (L : List Bool) (h : Wtr w base r s V L) (hn : L.length ≤ 60000) :
    Calls Try.prog 31 #[.pointer (some ⟨r, 0, none⟩)] w (RetE (bytesR L).1 (bytesR L).2 w) := by
  unfold bytesR
  by_cases hm : L.length % 8 = 0
  · rw [if_pos hm]
    refine (bytes_even w base r s V L h hn hm).mono ?_
    rintro e w' ⟨v', he, g, o, _⟩
    exact ⟨v', he, g, o⟩
  · rw [if_neg hm]
    refine (bytes_odd w base r s V L h hm).mono ?_
    rintro e w' ⟨rfl, g, _⟩
    exact ⟨_, rfl, g, World.ownsRow_nil _ _ _ _⟩
theorem own_gt {w w2 : World} {base b2 : Nat} {e : TypeId} {size n : Nat} {v : Value} {xs : List Value} (h : w.ownsRow b2 e size v n xs) (k : GT base w w2) (h1 : e ≠ 5) (h2 : e ≠ 90) : w2.ownsRow b2 e size v n xs := by
  refine ⟨h.1, ?_⟩
  rcases h.2 with q | ⟨g, cap, cur, q1, q2, q3, q4⟩
  · exact .inl q
  · exact .inr ⟨g, cap, cur, q1, q2, k.kind g e cur q3 h1 h2, q4⟩
theorem wrH_len (hs : ByteArray) (L : List Fld) (vals : List Int) (B : List Bool) : (wrH hs L vals B).2.length ≤ B.length + 384 := by
  unfold wrH
  split
  · simp
  · rename_i q
    split
    · simp
    · rename_i q2
      split
      · rename_i q3
        have k := (pack_len (Classical.not_not.1 q) (Classical.not_not.1 q2) q3).2.2
        simp only [List.length_append]; omega
      · simp
/-- What the law on Write holds: its header, the writer, the reference's writer in a variable. -/
structure WS (W : World) (s0 : ByteArray) (a : Option Addr) (n c : Nat) (base r s : Nat) (V : Value) (L : List Bool) (xb base2 : Nat) (ax : Option Addr) (cx : Nat) (M : List Bool) (w : World) : Prop where
  hd : IsB w W.heap.size 24 #[.string s0, .slice a n c]
  wt : Wtr w base r s V L
  xc : IsB w xb 57 #[.slice ax M.length cx]
  xr : BRow w base2 (.slice ax M.length cx) M
  gr : Below W.heap.size W w
  b1 : W.heap.size ≤ base ∧ base ≤ w.heap.size
  b2 : W.heap.size ≤ base2 ∧ base2 ≤ w.heap.size
  b3 : W.heap.size ≤ xb
theorem WS.keep0 {W w w2 : World} {s0 : ByteArray} {a : Option Addr} {n c base r s : Nat} {V : Value} {L : List Bool} {xb base2 : Nat} {ax : Option Addr} {cx : Nat} {M : List Bool} (h : WS W s0 a n c base r s V L xb base2 ax cx M w) (k : w.grownBy w2 none) : WS W s0 a n c base r s V L xb base2 ax cx M w2 :=
  ⟨h.hd.keep0 k, h.wt.keep0 k, h.xc.keep0 k, own_keep0 h.xr k, gb_below h.gr k h.gr.size (by intro g e; cases e), ⟨h.b1.1, Nat.le_trans h.b1.2 k.size⟩, ⟨h.b2.1, Nat.le_trans h.b2.2 k.size⟩, h.b3⟩
theorem WS.wrote {W w w2 : World} {s0 : ByteArray} {a : Option Addr} {n c base r s : Nat} {V V2 : Value} {L L2 : List Bool} {xb base2 : Nat} {ax : Option Addr} {cx : Nat} {M : List Bool} (h : WS W s0 a n c base r s V L xb base2 ax cx M w) (k : GT base w w2) (hr : Wtr w2 base r s V2 L2) : WS W s0 a n c base r s V2 L2 xb base2 ax cx M w2 :=
  ⟨k.kind _ _ _ h.hd (by decide) (by decide), hr, k.kind _ _ _ h.xc (by decide) (by decide), own_gt h.xr k (by decide) (by decide), h.gr.trans (Below.mono (k.below h.b1.2) h.b1.1), ⟨h.b1.1, Nat.le_trans h.b1.2 k.size⟩, ⟨h.b2.1, Nat.le_trans h.b2.2 k.size⟩, h.b3⟩
theorem WS.turn {W w : World} {s0 : ByteArray} {a : Option Addr} {n c base r s : Nat} {V : Value} {L : List Bool} {xb base2 : Nat} {ax ay : Option Addr} {cx cy : Nat} {M N : List Bool} (h : WS W s0 a n c base r s V L xb base2 ax cx M w) (ho : BRow w base2 (.slice ay N.length cy) N) :
    WS W s0 a n c base r s V L xb base2 ay cy N (w.setCell ⟨xb, 0, none⟩ (.slice ay N.length cy)) := by
  have g0 := gb_set w xb 0 (.slice ay N.length cy)
  exact ⟨h.hd.keepS g0 h.xc (by decide), ⟨h.wt.wb.keepS g0 h.xc (by decide), ⟨h.wt.st.sb.keepS g0 h.xc (by decide), own_keepS h.wt.st.own g0 h.xc (by decide), h.wt.st.low⟩⟩, h.xc.set 0 _, own_keepS ho g0 h.xc (by decide), gb_below h.gr g0 h.gr.size (by intro g e; injection e with e; have := h.b3; omega), ⟨h.b1.1, Nat.le_trans h.b1.2 g0.size⟩, ⟨h.b2.1, Nat.le_trans h.b2.2 g0.size⟩, h.b3⟩
set_option maxRecDepth 100000 in
set_option maxHeartbeats 8000000 in
theorem hwrites_on (s0 : ByteArray) (a : Option Addr) (n c : Nat) (L : List Fld) (a1 : Option Addr) (len1 cap1 : Nat) (vals : List Int) (sk : Int) (W : World) (h : SF W a n c L) (h1 : SlR W a1 len1 cap1 (vals.map (Value.int .u32))) (hv : ∀ x ∈ vals, 0 ≤ x ∧ x < 4294967296) (hk : 0 ≤ sk ∧ sk ≤ 255) (hsm : smallH s0 L = true) (hlen : len1 ≤ 30) :
    Calls Try.prog 5 #[.agg #[.string s0, .slice a n c], .slice a1 len1 cap1, .int .u8 sk] W (HoldsT W) := by
  have hbl : vals.length = len1 := by simpa using h1.1
  subst hbl
  have OK := Lib.hid (hd_small h hsm)
  have HV := Lib.hid hv
  have S1 := Lib.hid h1
  have BX := Lib.hid (IsB.new W 24 #[.string s0, .slice a n c])
  have G0 := Lib.hid (gb_alloc W (.cells #[.string s0, .slice a n c] 24) none)
  have SM := Lib.hid (small_any _ s0 a n c L (h.keep0 G0.out))
  rw [hsm] at SM
  have WK := Lib.hid (fun w => works_any w)
  have i1 : ¬ (30 : Int) < vals.length := by omega
  have hw1 : IntKind.u32.wrap sk = sk := wraps_u32 _ hk.1 (by omega)
  have FT := Lib.hid (byte_ok sk hk)
  have k0 := hk.1
  have k1 : sk < 4294967296 := by omega
  obtain ⟨B0, hB0⟩ : ∃ B, B = bitsOf sk 8 := ⟨_, rfl⟩
  have HB0 := Lib.hid hB0
  have hl8 : B0.length = 8 := by rw [hB0, bitsOf_len]
  have L8 := Lib.hid hl8
  clear h h1 hv hsm hlen hk hB0 hl8
  go_enter Try.func5, Try.ntmps5
  go_wp2_with fail
  refine SM.out.mono ?_
  rintro e w2 ⟨rfl, g2⟩
  have G2 := Lib.hid (gb_trans G0.out g2)
  have BX2 := Lib.hid (BX.out.keep0 g2)
  clear g2 SM
  go_wp2_with fail
  refine (newWriter_any w2).mono ?_
  rintro e w3 ⟨rfl, g3, t3⟩
  have G3 := Lib.hid (gb_trans G2.out g3)
  have BX3 := Lib.hid (BX2.out.keep0 g3)
  have T3 := Lib.hid t3
  have LS := Lib.hid (show W.heap.size ≤ w2.heap.size from G2.out.size)
  have LS3 := Lib.hid (show w2.heap.size ≤ w3.heap.size from g3.size)
  clear g3 t3 BX2
  go_wp2_with fail
  refine (rnwr_any w3).mono ?_
  rintro e w4 ⟨rfl, g4, _⟩
  have S4 := Lib.hid (show WS W s0 a n c w2.heap.size (w2.heap.size + 1) w2.heap.size (.slice none 0 0) [] w4.heap.size w2.heap.size none 0 [] (w4.alloc (.cells #[.slice none 0 0] 57)) from
    ⟨(BX3.out.keep0 g4).alloc _, (T3.out.keep0 g4).keep0 (gb_alloc _ _ _), IsB.new _ _ _, World.ownsRow_nil _ _ _ _, below_gb (gb_trans (gb_trans G3.out g4) (gb_alloc _ _ _)), ⟨LS.out, Nat.le_trans (Nat.le_trans LS3.out g4.size) (gb_alloc w4 _ none).size⟩, ⟨LS.out, Nat.le_trans (Nat.le_trans LS3.out g4.size) (gb_alloc w4 _ none).size⟩, Nat.le_trans G3.out.size g4.size⟩)
  have W0 := Lib.hid (wr_ok _ w2.heap.size (w2.heap.size + 1) w2.heap.size (.slice none 0 0) [] sk 8 S4.out.wt S4.out.b1.2 (by decide) (by decide) (by decide) FT.out k0 k1)
  clear g4 BX3 T3
  go_wp2_with fail
  generalize w4.alloc (.cells #[.slice none 0 0] 57) = w5 at *
  generalize w4.heap.size = xb at *
  generalize w2.heap.size = base at *
  refine W0.out.mono ?_
  rintro e w6 ⟨rfl, t6, V6, r6⟩
  have S6 := Lib.hid (show WS W s0 a n c base (base + 1) base V6 B0 xb base none 0 [] w6 from S4.out.wrote t6 (by rw [HB0.out]; exact r6))
  have x0 := S6.out.xc.cell 0
  simp at x0
  have RW := Lib.hid (rwrite_any w6 base none 0 [] sk 8 S6.out.xr S6.out.b2.2 (by decide) k0 k1 0 B0 (by rw [HB0.out]; unfold wrStep; rw [if_pos (by decide), if_pos FT.out]; rfl))
  clear t6 r6 W0 S4
  go_wp2_with fail
  refine RW.out.mono ?_
  rintro e w7 ⟨v7, rfl, g7, o7⟩
  obtain ⟨a7, c7, rfl⟩ := own_shape o7
  have S7 := Lib.hid (S6.out.keep0 g7)
  have O7 := Lib.hid o7
  clear x0 g7 o7 RW S6
  have x0 := S7.out.xc.cell 0
  have f0 := S7.out.xc.free 0
  simp at x0
  have S8 := Lib.hid (S7.out.turn O7.out)
  have b0 : (w7.setCell ⟨xb, 0, none⟩ (.slice a7 B0.length c7)).cell? ⟨W.heap.size, 0, none⟩ = some (.string s0) := S8.out.hd.cell 0
  have b1 : (w7.setCell ⟨xb, 0, none⟩ (.slice a7 B0.length c7)).cell? ⟨W.heap.size, 1, none⟩ = some (.slice a n c) := S8.out.hd.cell 1
  go_wp2_with fail
  clear x0 f0 S7 O7
  generalize w7.setCell ⟨xb, 0, none⟩ (.slice a7 B0.length c7) = w8 at *
  obtain ⟨er, B2, hq⟩ : ∃ er B2, wrH s0 L vals B0 = (er, B2) := ⟨_, _, rfl⟩
  have hl2 := wrH_len s0 L vals B0
  rw [hq] at hl2
  have HL2 := Lib.hid (show B2.length ≤ 400 by have := L8.out; simp only at hl2; omega)
  have WA := Lib.hid (write_any W w8 s0 a n c L OK.out base (base + 1) base V6 B0 S8.out.gr S8.out.b1.1 S8.out.b1.2 S8.out.wt a1 _ cap1 vals (S1.out.below S8.out.gr) HV.out (by have := L8.out; omega) er B2 hq (fun w' g => S1.out.below (S8.out.gr.trans (Below.mono (g.below S8.out.b1.2) S8.out.b1.1))))
  have RA := Lib.hid (fun (w' : World) (V' : Value) (Z : List Bool) (h : WS W s0 a n c base (base + 1) base V' Z xb base a7 c7 B0 w') => rwriteH_any w' s0 a n c L (OK.out.keep0 (gb_of_below h.gr)) base a7 c7 B0 h.b2.2 h.xr a1 _ cap1 vals (S1.out.below h.gr) HV.out (by have := L8.out; omega) er B2 hq)
  clear hq hl2
  refine WA.out.mono ?_
  rintro e w9 ⟨rfl, t9, V9, r9⟩
  have S9 := Lib.hid (S8.out.wrote t9 r9)
  clear b0 b1 t9 r9 WA S8
  have b0 := S9.out.hd.cell 0
  have b1 := S9.out.hd.cell 1
  have x0 := S9.out.xc.cell 0
  simp at b0 b1 x0
  have RA0 := Lib.hid (RA.out w9 V9 B2 S9.out)
  go_wp2_with fail
  refine RA0.out.mono ?_
  rintro e w10 ⟨v10, rfl, g10, o10⟩
  obtain ⟨ay, cy, rfl⟩ := own_shape o10
  have S10 := Lib.hid (S9.out.keep0 (gb_trans g10 (gb_alloc _ (.cells #[.slice ay B2.length cy] 57) none)))
  have YB := Lib.hid (IsB.new w10 57 #[.slice ay B2.length cy])
  have YO := Lib.hid (show BRow (w10.alloc (.cells #[.slice ay B2.length cy] 57)) base (.slice ay B2.length cy) B2 from own_keep0 o10 (gb_alloc _ _ _))
  clear b0 b1 x0 g10 o10 RA RA0 S9
  go_wp2_with fail
  generalize w10.alloc (.cells #[.slice ay B2.length cy] 57) = w11 at *
  generalize w10.heap.size = yb at *
  obtain ⟨be, bb, hbe⟩ : ∃ be bb, bytesR B2 = (be, bb) := ⟨_, _, rfl⟩
  have BY := Lib.hid (bytes_any w11 base (base + 1) base V9 B2 S10.out.wt (by have := HL2.out; omega))
  have RY := Lib.hid (fun (w' : World) (h : BRow w' base (.slice ay B2.length cy) B2) => rbytes_any w' base ay cy B2 h (by have := HL2.out; omega))
  rw [hbe] at BY RY
  clear hbe
  refine BY.out.mono ?_
  rintro e w12 ⟨v12, rfl, g12, o12⟩
  have hsh : ∃ ap cp, v12 = .slice ap bb.length cp := own_shape o12
  obtain ⟨ap, cp, rfl⟩ := hsh
  have S12 := Lib.hid (S10.out.keep0 g12)
  have YB12 := Lib.hid (YB.out.keep0 g12)
  have YO12 := Lib.hid (show BRow w12 base (.slice ay B2.length cy) B2 from own_keep0 YO.out g12)
  have O12 := Lib.hid (own_slr o12)
  have y0 := YB12.out.cell 0
  simp at y0
  have RY0 := Lib.hid (RY.out w12 YO12.out)
  clear g12 o12 BY RY S10 YB YO
  go_wp2_with fail
  refine RY0.out.mono ?_
  rintro e w13 ⟨v13, rfl, g13, o13⟩
  have hsh : ∃ aq cq, v13 = .slice aq bb.length cq := own_shape o13
  obtain ⟨aq, cq, rfl⟩ := hsh
  have S13 := Lib.hid (S12.out.keep0 g13)
  have YB13 := Lib.hid (YB12.out.keep0 g13)
  have O12b := Lib.hid (SlR.keep0 O12.out g13)
  have O13 := Lib.hid (own_slr o13)
  clear g13 o13 RY0 S12 YB12 YO12 O12 y0
  have KS := Lib.hid (fun (w' : World) (q : w13.grownBy w' none) => (⟨(YB13.out.keep0 q).cell 0, conv_str w' _ _ _ bb (O12b.out.keep0 q), conv_str w' _ _ _ bb (O13.out.keep0 q), q⟩ : (fun w' : World => w'.cell? ⟨yb, 0, none⟩ = some (.slice ay B2.length cy) ∧ (convert 33 9 (.slice ap bb.length cp)).run Try.prog w' = .ok (.string (strOf bb)) w' ∧ (convert 33 9 (.slice aq bb.length cq)).run Try.prog w' = .ok (.string (strOf bb)) w' ∧ w13.grownBy w' none) w'))
  have LN := Lib.hid (fun (w' : World) (g : w13.grownBy w' none) => len_any w' base (base + 1) base V9 B2 (S13.out.wt.keep0 g))
  have e1 : (er == er) = true := by simp
  have e2 : (be == be) = true := by simp
  obtain ⟨bl, hbl⟩ : ∃ b : Int, b = (B2.length : Int) := ⟨_, rfl⟩
  have e3 : (((B2.length : Nat) : Int) == ((B2.length : Nat) : Int)) = true := by simp
  clear hbl
  go_wp2_with fail
  go_region_held3 (fun w' : World => w'.cell? ⟨yb, 0, none⟩ = some (.slice ay B2.length cy) ∧ (convert 33 9 (.slice ap bb.length cp)).run Try.prog w' = .ok (.string (strOf bb)) w' ∧ (convert 33 9 (.slice aq bb.length cq)).run Try.prog w' = .ok (.string (strOf bb)) w' ∧ w13.grownBy w' none)
    (first
      | assumption
      | exact KS.out _ (by repeat' first
                                  | assumption
                                  | exact (And.right (And.right (And.right (by assumption))))
                                  | exact World.grownBy.refl _ _
                                  | exact gb_drew _ _
                                  | refine gb_trans ?_ (gb_drew _ _)
                                  | refine gb_trans ?_ (by assumption)))
    (first
      | (go_at_call 33; refine (LN.out _ (by repeat' first
                                  | assumption
                                  | exact (And.right (And.right (And.right (by assumption))))
                                  | exact World.grownBy.refl _ _
                                  | exact gb_drew _ _
                                  | refine gb_trans ?_ (gb_drew _ _)
                                  | refine gb_trans ?_ (by assumption))).mono ?_; rintro e w' ⟨rfl, rfl⟩)
      | (go_at_call 34; refine (rlen_any _ _ _ _).mono ?_; rintro e w' ⟨rfl, g, _⟩)
      | (go_at_call 9; refine (WK.out _).mono ?_; rintro e w' ⟨rfl, g⟩))
  have gS : w13.grownBy w' none := And.right (And.right (And.right (by assumption)))
  have F := Lib.hid (gb_below S13.out.gr gS S13.out.gr.size (by intro g e; cases e))
  go_wp2
  go_ret
  exact ⟨rfl, F.out⟩
set_option maxRecDepth 100000 in
set_option maxHeartbeats 4000000 in
theorem writes_walk (s0 : ByteArray) (a : Option Addr) (n c : Nat) (L : List Fld) (a1 : Option Addr) (len1 cap1 : Nat) (z : List Int) (sk : Int) (W : World) (h : SF W a n c L) (h1 : IsRow .u32 W a1 len1 cap1 z) (h2 : (Lit.int .u8 sk).wf = true) :
    Calls Try.prog 5 #[.agg #[.string s0, .slice a n c], .slice a1 len1 cap1, .int .u8 sk] W (HoldsT W) := by
  have G0 := Lib.hid (gb_alloc W (.cells #[.string s0, .slice a n c] 24) none)
  have SM := Lib.hid (small_any _ s0 a n c L (h.keep0 G0.out))
  have WK := Lib.hid (fun w => works_any w)
  cases hsm : smallH s0 L
  · rw [hsm] at SM
    clear hsm
    go_enter Try.func5, Try.ntmps5
    go_wp2_with fail
    refine SM.out.mono ?_
    rintro e w2 ⟨rfl, g2⟩
    have G2 := Lib.hid (gb_trans G0.out g2)
    clear g2 SM
    go_wp2_with fail
    refine (WK.out _).mono ?_
    rintro e w3 ⟨rfl, g3⟩
    have G3 := Lib.hid (gb_trans G2.out g3)
    clear g3
    go_wp2
    go_ret
    exact ⟨rfl, below_gb G3.out⟩
  · by_cases hlen : len1 ≤ 30
    · exact hwrites_on s0 a n c L a1 len1 cap1 (z.take len1) sk W h (row_slr h1) (fun x hx => u32_bd (row_wf h1 x hx)) (u8_bd h2) hsm hlen
    · rw [hsm] at SM
      have i1 : (30 : Int) < len1 := by omega
      clear hsm hlen
      go_enter Try.func5, Try.ntmps5
      go_wp2_with fail
      refine SM.out.mono ?_
      rintro e w2 ⟨rfl, g2⟩
      have G2 := Lib.hid (gb_trans G0.out g2)
      clear g2 SM
      go_wp2_with fail
      refine (WK.out _).mono ?_
      rintro e w3 ⟨rfl, g3⟩
      have G3 := Lib.hid (gb_trans G2.out g3)
      clear g3
      go_wp2
      go_ret
      exact ⟨rfl, below_gb G3.out⟩
end Go.Proofs.Ytgknooblnpmloaa
