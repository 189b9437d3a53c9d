/- Header: the walk of HeaderReads; no condition but that the arguments can be read. -/
import Derived.Test.YtgknooblnpmloaaHdW
namespace Go.Proofs.Ytgknooblnpmloaa
open Go.RowKit
set_option linter.unusedVariables false

theorem rdH_len (hs : ByteArray) (L : List Fld) (bs : List Int) (pos : Nat) : (rdH hs L bs pos).2.1.length ≤ L.length := by
  unfold rdH
  split
  · simp
  · split
    · simp
    · simp only [numsB_len, wsL_len]; exact Nat.le_refl _
theorem rdH_pos (hs : ByteArray) (L : List Fld) (bs : List Int) (pos : Nat) (h : pos ≤ 8 * bs.length) : (rdH hs L bs pos).2.2 ≤ 8 * bs.length := by
  unfold rdH
  split
  · exact h
  · rename_i q
    split
    · exact h
    · rename_i q2
      have g := isum_good _ (chk_ok hs L (Classical.not_not.1 q)).2.2.2.2
      show pos + sumL (wsL L) ≤ 8 * bs.length
      omega
/-- What the law on Read holds: its header, the reader, the reference's reader in a variable. -/
structure RS (W : World) (s0 : ByteArray) (a : Option Addr) (n c : Nat) (base r s : Nat) (V : Value) (bs : List Int) (pos : Nat) (xb : Nat) (base2 : Nat) (ax : Option Addr) (cx pos2 : Nat) (w : World) : Prop where
  hd : IsB w W.heap.size 24 #[.string s0, .slice a n c]
  rd : Rdr w base r s V bs pos
  xb : IsB w xb 37 #[.slice ax bs.length cx, .int .i64 pos2]
  xo : w.ownsRow base2 5 1 (.slice ax bs.length cx) bs.length (bs.map (Value.int .u8))
  gr : W.grownBy w none
  bl : base2 ≤ w.heap.size
theorem RS.keep0 {W w w2 : World} {s0 : ByteArray} {a : Option Addr} {n c base r s : Nat} {V : Value} {bs : List Int} {pos xb base2 : Nat} {ax : Option Addr} {cx pos2 : Nat} (h : RS W s0 a n c base r s V bs pos xb base2 ax cx pos2 w) (k : w.grownBy w2 none) : RS W s0 a n c base r s V bs pos xb base2 ax cx pos2 w2 :=
  ⟨h.hd.keep0 k, h.rd.keep0 k, h.xb.keep0 k, own_keep0 h.xo k, gb_trans h.gr k, Nat.le_trans h.bl k.size⟩
theorem RS.read {W w w2 : World} {s0 : ByteArray} {a : Option Addr} {n c base r s : Nat} {V : Value} {bs : List Int} {pos xb base2 : Nat} {ax : Option Addr} {cx pos2 pos3 : Nat} (h : RS W s0 a n c base r s V bs pos xb base2 ax cx pos2 w) (k : w.grownBy w2 (some s)) (hr : Rdr w2 base r s V bs pos3) (hs : W.heap.size ≤ s) : RS W s0 a n c base r s V bs pos3 xb base2 ax cx pos2 w2 :=
  ⟨h.hd.keepS k h.rd.sb (by decide), hr, h.xb.keepS k h.rd.sb (by decide), own_keepS h.xo k h.rd.sb (by decide), gb_new (gb_trans (gb_any h.gr) k) hs, Nat.le_trans h.bl k.size⟩
theorem RS.turn {W w : World} {s0 : ByteArray} {a : Option Addr} {n c base r s : Nat} {V : Value} {bs : List Int} {pos xb base2 : Nat} {ax : Option Addr} {cx pos2 : Nat} (h : RS W s0 a n c base r s V bs pos xb base2 ax cx pos2 w) (pos3 : Nat) (hx : W.heap.size ≤ xb) :
    RS W s0 a n c base r s V bs pos xb base2 ax cx pos3 ((w.setCell ⟨xb, 0, none⟩ (.slice ax bs.length cx)).setCell ⟨xb, 1, none⟩ (.int .i64 pos3)) := by
  have g0 := gb_set w xb 0 (.slice ax bs.length cx)
  have n0 := h.xb.set 0 (.slice ax bs.length cx)
  have g1 := gb_set (w.setCell ⟨xb, 0, none⟩ (.slice ax bs.length cx)) xb 1 (.int .i64 pos3)
  have n1 := n0.set 1 (.int .i64 pos3)
  exact ⟨(h.hd.keepS g0 h.xb (by decide)).keepS g1 n0 (by decide), ⟨(h.rd.rb.keepS g0 h.xb (by decide)).keepS g1 n0 (by decide), (h.rd.sb.keepS g0 h.xb (by decide)).keepS g1 n0 (by decide), own_keepS (own_keepS h.rd.own g0 h.xb (by decide)) g1 n0 (by decide)⟩, n1, own_keepS (own_keepS h.xo g0 h.xb (by decide)) g1 n0 (by decide), gb_set2 h.gr hx, Nat.le_trans (Nat.le_trans h.bl g0.size) g1.size⟩
set_option maxRecDepth 100000 in
set_option maxHeartbeats 8000000 in
theorem hreads_on (s0 : ByteArray) (a : Option Addr) (n c : Nat) (L : List Fld) (a1 : Option Addr) (len1 cap1 : Nat) (bs : List Int) (sk : Int) (W : World) (h : SF W a n c L) (h1 : SlR W a1 len1 cap1 (bs.map (Value.int .u8))) (hb : ∀ b ∈ bs, 0 ≤ b ∧ b ≤ 255) (hk : 0 ≤ sk ∧ sk ≤ 255) (hsm : smallH s0 L = true) (hlen : len1 ≤ 100) :
    Calls Try.prog 4 #[.agg #[.string s0, .slice a n c], .slice a1 len1 cap1, .int .u8 sk] W (HoldsT W) := by
  have hbl : bs.length = len1 := by simpa using h1.1
  subst hbl
  have OK := Lib.hid (hd_small h hsm)
  have HB := Lib.hid hb
  have S1 := Lib.hid h1
  have BX := Lib.hid (IsB.new W 24 #[.string s0, .slice a n c])
  have G0 := Lib.hid (gb_alloc W (.cells #[.string s0, .slice a n c] 24) none)
  have SM := Lib.hid (small_any _ s0 a n c L (h.keep0 G0.out))
  rw [hsm] at SM
  have WK := Lib.hid (fun w => works_any w)
  have i1 : ¬ (100 : Int) < bs.length := by omega
  have hl : bs.length ≤ 60000 := by omega
  have hL20 := (smallH_ok hsm).2.1
  have L20 := Lib.hid hL20
  obtain ⟨t, ht⟩ : ∃ t : Nat, sk.tmod 9 = (t : Int) ∧ t ≤ 8 := ⟨(sk % 9).toNat, by rw [Int.tmod_eq_emod_of_nonneg hk.1]; omega, by omega⟩
  obtain ⟨ht, ht8⟩ := ht
  have hw1 : IntKind.u8.wrap (t : Int) = t := IntWalk.u8_in _ (by omega)
  have hw2 : IntKind.i64.wrap (t : Int) = t := IntWalk.i64_in _ (by omega)
  clear h h1 hb hsm hlen hL20 hk
  go_enter Try.func4, Try.ntmps4
  go_wp2_with fail
  refine SM.out.mono ?_
  rintro e w2 ⟨rfl, g2⟩
  have G2 := Lib.hid (gb_trans G0.out g2)
  have BX2 := Lib.hid (BX.out.keep0 g2)
  have NR := Lib.hid (newReader_any w2 a1 _ cap1 bs (S1.out.keep0 G2.out) hl)
  clear g2 SM
  go_wp2_with fail
  refine NR.out.mono ?_
  rintro e w3 ⟨r, s, V, rfl, g3, r3, _, lr, ls⟩
  have G3 := Lib.hid (gb_trans G2.out g3)
  have BX3 := Lib.hid (BX2.out.keep0 g3)
  have R3 := Lib.hid r3
  have LS := Lib.hid (show W.heap.size ≤ s from Nat.le_trans G2.out.size ls)
  have NX := Lib.hid (rnew_any w3 a1 _ cap1 bs (S1.out.keep0 G3.out) hl)
  clear g3 r3 lr ls NR BX2
  go_wp2_with fail
  refine NX.out.mono ?_
  rintro e w4 ⟨ax, cx, rfl, g4, o4, _⟩
  have RS4 := Lib.hid (show RS W s0 a n c w2.heap.size r s V bs 0 w4.heap.size w3.heap.size ax cx 0 (w4.alloc (.cells #[.slice ax bs.length cx, .int .i64 0] 37)) from
    ⟨(BX3.out.keep0 g4).alloc _, (R3.out.keep0 g4).keep0 (gb_alloc _ _ _), IsB.new _ _ _, own_keep0 o4 (gb_alloc _ _ _), gb_trans (gb_trans G3.out g4) (gb_alloc _ _ _), Nat.le_trans g4.size (gb_alloc w4 _ none).size⟩)
  have XW := Lib.hid (show W.heap.size ≤ w4.heap.size from Nat.le_trans G3.out.size g4.size)
  clear g4 o4 NX BX3 R3
  go_wp2_with fail
  generalize w4.alloc (.cells #[.slice ax bs.length cx, .int .i64 0] 37) = w5 at *
  generalize w4.heap.size = xb at *
  generalize w2.heap.size = base at *
  generalize w3.heap.size = base2 at *
  go_loopw [9] (fun i wr => ∃ k pos : Nat, k ≤ t ∧ i = .int .i64 k ∧ pos ≤ 8 * bs.length ∧ RS W s0 a n c base r s V bs pos xb base2 ax cx pos wr) (fun i _ => t - (intOf i).toNat)
  case atStart => exact ⟨0, 0, Nat.zero_le _, rfl, Nat.zero_le _, RS4.out⟩
  case round =>
    obtain ⟨k, pos, hkt, rfl, hp, hr⟩ := hrel
    clear RS4
    have RS4 := Lib.hid hr
    have HP := Lib.hid hp
    clear hr hp
    by_cases hlt : k < t
    · have i2 : (k : Int) < t := by omega
      obtain ⟨er, v, p2, hq⟩ : ∃ er v p2, rdStep bs pos 1 = (er, v, p2) := ⟨_, _, _, rfl⟩
      have hp2 := rdStep_pos bs pos 1 HP.out
      rw [hq] at hp2
      have HP2 := Lib.hid hp2
      have RB := Lib.hid (reads_any wr base r s V bs pos 1 RS4.out.rd HB.out hl HP.out er v p2 hq)
      have RB2 := Lib.hid (fun w' (h : RS W s0 a n c base r s V bs p2 xb base2 ax cx pos w') => rread_any w' base2 ax cx bs pos 1 h.xo HB.out hl HP.out er v p2 hq)
      clear hq hp2
      go_wp2_with fail
      refine RB.out.mono ?_
      rintro e w6 ⟨rfl, g6, r6⟩
      have RS6 := Lib.hid (RS4.out.read g6 r6 LS.out)
      have x0 := RS6.out.xb.cell 0
      have x1 := RS6.out.xb.cell 1
      simp at x0 x1
      have RB3 := Lib.hid (RB2.out w6 RS6.out)
      clear g6 r6 RB RS4 RB2
      go_wp2_with fail
      refine RB3.out.mono ?_
      rintro e w7 ⟨rfl, g7⟩
      have RS7 := Lib.hid (RS6.out.keep0 (gb_trans g7 (gb_alloc _ (.cells #[.slice ax bs.length cx, .int .i64 p2] 37) none)))
      have YB := Lib.hid (IsB.new w7 37 #[.slice ax bs.length cx, .int .i64 p2])
      have y0 := YB.out.cell 0
      have y1 := YB.out.cell 1
      simp at y0 y1
      clear x0 x1 g7 RB3 RS6
      have x0 := RS7.out.xb.cell 0
      have x1 := RS7.out.xb.cell 1
      have f0 := RS7.out.xb.free 0
      have f1 := RS7.out.xb.free 1
      simp at x0 x1
      have RT := Lib.hid (RS7.out.turn p2 XW.out)
      go_wp2
      go_roundw
      case rel => exact ⟨k + 1, p2, by omega, by go_num, HP2.out, RT.out⟩
      case measure => simp [intOf]; omega
    · have i2 : ¬ (k : Int) < t := by omega
      obtain ⟨er, us, p2, hq⟩ : ∃ er us p2, rdH s0 L bs pos = (er, us, p2) := ⟨_, _, _, rfl⟩
      have hul := rdH_len s0 L bs pos
      have hp2 := rdH_pos s0 L bs pos HP.out
      rw [hq] at hul hp2
      have HUL := Lib.hid hul
      have HP2 := Lib.hid hp2
      have RD := Lib.hid (read_any W wr s0 a n c L OK.out (below_gb RS4.out.gr) base r s V bs pos RS4.out.rd LS.out HB.out hl HP.out er us p2 hq)
      have RX := Lib.hid (fun w' (h : RS W s0 a n c base r s V bs p2 xb base2 ax cx pos w') => rreadH_any w' s0 a n c L (OK.out.keep0 h.gr) base2 ax cx bs pos h.xo h.bl HB.out hl HP.out er us p2 hq)
      have b0 := RS4.out.hd.cell 0
      have b1 := RS4.out.hd.cell 1
      simp at b0 b1
      clear hq hul hp2
      go_wp2_with fail
      refine RD.out.mono ?_
      rintro e w6 ⟨v6, rfl, g6, r6, u6⟩
      obtain ⟨a6, c6, rfl⟩ := UL.shape u6
      have RS6 := Lib.hid (RS4.out.read g6 r6 LS.out)
      have U6 := Lib.hid u6
      clear b0 b1 g6 r6 u6 RD RS4
      have b0 := RS6.out.hd.cell 0
      have b1 := RS6.out.hd.cell 1
      have x0 := RS6.out.xb.cell 0
      have x1 := RS6.out.xb.cell 1
      simp at b0 b1 x0 x1
      have RX0 := Lib.hid (RX.out w6 RS6.out)
      go_wp2_with fail
      refine RX0.out.mono ?_
      rintro e w7 ⟨v7, rfl, g7, u7⟩
      obtain ⟨a7, c7, rfl⟩ := UL.shape u7
      have gA := gb_trans g7 (gb_alloc _ (.cells #[.slice ax bs.length cx, .int .i64 p2] 37) none)
      have RS7 := Lib.hid (RS6.out.keep0 gA)
      have YB := Lib.hid (IsB.new w7 37 #[.slice ax bs.length cx, .int .i64 p2])
      have U6 := Lib.hid (UL.keep0 U6.out gA)
      have U7 := Lib.hid (UL.keep0 u7 (gb_alloc _ (.cells #[.slice ax bs.length cx, .int .i64 p2] 37) none))
      clear b0 b1 x0 x1 g7 u7 gA RX RX0 RS6
      go_wp2_with fail
      generalize w7.alloc (.cells #[.slice ax bs.length cx, .int .i64 p2] 37) = w8 at *
      generalize w7.heap.size = yb at *
      have KS := Lib.hid (fun (w' : World) (q : w8.grownBy w' none) => (⟨(YB.out.keep0 q).cell 0, (YB.out.keep0 q).cell 1, q⟩ : (fun w' : World => w'.cell? ⟨yb, 0, none⟩ = some (.slice ax bs.length cx) ∧ w'.cell? ⟨yb, 1, none⟩ = some (.int .i64 p2) ∧ w8.grownBy w' none) w'))
      have EQ := Lib.hid (fun (w' : World) (g : w8.grownBy w' none) => equ_same w' a6 a7 us.length us.length c6 c7 us ((UL.slr U6.out rfl).keep0 g) ((UL.slr U7.out rfl).keep0 g) (by have := HUL.out; have := L20.out; omega))
      have RM := Lib.hid (fun (w' : World) (g : w8.grownBy w' none) => Remaining_any w' base r s V bs p2 (RS7.out.rd.keep0 g) hl HP2.out)
      have RM2 := Lib.hid (fun (w' : World) => rrem_any2 w' ax bs.length cx p2 hl HP2.out)
      obtain ⟨z, hz⟩ : ∃ z, z = (bs.length : Int) * 8 - p2 := ⟨_, rfl⟩
      rw [← hz] at RM RM2
      have e1 : (er != er) = false := by simp
      have e2 : (z != z) = false := by simp
      have e3 : (er == er) = true := by simp
      have e4 : (z == z) = true := by simp
      clear hz
      go_region_held3 (fun w' : World => w'.cell? ⟨yb, 0, none⟩ = some (.slice ax bs.length cx) ∧ w'.cell? ⟨yb, 1, none⟩ = some (.int .i64 p2) ∧ w8.grownBy w' none)
        (first
          | assumption
          | exact KS.out _ (by repeat' first
                                  | assumption
                                  | exact (And.right (And.right (by assumption)))
                                  | exact World.grownBy.refl _ _
                                  | exact gb_drew _ _
                                  | refine gb_trans ?_ (gb_drew _ _)
                                  | refine gb_trans ?_ (by assumption)))
        (first
          | (go_at_call 22; refine (EQ.out _ (by repeat' first
                                  | assumption
                                  | exact (And.right (And.right (by assumption)))
                                  | exact World.grownBy.refl _ _
                                  | exact gb_drew _ _
                                  | refine gb_trans ?_ (gb_drew _ _)
                                  | refine gb_trans ?_ (by assumption))).mono ?_; rintro e w' ⟨rfl, g, _⟩)
          | (go_at_call 23; refine (RM.out _ (by repeat' first
                                  | assumption
                                  | exact (And.right (And.right (by assumption)))
                                  | exact World.grownBy.refl _ _
                                  | exact gb_drew _ _
                                  | refine gb_trans ?_ (gb_drew _ _)
                                  | refine gb_trans ?_ (by assumption))).mono ?_; rintro e w' ⟨rfl, g, _⟩)
          | (go_at_call 24; refine (RM2.out _).mono ?_; rintro e w' ⟨rfl, g, _⟩))
      have gS : w8.grownBy w' none := And.right (And.right (by assumption))
      generalize w' = w9 at *
      have RS9 := Lib.hid (RS7.out.keep0 gS)
      have YB9 := Lib.hid (YB.out.keep0 gS)
      rename_i hHeld
      clear gS KS EQ RM RM2 U6 U7 RS7 YB hHeld
      obtain ⟨er3, v3, p3, hq⟩ : ∃ e9 v9 q9, rdStep bs p2 3 = (e9, v9, q9) := ⟨_, _, _, rfl⟩
      have RB := Lib.hid (reads_any w9 base r s V bs p2 3 RS9.out.rd HB.out hl HP2.out er3 v3 p3 hq)
      have RB2 := Lib.hid (fun w' (h : w'.ownsRow base2 5 1 (.slice ax bs.length cx) bs.length (bs.map (Value.int .u8))) => rread_any w' base2 ax cx bs p2 3 h HB.out hl HP2.out er3 v3 p3 hq)
      have e5 : (er3 == er3) = true := by simp
      have e6 : (v3 == v3) = true := by simp
      clear hq
      go_wp2_with fail
      refine RB.out.mono ?_
      rintro e w10 ⟨rfl, g10, r10⟩
      have RS10 := Lib.hid (RS9.out.read g10 r10 LS.out)
      have YB10 := Lib.hid (YB9.out.keepS g10 RS9.out.rd.sb (by decide))
      have y0 := YB10.out.cell 0
      have y1 := YB10.out.cell 1
      simp at y0 y1
      have RB3 := Lib.hid (RB2.out w10 RS10.out.xo)
      clear g10 r10 RB RS9 YB9 RB2
      go_wp2_with fail
      refine RB3.out.mono ?_
      rintro e w11 ⟨rfl, g11⟩
      have G11 := Lib.hid (gb_trans RS10.out.gr (gb_trans g11 (gb_alloc _ (.cells #[.slice ax bs.length cx, .int .i64 p3] 37) none)))
      clear g11 RB3 y0 y1
      go_wp2_with fail
      refine (WK.out _).mono ?_
      rintro e w12 ⟨rfl, g12⟩
      have G12 := Lib.hid (gb_trans G11.out g12)
      clear g12
      go_wp2
      go_ret
      exact ⟨rfl, below_gb G12.out⟩
set_option maxRecDepth 100000 in
set_option maxHeartbeats 4000000 in
theorem reads_walk (s0 : ByteArray) (a : Option Addr) (n c : Nat) (L : List Fld) (a1 : Option Addr) (len1 cap1 : Nat) (z : List Int) (sk : Int) (W : World) (h : SF W a n c L) (h1 : IsRow .u8 W a1 len1 cap1 z) (h2 : (Lit.int .u8 sk).wf = true) :
    Calls Try.prog 4 #[.agg #[.string s0, .slice a n c], .slice a1 len1 cap1, .int .u8 sk] W (HoldsT W) := by
  have G0 := Lib.hid (gb_alloc W (.cells #[.string s0, .slice a n c] 24) none)
  have SM := Lib.hid (small_any _ s0 a n c L (h.keep0 G0.out))
  have WK := Lib.hid (fun w => works_any w)
  cases hsm : smallH s0 L
  · rw [hsm] at SM
    clear hsm
    go_enter Try.func4, Try.ntmps4
    go_wp2_with fail
    refine SM.out.mono ?_
    rintro e w2 ⟨rfl, g2⟩
    have G2 := Lib.hid (gb_trans G0.out g2)
    clear g2 SM
    go_wp2_with fail
    refine (WK.out _).mono ?_
    rintro e w3 ⟨rfl, g3⟩
    have G3 := Lib.hid (gb_trans G2.out g3)
    clear g3
    go_wp2
    go_ret
    exact ⟨rfl, below_gb G3.out⟩
  · by_cases hlen : len1 ≤ 100
    · exact hreads_on s0 a n c L a1 len1 cap1 (z.take len1) sk W h (row_slr h1) (fun x hx => u8_bd (row_wf h1 x hx)) (u8_bd h2) hsm hlen
    · rw [hsm] at SM
      have i1 : (100 : Int) < len1 := by omega
      clear hsm hlen
      go_enter Try.func4, Try.ntmps4
      go_wp2_with fail
      refine SM.out.mono ?_
      rintro e w2 ⟨rfl, g2⟩
      have G2 := Lib.hid (gb_trans G0.out g2)
      clear g2 SM
      go_wp2_with fail
      refine (WK.out _).mono ?_
      rintro e w3 ⟨rfl, g3⟩
      have G3 := Lib.hid (gb_trans G2.out g3)
      clear g3
      go_wp2
      go_ret
      exact ⟨rfl, below_gb G3.out⟩
end Go.Proofs.Ytgknooblnpmloaa
