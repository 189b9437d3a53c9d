/- The law on copies: its walk; no condition but that the argument is a slice of bytes. -/
import Derived.Test.YtiphcknnljjanaaIoS
import Derived.Test.YtiphcknnljjanaaFrame
namespace Go.Proofs.Ytiphcknnljjanaa
open Go.RowKit
set_option linter.unusedVariables false

theorem row_slr {k : IntKind} {w : World} {a : Option Addr} {len cap : Nat} {zs : List Int} (h : IsRow k w a len cap zs) : SlR w a len cap ((zs.take len).map (Value.int k)) := by
  rcases h with ⟨rfl, rfl, rfl, rfl⟩ | ⟨x, rfl, hl, hm, hz, hc, hw⟩
  · exact ⟨rfl, fun _ => ⟨rfl, rfl⟩, by simp⟩
  · refine ⟨by simp; omega, by simp, ?_⟩
    intro ad ha j u hu
    injection ha with ha; subst ha
    have hj : j < len := by
      have := (List.getElem?_eq_some_iff.1 hu).1
      simp at this; omega
    rw [hc j (by omega), ← hu]
    simp [hj, show j < zs.length by omega]
theorem row_wf {k : IntKind} {w : World} {a : Option Addr} {len cap : Nat} {zs : List Int} (h : IsRow k w a len cap zs) : ∀ n ∈ zs.take len, (Lit.int k n).wf = true := by
  intro n hn
  have hn := List.mem_of_mem_take hn
  rcases h with ⟨rfl, rfl, rfl, rfl⟩ | ⟨x, rfl, hl, hm, hz, hc, hw⟩
  · simp at hn
  · exact hw n hn
theorem row_len {k : IntKind} {w : World} {a : Option Addr} {len cap : Nat} {zs : List Int} (h : IsRow k w a len cap zs) : (zs.take len).length = len := by
  rcases h with ⟨rfl, rfl, rfl, rfl⟩ | ⟨x, rfl, hl, hm, hz, hc, hw⟩
  · rfl
  · simp; omega
theorem row_addr {k : IntKind} {w : World} {a : Option Addr} {len cap : Nat} {zs : List Int} (h : IsRow k w a len cap zs) (hp : 0 < len) : ∃ b o, a = some ⟨b, o, none⟩ := by
  rcases h with ⟨rfl, rfl, rfl, rfl⟩ | ⟨x, rfl, hl, hm, hz, hc, hw⟩
  · omega
  · obtain ⟨b, o, spot⟩ := x
    have h0 := hc 0 (by omega)
    have hs : spot = none := by simpa [Addr.add] using World.cell?_spot h0
    subst hs
    exact ⟨b, o, rfl⟩
theorem u8_bd {a : Int} (h : (Lit.int .u8 a).wf = true) : 0 ≤ a ∧ a ≤ 255 := by
  have := bounds_u8 h
  omega

/-- Eight bits from the start make the first byte. -/
theorem acc_byte (x : Int) (t : List Int) (h0 : 0 ≤ x) (h1 : x ≤ 255) : accB (x :: t) 0 8 = x := by
  simp only [accB, bitAt]
  simp
  omega
theorem pack_byte (v : Int) (h0 : 0 ≤ v) (h1 : v ≤ 255) : packB (bitsOf v 8) = [v] := by
  have hv : v = ((v.toNat : Nat) : Int) := by omega
  rw [hv]
  have key : ∀ n : Fin 256, packB (bitsOf (n.val : Int) 8) = [(n.val : Int)] := by decide +kernel
  exact key ⟨v.toNat, by omega⟩
theorem rd8 (bs : List Int) (h : 1 ≤ bs.length) : rdStep bs 0 8 = (0, accB bs 0 8, 8) := by
  unfold rdStep
  rw [if_pos (show okW 8 = true by decide), if_pos (by omega)]
  rfl
theorem wr8 (v : Int) (h0 : 0 ≤ v) (h1 : v ≤ 255) : wrStep [] v 8 = (0, bitsOf v 8) := by
  unfold wrStep
  have hf : fitsB v 8 = true := by
    refine decide_eq_true ⟨by omega, by omega, ?_⟩
    simp; omega
  rw [if_pos (show okW 8 = true by decide), if_pos hf]
  rfl
/-- A store into a block of bytes that is not the reader's. -/
theorem Rdr.far {w : World} {base r s g i : Nat} {V : Value} {bs : List Int} {pos : Nat} {cs : Array Value} {u : Value} (h : Rdr w base r s V bs pos) (hg : IsB w g 5 cs) (hn : V.ownBlock ≠ some g) : Rdr (w.setCell ⟨g, i, none⟩ u) base r s V bs pos :=
  ⟨h.rb.keepS (gb_set w g i u) hg (by decide), h.sb.keepS (gb_set w g i u) hg (by decide), h.own.kept (gb_set w g i u) (.inr hn)⟩
theorem Wtr.far {w : World} {base r s g i : Nat} {V : Value} {L : List Bool} {cs : Array Value} {u : Value} (h : Wtr w base r s V L) (hg : IsB w g 5 cs) (hn : V.ownBlock ≠ some g) : Wtr (w.setCell ⟨g, i, none⟩ u) base r s V L :=
  ⟨h.wb.keepS (gb_set w g i u) hg (by decide), ⟨h.st.sb.keepS (gb_set w g i u) hg (by decide), h.st.own.kept (gb_set w g i u) (.inr hn), h.st.low⟩⟩
theorem own_blk {w : World} {base : Nat} {e : TypeId} {size n g c : Nat} {xs : List Value} (h : w.ownsRow base e size (.slice (some ⟨g, 0, none⟩) n c) n xs) : ∃ cs, IsB w g e cs := by
  rcases h.2 with ⟨h1, _⟩ | ⟨g2, cap, cur, h1, _, hh, _⟩
  · injection h1 with h1; cases h1
  · injection h1 with h1; injection h1 with h1; injection h1 with h1; subst h1; exact ⟨cur, hh⟩
theorem own_far {w : World} {base : Nat} {e : TypeId} {size n g : Nat} {v : Value} {xs : List Value} (h : w.ownsRow base e size v n xs) (hg : g < base) : v.ownBlock ≠ some g := by
  intro e1
  have := (h.lt g e1).1
  omega
theorem own_far2 {w : World} {base : Nat} {e : TypeId} {size n g : Nat} {v : Value} {xs : List Value} (h : w.ownsRow base e size v n xs) (hg : w.heap.size ≤ g) : v.ownBlock ≠ some g := by
  intro e1
  have := (h.lt g e1).2
  omega

theorem copies_small (a : Option Addr) (len cap : Nat) (v : Int) (W : World) (h : len < 1 ∨ 200 < len) :
    Calls Try.prog 14 #[.slice a len cap, .int .u8 v] W fun e w' => e = .returned (.bool true) ∧ Below W.heap.size W w' := by
  rcases h with h | h
  · have h1 : (len : Int) < 1 := by omega
    go_enter Try.func14, Try.ntmps14
    go_wp2_with (go_at_call 41; refine (works_any _).mono ?_; rintro e w' ⟨rfl, g⟩)
    go_ret
    exact ⟨rfl, by assumption⟩
  · have h1 : ¬ (len : Int) < 1 := by omega
    have h2 : (200 : Int) < len := by omega
    go_enter Try.func14, Try.ntmps14
    go_wp2_with (go_at_call 41; refine (works_any _).mono ?_; rintro e w' ⟨rfl, g⟩)
    go_ret
    exact ⟨rfl, by assumption⟩

set_option maxRecDepth 100000 in
set_option maxHeartbeats 2000000 in
theorem copies_big (pb po : Nat) (len cap : Nat) (bs : List Int) (v : Int) (W : World) (hsl : SlR W (some ⟨pb, po, none⟩) len cap (bs.map (Value.int .u8))) (hb : ∀ x ∈ bs, 0 ≤ x ∧ x ≤ 255) (h1 : 1 ≤ len) (h2 : len ≤ 200) (hv : 0 ≤ v ∧ v ≤ 255) :
    Calls Try.prog 14 #[.slice (some ⟨pb, po, none⟩) len cap, .int .u8 v] W fun e w' => e = .returned (.bool true) ∧ Below W.heap.size W w' := by
  obtain ⟨i0, hi, hz0, hz1, hz2⟩ := info_parts infoU8
  have hl : bs.length = len := by simpa using hsl.1
  subst hl
  have HC := Lib.hid ((hsl.alloc (.cells #[] 5)).2.2 _ rfl)
  have HSL := Lib.hid hsl
  clear hsl
  have k1 : ¬ (bs.length : Int) < 1 := by omega
  have k2 : ¬ (200 : Int) < bs.length := by omega
  have HI := Lib.hid hi
  clear hi
  go_enter Try.func14, Try.ntmps14
  go_wp2_with (at_builtin; refine wpList_append_own _ rfl _ _ 43 rfl W.heap.size 5 i0 (.int .u8 0) 1 1 Try.underlying43 HI.out hz0 hz1 hz2 rfl (by decide) _ 0 [] rfl (World.ownsRow_lit W #[] 0 (Nat.le_refl _) (by decide) rfl) ⟨pb, po, none⟩ bs.length cap (bs.map (Value.int .u8)) rfl ?c1 HC.out (ints_one _ _) ?c3 ?c4 ?c5 ?_)
  case c3 => unfold maxLen; omega
  case c4 => omega
  · intro v' w1 hown hg hiff
    have hown2 : w1.ownsRow W.heap.size 5 1 v' bs.length (bs.map (Value.int .u8)) := by simpa using hown
    obtain ⟨g, cc, rfl⟩ := own_head hown2 h1
    have B1 := Lib.hid (show Below W.heap.size W w1 from ((Below.refl _ _).alloc (Nat.le_refl _) _).grown hg (by simp) (by intro k hk; injection hk with hk; rw [← hk]; exact Nat.le_refl _))
    have O1 := Lib.hid hown2
    clear hown hown2 hiff hg HC HI hz0 hz1 hz2
    have HR := Lib.hid (newReader_any w1 _ _ _ bs (own_slr O1.out) (by omega))
    go_wp2_with fail
    refine HR.out.mono ?_
    rintro e w2 ⟨r, s, V, rfl, g2, rd2, _, lr, ls⟩
    have B2 := Lib.hid (B1.out.grown g2 B1.out.size (by intro k hk; cases hk))
    have O2 := Lib.hid (own_keep0 O1.out g2)
    have RD2 := Lib.hid rd2
    have hgl : g < w1.heap.size := (O1.out.lt g rfl).2
    have LS := Lib.hid (show W.heap.size ≤ s by have := B1.out.size; omega)
    clear g2 rd2 HR lr ls
    have HW := Lib.hid (newWriter_any w2)
    go_wp2_with fail
    refine HW.out.mono ?_
    rintro e w3 ⟨rfl, g3, wt3⟩
    have B3 := Lib.hid (B2.out.grown g3 B2.out.size (by intro k hk; cases hk))
    have O3 := Lib.hid (own_keep0 O2.out g3)
    have RD3 := Lib.hid (RD2.out.keep0 g3)
    have WT3 := Lib.hid wt3
    have ZW := Lib.hid (show w2.heap.size ≤ w3.heap.size from g3.size)
    clear g3 wt3 HW
    obtain ⟨cs3, hb3⟩ := own_blk O3.out
    have cd := own_cell O3.out 0 h1
    have fd := O3.out.frozenAt 0
    generalize hx0 : bs.getD 0 0 = x0 at *
    have HX := Lib.hid hx0
    clear hx0
    have far3 := own_far RD3.out.own hgl
    have rd4 := RD3.out.far (i := 0) (u := (.int .u8 (bits .xor .u8 IntKind.u8.max x0))) hb3 far3
    have wt4 := WT3.out.far (i := 0) (u := (.int .u8 (bits .xor .u8 IntKind.u8.max x0))) hb3 (by simp [Value.ownBlock])
    have b4 := B3.out.setCell (p := ⟨g, 0, none⟩) (O3.out.lt g rfl).1 (.int .u8 (bits .xor .u8 IntKind.u8.max x0))
    have z4 : w2.heap.size ≤ (w3.setCell ⟨g, 0, none⟩ (.int .u8 (bits .xor .u8 IntKind.u8.max x0))).heap.size := by simpa [World.setCell] using ZW.out
    have RD4 := Lib.hid rd4
    have WT4 := Lib.hid wt4
    have B4 := Lib.hid b4
    have Z4 := Lib.hid z4
    clear rd4 wt4 b4 z4 far3 hb3
    go_wp2_with fail
    clear cd fd
    generalize w3.setCell ⟨g, 0, none⟩ (.int .u8 (bits .xor .u8 IntKind.u8.max x0)) = w4 at *
    refine (rest_even w4 _ r s V bs 0 RD4.out (by omega) h1 0 rfl (Nat.zero_le _)).mono ?_
    rintro e w5 ⟨v5, rfl, g5, o5, _⟩
    rw [List.drop_zero] at o5
    obtain ⟨gr, cr, rfl⟩ := own_head o5 h1
    have B5 := Lib.hid (B4.out.grown g5 B4.out.size (by intro k hk; cases hk))
    have hs1 := conv_str w5 _ _ _ bs (own_slr o5)
    have hs2 := conv_str w5 _ _ _ bs (HSL.out.below B5.out)
    obtain ⟨cs5, hb5⟩ := own_blk o5
    have cd := own_cell o5 0 h1
    rw [HX.out] at cd
    have fd := o5.frozenAt 0
    have hgr := (o5.lt gr rfl).1
    have rd5 := RD4.out.keep0 g5
    have wt5 := WT4.out.keep0 g5
    have rd6 := rd5.far (i := 0) (u := (.int .u8 (bits .xor .u8 IntKind.u8.max x0))) hb5 (by have k := own_far2 RD4.out.own hgr; exact k)
    have wt6 := wt5.far (i := 0) (u := (.int .u8 (bits .xor .u8 IntKind.u8.max x0))) hb5 (by simp [Value.ownBlock])
    have b6 := B5.out.setCell (p := ⟨gr, 0, none⟩) (by have := B4.out.size; show W.heap.size ≤ gr; omega) (.int .u8 (bits .xor .u8 IntKind.u8.max x0))
    have z6 : w2.heap.size ≤ (w5.setCell ⟨gr, 0, none⟩ (.int .u8 (bits .xor .u8 IntKind.u8.max x0))).heap.size := by have := Z4.out; have := g5.size; simp [World.setCell]; omega
    have RD6 := Lib.hid rd6
    have WT6 := Lib.hid wt6
    have B6 := Lib.hid b6
    have Z6 := Lib.hid z6
    clear g5 o5 rd5 wt5 rd6 wt6 b6 z6 hb5 hgr B5 B4 RD4 WT4 Z4
    go_wp2_with fail
    clear cd fd hs1 hs2
    generalize w5.setCell ⟨gr, 0, none⟩ (.int .u8 (bits .xor .u8 IntKind.u8.max x0)) = w6 at *
    have hx0b := hb (bs.getD 0 0) (by rw [List.getD_eq_getElem?_getD, List.getElem?_eq_getElem (show 0 < bs.length from h1)]; exact List.getElem_mem _)
    rw [HX.out] at hx0b
    have hacc : accB bs 0 8 = x0 := by
      have k := HX.out
      match bs, h1 with
      | y :: t, _ =>
        have e : y = x0 := by simpa using k
        subst e
        exact acc_byte y t hx0b.1 hx0b.2
    have hrd := rd8 bs h1
    rw [hacc] at hrd
    have HM := Lib.hid (reads_any w6 _ r s V bs 0 8 RD6.out hb (by omega) (Nat.zero_le _) 0 x0 8 hrd)
    clear hacc hrd
    refine HM.out.mono ?_
    rintro e w7 ⟨rfl, g7, _⟩
    have B7 := Lib.hid (B6.out.grown g7 B6.out.size (by intro k hk; injection hk with hk; rw [← hk]; exact LS.out))
    have WT7 := Lib.hid (show Wtr w7 w2.heap.size (w2.heap.size + 1) w2.heap.size (.slice none 0 0) [] from ⟨WT6.out.wb.keepS g7 RD6.out.sb (by decide), ⟨WT6.out.st.sb.keepS g7 RD6.out.sb (by decide), World.ownsRow_nil _ _ _ _, WT6.out.st.low⟩⟩)
    have Z7 := Lib.hid (show w2.heap.size ≤ w7.heap.size from Nat.le_trans Z6.out g7.size)
    have HM2 := Lib.hid (wr_any w7 _ _ _ _ [] v 8 WT7.out Z7.out (by decide) hv.1 (by omega) 0 (bitsOf v 8) (wr8 v hv.1 hv.2))
    clear g7 HM B6 WT6 RD6 Z6
    go_wp2_with fail
    refine HM2.out.mono ?_
    rintro e w8 ⟨rfl, q8, V8, wt8⟩
    have B8 := Lib.hid (B7.out.trans ((q8.below Z7.out).mono B2.out.size))
    have WT8 := Lib.hid wt8
    have HM3 := bytes_even w8 _ _ _ _ _ wt8 (by rw [bitsOf_len]; decide) (by rw [bitsOf_len])
    rw [pack_byte v hv.1 hv.2] at HM3
    have HM4 := Lib.hid HM3
    clear q8 wt8 HM3 HM2 B7 WT7 Z7
    go_wp2_with fail
    refine HM4.out.mono ?_
    rintro e w9 ⟨v9, rfl, g9, o9, _⟩
    obtain ⟨gx, cx, rfl⟩ := own_head o9 (by simp)
    have B9 := Lib.hid (B8.out.grown g9 B8.out.size (by intro k hk; cases hk))
    obtain ⟨cs9, hb9⟩ := own_blk o9
    have cd : w9.cell? ⟨gx, 0, none⟩ = some (.int .u8 v) := own_cell o9 0 (by simp)
    have fd := o9.frozenAt 0
    have hgx := (o9.lt gx rfl).1
    have wt9 := WT8.out.keep0 g9
    have wt10 := wt9.far (i := 0) (u := (.int .u8 (bits .xor .u8 IntKind.u8.max v))) hb9 (own_far2 WT8.out.st.own hgx)
    have b10 := B9.out.setCell (p := ⟨gx, 0, none⟩) (by have := B8.out.size; show W.heap.size ≤ gx; omega) (.int .u8 (bits .xor .u8 IntKind.u8.max v))
    have HM5 := bytes_even _ _ _ _ _ _ wt10 (by rw [bitsOf_len]; decide) (by rw [bitsOf_len])
    rw [pack_byte v hv.1 hv.2] at HM5
    have HM6 := Lib.hid HM5
    have B10 := Lib.hid b10
    clear g9 o9 hb9 hgx wt9 wt10 b10 HM5 HM4 B9 B8 WT8
    go_wp2_with fail
    clear cd fd
    generalize w9.setCell ⟨gx, 0, none⟩ (.int .u8 (bits .xor .u8 IntKind.u8.max v)) = w10 at *
    refine HM6.out.mono ?_
    rintro e w11 ⟨v11, rfl, g11, o11, _⟩
    obtain ⟨gy, cy, rfl⟩ := own_head o11 (by simp)
    have B11 := Lib.hid (B10.out.grown g11 B10.out.size (by intro k hk; cases hk))
    have cd : w11.cell? ⟨gy, 0, none⟩ = some (.int .u8 v) := own_cell o11 0 (by simp)
    have ce : w11.cell? ⟨pb, po, none⟩ = some (.int .u8 x0) := by
      have k := (HSL.out.below B11.out).cellAt 0 h1
      rw [HX.out] at k
      simpa [Addr.add] using k
    clear g11 o11 HM6 B10
    go_wp2_with fail
    refine (works_any _).mono ?_
    rintro e w12 ⟨rfl, b12⟩
    have B12 := Lib.hid (below_step B11.out B11.out.size b12)
    clear cd ce b12 B11
    go_wp2
    go_ret
    exact ⟨rfl, B12.out⟩

theorem copies_walk (a : Option Addr) (len cap : Nat) (z : List Int) (v : Int) (W : World) (h : IsRow .u8 W a len cap z) (hv : (Lit.int .u8 v).wf = true) :
    Calls Try.prog 14 #[.slice a len cap, .int .u8 v] W fun e w' => e = .returned (.bool true) ∧ Below W.heap.size W w' := by
  by_cases hs : len < 1 ∨ 200 < len
  · exact copies_small a len cap v W hs
  · obtain ⟨b, o, rfl⟩ := row_addr h (by omega)
    exact copies_big b o len cap (z.take len) v W (row_slr h) (fun x hx => u8_bd (row_wf h x hx)) (by omega) (by omega) (u8_bd hv)
end Go.Proofs.Ytiphcknnljjanaa
