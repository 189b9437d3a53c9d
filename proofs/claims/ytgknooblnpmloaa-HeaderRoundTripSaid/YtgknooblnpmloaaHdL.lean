/- Header: the walk of Write; no condition but sizes. -/
import Derived.Test.YtgknooblnpmloaaHdS
namespace Go.Proofs.Ytgknooblnpmloaa
open Go.RowKit
set_option linter.unusedVariables false

/-- What Write comes to: the error and the bits. -/
def wrH (hs : ByteArray) (L : List Fld) (vals : List Int) (B : List Bool) : Int × List Bool :=
  if ¬ chkH hs L = 0 then (chkH hs L, B) else if ¬ vals.length = L.length then (2, B) else if (pkRun [] (vals.zip (wsL L))).1 = 0 then (0, B ++ (pkRun [] (vals.zip (wsL L))).2) else ((pkRun [] (vals.zip (wsL L))).1, B)
/-- What Pack answers for the fields of a valid header. -/
theorem pack_hd {hs : ByteArray} {L : List Fld} {vals : List Int} (h : chkH hs L = 0) :
    packR vals (wsL L) = if ¬ vals.length = L.length then (2, []) else if (pkRun [] (vals.zip (wsL L))).1 = 0 then (0, packB (pkRun [] (vals.zip (wsL L))).2) else ((pkRun [] (vals.zip (wsL L))).1, []) := by
  obtain ⟨h1, h2, h3, h4, h5⟩ := chk_ok hs L h
  have h6 := (isum_good _ h5).1
  unfold packR
  rw [wsL_len]
  by_cases e : vals.length = L.length
  · rw [if_pos e, if_neg (show ¬ ¬ vals.length = L.length from fun h => h e)]
    by_cases e2 : (pkRun [] (vals.zip (wsL L))).1 = 0
    · rw [if_pos e2, if_pos e2]
      have hl := pkRun_good_len (wsL L) h5 vals [] (by rw [wsL_len]; exact e) e2
      rw [if_pos (by rw [hl]; simp only [List.length_nil]; omega)]
    · rw [if_neg e2, if_neg e2]
  · rw [if_neg e, if_pos e]
theorem pack_len {hs : ByteArray} {L : List Fld} {vals : List Int} (h : chkH hs L = 0) (e : vals.length = L.length) (e2 : (pkRun [] (vals.zip (wsL L))).1 = 0) :
    bytesBits (packB (pkRun [] (vals.zip (wsL L))).2) = (pkRun [] (vals.zip (wsL L))).2 ∧ (packB (pkRun [] (vals.zip (wsL L))).2).length ≤ 48 ∧ (pkRun [] (vals.zip (wsL L))).2.length ≤ 384 := by
  obtain ⟨h1, h2, h3, h4, h5⟩ := chk_ok hs L h
  have h6 := isum_good _ h5
  rw [wsL_len] at h6
  have hl := pkRun_good_len (wsL L) h5 vals [] (by rw [wsL_len]; exact e) e2
  simp only [List.length_nil, Nat.zero_add] at hl
  have hp := packB_len (pkRun [] (vals.zip (wsL L))).2
  refine ⟨list_bits _ (sumL (wsL L) / 8) (by omega), by omega, by omega⟩
theorem byte_ok (x : Int) (h : 0 ≤ x ∧ x ≤ 255) : fitsB x 8 = true := by
  refine decide_eq_true ⟨by omega, by omega, ?_⟩
  show x < 2 ^ 8
  omega
/-- A row of another block than the writer's. -/
theorem own_gs {s : Nat} {V V' : Value} {w w' : World} {b2 n g c : Nat} {e : TypeId} {xs : List Value} (h : w.ownsRow b2 e 1 (.slice (some ⟨g, 0, none⟩) n c) n xs) (k : GS s V w V' w') (h1 : g ≠ s) (h2 : V.ownBlock ≠ some g) : w'.ownsRow b2 e 1 (.slice (some ⟨g, 0, none⟩) n c) n xs := by
  refine ⟨h.1, ?_⟩
  rcases h.2 with q | ⟨g2, cap, cur, q1, q2, q3, q4⟩
  · exact .inl q
  · have x1 := q1
    injection x1 with x1; injection x1 with x1; injection x1 with x1; subst x1
    have hlt : g < w.heap.size := by
      rcases Nat.lt_or_ge g w.heap.size with hlt | hge
      · exact hlt
      · rw [Array.getElem?_eq_none hge] at q3; cases q3
    exact .inr ⟨g, cap, cur, q1, q2, (k.block g hlt h1 h2).trans q3, q4⟩
theorem bytesBits_take (l : List Int) (k : Nat) (h : k < l.length) : bytesBits (l.take (k + 1)) = bytesBits (l.take k) ++ bitsOf (l.getD k 0) 8 := by
  rw [List.take_add_one, bytesBits_app]
  simp [h, bytesBits]
set_option maxRecDepth 100000 in
set_option maxHeartbeats 8000000 in
theorem write_any (W w : World) (hs9 : ByteArray) (a : Option Addr) (n c : Nat) (L : List Fld) (h : HdOk W hs9 a n c L) (base r s : Nat) (V : Value) (B : List Bool) (hW : Below W.heap.size W w) (hb0 : W.heap.size ≤ base) (hbase : base ≤ w.heap.size) (hR : Wtr w base r s V B)
    (a2 : Option Addr) (len2 cap2 : Nat) (vals : List Int) (hv : SlR w a2 len2 cap2 (vals.map (Value.int .u32))) (hv2 : ∀ x ∈ vals, 0 ≤ x ∧ x < 4294967296) (hB : B.length ≤ 40000) (er : Int) (B2 : List Bool) (hq : wrH hs9 L vals B = (er, B2))
    (hkeep : ∀ w', GT base w w' → SlR w' a2 len2 cap2 (vals.map (Value.int .u32))) :
    Calls Try.prog 29 #[.agg #[.string hs9, .slice a n c], .slice a2 len2 cap2, .pointer (some ⟨r, 0, none⟩)] w (WrQ er w base r s B2) := by
  have HH := Lib.hid h
  have HV2 := Lib.hid hv2
  have HB := Lib.hid hB
  have HQ := Lib.hid hq
  have HK := Lib.hid hkeep
  have HW := Lib.hid (fun (w' : World) (g : GT base w w') => (show W.grownBy w' none from gb_of_below (hW.trans (Below.mono (g.below hbase) hb0))))
  have A0 := Lib.hid (gb_alloc w (.cells #[.string hs9, .slice a n c] 24) none)
  have R1 := Lib.hid (hR.keep0 A0.out)
  have BX := Lib.hid (IsB.new w 24 #[.string hs9, .slice a n c])
  have HC0 := Lib.hid (check_any _ hs9 a n c L (h.sf.keep0 (HW.out _ (GT.of0 A0.out))) h.few h.nm h.hn)
  have PK := Lib.hid (pack_hd (hs := hs9) (L := L) (vals := vals))
  have PL := Lib.hid (pack_len (hs := hs9) (L := L) (vals := vals))
  have CK := Lib.hid (chk_ok hs9 L)
  clear h hv hv2 hB hq hkeep hR
  unfold wrH at HQ
  obtain ⟨q, hqq⟩ : ∃ q, q = chkH hs9 L := ⟨_, rfl⟩
  rw [← hqq] at HC0 HQ PK PL CK
  clear hqq
  by_cases q0 : q = 0
  · have PKt := Lib.hid (PK.out q0)
    have PLt := Lib.hid (PL.out q0)
    have CKt := Lib.hid (CK.out q0)
    rw [if_neg (by simp [q0])] at HQ
    clear PK PL CK
    subst q0
    go_enter Try.func29, Try.ntmps29
    go_wp2_with fail
    refine HC0.out.mono ?_
    rintro e w2 ⟨rfl, g2⟩
    have R2 := Lib.hid (R1.out.keep0 g2)
    have BX2 := Lib.hid (BX.out.keep0 g2)
    have G2 := Lib.hid (show GT base w w2 from GT.of0 (gb_trans A0.out g2))
    have W0 := Lib.hid (wr_width w2 base r s V B 0 0 R2.out (by decide))
    clear g2 HC0 BX R1
    go_wp2_with fail
    refine W0.out.mono ?_
    rintro e w3 ⟨rfl, t3, V3, r3⟩
    have BX3 := Lib.hid (t3.kind _ _ _ BX2.out (by decide) (by decide))
    have G3 := Lib.hid (G2.out.trans t3)
    have R3 := Lib.hid r3
    have b0 := BX3.out.cell 0
    have b1 := BX3.out.cell 1
    simp at b0 b1
    have HWD := Lib.hid (widths_any w3 hs9 a n c L (HH.out.sf.keep0 (HW.out w3 G3.out)) HH.out.few)
    clear t3 r3 W0 BX2 R2 G2
    go_wp2_with fail
    refine HWD.out.mono ?_
    rintro e w4 ⟨VW, rfl, o4, g4⟩
    obtain ⟨a4, c4, rfl⟩ := o4.shape
    have G4 := Lib.hid (G3.out.trans (GT.of0 g4))
    have R4 := Lib.hid (R3.out.keep0 g4)
    have hl12 : (wsL L).length ≤ 12 := by rw [wsL_len]; exact CKt.out.2.1
    have HP := Lib.hid (pack_any w4 a2 len2 cap2 vals (wsL L) (HK.out w4 G4.out) a4 _ c4 (o4.slr rfl) (by omega) HV2.out)
    rw [PKt.out] at HP
    clear g4 o4 HWD G3 R3 b0 b1 BX3
    by_cases e1 : vals.length = L.length
    · rw [if_neg (by simp [e1])] at HP HQ
      have PL2 := Lib.hid (PLt.out e1)
      by_cases e2 : (pkRun [] (vals.zip (wsL L))).1 = 0
      · rw [if_pos e2] at HP HQ
        have PL3 := Lib.hid (PL2.out e2)
        have E := HQ.out
        simp only [Prod.mk.injEq] at E
        obtain ⟨rfl, hB2⟩ := E
        obtain ⟨pk, hpk⟩ : ∃ q, q = packB (pkRun [] (vals.zip (wsL L))).2 := ⟨_, rfl⟩
        rw [← hpk] at HP PL3
        have HB2 := Lib.hid (show B2 = B ++ bytesBits pk by rw [PL3.out.1]; exact hB2.symm)
        have HPR := Lib.hid (show ∀ x ∈ pk, 0 ≤ x ∧ x ≤ 255 by rw [hpk]; exact packB_range _)
        have hl48 := PL3.out.2.1
        clear hpk PL3 PL2 hB2 e2 PKt PLt HQ
        go_wp2_with fail
        refine HP.out.mono ?_
        rintro e w5 ⟨V5, rfl, g5, o5, _⟩
        have hsz : ∃ a5 c5, V5 = .slice a5 pk.length c5 := own_shape o5
        obtain ⟨a5, c5, rfl⟩ := hsz
        have g5' := gb_of_below g5
        have G5 := Lib.hid (G4.out.trans (GT.of0 g5'))
        have R5 := Lib.hid (R4.out.keep0 g5')
        have O5 := Lib.hid o5
        have hs4 : s < w4.heap.size := R4.out.st.sb.lt
        have V4 := Lib.hid (show ∀ g, V3.ownBlock = some g → g < w4.heap.size from fun g e => (R4.out.st.own.lt g e).2)
        clear g5 g5' o5 HP
        go_wp2_with fail
        go_loopw [32] (fun i wr => ∃ k : Nat, k ≤ pk.length ∧ i = .int .i64 k ∧ ∃ V6, Wtr wr base r s V6 (B ++ bytesBits (pk.take k)) ∧ GT base w wr ∧ GS s V3 w5 V6 wr) (fun i _ => pk.length - (intOf i).toNat)
        case atStart => exact ⟨0, Nat.zero_le _, rfl, V3, by simpa [bytesBits] using R5.out, G5.out, GS.refl _ _ _⟩
        case round =>
          obtain ⟨k, hk, rfl, V6, q1, q2, q3⟩ := hrel
          have R6 := Lib.hid q1
          have G6 := Lib.hid q2
          have S6 := Lib.hid q3
          clear q1 q2 q3
          by_cases hlt : k < pk.length
          · obtain ⟨g, c6, e6⟩ := own_head O5.out (by omega)
            cases e6
            have hg4 := (O5.out.lt g rfl).1
            have o6 := own_gs O5.out S6.out (by omega) (fun e => by have := V4.out g e; omega)
            have c0 := own_cell o6 k hlt
            have hx := HPR.out (pk.getD k 0) (by simp [hlt])
            have BT := Lib.hid (bytesBits_take pk k hlt)
            have hbl := bytesBits_len (pk.take k)
            have htl : (pk.take k).length ≤ 48 := by simp; omega
            have i1 : (k : Int) < pk.length := by omega
            have i0 : (0 : Int) ≤ (k : Int) := by omega
            obtain ⟨x, hxx⟩ : ∃ x, x = pk.getD k 0 := ⟨_, rfl⟩
            rw [← hxx] at c0 hx BT
            have hb6 : base ≤ wr.heap.size := by have := G6.out.size; omega
            have WS := Lib.hid (wrS_ok wr base r s V6 (B ++ bytesBits (pk.take k)) x 8 R6.out hb6 (by have := HB.out; rw [List.length_append, hbl]; omega) (by decide) (by decide) (byte_ok x hx) hx.1 (by omega))
            have hw := show IntKind.u32.wrap x = x from wraps_u32 _ hx.1 (by omega)
            clear o6 hbl htl hxx hb6
            go_wp2_with fail
            refine WS.out.mono ?_
            rintro e w7 ⟨rfl, t7, V7, r7, s7⟩
            have R7 := Lib.hid (show Wtr w7 base r s V7 (B ++ bytesBits (pk.take (k + 1))) by rw [BT.out, ← List.append_assoc]; exact r7)
            have G7 := Lib.hid (G6.out.trans t7)
            have S7 := Lib.hid (S6.out.trans s7)
            clear t7 r7 s7 WS c0
            go_wp2
            go_roundw
            case rel => exact ⟨k + 1, by omega, by go_num, V7, R7.out, G7.out, S7.out⟩
            case measure => simp [intOf]; omega
          · have hke : k = pk.length := by omega
            have RF := Lib.hid (show Wtr wr base r s V6 B2 by
              have := R6.out
              rw [List.take_of_length_le (by omega)] at this
              rw [HB2.out]; exact this)
            have G7 := Lib.hid G6.out
            subst hke
            go_wp2
            go_ret
            exact ⟨rfl, G7.out, V6, RF.out⟩
      · rw [if_neg e2] at HP HQ
        have E := HQ.out
        simp only [Prod.mk.injEq] at E
        obtain ⟨rfl, rfl⟩ := E
        obtain ⟨q, hqq⟩ : ∃ q, q = (pkRun [] (vals.zip (wsL L))).1 := ⟨_, rfl⟩
        rw [← hqq] at HP e2
        have HQQ := Lib.hid hqq
        have d1 : (q == 0) = false := by simp [e2]
        have d2 : (q != 0) = true := by simp [e2]
        clear PL2 PKt PLt HQ e2 hqq
        go_wp2_with fail
        refine HP.out.mono ?_
        rintro e w5 ⟨V5, rfl, g5, o5, _⟩
        have g5' := gb_of_below g5
        have G5 := Lib.hid (G4.out.trans (GT.of0 g5'))
        have R5 := Lib.hid (R4.out.keep0 g5')
        clear g5 g5' o5 HP
        go_wp2
        go_ret
        exact ⟨by rw [← HQQ.out] <;> rfl, G5.out, V3, R5.out⟩
    · rw [if_pos e1] at HP HQ
      have E := HQ.out
      simp only [Prod.mk.injEq] at E
      obtain ⟨rfl, rfl⟩ := E
      clear PKt PLt HQ e1
      go_wp2_with fail
      refine HP.out.mono ?_
      rintro e w5 ⟨V5, rfl, g5, o5, _⟩
      have g5' := gb_of_below g5
      have G5 := Lib.hid (G4.out.trans (GT.of0 g5'))
      have R5 := Lib.hid (R4.out.keep0 g5')
      clear g5 g5' o5 HP
      go_wp2
      go_ret
      exact ⟨rfl, G5.out, V3, R5.out⟩
  · have d1 : (q == 0) = false := by simp [q0]
    have d2 : (q != 0) = true := by simp [q0]
    rw [if_pos q0] at HQ
    have E := HQ.out
    simp only [Prod.mk.injEq] at E
    obtain ⟨rfl, rfl⟩ := E
    clear q0 PK PL CK
    go_enter Try.func29, Try.ntmps29
    go_wp2_with fail
    refine HC0.out.mono ?_
    rintro e w2 ⟨rfl, g2⟩
    have G2 := Lib.hid (show GT base w w2 from GT.of0 (gb_trans A0.out g2))
    have R2 := Lib.hid (R1.out.keep0 g2)
    clear g2
    go_wp2
    go_ret
    exact ⟨rfl, G2.out, V, R2.out⟩
end Go.Proofs.Ytgknooblnpmloaa
