/- Header: a writer's footprint: what WriteBits changes beside new memory is the writer's state and its bytes; the walks of the bit and of WriteBits anew; no condition but sizes. -/
import Derived.Test.YtgknooblnpmloaaHdK
import Derived.Maps.AppendAt
namespace Go.Proofs.Ytgknooblnpmloaa
open Go.RowKit
set_option linter.unusedVariables false

/-- Changed are at most the state's block and the bytes' block; the bytes lie where they lay, or in a new block. -/
structure GS (s : Nat) (V : Value) (w : World) (V' : Value) (w' : World) : Prop where
  size : w.heap.size ≤ w'.heap.size
  block : ∀ k, k < w.heap.size → k ≠ s → V.ownBlock ≠ some k → w'.heap[k]? = w.heap[k]?
  own : V'.ownBlock = V.ownBlock ∨ ∀ g, V'.ownBlock = some g → w.heap.size ≤ g
theorem GS.refl (s : Nat) (V : Value) (w : World) : GS s V w V w := ⟨Nat.le_refl _, fun _ _ _ _ => rfl, .inl rfl⟩
theorem GS.trans {s : Nat} {A B C : Value} {a b c : World} (h : GS s A a B b) (k : GS s B b C c) : GS s A a C c := by
  refine ⟨Nat.le_trans h.size k.size, fun i hi h1 h2 => ?_, ?_⟩
  · refine (k.block i (Nat.lt_of_lt_of_le hi h.size) h1 ?_).trans (h.block i hi h1 h2)
    rcases h.own with e | e
    · rw [e]; exact h2
    · intro q; have := e i q; omega
  · rcases k.own with e | e
    · rw [e]; exact h.own
    · exact .inr fun g q => Nat.le_trans h.size (e g q)
theorem GS.of0 {s : Nat} {V : Value} {w w2 : World} (k : w.grownBy w2 none) : GS s V w V w2 := ⟨k.size, fun i hi _ _ => k.block i hi (by simp), .inl rfl⟩
theorem GS.ofS {s : Nat} {V V' : Value} {w w2 : World} (k : w.grownBy w2 (some s)) (h : V'.ownBlock = V.ownBlock) : GS s V w V' w2 := ⟨k.size, fun i hi h1 _ => k.block i hi (by intro e; injection e with e; exact h1 e), .inl h⟩
theorem GS.ofV {s : Nat} {V V' : Value} {w w2 : World} (k : w.grownBy w2 V.ownBlock) (h : V'.ownBlock = V.ownBlock ∨ V'.ownBlock = some w.heap.size) : GS s V w V' w2 :=
  ⟨k.size, fun i hi _ h2 => k.block i hi (fun e => h2 e.symm), h.elim .inl fun e => .inr fun g q => by rw [e] at q; injection q with q; omega⟩
def BitS (w : World) (base s : Nat) (V : Value) (L : List Bool) (e : Ending) (w' : World) : Prop := e = .returned (.tuple #[]) ∧ GT base w w' ∧ ∃ V', WSt w' base s V' L ∧ GS s V w V' w'
def WrS (err : Int) (w : World) (base r s : Nat) (V : Value) (L : List Bool) (e : Ending) (w' : World) : Prop := e = .returned (.int .i64 err) ∧ GT base w w' ∧ ∃ V', Wtr w' base r s V' L ∧ GS s V w V' w'
theorem bitS_close {w : World} {base s g c n q : Nat} {L : List Bool} {b : Bool} {xs : List Value} {u : Value} (hb : IsB w s 90 #[.slice (some ⟨g, 0, none⟩) n c, .int .i64 L.length])
    (ho : w.ownsRow base 5 1 (.slice (some ⟨g, 0, none⟩) n c) n xs) (hlow : base ≤ s) (hx : xs.set q u = (packB (L ++ [b])).map (Value.int .u8)) (hn : n = (packB (L ++ [b])).length) :
    BitS w base s (.slice (some ⟨g, 0, none⟩) n c) (L ++ [b]) (.returned (.tuple #[])) ((w.setCell ⟨g, q, none⟩ u).setCell ⟨s, 1, none⟩ (.int .i64 ((L.length : Int) + 1))).drew := by
  subst hn
  have hgs : g ≠ s := by
    have k := own_ne ho hb (by decide)
    intro e; subst e; exact k rfl
  have hg := ho.lt g rfl
  obtain ⟨cur, hcur⟩ : ∃ cur, IsB w g 5 cur := by
    rcases ho.2 with ⟨h1, _⟩ | ⟨g2, cap, cur, h1, _, hh, _⟩
    · injection h1 with h1; cases h1
    · injection h1 with h1; injection h1 with h1; injection h1 with h1; subst h1; exact ⟨cur, hh⟩
  have s1 := (ho.stored q u).1
  have b1 : IsB (w.setCell ⟨g, q, none⟩ u) s 90 #[.slice (some ⟨g, 0, none⟩) (packB (L ++ [b])).length c, .int .i64 L.length] := hb.set_far (fun e => hgs e.symm) q u
  have b2 := b1.set 1 (.int .i64 ((L.length : Int) + 1))
  have s2 := own_keepS s1 (gb_set (w.setCell ⟨g, q, none⟩ u) s 1 (.int .i64 ((L.length : Int) + 1))) b1 (by decide)
  rw [hx] at s2
  refine ⟨rfl, ?_, .slice (some ⟨g, 0, none⟩) (packB (L ++ [b])).length c, ⟨?_, ?_, hlow⟩, ?_⟩
  · exact ((GT.ofRow (gb_set w g q u) hcur (.inl rfl) hg.1).trans (GT.ofRow (gb_set _ s 1 _) b1 (.inr rfl) hlow)).trans (GT.of0 (gb_drew _ none))
  · have k : IsB ((w.setCell ⟨g, q, none⟩ u).setCell ⟨s, 1, none⟩ (.int .i64 ((L.length : Int) + 1))).drew s 90 #[.slice (some ⟨g, 0, none⟩) (packB (L ++ [b])).length c, .int .i64 ((L.length : Int) + 1)] := b2
    simpa using k
  · exact s2.drew
  · exact ((GS.ofV (gb_set w g q u) (.inl rfl)).trans (GS.ofS (gb_set _ s 1 _) rfl)).trans (GS.of0 (gb_drew _ none))
theorem bitS_odd (w : World) (base s : Nat) (V : Value) (L : List Bool) (b : Bool) (h : WSt w base s V L) (hn : L.length ≤ 60000) (hr : L.length % 8 ≠ 0) :
    Calls Try.prog 47 #[.pointer (some ⟨s, 0, none⟩), .int .u8 (if b then 1 else 0)] w (BitS w base s V (L ++ [b])) := by
  obtain ⟨g, c, rfl⟩ := own_head h.own (by rw [packB_len]; omega)
  have hl := packB_len L
  have c0 : w.cell? ⟨s, 0, none⟩ = some (.slice (some ⟨g, 0, none⟩) (packB L).length c) := h.sb.cell 0
  have c1 : w.cell? ⟨s, 1, none⟩ = some (.int .i64 L.length) := h.sb.cell 1
  have f1 := h.sb.free 1
  have cd := own_cell h.own (L.length / 8) (by omega)
  rw [packB_get L _ (by omega)] at cd
  have fd := h.own.frozenAt (L.length / 8)
  have hgs : g ≠ s := by
    have := own_ne h.own h.sb (by decide)
    intro e; subst e; exact this rfl
  have hsg : s ≠ g := fun e => hgs e.symm
  have hq8 : ((L.length : Int) % 8 == 0) = false := by simp; omega
  have i1 : (L.length : Int) / 8 < (packB L).length := by omega
  have ro := byteAt_range L (L.length / 8)
  have HB := Lib.hid (byteAt_new L b)
  have HL := Lib.hid hl
  clear hl
  have hv : (0 : Int) ≤ (if b then 1 else 0) ∧ (if b then (1 : Int) else 0) ≤ 1 := by cases b <;> simp
  generalize (if b then (1 : Int) else 0) = v at *
  generalize byteAt L (L.length / 8) = old at *
  go_enter Try.func47, Try.ntmps47
  go_wp2
  go_region
  go_wp2
  go_end0
  have hw : v * 2 ^ (7 - L.length % 8) % 256 = v * 2 ^ (7 - L.length % 8) := by
    have hp := pow_pos' (7 - L.length % 8)
    have hp2 := pow_mono (7 - L.length % 8) 7 (by omega)
    have hv2 : v = 0 ∨ v = 1 := by omega
    rcases hv2 with e | e <;> rw [e] <;> simp at hp2 ⊢ <;> omega
  rw [hw, HB.out]
  refine bitS_close h.sb h.own h.low ?_ ?_
  · rw [packB_same L b hr, List.map_set]
  · rw [packB_same L b hr, List.length_set]

theorem BitS.from {w w2 : World} {base s : Nat} {V V2 : Value} {L : List Bool} {e : Ending} {w' : World} (h : BitS w2 base s V2 L e w') (k : GT base w w2) (q : GS s V w V2 w2) : BitS w base s V L e w' := by
  obtain ⟨h1, h2, V', h3, h4⟩ := h
  exact ⟨h1, k.trans h2, V', h3, q.trans h4⟩
set_option maxHeartbeats 1000000 in
theorem bitS_even (w : World) (base s : Nat) (V : Value) (L : List Bool) (b : Bool) (h : WSt w base s V L) (hbase : base ≤ w.heap.size) (hn : L.length ≤ 60000) (hr : L.length % 8 = 0) :
    Calls Try.prog 47 #[.pointer (some ⟨s, 0, none⟩), .int .u8 (if b then 1 else 0)] w (BitS w base s V (L ++ [b])) := by
  obtain ⟨i0, hi, hz0, hz1, hz2⟩ := info_parts infoU8
  obtain ⟨a, c, rfl⟩ := own_shape h.own
  have hl := packB_len L
  have c0 : w.cell? ⟨s, 0, none⟩ = some (.slice a (packB L).length c) := h.sb.cell 0
  have c1 : w.cell? ⟨s, 1, none⟩ = some (.int .i64 L.length) := h.sb.cell 1
  have hq8 : ((L.length : Int) % 8 == 0) = true := by simp; omega
  have HB := Lib.hid (byteAt_new L b)
  rw [byteAt_none L hr] at HB
  have HL := Lib.hid hl
  have hl2 : (packB L).length * 8 ≤ L.length := by omega
  clear hl
  have hv : (0 : Int) ≤ (if b then 1 else 0) ∧ (if b then (1 : Int) else 0) ≤ 1 := by cases b <;> simp
  generalize (if b then (1 : Int) else 0) = v at *
  have bs1 := h.sb.alloc (.cells #[.int .u8 0] 5)
  have os1 := h.own.alloc (.cells #[.int .u8 0] 5)
  have hown0 : (Value.slice a (packB L).length c).ownBlock ≠ some s := own_ne h.own h.sb (by decide)
  go_enter Try.func47, Try.ntmps47
  go_wp2_with (at_builtin; refine wpList_append_own_at _ rfl _ _ 33 rfl base 5 i0 (.int .u8 0) 1 1 Try.underlying33 hi hz0 hz1 hz2 rfl (by decide) _ (packB L).length ((packB L).map (Value.int .u8)) rfl os1 ⟨w.heap.size, 0, none⟩ 1 1 [.int .u8 0] rfl rfl ?c1 ?c2 ?c3 ?c4 ?c5 ?_)
  case c1 =>
    intro j u hj
    match j, hj with
    | 0, hj => simp at hj; subst hj; simp [Addr.add]
  case c2 => intro u hu; simp at hu; subst hu; rfl
  case c3 => unfold maxLen; omega
  case c4 => omega
  case c5 => simp; omega
  · intro v' w1 hown hgrow _ hat
    obtain ⟨g, cc, rfl⟩ := own_head hown (by omega)
    have bs2 := bs1.keep hgrow (fun e => hown0 e.symm)
    have k0 : GT base w (w.alloc (.cells #[.int .u8 0] 5)) := GT.of0 (gb_alloc _ _ none)
    have k1 : GT base (w.alloc (.cells #[.int .u8 0] 5)) w1 := GT.ofOwn hgrow os1
    have bs3 := bs2.set 0 (.slice (some ⟨g, 0, none⟩) ((packB L).length + 1) cc)
    have os3 := own_keepS hown (gb_set w1 s 0 (.slice (some ⟨g, 0, none⟩) ((packB L).length + 1) cc)) bs2 (by decide)
    have k2 : GT base w1 (w1.setCell ⟨s, 0, none⟩ (.slice (some ⟨g, 0, none⟩) ((packB L).length + 1) cc)) := GT.ofRow (gb_set w1 s 0 _) bs2 (.inr rfl) h.low
    have K := Lib.hid ((k0.trans k1).trans k2)
    have KQ := Lib.hid (((GS.of0 (gb_alloc _ _ none)).trans (GS.ofV hgrow (by simpa using hat))).trans (GS.ofS (V' := .slice (some ⟨g, 0, none⟩) ((packB L).length + 1) cc) (gb_set w1 s 0 (.slice (some ⟨g, 0, none⟩) ((packB L).length + 1) cc)) rfl))
    have fs := bs2.free 0
    have cs0 : w1.cell? ⟨s, 0, none⟩ = some (.slice a (packB L).length c) := bs2.cell 0
    clear k0 k1 k2 hown hgrow hat hown0 c0 c1 bs1 bs2 os1 hi hz0 hz1 hz2
    go_wp2
    clear fs cs0
    have bs4 : IsB (w1.setCell ⟨s, 0, none⟩ (.slice (some ⟨g, 0, none⟩) ((packB L).length + 1) cc)) s 90 #[.slice (some ⟨g, 0, none⟩) ((packB L).length + 1) cc, .int .i64 L.length] := bs3
    clear bs3
    generalize w1.setCell ⟨s, 0, none⟩ (.slice (some ⟨g, 0, none⟩) ((packB L).length + 1) cc) = w2 at *
    have c0 : w2.cell? ⟨s, 0, none⟩ = some (.slice (some ⟨g, 0, none⟩) ((packB L).length + 1) cc) := bs4.cell 0
    have c1 : w2.cell? ⟨s, 1, none⟩ = some (.int .i64 L.length) := bs4.cell 1
    have f1 := bs4.free 1
    have el : (packB L).length = L.length / 8 := by rw [HL.out]; omega
    have cd : w2.cell? ⟨g, L.length / 8, none⟩ = some (.int .u8 0) := by
      rw [os3.cellAt (L.length / 8) (by omega), ← el]; simp
    have fd := os3.frozenAt (L.length / 8)
    have hgs : g ≠ s := by
      have k := own_ne os3 bs4 (by decide)
      intro e; subst e; exact k rfl
    have hsg : s ≠ g := fun e => hgs e.symm
    have i1 : (L.length : Int) / 8 < (packB L).length + 1 := by omega
    have EL := Lib.hid el
    clear el
    go_region
    go_wp2
    go_end0
    have hw : v * 128 % 256 = v * 128 := by omega
    have hb2 : bits .or .u8 0 (v * 128) = byteAt (L ++ [b]) (L.length / 8) := by
      have k := HB.out
      rw [hr] at k
      exact k
    rw [hw, hb2]
    refine (bitS_close bs4 os3 h.low ?_ ?_).from K.out KQ.out
    · rw [packB_more L b hr, List.map_set, List.map_append]; rfl
    · rw [packB_more L b hr, List.length_set, List.length_append]; rfl
theorem bitS_any (w : World) (base s : Nat) (V : Value) (L : List Bool) (b : Bool) (h : WSt w base s V L) (hbase : base ≤ w.heap.size) (hn : L.length ≤ 60000) :
    Calls Try.prog 47 #[.pointer (some ⟨s, 0, none⟩), .int .u8 (if b then 1 else 0)] w (BitS w base s V (L ++ [b])) := by
  by_cases hr : L.length % 8 = 0
  · exact bitS_even w base s V L b h hbase hn hr
  · exact bitS_odd w base s V L b h hn hr
theorem bitS_call (w : World) (base s : Nat) (V : Value) (L : List Bool) (b : Bool) (h : WSt w base s V L) (hbase : base ≤ w.heap.size) (hn : L.length ≤ 60000) :
    Calls Try.prog 47 #[.pointer (some ⟨s, 0, none⟩), .int .u8 (b2i b)] w (BitS w base s V (L ++ [b])) := bitS_any w base s V L b h hbase hn
set_option maxRecDepth 100000 in
theorem wrS_ok (w : World) (base r s : Nat) (V : Value) (L : List Bool) (v n : Int) (h : Wtr w base r s V L) (hbase : base ≤ w.heap.size) (hn : L.length ≤ 50000) (h1 : 1 ≤ n) (h2 : n ≤ 32) (hf : fitsB v n = true) (k0 : 0 ≤ v) (k1 : v < 4294967296) :
    Calls Try.prog 27 #[.pointer (some ⟨r, 0, none⟩), .int .u32 v, .int .i64 n] w (WrS 0 w base r s V (L ++ bitsOf v n.toNat)) := by
  have hm := (iovalid_any n w)
  rw [show okW n = true by simp [okW, h1, h2]] at hm
  have HM := Lib.hid hm
  have HF := Lib.hid hf
  clear hm hf
  go_enter Try.func27, Try.ntmps27
  go_wp2_with fail
  refine (wmade_yes _ _ _ h.wb).mono ?_
  rintro e w1 ⟨rfl, rfl⟩
  go_wp2_with fail
  refine HM.out.mono ?_
  rintro e w2 ⟨rfl, g2, _⟩
  go_wp2_with fail
  refine (fits_any v n _).mono ?_
  rintro e w5 hr; obtain ⟨rfl, g5⟩ := ret_to (by rw [HF.out]) hr; clear hr
  have g6 := gb_trans g2 (gb_gr g5 none)
  have h3 := h.keep0 g6
  have HG := Lib.hid (show GT base w w5 from GT.of0 g6)
  have HGS := Lib.hid (show GS s V w V w5 from GS.of0 g6)
  clear g5 g2 g6
  go_wp2_with fail
  go_loopw [7, 19] (fun _ i wr => ∃ k : Nat, k ≤ n.toNat ∧ i = .int .i64 k ∧ (∃ V2, Wtr wr base r s V2 (L ++ (bitsOf v n.toNat).take k) ∧ GS s V w V2 wr) ∧ GT base w wr) (fun _ i _ => n.toNat - (intOf i).toNat)
  case atStart => exact ⟨0, Nat.zero_le _, rfl, ⟨V, by simpa using h3, HGS.out⟩, HG.out⟩
  case round =>
    obtain ⟨k, hk, rfl, ⟨V2, hr, hgs⟩, hg⟩ := hrel
    clear h3 h
    by_cases hlt : (k : Int) < n
    · have c5 : wr.cell? ⟨r, 0, none⟩ = some (.pointer (some ⟨s, 0, none⟩)) := hr.wb.cell 0
      have HS := Lib.hid (bitsOf_take v n.toNat k (by omega))
      have HV := Lib.hid (vb_eq v n.toNat k k0 k1)
      have HR := Lib.hid hr
      have HH := Lib.hid hg
      have HZ := Lib.hid (show base ≤ wr.heap.size by have := hg.size; omega)
      have HL := Lib.hid (show (L ++ (bitsOf v n.toNat).take k).length ≤ 60000 by rw [List.length_append, List.length_take, bitsOf_len]; omega)
      have HS2 := Lib.hid (show GS s V w V2 wr.drew from hgs.trans (GS.of0 (gb_drew _ none)))
      clear hr hg hbase hgs
      go_wp2
      have e1 : IntKind.i64.wrap (n - 1) = n - 1 := IntWalk.i64_in _ (by omega)
      have e2 : IntKind.i64.wrap (n - 1 - (k : Int)) = n - 1 - (k : Int) := IntWalk.i64_in _ (by omega)
      have e3 : 0 ≤ n - 1 - (k : Int) := by omega
      have e4 : (n - 1 - (k : Int)).toNat = n.toNat - 1 - k := by omega
      go_still_tail 12, (by kernel_rfl)
      clear e1 e2 e3 e4
      change wpList _ _ _ _ _ wr.drew
      rw [HV.out]
      have hw : WSt wr.drew base s V2 (L ++ (bitsOf v n.toNat).take k) := ⟨HR.out.st.sb, HR.out.st.own.drew, HR.out.st.low⟩
      have hb2 : IsB wr.drew r 77 #[.pointer (some ⟨s, 0, none⟩)] := HR.out.wb
      have hg2 : GT base w wr.drew := HH.out.trans (GT.of0 (gb_drew _ none))
      have hz2 : base ≤ wr.drew.heap.size := HZ.out
      clear c5 HR HH HZ
      generalize wr.drew = w3 at *
      have HW := Lib.hid hw
      have HB2 := Lib.hid hb2
      have HG2 := Lib.hid hg2
      clear hw hb2 hg2
      go_wp2_with fail
      refine (bitS_call w3 base s V2 _ (vb v n.toNat k) HW.out hz2 HL.out).mono ?_
      rintro e w4 ⟨rfl, q1, V3, q2, q3⟩
      have Q1 := Lib.hid q1
      have Q2 := Lib.hid q2
      have Q3 := Lib.hid (HS2.out.trans q3)
      clear q1 q2 q3 HS2
      go_wp2
      go_roundw
      case rel =>
        refine ⟨k + 1, by omega, by go_num, ⟨V3, ⟨Q1.out.kind _ _ _ HB2.out (by decide) (by decide), ?_⟩, Q3.out⟩, HG2.out.trans Q1.out⟩
        rw [HS.out, ← List.append_assoc]; exact Q2.out
      case measure => simp [intOf]; omega
    · have EK := Lib.hid (show k = n.toNat by omega)
      go_wp2
      go_ret
      refine ⟨rfl, hg, V2, ?_, hgs⟩
      rw [EK.out, List.take_of_length_le (by rw [bitsOf_len]; exact Nat.le_refl _)] at hr
      exact hr
end Go.Proofs.Ytgknooblnpmloaa
