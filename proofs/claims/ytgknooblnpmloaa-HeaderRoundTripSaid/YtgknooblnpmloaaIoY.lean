/- The walks of bitio's writer: NewWriter, WriteBits, Len, Bytes; no condition but sizes within 60000. -/
import Derived.Test.YtgknooblnpmloaaIoX
namespace Go.Proofs.Ytgknooblnpmloaa
open Go.RowKit

/-- A writer in memory. -/
structure Wtr (w : World) (base r s : Nat) (V : Value) (L : List Bool) : Prop where
  wb : IsB w r 77 #[.pointer (some ⟨s, 0, none⟩)]
  st : WSt w base s V L
theorem Wtr.keep0 {w w2 : World} {base r s : Nat} {V : Value} {L : List Bool} (h : Wtr w base r s V L) (k : w.grownBy w2 none) : Wtr w2 base r s V L :=
  ⟨h.wb.keep0 k, ⟨h.st.sb.keep0 k, own_keep0 h.st.own k, h.st.low⟩⟩
/-- The call returns an error code, and the writer holds these bits. -/
def WrQ (err : Int) (w : World) (base r s : Nat) (L : List Bool) (e : Ending) (w' : World) : Prop := e = .returned (.int .i64 err) ∧ GT base w w' ∧ ∃ V, Wtr w' base r s V L

/-- Bit i of the n bits of v, the most significant one first. -/
def vb (v : Int) (n i : Nat) : Bool := decide (v / 2 ^ (n - 1 - i) % 2 = 1)
def bitsOf (v : Int) (n : Nat) : List Bool := (List.range n).map (vb v n)
theorem bitsOf_len (v : Int) (n : Nat) : (bitsOf v n).length = n := by simp [bitsOf]
theorem bitsOf_take (v : Int) (n k : Nat) (h : k < n) : (bitsOf v n).take (k + 1) = (bitsOf v n).take k ++ [vb v n k] := by
  rw [List.take_succ_eq_append_getElem (by simpa [bitsOf] using h)]
  simp [bitsOf]
def b2i (b : Bool) : Int := if b then 1 else 0
theorem bit_call (w : World) (base s : Nat) (V : Value) (L : List Bool) (b : Bool) (h : WSt w base s V L) (hbase : base ≤ w.heap.size) (hn : L.length ≤ 60000) :
    Calls Try.prog 47 #[.pointer (some ⟨s, 0, none⟩), .int .u8 (b2i b)] w (Bit w base s (L ++ [b])) := bit_any w base s V L b h hbase hn
theorem vb_eq (v : Int) (n k : Nat) (h0 : 0 ≤ v) (h1 : v < 4294967296) : IntKind.u8.wrap (bits .and .u32 (v / 2 ^ (n - 1 - k)) 1) = b2i (vb v n k) := by
  have r := shr_range v (n - 1 - k) h0 h1
  rw [one_bit _ r.1 r.2, IntKind.wrap_u8]
  unfold vb b2i
  by_cases e : v / 2 ^ (n - 1 - k) % 2 = 1
  · simp [e]
  · simp [e]; omega

theorem wmade_yes (w : World) (r : Nat) (a : Addr) (h : IsB w r 77 #[.pointer (some a)]) :
    Calls Try.prog 45 #[.pointer (some ⟨r, 0, none⟩)] w fun e w' => e = .returned (.bool true) ∧ w = w' := by
  have c0 : w.cell? ⟨r, 0, none⟩ = some (.pointer (some a)) := h.cell 0
  go_enter Try.func45, Try.ntmps45
  go_wp2
  go_ret
  exact ⟨rfl, rfl⟩
theorem wmade_nil (w : World) : Calls Try.prog 45 #[.pointer none] w fun e w' => e = .returned (.bool false) ∧ w = w' := by
  go_enter Try.func45, Try.ntmps45
  go_wp2
  go_ret
  exact ⟨rfl, rfl⟩
theorem wmade_raw (w : World) (r : Nat) (h : IsB w r 77 #[.pointer none]) :
    Calls Try.prog 45 #[.pointer (some ⟨r, 0, none⟩)] w fun e w' => e = .returned (.bool false) ∧ w = w' := by
  have c0 : w.cell? ⟨r, 0, none⟩ = some (.pointer none) := h.cell 0
  go_enter Try.func45, Try.ntmps45
  go_wp2
  go_ret
  exact ⟨rfl, rfl⟩
theorem newWriter_any (w : World) : Calls Try.prog 25 #[] w fun e w' => e = .returned (.pointer (some ⟨w.heap.size + 1, 0, none⟩)) ∧ w.grownBy w' none ∧ Wtr w' w.heap.size (w.heap.size + 1) w.heap.size (.slice none 0 0) [] := by
  go_enter Try.func25, Try.ntmps25
  go_wp2
  go_ret
  have e : (w.alloc (.cells #[.slice none 0 0, .int .i64 0] 90)).heap.size = w.heap.size + 1 := by simp
  refine ⟨rfl, gb_trans (gb_alloc _ _ _) (gb_alloc _ _ _), ⟨?_, ⟨(IsB.new w _ _).alloc _, World.ownsRow_nil _ _ _ _, Nat.le_refl _⟩⟩⟩
  have k := IsB.new (w.alloc (.cells #[.slice none 0 0, .int .i64 0] 90)) 77 #[.pointer (some ⟨w.heap.size, 0, none⟩)]
  rw [e] at k; exact k
theorem wr_nil (w : World) (v n : Int) : Calls Try.prog 27 #[.pointer none, .int .u32 v, .int .i64 n] w (RetQ (.int .i64 1) w none fun _ => True) := by
  go_enter Try.func27, Try.ntmps27
  go_wp2_with (go_at_call 45; refine (wmade_nil _).mono ?_; rintro e w' ⟨rfl, rfl⟩)
  go_ret
  exact ⟨rfl, gb_refl _ _, trivial⟩
theorem wr_raw (w : World) (r : Nat) (v n : Int) (h : IsB w r 77 #[.pointer none]) : Calls Try.prog 27 #[.pointer (some ⟨r, 0, none⟩), .int .u32 v, .int .i64 n] w (RetQ (.int .i64 1) w none fun _ => True) := by
  go_enter Try.func27, Try.ntmps27
  go_wp2_with (go_at_call 45; refine (wmade_raw _ _ h).mono ?_; rintro e w' ⟨rfl, rfl⟩)
  go_ret
  exact ⟨rfl, gb_refl _ _, trivial⟩
theorem wr_width (w : World) (base r s : Nat) (V : Value) (L : List Bool) (v n : Int) (h : Wtr w base r s V L) (hv : okW n = false) :
    Calls Try.prog 27 #[.pointer (some ⟨r, 0, none⟩), .int .u32 v, .int .i64 n] w (WrQ 10 w base r s L) := by
  have hm := (iovalid_any n w)
  rw [hv] at hm
  have HM := Lib.hid hm
  clear hm hv
  go_enter Try.func27, Try.ntmps27
  go_wp2_with fail
  refine (wmade_yes _ _ _ h.wb).mono ?_
  rintro e w1 ⟨rfl, rfl⟩
  go_wp2_with fail
  refine HM.out.mono ?_
  rintro e w2 ⟨rfl, g2, _⟩
  have h3 := h.keep0 g2
  go_wp2
  go_ret
  exact ⟨rfl, GT.of0 g2, V, h3⟩
theorem wr_range (w : World) (base r s : Nat) (V : Value) (L : List Bool) (v n : Int) (h : Wtr w base r s V L) (hv : okW n = true) (hf : fitsB v n = false) :
    Calls Try.prog 27 #[.pointer (some ⟨r, 0, none⟩), .int .u32 v, .int .i64 n] w (WrQ 9 w base r s L) := by
  have hm := (iovalid_any n w)
  rw [hv] at hm
  have HM := Lib.hid hm
  have HF := Lib.hid hf
  clear hm hv hf
  go_enter Try.func27, Try.ntmps27
  go_wp2_with fail
  refine (wmade_yes _ _ _ h.wb).mono ?_
  rintro e w1 ⟨rfl, rfl⟩
  go_wp2_with fail
  refine HM.out.mono ?_
  rintro e w2 ⟨rfl, g2, _⟩
  go_wp2_with fail
  refine (fits_any v n _).mono ?_
  rintro e w5 hr; obtain ⟨rfl, g5⟩ := ret_to (by rw [HF.out]) hr; clear hr
  have g6 := gb_trans g2 (gb_gr g5 none)
  have h3 := h.keep0 g6
  go_wp2
  go_ret
  exact ⟨rfl, GT.of0 g6, V, h3⟩
set_option maxRecDepth 100000 in
theorem wr_ok (w : World) (base r s : Nat) (V : Value) (L : List Bool) (v n : Int) (h : Wtr w base r s V L) (hbase : base ≤ w.heap.size) (hn : L.length ≤ 50000) (h1 : 1 ≤ n) (h2 : n ≤ 32) (hf : fitsB v n = true) (k0 : 0 ≤ v) (k1 : v < 4294967296) :
    Calls Try.prog 27 #[.pointer (some ⟨r, 0, none⟩), .int .u32 v, .int .i64 n] w (WrQ 0 w base r s (L ++ bitsOf v n.toNat)) := by
  have hm := (iovalid_any n w)
  rw [show okW n = true by simp [okW, h1, h2]] at hm
  have HM := Lib.hid hm
  have HF := Lib.hid hf
  clear hm hf
  go_enter Try.func27, Try.ntmps27
  go_wp2_with fail
  refine (wmade_yes _ _ _ h.wb).mono ?_
  rintro e w1 ⟨rfl, rfl⟩
  go_wp2_with fail
  refine HM.out.mono ?_
  rintro e w2 ⟨rfl, g2, _⟩
  go_wp2_with fail
  refine (fits_any v n _).mono ?_
  rintro e w5 hr; obtain ⟨rfl, g5⟩ := ret_to (by rw [HF.out]) hr; clear hr
  have g6 := gb_trans g2 (gb_gr g5 none)
  have h3 := h.keep0 g6
  have HG := Lib.hid (show GT base w w5 from GT.of0 g6)
  clear g5 g2 g6
  go_wp2_with fail
  go_loopw [7, 19] (fun _ i wr => ∃ k : Nat, k ≤ n.toNat ∧ i = .int .i64 k ∧ (∃ V, Wtr wr base r s V (L ++ (bitsOf v n.toNat).take k)) ∧ GT base w wr) (fun _ i _ => n.toNat - (intOf i).toNat)
  case atStart => exact ⟨0, Nat.zero_le _, rfl, ⟨V, by simpa using h3⟩, HG.out⟩
  case round =>
    obtain ⟨k, hk, rfl, ⟨V2, hr⟩, hg⟩ := hrel
    clear h3 h
    by_cases hlt : (k : Int) < n
    · have c5 : wr.cell? ⟨r, 0, none⟩ = some (.pointer (some ⟨s, 0, none⟩)) := hr.wb.cell 0
      have HS := Lib.hid (bitsOf_take v n.toNat k (by omega))
      have HV := Lib.hid (vb_eq v n.toNat k k0 k1)
      have HR := Lib.hid hr
      have HH := Lib.hid hg
      have HZ := Lib.hid (show base ≤ wr.heap.size by have := hg.size; omega)
      have HL := Lib.hid (show (L ++ (bitsOf v n.toNat).take k).length ≤ 60000 by rw [List.length_append, List.length_take, bitsOf_len]; omega)
      clear hr hg hbase
      go_wp2
      have e1 : IntKind.i64.wrap (n - 1) = n - 1 := IntWalk.i64_in _ (by omega)
      have e2 : IntKind.i64.wrap (n - 1 - (k : Int)) = n - 1 - (k : Int) := IntWalk.i64_in _ (by omega)
      have e3 : 0 ≤ n - 1 - (k : Int) := by omega
      have e4 : (n - 1 - (k : Int)).toNat = n.toNat - 1 - k := by omega
      go_still_tail 12, (by kernel_rfl)
      clear e1 e2 e3 e4
      change wpList _ _ _ _ _ wr.drew
      rw [HV.out]
      have hw : WSt wr.drew base s V2 (L ++ (bitsOf v n.toNat).take k) := ⟨HR.out.st.sb, HR.out.st.own.drew, HR.out.st.low⟩
      have hb2 : IsB wr.drew r 77 #[.pointer (some ⟨s, 0, none⟩)] := HR.out.wb
      have hg2 : GT base w wr.drew := HH.out.trans (GT.of0 (gb_drew _ none))
      have hz2 : base ≤ wr.drew.heap.size := HZ.out
      clear c5 HR HH HZ
      generalize wr.drew = w3 at *
      have HW := Lib.hid hw
      have HB2 := Lib.hid hb2
      have HG2 := Lib.hid hg2
      clear hw hb2 hg2
      go_wp2_with fail
      refine (bit_call w3 base s V2 _ (vb v n.toNat k) HW.out hz2 HL.out).mono ?_
      rintro e w4 ⟨rfl, q1, V3, q2⟩
      have Q1 := Lib.hid q1
      have Q2 := Lib.hid q2
      clear q1 q2
      go_wp2
      go_roundw
      case rel =>
        refine ⟨k + 1, by omega, by go_num, ⟨V3, Q1.out.kind _ _ _ HB2.out (by decide) (by decide), ?_⟩, HG2.out.trans Q1.out⟩
        rw [HS.out, ← List.append_assoc]; exact Q2.out
      case measure => simp [intOf]; omega
    · have EK := Lib.hid (show k = n.toNat by omega)
      go_wp2
      go_ret
      refine ⟨rfl, hg, V2, ?_⟩
      rw [EK.out, List.take_of_length_le (by rw [bitsOf_len]; exact Nat.le_refl _)] at hr
      exact hr
end Go.Proofs.Ytgknooblnpmloaa
