/- Laws on checksums and records: the walks of ChecksumCancels, ChecksumDetects, ChecksumCommutes, ChecksumReframes; no condition. -/
import Derived.Test.YtplhhjbmegaiiaaChG
namespace Go.Proofs.Ytplhhjbmegaiiaa
open Go.RowKit
set_option linter.unusedVariables false

theorem BL.put {w : World} {base g n c : Nat} {L : List Int} (h : BL w base (.slice (some ⟨g, 0, none⟩) n c) L) (hn : n = L.length) (p : Nat) (v : Int) :
    BL (w.setCell ⟨g, p, none⟩ (.int .u8 v)) base (.slice (some ⟨g, 0, none⟩) n c) (L.set p v) := by
  subst hn
  have k := (World.ownsRow.stored h p (.int .u8 v)).1
  unfold BL
  rw [List.map_set, List.length_set]
  exact k
theorem BL.free {w : World} {base g n c : Nat} {L : List Int} (h : BL w base (.slice (some ⟨g, 0, none⟩) n c) L) (hn : n = L.length) (p : Nat) : w.frozen? ⟨g, p, none⟩ = false := by
  subst hn
  obtain ⟨cs, hb⟩ := own_blk h
  exact hb.free p
theorem BL.at_ {w : World} {base g n c : Nat} {L : List Int} (h : BL w base (.slice (some ⟨g, 0, none⟩) n c) L) (hn : n = L.length) (p : Nat) (hp : p < L.length) : w.cell? ⟨g, p, none⟩ = some (.int .u8 (L.getD p 0)) := by
  subst hn
  exact own_cell h p hp
theorem BL.low {w : World} {base g n c : Nat} {L : List Int} (h : BL w base (.slice (some ⟨g, 0, none⟩) n c) L) : base ≤ g := (h.lt g rfl).1
theorem BL.headn {w : World} {base n : Nat} {V : Value} {L : List Int} (h : BL w base V L) (hn : n = L.length) (hp : 0 < n) : ∃ g c, V = .slice (some ⟨g, 0, none⟩) n c := by subst hn; exact own_head h hp
/-- A copy of the call's own, which it may change; beside it the world only grew. -/
def CW (W : World) (g n c : Nat) (L : List Int) (w : World) : Prop := BL w W.heap.size (.slice (some ⟨g, 0, none⟩) n c) L ∧ W.grownBy w none
theorem CW.put {W w : World} {g n c : Nat} {L : List Int} (h : CW W g n c L w) (hn : n = L.length) (p : Nat) (v : Int) : CW W g n c (L.set p v) (w.setCell ⟨g, p, none⟩ (.int .u8 v)) :=
  ⟨h.1.put hn p v, gb_new (gb_trans (gb_any h.2) (gb_set w g p _)) h.1.low⟩

set_option maxHeartbeats 1000000 in
theorem cancels_walk (a : Option Addr) (len cap : Nat) (z : List Int) (W : World) (h : IsRow .u8 W a len cap z) :
    Calls Try.prog 13 #[.slice a len cap] W (Holds W) := by
  have A1 := Lib.hid (arg_of h)
  have hl := (arg_of h).len
  clear h
  generalize z.take len = bs at *
  subst hl
  by_cases hc : bs.length ≤ 4000
  · by_cases he : bs.length % 2 = 1
    · have he' : (bs.length : Int) % 2 = 1 := by omega
      go_enter Try.func13, Try.ntmps13
      go_wp2_with fail
      refine (awake_any _).mono ?_
      rintro e w4 ⟨rfl, g4, _⟩
      go_wp2
      go_ret
      exact ⟨rfl, below_of g4⟩
    · have he2 : ((bs.length : Int) % 2 == 1) = false := by rw [beq_eq_false_iff_ne]; omega
      have he4 : ¬ bs.length % 2 = 1 := he
      have hr := inet_range A1.out.rng
      obtain ⟨c, hcv⟩ : ∃ c, c = inet bs := ⟨_, rfl⟩
      have HC := Lib.hid hcv
      have h1 := inet_any W a _ cap bs A1.out.slr A1.out.rng (by omega)
      rw [← hcv] at hr h1
      have H1 := Lib.hid h1
      clear hcv h1
      have ew : IntKind.u16.wrap (c.tdiv 256) = c / 256 := by
        rw [Int.tdiv_eq_ediv_of_nonneg hr.1]
        simp [IntKind.wrap, IntKind.bits, IntKind.signed]
        omega
      have e1 : c / 256 % 256 = c / 256 := by omega
      go_enter Try.func13, Try.ntmps13
      go_wp2_with fail
      refine H1.out.mono ?_
      rintro e w1 ⟨rfl, g1, _⟩
      have G1 := Lib.hid g1
      have H2 := Lib.hid (join_any _ a _ _ 2 cap 2 bs [c / 256, c % 256] ((A1.out.slr.keep0 G1.out).keep0 (gb_alloc w1 (.cells #[.int .u8 (c / 256), .int .u8 (c % 256)] 5) none)) (slr_two w1 .u8 (c / 256) (c % 256) 5 _ rfl) (by omega) (by simp))
      clear g1 H1
      go_wp2_with fail
      refine H2.out.mono ?_
      rintro e w2 ⟨V2, rfl, o2, g2⟩
      obtain ⟨R, hR⟩ : ∃ R, R = bs ++ [c / 256, c % 256] := ⟨_, rfl⟩
      rw [← hR] at o2
      have HRL : R.length = bs.length + 2 := by rw [hR]; simp
      obtain ⟨a2, c2, rfl⟩ := o2.shape
      have G2 := Lib.hid (gb_trans G1.out (gb_trans (gb_alloc w1 _ none) g2))
      have h3 := inet_any w2 a2 _ c2 R o2.slr (by
        rw [hR]
        refine app_range A1.out.rng ?_
        intro x hx
        simp at hx
        omega) (by omega)
      rw [show inet R = 0 by rw [hR, HC.out]; exact inet_cancels A1.out.rng (by omega)] at h3
      have H3 := Lib.hid h3
      clear g2 o2 h3 H2 G1 hR HRL
      go_wp2_with fail
      refine H3.out.mono ?_
      rintro e w3 ⟨rfl, g3, _⟩
      have G3 := Lib.hid (gb_trans G2.out g3)
      clear g3 H3 G2
      go_wp2_with fail
      refine (awake_any _).mono ?_
      rintro e w4 ⟨rfl, g4, _⟩
      have G4 := Lib.hid (gb_trans G3.out g4)
      clear g4
      go_wp2
      go_ret
      exact ⟨rfl, below_of G4.out⟩
  · go_enter Try.func13, Try.ntmps13
    go_wp2_with fail
    refine (awake_any _).mono ?_
    rintro e w4 ⟨rfl, g4, _⟩
    go_wp2
    go_ret
    exact ⟨rfl, below_of g4⟩

theorem xor8 (h b : Int) (h0 : 0 ≤ h) (h1 : h ≤ 255) (b0 : 0 ≤ b) (b1 : b ≤ 255) : bits .xor .u8 h b = fxor h b ∧ 0 ≤ fxor h b ∧ fxor h b ≤ 255 := by
  have hx : h.toNat ^^^ b.toNat < 2 ^ 8 := Nat.xor_lt_two_pow (by omega) (by omega)
  have ea : h = (h.toNat : Int) := by omega
  have eb : b = (b.toNat : Int) := by omega
  have h1' : (BitVec.ofInt 8 (h.toNat : Int)).toNat = h.toNat := by
    rw [BitVec.ofInt_natCast, BitVec.toNat_ofNat]; exact Nat.mod_eq_of_lt (by omega)
  have h2' : (BitVec.ofInt 8 (b.toNat : Int)).toNat = b.toNat := by
    rw [BitVec.ofInt_natCast, BitVec.toNat_ofNat]; exact Nat.mod_eq_of_lt (by omega)
  have k : bits .xor .u8 (h.toNat : Int) (b.toNat : Int) = ((h.toNat ^^^ b.toNat : Nat) : Int) := by
    show IntKind.u8.wrap ((BitVec.ofInt 8 (h.toNat : Int) ^^^ BitVec.ofInt 8 (b.toNat : Int)).toNat : Int) = _
    rw [BitVec.toNat_xor, h1', h2']
    exact wraps_u8 _ (by omega) (by omega)
  rw [← ea, ← eb] at k
  refine ⟨k, ?_, ?_⟩ <;> (unfold fxor; omega)
theorem fxor_ne (h b : Int) (h0 : 0 ≤ h) (b0 : 0 ≤ b) (hb : b ≠ 0) : fxor h b ≠ h := by
  intro e
  have e0 : fxor h 0 = h := by unfold fxor; simp; omega
  exact hb (fxor_inj_r b0 (Int.le_refl 0) (e.trans e0.symm))
set_option maxHeartbeats 1000000 in
theorem detects_walk (a : Option Addr) (len cap : Nat) (z : List Int) (k v : Int) (W : World) (h : IsRow .u8 W a len cap z) (hk : (Lit.int .i64 k).wf = true) (hv : (Lit.int .u8 v).wf = true) :
    Calls Try.prog 12 #[.slice a len cap, .int .i64 k, .int .u8 v] W (Holds W) := by
  have A1 := Lib.hid (arg_of h)
  have hl := (arg_of h).len
  have hv := u8_bd hv
  have hk := i64_bd hk
  clear h
  generalize z.take len = bs at *
  subst hl
  by_cases hc : bs.length ≤ 4000
  · go_enter Try.func12, Try.ntmps12
    go_wp2_with fail
    refine (frame_any W a _ cap bs A1.out.slr A1.out.rng (by omega)).mono ?_
    rintro e w1 ⟨V1, rfl, o1, g1⟩
    obtain ⟨R, hR⟩ : ∃ R, R = frm bs := ⟨_, rfl⟩
    rw [← hR] at o1
    have HR := Lib.hid hR
    have HLR := Lib.hid (show R.length = bs.length + 8 by rw [hR, frm_len])
    clear hR
    obtain ⟨a1, c1, rfl⟩ := o1.shapen (n := bs.length + 8) HLR.out.symm
    have G1 := Lib.hid g1
    have H2 := Lib.hid (join_any w1 a1 none _ 0 c1 0 R [] (o1.slrn HLR.out.symm) (slr_nil _) (by have := HLR.out; omega) (by simp))
    clear g1 o1
    go_wp2_with fail
    refine H2.out.mono ?_
    rintro e w2 ⟨V2, rfl, o2, g2⟩
    rw [List.append_nil] at o2
    have o2' : BL w2 W.heap.size V2 R := own_low o2 G1.out.size
    obtain ⟨g, c2, rfl⟩ := o2'.headn (n := bs.length + 8) HLR.out.symm (by omega)
    have C2 := Lib.hid (show CW W g (bs.length + 8) c2 R w2 from ⟨o2', gb_trans G1.out g2⟩)
    clear g2 o2 o2' H2 G1
    by_cases h4 : k < 4
    · go_wp2_with fail
      refine (awake_any _).mono ?_
      rintro e w4 ⟨rfl, g4, _⟩
      have G4 := Lib.hid (gb_trans C2.out.2 g4)
      clear g4
      go_wp2
      go_ret
      exact ⟨rfl, below_of G4.out⟩
    · by_cases h8 : (bs.length : Int) + 8 ≤ k
      · go_wp2_with fail
        refine (awake_any _).mono ?_
        rintro e w4 ⟨rfl, g4, _⟩
        have G4 := Lib.hid (gb_trans C2.out.2 g4)
        clear g4
        go_wp2
        go_ret
        exact ⟨rfl, below_of G4.out⟩
      · by_cases h0 : v = 0
        · subst h0
          go_wp2_with fail
          refine (awake_any _).mono ?_
          rintro e w4 ⟨rfl, g4, _⟩
          have G4 := Lib.hid (gb_trans C2.out.2 g4)
          clear g4
          go_wp2
          go_ret
          exact ⟨rfl, below_of G4.out⟩
        · have h0' : (v == 0) = false := by rw [beq_eq_false_iff_ne]; exact h0
          obtain ⟨p, rfl⟩ : ∃ p : Nat, k = p := ⟨k.toNat, by omega⟩
          have c0 := C2.out.1.at_ HLR.out.symm p (by have := HLR.out; omega)
          have f0 := C2.out.1.free HLR.out.symm p
          have HF := Lib.hid (frm_range A1.out.rng)
          have hx := getD_byte (bs := R) (by rw [HR.out]; exact HF.out) p
          have X8 := xor8 (R.getD p 0) v hx.1 hx.2 hv.1 hv.2
          have HX := Lib.hid (show unfR (R.set p (fxor (R.getD p 0) v)) = (24, [], 0) by
            have hne := fxor_ne (R.getD p 0) v hx.1 hv.1 h0
            rw [HR.out] at X8 hne ⊢
            exact unf_spoilt A1.out.rng (by omega) p (by omega) (by omega) _ X8.2.1 X8.2.2 hne)
          have RN := Lib.hid (set_range (L := R) (by rw [HR.out]; exact HF.out) p (fxor (R.getD p 0) v) X8.2.1 X8.2.2)
          have P1 := Lib.hid (C2.out.put HLR.out.symm p (fxor (R.getD p 0) v))
          have X9 := X8.1
          clear X8 C2
          generalize R.getD p 0 = x at *
          generalize fxor x v = y at *
          have i1 : (p : Int) < (bs.length : Int) + 8 := by omega
          have LS := Lib.hid (show bs.length + 8 = (R.set p y).length by rw [List.length_set]; exact HLR.out.symm)
          have H3 := Lib.hid (unframe_any _ _ _ c2 (R.set p y) (P1.out.1.slrn LS.out) RN.out (by have := LS.out; omega) (P1.out.1.capn LS.out))
          rw [HX.out] at H3
          go_wp2_with fail
          generalize w2.setCell ⟨g, p, none⟩ (.int .u8 y) = w3 at *
          refine H3.out.mono ?_
          rintro e w4 ⟨V4, rfl, o4, g4⟩
          obtain ⟨a4, c4, rfl⟩ := o4.shapen (n := 0) rfl
          have G4 := Lib.hid (gb_trans P1.out.2 g4)
          clear o4 g4 H3 P1 c0 f0
          go_wp2_with fail
          refine (awake_any _).mono ?_
          rintro e w5 ⟨rfl, g5, _⟩
          have G5 := Lib.hid (gb_trans G4.out g5)
          clear g5
          go_wp2
          go_ret
          exact ⟨rfl, below_of G5.out⟩
  · go_enter Try.func12, Try.ntmps12
    go_wp2_with fail
    refine (awake_any _).mono ?_
    rintro e w4 ⟨rfl, g4, _⟩
    go_wp2
    go_ret
    exact ⟨rfl, below_of g4⟩
end Go.Proofs.Ytplhhjbmegaiiaa
