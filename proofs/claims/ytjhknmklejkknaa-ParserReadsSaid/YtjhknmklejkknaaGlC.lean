/- Several texts in one: IoRa, IoRb, IoCp, IoRc, IoRd, IoRe, IoRg, IoRest. -/
import Derived.Test.YtjhknmklejkknaaGlB
import Derived.Test.YtjhknmklejkknaaFrame
import Derived.OwnWalk
import Derived.StillTailTactics
section
namespace Go.Proofs.Ytjhknmklejkknaa
open Go.RowKit
set_option linter.unusedVariables false

theorem rwid_any (w : Int) (W : World) : Calls Try.prog 84 #[.int .i64 w] W fun e w' => e = .returned (.bool (okW w)) ∧ W = w' := by
  by_cases h1 : 1 ≤ w
  · by_cases h2 : w ≤ 32
    · have HS := Lib.hid (show true = okW w by simp [okW, h1, h2])
      go_enter Try.func84, Try.ntmps84
      go_wp2
      go_ret
      exact ⟨ret_b HS.out, rfl⟩
    · have HS := Lib.hid (show false = okW w by simp [okW, h2])
      go_enter Try.func84, Try.ntmps84
      go_wp2
      go_ret
      exact ⟨ret_b HS.out, rfl⟩
  · have HS := Lib.hid (show false = okW w by simp [okW, h1])
    go_enter Try.func84, Try.ntmps84
    go_wp2
    go_ret
    exact ⟨ret_b HS.out, rfl⟩
theorem gb_set1 {w w2 : World} {g i : Nat} {u : Value} (G : w.grownBy w2 none) (h : w.heap.size ≤ g) : w.grownBy (w2.setCell ⟨g, i, none⟩ u) none :=
  gb_new (gb_trans (gb_any G) (gb_set w2 g i u)) h
theorem val_u {k : IntKind} {a b : Int} (h : a = b) : Value.int k a = .int k b := by rw [h]
end Go.Proofs.Ytjhknmklejkknaa
end
section
namespace Go.Proofs.Ytjhknmklejkknaa
open Go.RowKit
set_option linter.unusedVariables false

end Go.Proofs.Ytjhknmklejkknaa
end
section
namespace Go.Proofs.Ytjhknmklejkknaa
open Go.RowKit
set_option linter.unusedVariables false

/-- A store into a block of bytes that is not the reader's. -/
theorem Rdr.far {w : World} {base r s g i : Nat} {V : Value} {bs : List Int} {pos : Nat} {cs : Array Value} {u : Value} (h : Rdr w base r s V bs pos) (hg : IsB w g 5 cs) (hn : V.ownBlock ≠ some g) : Rdr (w.setCell ⟨g, i, none⟩ u) base r s V bs pos :=
  ⟨h.rb.keepS (gb_set w g i u) hg (by decide), h.sb.keepS (gb_set w g i u) hg (by decide), h.own.kept (gb_set w g i u) (.inr hn)⟩
theorem Wtr.far {w : World} {base r s g i : Nat} {V : Value} {L : List Bool} {cs : Array Value} {u : Value} (h : Wtr w base r s V L) (hg : IsB w g 5 cs) (hn : V.ownBlock ≠ some g) : Wtr (w.setCell ⟨g, i, none⟩ u) base r s V L :=
  ⟨h.wb.keepS (gb_set w g i u) hg (by decide), ⟨h.st.sb.keepS (gb_set w g i u) hg (by decide), h.st.own.kept (gb_set w g i u) (.inr hn), h.st.low⟩⟩
end Go.Proofs.Ytjhknmklejkknaa
end
section
namespace Go.Proofs.Ytjhknmklejkknaa
open Go.RowKit
set_option linter.unusedVariables false

def restR (bs : List Int) (pos : Nat) : Int × List Int := if pos % 8 = 0 then (0, bs.drop (pos / 8)) else (10, [])
/-- The call returns bytes of its own and an error code; the world only grows. -/
def RetEh (er : Int) (rb : List Int) (w : World) (e : Ending) (w' : World) : Prop :=
  ∃ v', e = .returned (.tuple #[v', .int .i64 er]) ∧ w.grownBy w' none ∧ w'.ownsRow w.heap.size 5 1 v' rb.length (rb.map (Value.int .u8))
theorem Rdr.low {w : World} {base base2 r s : Nat} {V : Value} {bs : List Int} {pos : Nat} (h : Rdr w base r s V bs pos) (hb : base2 ≤ base) : Rdr w base2 r s V bs pos := ⟨h.rb, h.sb, own_low h.own hb⟩

def RIn (W : World) (r s xb : Nat) (V : Value) (bs : List Int) (ax : Option Addr) (cx pos pos2 : Nat) (w : World) : Prop :=
  Rdr w W.heap.size r s V bs pos2 ∧ IsB w xb 122 #[.slice ax bs.length cx, .int .i64 pos] ∧ w.ownsRow W.heap.size 5 1 (.slice ax bs.length cx) bs.length (bs.map (Value.int .u8)) ∧ Below W.heap.size W w
theorem cell_grown {w w2 : World} {a : Addr} {v : Value} (h : w.cell? a = some v) (k : w.grownBy w2 none) : w2.cell? a = some v := by
  have hl : a.block < w.heap.size := by
    rcases Nat.lt_or_ge a.block w.heap.size with q | q
    · exact q
    · unfold World.cell? at h; rw [Array.getElem?_eq_none q] at h; simp at h
  have e := k.block a.block hl (by simp)
  unfold World.cell? at h ⊢
  rw [e]; exact h
theorem rin_grown {W w w2 : World} {r s xb : Nat} {V : Value} {bs : List Int} {ax : Option Addr} {cx pos pos2 : Nat} (h : RIn W r s xb V bs ax cx pos pos2 w) (k : w.grownBy w2 none) : RIn W r s xb V bs ax cx pos pos2 w2 :=
  ⟨h.1.keep0 k, h.2.1.keep0 k, own_keep0 h.2.2.1 k, h.2.2.2.grown k h.2.2.2.size (by intro k hk; cases hk)⟩

/-- What the round holds where it compares. -/
def Big (W : World) (r s xb : Nat) (V : Value) (bs : List Int) (ax : Option Addr) (cx pos : Nat) (v7 v8 : Value) (rb : List Int) (w : World) : Prop :=
  RIn W r s xb V bs ax cx pos pos w ∧ w.ownsRow W.heap.size 5 1 v7 rb.length (rb.map (Value.int .u8)) ∧ w.ownsRow W.heap.size 5 1 v8 rb.length (rb.map (Value.int .u8))
theorem Big.step {W w w2 : World} {r s xb : Nat} {V : Value} {bs : List Int} {ax : Option Addr} {cx pos : Nat} {v7 v8 : Value} {rb : List Int} (h : Big W r s xb V bs ax cx pos v7 v8 rb w) (k : w.grownBy w2 none) : Big W r s xb V bs ax cx pos v7 v8 rb w2 :=
  ⟨rin_grown h.1 k, own_keep0 h.2.1 k, own_keep0 h.2.2 k⟩
end Go.Proofs.Ytjhknmklejkknaa
end
section
namespace Go.Proofs.Ytjhknmklejkknaa
open Go.RowKit
set_option linter.unusedVariables false

theorem infoBoolh : (Try.prog.info? 4).map (fun i => (i.zero, i.size, i.bytes)) = some (some (.bool false), 1, 1) := by kernel_rfl
theorem bools_one (L : List Bool) : ∀ u ∈ L.map Value.bool, u.oneCell' = true := by
  intro u hu; obtain ⟨z, _, rfl⟩ := List.mem_map.1 hu; rfl
/-- A list of bits that is owned. -/
def BRow (w : World) (base : Nat) (v : Value) (L : List Bool) : Prop := w.ownsRow base 4 1 v L.length (L.map Value.bool)
/-- What the reference's WriteBits answers: a writer of these bits, the error code. -/
def RWr (er : Int) (base : Nat) (L : List Bool) (w : World) (e : Ending) (w' : World) : Prop :=
  ∃ v', e = .returned (.tuple #[.agg #[v'], .int .i64 er]) ∧ w.grownBy w' none ∧ BRow w' base v' L

theorem rnwr_any (w : World) : Calls Try.prog 26 #[] w (RetQ (.agg #[.slice none 0 0]) w none fun _ => True) := by
  have nb := IsB.new w 61 #[.slice none 0 0]
  have d0 : (w.alloc (.cells #[.slice none 0 0] 61)).cell? ⟨w.heap.size, 0, none⟩ = some (.slice none 0 0) := nb.cell 0
  go_enter Try.func26, Try.ntmps26
  go_wp2
  refine bodyPost_ret (v := .agg #[.slice none 0 0]) (by simp [results, Try.results26, go_sem]) rfl ⟨rfl, gb_alloc _ _ _, trivial⟩
theorem rwrite_width (w : World) (base : Nat) (a : Option Addr) (c : Nat) (L : List Bool) (v n : Int) (h : BRow w base (.slice a L.length c) L) (hv : okW n = false) :
    Calls Try.prog 54 #[.agg #[.slice a L.length c], .int .u32 v, .int .i64 n] w (RWr 10 base L w) := by
  have hwv := rwid_any n
  rw [hv] at hwv
  have HWV := Lib.hid hwv
  have H := Lib.hid h
  clear hwv hv h
  go_enter Try.func54, Try.ntmps54
  go_wp2_with (go_at_call 84; refine (HWV.out _).mono ?_; rintro e w' ⟨rfl, rfl⟩)
  refine bodyPost_ret (v := .tuple #[.agg #[.slice a L.length c], .int .i64 10]) (by simp [results, Try.results54, go_sem]) rfl ⟨_, rfl, gb_trans (gb_alloc _ _ _) (gb_alloc _ _ _), own_keep0 H.out (gb_trans (gb_alloc _ _ _) (gb_alloc _ _ _))⟩
theorem rwrite_range (w : World) (base : Nat) (a : Option Addr) (c : Nat) (L : List Bool) (v n : Int) (h : BRow w base (.slice a L.length c) L) (hv : okW n = true) (k0 : 0 ≤ v) (k1 : v < 4294967296) (hf : fitsB v n = false) :
    Calls Try.prog 54 #[.agg #[.slice a L.length c], .int .u32 v, .int .i64 n] w (RWr 9 base L w) := by
  have hwv := rwid_any n
  rw [hv] at hwv
  have hwf := rfits_anyh v n
  rw [hf] at hwf
  have HWV := Lib.hid hwv
  have HWF := Lib.hid hwf
  have H := Lib.hid h
  clear hwv hv h hwf hf
  go_enter Try.func54, Try.ntmps54
  go_wp2_with (first | (go_at_call 84; refine (HWV.out _).mono ?_; rintro e w' ⟨rfl, rfl⟩) | (go_at_call 85; refine (HWF.out _ k0 k1).mono ?_; rintro e w' ⟨rfl, rfl⟩))
  refine bodyPost_ret (v := .tuple #[.agg #[.slice a L.length c], .int .i64 9]) (by simp [results, Try.results54, go_sem]) rfl ⟨_, rfl, gb_trans (gb_alloc _ _ _) (gb_alloc _ _ _), own_keep0 H.out (gb_trans (gb_alloc _ _ _) (gb_alloc _ _ _))⟩

theorem bit_val (v : Int) (m k j : Nat) (hj : j + 1 + k = m) (k0 : 0 ≤ v) : ((v / 2 ^ j).tmod 2 == 1) = vb v m k := by
  unfold vb
  rw [show m - 1 - k = j by omega, Int.tmod_eq_emod_of_nonneg (Int.ediv_nonneg k0 (Int.le_of_lt (pow_pos' j)))]
  rfl
theorem gb_row {w w1 w2 : World} {e : TypeId} {size n : Nat} {v : Value} {xs : List Value} (G : w.grownBy w1 none) (k : w1.grownBy w2 v.ownBlock) (h : w1.ownsRow w.heap.size e size v n xs) : w.grownBy w2 none := by
  cases hq : v.ownBlock with
  | none => rw [hq] at k; exact gb_trans G k
  | some g => rw [hq] at k; exact gb_new (gb_trans (gb_any G) k) (h.lt g hq).1
set_option maxRecDepth 100000 in
set_option maxHeartbeats 1000000 in
theorem rwrite_ok (w : World) (base : Nat) (a : Option Addr) (c : Nat) (L : List Bool) (v n : Int) (h : BRow w base (.slice a L.length c) L) (hb : base ≤ w.heap.size) (hn : L.length ≤ 50000) (h1 : 1 ≤ n) (h2 : n ≤ 32) (k0 : 0 ≤ v) (k1 : v < 4294967296) (hf : fitsB v n = true) :
    Calls Try.prog 54 #[.agg #[.slice a L.length c], .int .u32 v, .int .i64 n] w (RWr 0 base (L ++ bitsOf v n.toNat) w) := by
  obtain ⟨i0, hi, hz0, hz1, hz2⟩ := info_parts infoBoolh
  have HW := Lib.hid (show okW n = true by simp [okW, h1, h2])
  have hwv := rwid_any n
  rw [HW.out] at hwv
  have hwf := rfits_anyh v n
  rw [hf] at hwf
  have HWV := Lib.hid hwv
  have HWF := Lib.hid hwf
  have H := Lib.hid h
  have HLEN := Lib.hid hn
  have HI := Lib.hid hi
  clear hwv h hwf hf hi
  cases a with
  | none =>
    obtain ⟨hL, hc0⟩ : L = [] ∧ c = 0 := by
      rcases H.out.2 with ⟨k, k2⟩ | ⟨g, cap, cur, k, _⟩
      · injection k with _ k3 k4; exact ⟨List.length_eq_zero_iff.1 k2, k4⟩
      · injection k with k; cases k
    subst hL; subst hc0
    have nb1 := (IsB.new w 61 #[.slice none 0 0]).alloc (.cells #[.slice none 0 0] 61)
    have nb2 := IsB.new (w.alloc (.cells #[.slice none 0 0] 61)) 61 #[.slice none 0 0]
    have N1 := Lib.hid nb1
    have N2 := Lib.hid (show IsB _ (w.heap.size + 1) _ _ by simpa using nb2)
    have GG := Lib.hid (show w.grownBy ((w.alloc (.cells #[.slice none 0 0] 61)).alloc (.cells #[.slice none 0 0] 61)) none from gb_trans (gb_alloc _ _ _) (gb_alloc _ _ _))
    have OW := Lib.hid (show BRow ((w.alloc (.cells #[.slice none 0 0] 61)).alloc (.cells #[.slice none 0 0] 61)) w.heap.size (.slice none 0 0) [] from World.ownsRow_nil _ _ _ _)
    clear nb1 nb2
    go_enter Try.func54, Try.ntmps54
    go_wp2_with (first | (go_at_call 84; refine (HWV.out _).mono ?_; rintro e w' ⟨rfl, rfl⟩) | (go_at_call 85; refine (HWF.out _ k0 k1).mono ?_; rintro e w' ⟨rfl, rfl⟩) | (at_builtin; refine wpList_append_own_none rfl _ _ 38 rfl w.heap.size 4 i0 1 Try.underlying38 HI.out _ _ _ rfl (World.ownsRow_nil _ _ _ _) rfl ?_))
    go_loopw [8, 9] (fun lv i wr => ∃ (k : Nat) (M : List Bool), k ≤ n.toNat ∧ M = ([] : List Bool) ++ (bitsOf v n.toNat).take k ∧ i = .int .i64 ((n.toNat : Int) - 1 - k) ∧ BRow wr w.heap.size lv M ∧ IsB wr w.heap.size 61 #[.slice none 0 0] ∧ IsB wr (w.heap.size + 1) 61 #[.slice none 0 0] ∧ w.grownBy wr none) (fun _ i _ => ((intOf i) + 1).toNat)
    case atStart => exact ⟨0, _, Nat.zero_le _, rfl, val_u (by omega), by simpa using OW.out, N1.out, N2.out, GG.out⟩
    case round =>
      obtain ⟨k, M, hk, hM, rfl, hrow, q1, q2, qg⟩ := hrel
      clear N1 N2 GG OW
      have N1 := Lib.hid q1
      have N2 := Lib.hid q2
      have GG := Lib.hid qg
      have HK := Lib.hid hk
      have HM := Lib.hid hM
      clear hM
      obtain ⟨al, cl, rfl⟩ := own_shape hrow
      clear q1 q2 qg
      by_cases hlt : k < n.toNat
      · obtain ⟨j, hj⟩ : ∃ j : Nat, j = n.toNat - 1 - k := ⟨_, rfl⟩
        have hji : (n.toNat : Int) - 1 - k = (j : Int) := by omega
        rw [hji]
        have hj32 : j < 32 := by omega
        have HV := Lib.hid (bit_val v n.toNat k j (by omega) k0)
        have TK := Lib.hid (bitsOf_take v n.toNat k hlt)
        have hll : M.length ≤ 50100 := by rw [HM.out, List.length_append, List.length_take, bitsOf_len]; have := Nat.min_le_left k n.toNat; have := HLEN.out; omega
        have LN := Lib.hid hll
        have O4 := Lib.hid (World.ownsRow.alloc (show wr.ownsRow w.heap.size 4 1 (.slice al M.length cl) M.length (M.map Value.bool) from hrow) (.cells #[.bool ((v / 2 ^ j).tmod 2 == 1)] 4))
        have G4 := Lib.hid (gb_trans GG.out (gb_alloc wr (.cells #[.bool ((v / 2 ^ j).tmod 2 == 1)] 4) none))
        have M1 := Lib.hid (N1.out.alloc (.cells #[.bool ((v / 2 ^ j).tmod 2 == 1)] 4))
        have M2 := Lib.hid (N2.out.alloc (.cells #[.bool ((v / 2 ^ j).tmod 2 == 1)] 4))
        have HJ := Lib.hid hji
        clear hrow hj hji hll
        go_wp2_with (at_builtin; refine wpList_append_own _ rfl _ _ 38 rfl w.heap.size 4 i0 (.bool false) 1 1 Try.underlying38 HI.out hz0 hz1 hz2 rfl (by decide) _ M.length (M.map Value.bool) rfl O4.out ⟨wr.heap.size, 0, none⟩ 1 1 [.bool ((v / 2 ^ j).tmod 2 == 1)] rfl rfl ?c1 ?c2 ?c3 ?c4 ?c5 ?_)
        case c1 =>
          intro j2 u hj2
          match j2, hj2 with
          | 0, hj2 => simp at hj2; subst hj2; simp [Addr.add]
        case c2 => intro u hu; simp at hu; subst hu; rfl
        case c3 => have := LN.out; unfold maxLen; omega
        case c4 => have := LN.out; omega
        case c5 => have := G4.out.size; exact this
        intro v' w5 hown5 hgrow _
        have O5 := Lib.hid (show BRow w5 w.heap.size v' (([] : List Bool) ++ (bitsOf v n.toNat).take (k + 1)) by rw [TK.out, ← HV.out, ← List.append_assoc, ← HM.out]; simpa [BRow] using hown5)
        have G5 := Lib.hid (gb_row G4.out hgrow O4.out)
        have N5 := Lib.hid (M1.out.keep hgrow (fun e => own_ne O4.out M1.out (by decide) e.symm))
        have N6 := Lib.hid (M2.out.keep hgrow (fun e => own_ne O4.out M2.out (by decide) e.symm))
        clear hown5 hgrow O4 G4 M1 M2 N1 N2 GG
        go_wp2
        go_roundw
        case rel => exact ⟨k + 1, _, by omega, rfl, val_u (by have := HJ.out; omega), O5.out, N5.out, N6.out, G5.out⟩
        case measure => first | (simp [intOf]; done) | (simp [intOf]; omega)
      · have EK := Lib.hid (show (bitsOf v n.toNat).take k = bitsOf v n.toNat by rw [List.take_of_length_le]; rw [bitsOf_len]; omega)
        have hji : (n.toNat : Int) - 1 - k = -1 := by omega
        rw [hji]
        have d0 : wr.cell? ⟨w.heap.size + 1, 0, none⟩ = some (.slice none 0 0) := N2.out.cell 0
        have f0 := N2.out.free 0
        have HR := Lib.hid hrow
        clear hrow hji
        go_wp2
        have N3 := N2.out.set 0 (.slice al M.length cl)
        have e0 := N3.cell 0
        simp at e0
        have k1 := own_low (own_keepS HR.out (gb_set wr (w.heap.size + 1) 0 (.slice al M.length cl)) N2.out (by decide)) hb
        refine bodyPost_ret (v := .tuple #[.agg #[.slice al M.length cl], .int .i64 0]) (by simp [results, Try.results54, go_sem, e0]) rfl ⟨_, rfl, gb_set1 GG.out (by omega), ?_⟩
        have k2 : BRow _ base _ M := k1
        have e : M = ([] : List Bool) ++ bitsOf v n.toNat := by rw [HM.out, EK.out]
        first | (rw [← e]; exact k2) | (simp only [List.nil_append] at e; rw [← e]; exact k2)

  | some ad =>
    have nb1 := (IsB.new w 61 #[.slice (some ad) L.length c]).alloc (.cells #[.slice none 0 0] 61)
    have nb2 := IsB.new (w.alloc (.cells #[.slice (some ad) L.length c] 61)) 61 #[.slice none 0 0]
    have M1 := Lib.hid nb1
    have M2 := Lib.hid (show IsB _ (w.heap.size + 1) _ _ by simpa using nb2)
    clear nb1 nb2
    have HC := Lib.hid (((own_slr H.out).alloc (.cells #[.slice (some ad) L.length c] 61)).alloc (.cells #[.slice none 0 0] 61))
    go_enter Try.func54, Try.ntmps54
    go_wp2_with (first | (go_at_call 84; refine (HWV.out _).mono ?_; rintro e w' ⟨rfl, rfl⟩) | (go_at_call 85; refine (HWF.out _ k0 k1).mono ?_; rintro e w' ⟨rfl, rfl⟩) | (at_builtin; refine wpList_append_own _ rfl _ _ 38 rfl w.heap.size 4 i0 (.bool false) 1 1 Try.underlying38 HI.out hz0 hz1 hz2 rfl (by decide) _ 0 [] rfl (World.ownsRow_nil _ _ _ _) ad L.length c (L.map Value.bool) rfl ?c1 (HC.out.2.2 _ rfl) (bools_one _) ?c3 ?c4 ?c5 ?_))
    case c1 => simp
    case c3 => unfold maxLen; omega
    case c4 => omega
    case c5 => simp; omega
    intro v' w2 hown hg hiff
    have N1 := Lib.hid (M1.out.keep0 hg)
    have N2 := Lib.hid (M2.out.keep0 hg)
    have GG := Lib.hid (show w.grownBy w2 none from gb_trans (gb_trans (gb_alloc _ _ _) (gb_alloc _ _ _)) hg)
    have OW := Lib.hid (show BRow w2 w.heap.size v' L by simpa [BRow] using hown)
    clear hown hg hiff M1 M2 HC
    obtain ⟨al0, cl0, rfl⟩ := own_shape OW.out
    go_wp2_with fail
    go_loopw [8, 9] (fun lv i wr => ∃ (k : Nat) (M : List Bool), k ≤ n.toNat ∧ M = L ++ (bitsOf v n.toNat).take k ∧ i = .int .i64 ((n.toNat : Int) - 1 - k) ∧ BRow wr w.heap.size lv M ∧ IsB wr w.heap.size 61 #[.slice (some ad) L.length c] ∧ IsB wr (w.heap.size + 1) 61 #[.slice none 0 0] ∧ w.grownBy wr none) (fun _ i _ => ((intOf i) + 1).toNat)
    case atStart => exact ⟨0, _, Nat.zero_le _, rfl, val_u (by omega), by simpa using OW.out, N1.out, N2.out, GG.out⟩
    case round =>
      obtain ⟨k, M, hk, hM, rfl, hrow, q1, q2, qg⟩ := hrel
      clear N1 N2 GG OW
      have N1 := Lib.hid q1
      have N2 := Lib.hid q2
      have GG := Lib.hid qg
      have HK := Lib.hid hk
      have HM := Lib.hid hM
      clear hM
      obtain ⟨al, cl, rfl⟩ := own_shape hrow
      clear q1 q2 qg
      by_cases hlt : k < n.toNat
      · obtain ⟨j, hj⟩ : ∃ j : Nat, j = n.toNat - 1 - k := ⟨_, rfl⟩
        have hji : (n.toNat : Int) - 1 - k = (j : Int) := by omega
        rw [hji]
        have hj32 : j < 32 := by omega
        have HV := Lib.hid (bit_val v n.toNat k j (by omega) k0)
        have TK := Lib.hid (bitsOf_take v n.toNat k hlt)
        have hll : M.length ≤ 50100 := by rw [HM.out, List.length_append, List.length_take, bitsOf_len]; have := Nat.min_le_left k n.toNat; have := HLEN.out; omega
        have LN := Lib.hid hll
        have O4 := Lib.hid (World.ownsRow.alloc (show wr.ownsRow w.heap.size 4 1 (.slice al M.length cl) M.length (M.map Value.bool) from hrow) (.cells #[.bool ((v / 2 ^ j).tmod 2 == 1)] 4))
        have G4 := Lib.hid (gb_trans GG.out (gb_alloc wr (.cells #[.bool ((v / 2 ^ j).tmod 2 == 1)] 4) none))
        have M1 := Lib.hid (N1.out.alloc (.cells #[.bool ((v / 2 ^ j).tmod 2 == 1)] 4))
        have M2 := Lib.hid (N2.out.alloc (.cells #[.bool ((v / 2 ^ j).tmod 2 == 1)] 4))
        have HJ := Lib.hid hji
        clear hrow hj hji hll
        go_wp2_with (at_builtin; refine wpList_append_own _ rfl _ _ 38 rfl w.heap.size 4 i0 (.bool false) 1 1 Try.underlying38 HI.out hz0 hz1 hz2 rfl (by decide) _ M.length (M.map Value.bool) rfl O4.out ⟨wr.heap.size, 0, none⟩ 1 1 [.bool ((v / 2 ^ j).tmod 2 == 1)] rfl rfl ?c1 ?c2 ?c3 ?c4 ?c5 ?_)
        case c1 =>
          intro j2 u hj2
          match j2, hj2 with
          | 0, hj2 => simp at hj2; subst hj2; simp [Addr.add]
        case c2 => intro u hu; simp at hu; subst hu; rfl
        case c3 => have := LN.out; unfold maxLen; omega
        case c4 => have := LN.out; omega
        case c5 => have := G4.out.size; exact this
        intro v' w5 hown5 hgrow _
        have O5 := Lib.hid (show BRow w5 w.heap.size v' (L ++ (bitsOf v n.toNat).take (k + 1)) by rw [TK.out, ← HV.out, ← List.append_assoc, ← HM.out]; simpa [BRow] using hown5)
        have G5 := Lib.hid (gb_row G4.out hgrow O4.out)
        have N5 := Lib.hid (M1.out.keep hgrow (fun e => own_ne O4.out M1.out (by decide) e.symm))
        have N6 := Lib.hid (M2.out.keep hgrow (fun e => own_ne O4.out M2.out (by decide) e.symm))
        clear hown5 hgrow O4 G4 M1 M2 N1 N2 GG
        go_wp2
        go_roundw
        case rel => exact ⟨k + 1, _, by omega, rfl, val_u (by have := HJ.out; omega), O5.out, N5.out, N6.out, G5.out⟩
        case measure => first | (simp [intOf]; done) | (simp [intOf]; omega)
      · have EK := Lib.hid (show (bitsOf v n.toNat).take k = bitsOf v n.toNat by rw [List.take_of_length_le]; rw [bitsOf_len]; omega)
        have hji : (n.toNat : Int) - 1 - k = -1 := by omega
        rw [hji]
        have d0 : wr.cell? ⟨w.heap.size + 1, 0, none⟩ = some (.slice none 0 0) := N2.out.cell 0
        have f0 := N2.out.free 0
        have HR := Lib.hid hrow
        clear hrow hji
        go_wp2
        have N3 := N2.out.set 0 (.slice al M.length cl)
        have e0 := N3.cell 0
        simp at e0
        have k1 := own_low (own_keepS HR.out (gb_set wr (w.heap.size + 1) 0 (.slice al M.length cl)) N2.out (by decide)) hb
        refine bodyPost_ret (v := .tuple #[.agg #[.slice al M.length cl], .int .i64 0]) (by simp [results, Try.results54, go_sem, e0]) rfl ⟨_, rfl, gb_set1 GG.out (by omega), ?_⟩
        have k2 : BRow _ base _ M := k1
        have e : M = L ++ bitsOf v n.toNat := by rw [HM.out, EK.out]
        first | (rw [← e]; exact k2) | (simp only [List.nil_append] at e; rw [← e]; exact k2)

theorem rwrite_any (w : World) (base : Nat) (a : Option Addr) (c : Nat) (L : List Bool) (v n : Int) (h : BRow w base (.slice a L.length c) L) (hb : base ≤ w.heap.size) (hn : L.length ≤ 50000) (k0 : 0 ≤ v) (k1 : v < 4294967296) (er : Int) (L2 : List Bool) (hq : wrStep L v n = (er, L2)) :
    Calls Try.prog 54 #[.agg #[.slice a L.length c], .int .u32 v, .int .i64 n] w (RWr er base L2 w) := by
  unfold wrStep at hq
  by_cases hv : okW n = true
  · rw [if_pos hv] at hq
    by_cases hf : fitsB v n = true
    · rw [if_pos hf] at hq
      simp only [Prod.mk.injEq] at hq
      obtain ⟨rfl, rfl⟩ := hq
      have h2 : 1 ≤ n ∧ n ≤ 32 := of_decide_eq_true hv
      exact rwrite_ok w base a c L v n h hb hn h2.1 h2.2 k0 k1 hf
    · rw [if_neg hf] at hq
      simp only [Prod.mk.injEq] at hq
      obtain ⟨rfl, rfl⟩ := hq
      exact rwrite_range w base a c L v n h hv k0 k1 (by simpa using hf)
  · rw [if_neg hv] at hq
    simp only [Prod.mk.injEq] at hq
    obtain ⟨rfl, rfl⟩ := hq
    exact rwrite_width w base a c L v n h (by simpa using hv)
end Go.Proofs.Ytjhknmklejkknaa
end
section
namespace Go.Proofs.Ytjhknmklejkknaa
open Go.RowKit
set_option linter.unusedVariables false

def accL (L : List Bool) (p : Nat) : Nat → Int
  | 0 => 0
  | k + 1 => 2 * accL L p k + bv L (p + k)
theorem accL_range (L : List Bool) (p k : Nat) : 0 ≤ accL L p k ∧ accL L p k < 2 ^ k := by
  induction k with
  | zero => simp [accL]
  | succ k ih =>
    have hb := bv_range L (p + k)
    rw [accL, Int.pow_succ]
    omega
theorem accL_byte (L : List Bool) (j : Nat) : accL L (8 * j) 8 = byteAt L j := by
  simp only [accL, byteAt, Nat.add_zero]
  omega
/-- The bytes as they stand when i bits have been written. -/
def outB (L : List Bool) (i : Nat) : List Int := (List.range (L.length / 8)).map fun j => accL L (8 * j) (min 8 (i - 8 * j))
theorem outB_len (L : List Bool) (i : Nat) : (outB L i).length = L.length / 8 := by simp [outB]
theorem outB_zero (L : List Bool) : outB L 0 = List.replicate (L.length / 8) 0 := by
  apply List.ext_getElem (by simp [outB])
  intro j h1 h2
  simp [outB, accL]
theorem outB_done (L : List Bool) (h : L.length % 8 = 0) : outB L L.length = packB L := by
  unfold outB packB
  rw [show (L.length + 7) / 8 = L.length / 8 by omega]
  apply List.map_congr_left
  intro j hj
  have := List.mem_range.1 hj
  rw [show min 8 (L.length - 8 * j) = 8 by omega, accL_byte]
theorem outB_at (L : List Bool) (i : Nat) (h : i < L.length) (h8 : L.length % 8 = 0) : (outB L i).getD (i / 8) 0 = accL L (8 * (i / 8)) (i % 8) := by
  have hj : i / 8 < L.length / 8 := by omega
  rw [List.getD_eq_getElem?_getD]
  simp only [outB, List.getElem?_map, List.getElem?_range hj, Option.map_some, Option.getD_some]
  rw [show min 8 (i - 8 * (i / 8)) = i % 8 by omega]
theorem outB_step (L : List Bool) (i : Nat) (h : i < L.length) (h8 : L.length % 8 = 0) : outB L (i + 1) = (outB L i).set (i / 8) (2 * accL L (8 * (i / 8)) (i % 8) + bv L i) := by
  apply List.ext_getElem (by simp [outB])
  intro j h1 h2
  rw [List.getElem_set]
  simp only [outB, List.getElem_map, List.getElem_range]
  by_cases e : i / 8 = j
  · subst e
    rw [if_pos rfl, show min 8 (i + 1 - 8 * (i / 8)) = i % 8 + 1 by omega, accL, show 8 * (i / 8) + i % 8 = i by omega]
  · rw [if_neg e]
    congr 1
    omega
theorem own_cellB {w : World} {base g c : Nat} {L : List Bool} (h : BRow w base (.slice (some ⟨g, 0, none⟩) L.length c) L) (j : Nat) (hj : j < L.length) : w.cell? ⟨g, j, none⟩ = some (.bool (L.getD j false)) := by
  rw [World.ownsRow.cellAt h j (by omega)]
  simp [hj]
theorem outV_step (L : List Bool) (i : Nat) (h : i < L.length) (h8 : L.length % 8 = 0) (b : Int) (hb : bv L i = b) : (outB L (i + 1)).map (Value.int .u8) = ((outB L i).map (Value.int .u8)).set (i / 8) (.int .u8 (2 * accL L (8 * (i / 8)) (i % 8) + b)) := by
  rw [outB_step L i h h8, List.map_set, hb]

theorem rbytes_odd (w : World) (a : Option Addr) (c : Nat) (L : List Bool) (hm : ¬ L.length % 8 = 0) :
    Calls Try.prog 29 #[.agg #[.slice a L.length c]] w (RetEh 10 [] w) := by
  have hq : ((L.length : Int) % 8 != 0) = true := by rw [bne_iff_ne]; omega
  go_enter Try.func29, Try.ntmps29
  go_wp2
  go_ret2
  exact ⟨_, rfl, gb_alloc _ _ _, World.ownsRow_nil _ _ _ _⟩
set_option maxRecDepth 100000 in
set_option maxHeartbeats 1000000 in
theorem rbytes_even (w : World) (base : Nat) (a : Option Addr) (c : Nat) (L : List Bool) (h : BRow w base (.slice a L.length c) L) (hn : L.length ≤ 60000) (hm : L.length % 8 = 0) :
    Calls Try.prog 29 #[.agg #[.slice a L.length c]] w (RetEh 0 (packB L) w) := by
  obtain ⟨i0, hi, hz0, hz1, hz2⟩ := info_parts infoU8
  have hq : ((L.length : Int) % 8 != 0) = false := by rw [bne_eq_false_iff_eq]; omega
  obtain ⟨Q, hQ⟩ : ∃ Q, Q = L.length / 8 := ⟨_, rfl⟩
  have hQ1 : (L.length : Int) / 8 = (Q : Int) := by omega
  have HQ := Lib.hid hQ
  have HI := Lib.hid hi
  have H := Lib.hid h
  have HM := Lib.hid hm
  have nb1 := Lib.hid (IsB.new w 61 #[.slice a L.length c])
  have hsz : (w.alloc (.cells #[.slice a L.length c] 61)).heap.size = w.heap.size + 1 := by simp
  have HSZ := Lib.hid hsz
  have d0 : (w.alloc (.cells #[.slice a L.length c] 61)).cell? ⟨w.heap.size, 0, none⟩ = some (.slice a L.length c) := nb1.out.cell 0
  clear hi h hm hsz hQ
  go_enter Try.func29, Try.ntmps29
  go_wp2_with (at_make; refine wpList_make_full _ rfl _ _ 37 rfl w.heap.size 5 i0 (.int .u8 0) 1 Try.underlying37 HI.out hz0 hz1 .i64 .i64 _ _ Q rfl rfl ?c1 ?c2 ?c3 ?c4 ?c5 ?_)
  case c1 => first | rfl | omega
  case c2 => first | rfl | omega
  case c3 => rw [hz2]; have := HQ.out; omega
  case c4 => have := HQ.out; unfold maxLen; omega
  case c5 => simp
  intro w2 hown hg
  have N1 := Lib.hid (nb1.out.keep0 hg)
  have GG := Lib.hid (show w.grownBy w2 none from gb_trans (gb_alloc _ _ _) hg)
  have HB := Lib.hid (show BRow w2 base (.slice a L.length c) L from own_keep0 H.out GG.out)
  have OW := Lib.hid (show w2.ownsRow w.heap.size 5 1 (.slice (some ⟨w.heap.size + 1, 0, none⟩) Q Q) Q ((outB L 0).map (Value.int .u8)) by
    rw [outB_zero, List.map_replicate, ← HQ.out]
    rw [← made_zero]
    first | exact hown | simpa using hown)
  clear hown hg nb1 d0 H hq
  go_wp2_with fail
  go_loopw [5] (fun i wr => ∃ k : Nat, k ≤ L.length ∧ i = .int .i64 k ∧ wr.ownsRow w.heap.size 5 1 (.slice (some ⟨w.heap.size + 1, 0, none⟩) Q Q) Q ((outB L k).map (Value.int .u8)) ∧ BRow wr base (.slice a L.length c) L ∧ IsB wr w.heap.size 61 #[.slice a L.length c] ∧ w.grownBy wr none) (fun i _ => L.length - (intOf i).toNat)
  case atStart => exact ⟨0, Nat.zero_le _, rfl, OW.out, HB.out, N1.out, GG.out⟩
  case round =>
    obtain ⟨k, hk, rfl, q1, q2, q3, q4⟩ := hrel
    clear OW HB N1 GG
    have OW := Lib.hid q1
    have HB := Lib.hid q2
    have N1 := Lib.hid q3
    have GG := Lib.hid q4
    clear q1 q2 q3 q4
    have d0 : wr.cell? ⟨w.heap.size, 0, none⟩ = some (.slice a L.length c) := N1.out.cell 0
    by_cases hlt : k < L.length
    · have hkk : (k : Int) < L.length := by omega
      have hkq : (k : Int) / 8 < Q := by have := HQ.out; have := HM.out; omega
      obtain ⟨gl, cl, hle⟩ := own_head HB.out (by omega)
      injection hle with hle1 _ hle2
      subst hle1; subst hle2
      have hc := own_cell2 OW.out (by rw [outB_len]; exact HQ.out.symm) (k / 8) (by have := HQ.out; have := HM.out; omega)
      rw [outB_at L k hlt HM.out] at hc
      have hb := own_cellB HB.out k hlt
      have f1 := OW.out.frozenAt (k / 8)
      have hst := fun b hb => outV_step L k hlt HM.out b hb
      have hr := accL_range L (8 * (k / 8)) (k % 8)
      have hpm := pow_mono (k % 8) 7 (by omega)
      obtain ⟨cs, hblk⟩ := own_blk OW.out
      generalize accL L (8 * (k / 8)) (k % 8) = x at *
      have hx : 0 ≤ x ∧ x < 128 := by simp at hpm; omega
      have wx : 2 * x % 256 = 2 * x := by omega
      have wy : (2 * x + 1) % 256 = 2 * x + 1 := by omega
      have ST := Lib.hid hst
      clear hst hr hpm
      have r1 := (OW.out.stored (k / 8) (.int .u8 (2 * x))).1
      have g1 := gb_set wr (w.heap.size + 1) (k / 8) (.int .u8 (2 * x))
      have HB1 := Lib.hid (show BRow (wr.setCell ⟨w.heap.size + 1, k / 8, none⟩ (.int .u8 (2 * x))) base _ L from own_keepS HB.out g1 hblk (by decide))
      have N11 := Lib.hid (N1.out.keepS g1 hblk (by decide))
      have G1 := Lib.hid (gb_set1 (i := k / 8) (u := .int .u8 (2 * x)) GG.out (show w.heap.size ≤ w.heap.size + 1 by omega))
      have hb2 := own_cellB HB1.out k hlt
      have d1 : (wr.setCell ⟨w.heap.size + 1, k / 8, none⟩ (.int .u8 (2 * x))).cell? ⟨w.heap.size, 0, none⟩ = some (.slice (some ⟨gl, 0, none⟩) L.length c) := N11.out.cell 0
      have hlo := outB_len L k
      have hc1 : (wr.setCell ⟨w.heap.size + 1, k / 8, none⟩ (.int .u8 (2 * x))).cell? ⟨w.heap.size + 1, k / 8, none⟩ = some (.int .u8 (2 * x)) := by
        rw [r1.cellAt (k / 8) (by have := HQ.out; have := HM.out; omega)]
        rw [List.getElem?_set_self (by rw [List.length_map, hlo, ← HQ.out]; have := HQ.out; have := HM.out; omega)]
      have f2 := r1.frozenAt (k / 8)
      obtain ⟨cs1, hblk1⟩ := own_blk r1
      have R1 := Lib.hid r1
      have BL1 := Lib.hid hblk1
      clear r1 g1 hblk hblk1 hlo
      cases hbit : L.getD k false with
      | false =>
        rw [hbit] at hb hb2
        have e1 := ST.out 0 (by unfold bv; rw [hbit]; rfl)
        have R2 := Lib.hid (show (wr.setCell ⟨w.heap.size + 1, k / 8, none⟩ (.int .u8 (2 * x))).ownsRow w.heap.size 5 1 (.slice (some ⟨w.heap.size + 1, 0, none⟩) Q Q) Q ((outB L (k + 1)).map (Value.int .u8)) by
          rw [e1, Int.add_zero]
          exact R1.out)
        clear e1
        go_wp2
        go_roundw
        case rel => exact ⟨k + 1, by omega, by go_num, R2.out, HB1.out, N11.out, G1.out⟩
        case measure => simp [intOf]; omega
      | true =>
        rw [hbit] at hb hb2
        have e1 := ST.out 1 (by unfold bv; rw [hbit]; rfl)
        have R2 := Lib.hid (show ((wr.setCell ⟨w.heap.size + 1, k / 8, none⟩ (.int .u8 (2 * x))).setCell ⟨w.heap.size + 1, k / 8, none⟩ (.int .u8 (2 * x + 1))).ownsRow w.heap.size 5 1 (.slice (some ⟨w.heap.size + 1, 0, none⟩) Q Q) Q ((outB L (k + 1)).map (Value.int .u8)) by
          rw [e1]
          have k2 := (R1.out.stored (k / 8) (.int .u8 (2 * x + 1))).1
          rw [List.set_set] at k2
          exact k2)
        have HB2 := Lib.hid (show BRow ((wr.setCell ⟨w.heap.size + 1, k / 8, none⟩ (.int .u8 (2 * x))).setCell ⟨w.heap.size + 1, k / 8, none⟩ (.int .u8 (2 * x + 1))) base _ L from own_keepS HB1.out (gb_set _ _ _ _) BL1.out (by decide))
        have N12 := Lib.hid (N11.out.keepS (gb_set _ (w.heap.size + 1) (k / 8) (.int .u8 (2 * x + 1))) BL1.out (by decide))
        have G2 := Lib.hid (gb_set1 (i := k / 8) (u := .int .u8 (2 * x + 1)) G1.out (show w.heap.size ≤ w.heap.size + 1 by omega))
        clear e1
        go_wp2
        go_roundw
        case rel => exact ⟨k + 1, by omega, by go_num, R2.out, HB2.out, N12.out, G2.out⟩
        case measure => simp [intOf]; omega
    · have hkk : ¬ (k : Int) < L.length := by omega
      have e : k = L.length := by omega
      have FIN := Lib.hid (show wr.ownsRow w.heap.size 5 1 (.slice (some ⟨w.heap.size + 1, 0, none⟩) Q Q) Q ((packB L).map (Value.int .u8)) by
        rw [← outB_done L HM.out, ← e]; exact OW.out)
      have LEN := Lib.hid (show (packB L).length = Q by rw [packB_len, HQ.out]; have := HM.out; omega)
      go_wp2
      go_ret2
      refine ⟨_, rfl, GG.out, ?_⟩
      rw [LEN.out]
      exact FIN.out
end Go.Proofs.Ytjhknmklejkknaa
end
section
namespace Go.Proofs.Ytjhknmklejkknaa
open Go.RowKit
set_option linter.unusedVariables false

def bytesR (L : List Bool) : Int × List Int := if L.length % 8 = 0 then (0, packB L) else (10, [])
theorem rbytes_any (w : World) (base : Nat) (a : Option Addr) (c : Nat) (L : List Bool) (h : BRow w base (.slice a L.length c) L) (hn : L.length ≤ 60000) :
    Calls Try.prog 29 #[.agg #[.slice a L.length c]] w (RetEh (bytesR L).1 (bytesR L).2 w) := by
  unfold bytesR
  by_cases hm : L.length % 8 = 0
  · rw [if_pos hm]; exact rbytes_even w base a c L h hn hm
  · rw [if_neg hm]; exact rbytes_odd w a c L hm

end Go.Proofs.Ytjhknmklejkknaa
end
section
namespace Go.Proofs.Ytjhknmklejkknaa
open Go.RowKit
set_option linter.unusedVariables false
set_option maxRecDepth 100000 in
theorem rest_odd (w : World) (base r s : Nat) (V : Value) (bs : List Int) (pos : Nat) (h : Rdr w base r s V bs pos) (hp : ¬ pos % 8 = 0) :
    Calls Try.prog 42 #[.pointer (some ⟨r, 0, none⟩)] w (RetQ (.tuple #[.slice none 0 0, .int .i64 10]) w none fun _ => True) := by
  have c0 : w.cell? ⟨r, 0, none⟩ = some (.pointer (some ⟨s, 0, none⟩)) := h.rb.cell 0
  have c1 : w.cell? ⟨s, 1, none⟩ = some (.int .i64 pos) := h.sb.cell 1
  have hq : ((pos : Int) % 8 != 0) = true := by rw [bne_iff_ne]; omega
  go_enter Try.func42, Try.ntmps42
  go_wp2_with (go_at_call 68; refine (rmade_yes _ _ _ h.rb).mono ?_; rintro e w' ⟨rfl, rfl⟩)
  go_ret2
  exact ⟨rfl, gb_refl _ _, trivial⟩
set_option maxRecDepth 100000 in
theorem rest_even (w : World) (base r s : Nat) (V : Value) (bs : List Int) (pos : Nat) (h : Rdr w base r s V bs pos) (hn : bs.length ≤ 60000) (hne : 0 < bs.length) (q : Nat) (hp : pos = 8 * q) (hq : q ≤ bs.length) :
    Calls Try.prog 42 #[.pointer (some ⟨r, 0, none⟩)] w (RetSh (bs.drop q) w w.heap.size) := by
  obtain ⟨i0, hi, hz0, hz1, hz2⟩ := info_parts infoU8
  obtain ⟨g, c, rfl⟩ := own_head h.own hne
  have c0 : w.cell? ⟨r, 0, none⟩ = some (.pointer (some ⟨s, 0, none⟩)) := h.rb.cell 0
  have c1 : w.cell? ⟨s, 1, none⟩ = some (.int .i64 pos) := h.sb.cell 1
  have c2 : w.cell? ⟨s, 0, none⟩ = some (.slice (some ⟨g, 0, none⟩) bs.length c) := h.sb.cell 0
  have hq8 : ((pos : Int) % 8 != 0) = false := by rw [bne_eq_false_iff_eq]; omega
  have wq : IntKind.i64.wrap ((pos : Int) / 8) = (q : Int) := by rw [IntWalk.i64_in _ (by omega)]; omega
  have HP := Lib.hid hp
  clear hp
  have i1 : (q : Int) ≤ bs.length := by omega
  have i3 : bs.length ≤ c := own_cap h.own
  go_enter Try.func42, Try.ntmps42
  go_wp2_with (go_at_call 68; refine (rmade_yes _ _ _ h.rb).mono ?_; rintro e w' ⟨rfl, rfl⟩)
  go_still_tail 16, (by kernel_rfl)
  change wpList _ _ _ _ _ w.drew
  have ea : (if c = q then some (⟨g, 0, none⟩ : Addr) else some ⟨g, q, none⟩) = some (if c = q then ⟨g, 0, none⟩ else ⟨g, q, none⟩) := by split <;> rfl
  rw [ea]
  have HC := Lib.hid (cut_cells (w := w.drew) (q := q) h.own.drew)
  clear ea wq hq8 c0 c1 c2
  generalize (if c = q then (⟨g, 0, none⟩ : Addr) else ⟨g, q, none⟩) = ad at *
  refine wpList_append_own _ rfl _ _ 37 rfl w.heap.size 5 i0 (.int .u8 0) 1 1 Try.underlying37 hi hz0 hz1 hz2 rfl (by decide) _ 0 [] rfl (World.ownsRow_nil _ _ _ _) ad (bs.length - q) (c - q) ((bs.drop q).map (Value.int .u8)) rfl ?c1 HC.out (ints_one _ _) ?c3 ?c4 ?c5 ?_
  case c1 => simp
  case c3 => unfold maxLen; omega
  case c4 => omega
  case c5 => exact Nat.le_refl _
  · intro v' w1 hown hg hiff
    have HO := Lib.hid hown
    have HF := Lib.hid hiff
    have HG := Lib.hid hg
    clear hown hiff hg HC hi hz0 hz1 hz2
    go_wp2
    go_ret2
    refine ⟨v', rfl, ?_, ?_, ?_⟩
    · exact gb_trans (gb_drew w none) HG.out
    · have k := HO.out
      simpa using k
    · intro e
      refine HF.out.2 ⟨rfl, ?_⟩
      have := congrArg List.length e
      simpa using this
set_option maxRecDepth 100000 in
theorem rest_none (w : World) (base r s : Nat) (h : Rdr w base r s (.slice none 0 0) [] 0) :
    Calls Try.prog 42 #[.pointer (some ⟨r, 0, none⟩)] w (RetEh 0 [] w) := by
  obtain ⟨i0, hi, hz0, hz1, hz2⟩ := info_parts infoU8
  have c0 : w.cell? ⟨r, 0, none⟩ = some (.pointer (some ⟨s, 0, none⟩)) := h.rb.cell 0
  have c1 : w.cell? ⟨s, 1, none⟩ = some (.int .i64 0) := h.sb.cell 1
  have c2 : w.cell? ⟨s, 0, none⟩ = some (.slice none 0 0) := h.sb.cell 0
  have HI := Lib.hid hi
  clear hi hz0 hz1 hz2
  have wq : IntKind.i64.wrap 0 = 0 := by decide
  go_enter Try.func42, Try.ntmps42
  go_wp2_with (go_at_call 68; refine (rmade_yes _ _ _ h.rb).mono ?_; rintro e w' ⟨rfl, rfl⟩)
  go_still_tail 16, (by kernel_rfl)
  change wpList _ _ _ _ _ w.drew
  refine wpList_append_own_none rfl _ _ 37 rfl w.heap.size 5 i0 1 Try.underlying37 HI.out _ _ _ rfl (World.ownsRow_nil _ _ _ _) rfl ?_
  go_wp2
  go_ret2
  exact ⟨_, rfl, gb_drew _ _, World.ownsRow_nil _ _ _ _⟩
theorem rest_any (w : World) (base r s : Nat) (V : Value) (bs : List Int) (pos : Nat) (h : Rdr w base r s V bs pos) (hnil : bs = [] → V = .slice none 0 0) (hn : bs.length ≤ 60000) (hp : pos ≤ 8 * bs.length) :
    Calls Try.prog 42 #[.pointer (some ⟨r, 0, none⟩)] w (RetEh (restR bs pos).1 (restR bs pos).2 w) := by
  unfold restR
  by_cases hm : pos % 8 = 0
  · rw [if_pos hm]
    by_cases hb : bs = []
    · subst hb
      obtain rfl : pos = 0 := by simpa using hp
      have hv := hnil rfl
      subst hv
      simpa using rest_none w base r s h
    · have hne : 0 < bs.length := List.length_pos_iff.2 hb
      refine (rest_even w base r s V bs pos h hn hne (pos / 8) (by omega) (by omega)).mono ?_
      rintro e w' ⟨v', he, g, o, _⟩
      exact ⟨v', he, g, o⟩
  · rw [if_neg hm]
    refine (rest_odd w base r s V bs pos h hm).mono ?_
    rintro e w' ⟨rfl, g, _⟩
    exact ⟨_, rfl, g, World.ownsRow_nil _ _ _ _⟩
end Go.Proofs.Ytjhknmklejkknaa
end
