/- The walks of patchbayref02's writer; no condition but sizes. -/
import Derived.Test.YtgknooblnpmloaaIoRc
namespace Go.Proofs.Ytgknooblnpmloaa
open Go.RowKit
set_option linter.unusedVariables false

theorem infoBool : (Try.prog.info? 4).map (fun i => (i.zero, i.size, i.bytes)) = some (some (.bool false), 1, 1) := by kernel_rfl
theorem bools_one (L : List Bool) : ∀ u ∈ L.map Value.bool, u.oneCell' = true := by
  intro u hu; obtain ⟨z, _, rfl⟩ := List.mem_map.1 hu; rfl
/-- A list of bits that is owned. -/
def BRow (w : World) (base : Nat) (v : Value) (L : List Bool) : Prop := w.ownsRow base 4 1 v L.length (L.map Value.bool)
/-- What the reference's WriteBits answers: a writer of these bits, the error code. -/
def RWr (er : Int) (base : Nat) (L : List Bool) (w : World) (e : Ending) (w' : World) : Prop :=
  ∃ v', e = .returned (.tuple #[.agg #[v'], .int .i64 er]) ∧ w.grownBy w' none ∧ BRow w' base v' L

theorem rnwr_any (w : World) : Calls Try.prog 26 #[] w (RetQ (.agg #[.slice none 0 0]) w none fun _ => True) := by
  have nb := IsB.new w 57 #[.slice none 0 0]
  have d0 : (w.alloc (.cells #[.slice none 0 0] 57)).cell? ⟨w.heap.size, 0, none⟩ = some (.slice none 0 0) := nb.cell 0
  go_enter Try.func26, Try.ntmps26
  go_wp2
  refine bodyPost_ret (v := .agg #[.slice none 0 0]) (by simp [results, Try.results26, go_sem]) rfl ⟨rfl, gb_alloc _ _ _, trivial⟩
theorem rlen_any (w : World) (a : Option Addr) (n c : Nat) : Calls Try.prog 34 #[.agg #[.slice a n c]] w (RetQ (.int .i64 n) w none fun _ => True) := by
  go_enter Try.func34, Try.ntmps34
  go_wp2
  go_ret
  exact ⟨ret_i rfl, gb_alloc _ _ _, trivial⟩
theorem rwrite_width (w : World) (base : Nat) (a : Option Addr) (c : Nat) (L : List Bool) (v n : Int) (h : BRow w base (.slice a L.length c) L) (hv : okW n = false) :
    Calls Try.prog 28 #[.agg #[.slice a L.length c], .int .u32 v, .int .i64 n] w (RWr 10 base L w) := by
  have hwv := rwid_any n
  rw [hv] at hwv
  have HWV := Lib.hid hwv
  have H := Lib.hid h
  clear hwv hv h
  go_enter Try.func28, Try.ntmps28
  go_wp2_with (go_at_call 44; refine (HWV.out _).mono ?_; rintro e w' ⟨rfl, rfl⟩)
  refine bodyPost_ret (v := .tuple #[.agg #[.slice a L.length c], .int .i64 10]) (by simp [results, Try.results28, go_sem]) rfl ⟨_, rfl, gb_trans (gb_alloc _ _ _) (gb_alloc _ _ _), own_keep0 H.out (gb_trans (gb_alloc _ _ _) (gb_alloc _ _ _))⟩
theorem rwrite_range (w : World) (base : Nat) (a : Option Addr) (c : Nat) (L : List Bool) (v n : Int) (h : BRow w base (.slice a L.length c) L) (hv : okW n = true) (k0 : 0 ≤ v) (k1 : v < 4294967296) (hf : fitsB v n = false) :
    Calls Try.prog 28 #[.agg #[.slice a L.length c], .int .u32 v, .int .i64 n] w (RWr 9 base L w) := by
  have hwv := rwid_any n
  rw [hv] at hwv
  have hwf := rfits_any v n
  rw [hf] at hwf
  have HWV := Lib.hid hwv
  have HWF := Lib.hid hwf
  have H := Lib.hid h
  clear hwv hv h hwf hf
  go_enter Try.func28, Try.ntmps28
  go_wp2_with (first | (go_at_call 44; refine (HWV.out _).mono ?_; rintro e w' ⟨rfl, rfl⟩) | (go_at_call 48; refine (HWF.out _ k0 k1).mono ?_; rintro e w' ⟨rfl, rfl⟩))
  refine bodyPost_ret (v := .tuple #[.agg #[.slice a L.length c], .int .i64 9]) (by simp [results, Try.results28, go_sem]) rfl ⟨_, rfl, gb_trans (gb_alloc _ _ _) (gb_alloc _ _ _), own_keep0 H.out (gb_trans (gb_alloc _ _ _) (gb_alloc _ _ _))⟩

theorem bit_val (v : Int) (m k j : Nat) (hj : j + 1 + k = m) (k0 : 0 ≤ v) : ((v / 2 ^ j).tmod 2 == 1) = vb v m k := by
  unfold vb
  rw [show m - 1 - k = j by omega, Int.tmod_eq_emod_of_nonneg (Int.ediv_nonneg k0 (Int.le_of_lt (pow_pos' j)))]
  rfl
theorem gb_row {w w1 w2 : World} {e : TypeId} {size n : Nat} {v : Value} {xs : List Value} (G : w.grownBy w1 none) (k : w1.grownBy w2 v.ownBlock) (h : w1.ownsRow w.heap.size e size v n xs) : w.grownBy w2 none := by
  cases hq : v.ownBlock with
  | none => rw [hq] at k; exact gb_trans G k
  | some g => rw [hq] at k; exact gb_new (gb_trans (gb_any G) k) (h.lt g hq).1
set_option maxRecDepth 100000 in
set_option maxHeartbeats 1000000 in
theorem rwrite_ok (w : World) (base : Nat) (a : Option Addr) (c : Nat) (L : List Bool) (v n : Int) (h : BRow w base (.slice a L.length c) L) (hb : base ≤ w.heap.size) (hn : L.length ≤ 50000) (h1 : 1 ≤ n) (h2 : n ≤ 32) (k0 : 0 ≤ v) (k1 : v < 4294967296) (hf : fitsB v n = true) :
    Calls Try.prog 28 #[.agg #[.slice a L.length c], .int .u32 v, .int .i64 n] w (RWr 0 base (L ++ bitsOf v n.toNat) w) := by
  obtain ⟨i0, hi, hz0, hz1, hz2⟩ := info_parts infoBool
  have HW := Lib.hid (show okW n = true by simp [okW, h1, h2])
  have hwv := rwid_any n
  rw [HW.out] at hwv
  have hwf := rfits_any v n
  rw [hf] at hwf
  have HWV := Lib.hid hwv
  have HWF := Lib.hid hwf
  have H := Lib.hid h
  have HLEN := Lib.hid hn
  have HI := Lib.hid hi
  clear hwv h hwf hf hi
  cases a with
  | none =>
    obtain ⟨hL, hc0⟩ : L = [] ∧ c = 0 := by
      rcases H.out.2 with ⟨k, k2⟩ | ⟨g, cap, cur, k, _⟩
      · injection k with _ k3 k4; exact ⟨List.length_eq_zero_iff.1 k2, k4⟩
      · injection k with k; cases k
    subst hL; subst hc0
    have nb1 := (IsB.new w 57 #[.slice none 0 0]).alloc (.cells #[.slice none 0 0] 57)
    have nb2 := IsB.new (w.alloc (.cells #[.slice none 0 0] 57)) 57 #[.slice none 0 0]
    have N1 := Lib.hid nb1
    have N2 := Lib.hid (show IsB _ (w.heap.size + 1) _ _ by simpa using nb2)
    have GG := Lib.hid (show w.grownBy ((w.alloc (.cells #[.slice none 0 0] 57)).alloc (.cells #[.slice none 0 0] 57)) none from gb_trans (gb_alloc _ _ _) (gb_alloc _ _ _))
    have OW := Lib.hid (show BRow ((w.alloc (.cells #[.slice none 0 0] 57)).alloc (.cells #[.slice none 0 0] 57)) w.heap.size (.slice none 0 0) [] from World.ownsRow_nil _ _ _ _)
    clear nb1 nb2
    go_enter Try.func28, Try.ntmps28
    go_wp2_with (first | (go_at_call 44; refine (HWV.out _).mono ?_; rintro e w' ⟨rfl, rfl⟩) | (go_at_call 48; refine (HWF.out _ k0 k1).mono ?_; rintro e w' ⟨rfl, rfl⟩) | (at_builtin; refine wpList_append_own_none rfl _ _ 55 rfl w.heap.size 4 i0 1 Try.underlying55 HI.out _ _ _ rfl (World.ownsRow_nil _ _ _ _) rfl ?_))
    go_loopw [8, 9] (fun lv i wr => ∃ (k : Nat) (M : List Bool), k ≤ n.toNat ∧ M = ([] : List Bool) ++ (bitsOf v n.toNat).take k ∧ i = .int .i64 ((n.toNat : Int) - 1 - k) ∧ BRow wr w.heap.size lv M ∧ IsB wr w.heap.size 57 #[.slice none 0 0] ∧ IsB wr (w.heap.size + 1) 57 #[.slice none 0 0] ∧ w.grownBy wr none) (fun _ i _ => ((intOf i) + 1).toNat)
    case atStart => exact ⟨0, _, Nat.zero_le _, rfl, val_u (by omega), by simpa using OW.out, N1.out, N2.out, GG.out⟩
    case round =>
      obtain ⟨k, M, hk, hM, rfl, hrow, q1, q2, qg⟩ := hrel
      clear N1 N2 GG OW
      have N1 := Lib.hid q1
      have N2 := Lib.hid q2
      have GG := Lib.hid qg
      have HK := Lib.hid hk
      have HM := Lib.hid hM
      clear hM
      obtain ⟨al, cl, rfl⟩ := own_shape hrow
      clear q1 q2 qg
      by_cases hlt : k < n.toNat
      · obtain ⟨j, hj⟩ : ∃ j : Nat, j = n.toNat - 1 - k := ⟨_, rfl⟩
        have hji : (n.toNat : Int) - 1 - k = (j : Int) := by omega
        rw [hji]
        have hj32 : j < 32 := by omega
        have HV := Lib.hid (bit_val v n.toNat k j (by omega) k0)
        have TK := Lib.hid (bitsOf_take v n.toNat k hlt)
        have hll : M.length ≤ 50100 := by rw [HM.out, List.length_append, List.length_take, bitsOf_len]; have := Nat.min_le_left k n.toNat; have := HLEN.out; omega
        have LN := Lib.hid hll
        have O4 := Lib.hid (World.ownsRow.alloc (show wr.ownsRow w.heap.size 4 1 (.slice al M.length cl) M.length (M.map Value.bool) from hrow) (.cells #[.bool ((v / 2 ^ j).tmod 2 == 1)] 4))
        have G4 := Lib.hid (gb_trans GG.out (gb_alloc wr (.cells #[.bool ((v / 2 ^ j).tmod 2 == 1)] 4) none))
        have M1 := Lib.hid (N1.out.alloc (.cells #[.bool ((v / 2 ^ j).tmod 2 == 1)] 4))
        have M2 := Lib.hid (N2.out.alloc (.cells #[.bool ((v / 2 ^ j).tmod 2 == 1)] 4))
        have HJ := Lib.hid hji
        clear hrow hj hji hll
        go_wp2_with (at_builtin; refine wpList_append_own _ rfl _ _ 55 rfl w.heap.size 4 i0 (.bool false) 1 1 Try.underlying55 HI.out hz0 hz1 hz2 rfl (by decide) _ M.length (M.map Value.bool) rfl O4.out ⟨wr.heap.size, 0, none⟩ 1 1 [.bool ((v / 2 ^ j).tmod 2 == 1)] rfl rfl ?c1 ?c2 ?c3 ?c4 ?c5 ?_)
        case c1 =>
          intro j2 u hj2
          match j2, hj2 with
          | 0, hj2 => simp at hj2; subst hj2; simp [Addr.add]
        case c2 => intro u hu; simp at hu; subst hu; rfl
        case c3 => have := LN.out; unfold maxLen; omega
        case c4 => have := LN.out; omega
        case c5 => have := G4.out.size; exact this
        intro v' w5 hown5 hgrow _
        have O5 := Lib.hid (show BRow w5 w.heap.size v' (([] : List Bool) ++ (bitsOf v n.toNat).take (k + 1)) by rw [TK.out, ← HV.out, ← List.append_assoc, ← HM.out]; simpa [BRow] using hown5)
        have G5 := Lib.hid (gb_row G4.out hgrow O4.out)
        have N5 := Lib.hid (M1.out.keep hgrow (fun e => own_ne O4.out M1.out (by decide) e.symm))
        have N6 := Lib.hid (M2.out.keep hgrow (fun e => own_ne O4.out M2.out (by decide) e.symm))
        clear hown5 hgrow O4 G4 M1 M2 N1 N2 GG
        go_wp2
        go_roundw
        case rel => exact ⟨k + 1, _, by omega, rfl, val_u (by have := HJ.out; omega), O5.out, N5.out, N6.out, G5.out⟩
        case measure => first | (simp [intOf]; done) | (simp [intOf]; omega)
      · have EK := Lib.hid (show (bitsOf v n.toNat).take k = bitsOf v n.toNat by rw [List.take_of_length_le]; rw [bitsOf_len]; omega)
        have hji : (n.toNat : Int) - 1 - k = -1 := by omega
        rw [hji]
        have d0 : wr.cell? ⟨w.heap.size + 1, 0, none⟩ = some (.slice none 0 0) := N2.out.cell 0
        have f0 := N2.out.free 0
        have HR := Lib.hid hrow
        clear hrow hji
        go_wp2
        have N3 := N2.out.set 0 (.slice al M.length cl)
        have e0 := N3.cell 0
        simp at e0
        have k1 := own_low (own_keepS HR.out (gb_set wr (w.heap.size + 1) 0 (.slice al M.length cl)) N2.out (by decide)) hb
        refine bodyPost_ret (v := .tuple #[.agg #[.slice al M.length cl], .int .i64 0]) (by simp [results, Try.results28, go_sem, e0]) rfl ⟨_, rfl, gb_set1 GG.out (by omega), ?_⟩
        have k2 : BRow _ base _ M := k1
        have e : M = ([] : List Bool) ++ bitsOf v n.toNat := by rw [HM.out, EK.out]
        first | (rw [← e]; exact k2) | (simp only [List.nil_append] at e; rw [← e]; exact k2)

  | some ad =>
    have nb1 := (IsB.new w 57 #[.slice (some ad) L.length c]).alloc (.cells #[.slice none 0 0] 57)
    have nb2 := IsB.new (w.alloc (.cells #[.slice (some ad) L.length c] 57)) 57 #[.slice none 0 0]
    have M1 := Lib.hid nb1
    have M2 := Lib.hid (show IsB _ (w.heap.size + 1) _ _ by simpa using nb2)
    clear nb1 nb2
    have HC := Lib.hid (((own_slr H.out).alloc (.cells #[.slice (some ad) L.length c] 57)).alloc (.cells #[.slice none 0 0] 57))
    go_enter Try.func28, Try.ntmps28
    go_wp2_with (first | (go_at_call 44; refine (HWV.out _).mono ?_; rintro e w' ⟨rfl, rfl⟩) | (go_at_call 48; refine (HWF.out _ k0 k1).mono ?_; rintro e w' ⟨rfl, rfl⟩) | (at_builtin; refine wpList_append_own _ rfl _ _ 55 rfl w.heap.size 4 i0 (.bool false) 1 1 Try.underlying55 HI.out hz0 hz1 hz2 rfl (by decide) _ 0 [] rfl (World.ownsRow_nil _ _ _ _) ad L.length c (L.map Value.bool) rfl ?c1 (HC.out.2.2 _ rfl) (bools_one _) ?c3 ?c4 ?c5 ?_))
    case c1 => simp
    case c3 => unfold maxLen; omega
    case c4 => omega
    case c5 => simp; omega
    intro v' w2 hown hg hiff
    have N1 := Lib.hid (M1.out.keep0 hg)
    have N2 := Lib.hid (M2.out.keep0 hg)
    have GG := Lib.hid (show w.grownBy w2 none from gb_trans (gb_trans (gb_alloc _ _ _) (gb_alloc _ _ _)) hg)
    have OW := Lib.hid (show BRow w2 w.heap.size v' L by simpa [BRow] using hown)
    clear hown hg hiff M1 M2 HC
    obtain ⟨al0, cl0, rfl⟩ := own_shape OW.out
    go_wp2_with fail
    go_loopw [8, 9] (fun lv i wr => ∃ (k : Nat) (M : List Bool), k ≤ n.toNat ∧ M = L ++ (bitsOf v n.toNat).take k ∧ i = .int .i64 ((n.toNat : Int) - 1 - k) ∧ BRow wr w.heap.size lv M ∧ IsB wr w.heap.size 57 #[.slice (some ad) L.length c] ∧ IsB wr (w.heap.size + 1) 57 #[.slice none 0 0] ∧ w.grownBy wr none) (fun _ i _ => ((intOf i) + 1).toNat)
    case atStart => exact ⟨0, _, Nat.zero_le _, rfl, val_u (by omega), by simpa using OW.out, N1.out, N2.out, GG.out⟩
    case round =>
      obtain ⟨k, M, hk, hM, rfl, hrow, q1, q2, qg⟩ := hrel
      clear N1 N2 GG OW
      have N1 := Lib.hid q1
      have N2 := Lib.hid q2
      have GG := Lib.hid qg
      have HK := Lib.hid hk
      have HM := Lib.hid hM
      clear hM
      obtain ⟨al, cl, rfl⟩ := own_shape hrow
      clear q1 q2 qg
      by_cases hlt : k < n.toNat
      · obtain ⟨j, hj⟩ : ∃ j : Nat, j = n.toNat - 1 - k := ⟨_, rfl⟩
        have hji : (n.toNat : Int) - 1 - k = (j : Int) := by omega
        rw [hji]
        have hj32 : j < 32 := by omega
        have HV := Lib.hid (bit_val v n.toNat k j (by omega) k0)
        have TK := Lib.hid (bitsOf_take v n.toNat k hlt)
        have hll : M.length ≤ 50100 := by rw [HM.out, List.length_append, List.length_take, bitsOf_len]; have := Nat.min_le_left k n.toNat; have := HLEN.out; omega
        have LN := Lib.hid hll
        have O4 := Lib.hid (World.ownsRow.alloc (show wr.ownsRow w.heap.size 4 1 (.slice al M.length cl) M.length (M.map Value.bool) from hrow) (.cells #[.bool ((v / 2 ^ j).tmod 2 == 1)] 4))
        have G4 := Lib.hid (gb_trans GG.out (gb_alloc wr (.cells #[.bool ((v / 2 ^ j).tmod 2 == 1)] 4) none))
        have M1 := Lib.hid (N1.out.alloc (.cells #[.bool ((v / 2 ^ j).tmod 2 == 1)] 4))
        have M2 := Lib.hid (N2.out.alloc (.cells #[.bool ((v / 2 ^ j).tmod 2 == 1)] 4))
        have HJ := Lib.hid hji
        clear hrow hj hji hll
        go_wp2_with (at_builtin; refine wpList_append_own _ rfl _ _ 55 rfl w.heap.size 4 i0 (.bool false) 1 1 Try.underlying55 HI.out hz0 hz1 hz2 rfl (by decide) _ M.length (M.map Value.bool) rfl O4.out ⟨wr.heap.size, 0, none⟩ 1 1 [.bool ((v / 2 ^ j).tmod 2 == 1)] rfl rfl ?c1 ?c2 ?c3 ?c4 ?c5 ?_)
        case c1 =>
          intro j2 u hj2
          match j2, hj2 with
          | 0, hj2 => simp at hj2; subst hj2; simp [Addr.add]
        case c2 => intro u hu; simp at hu; subst hu; rfl
        case c3 => have := LN.out; unfold maxLen; omega
        case c4 => have := LN.out; omega
        case c5 => have := G4.out.size; exact this
        intro v' w5 hown5 hgrow _
        have O5 := Lib.hid (show BRow w5 w.heap.size v' (L ++ (bitsOf v n.toNat).take (k + 1)) by rw [TK.out, ← HV.out, ← List.append_assoc, ← HM.out]; simpa [BRow] using hown5)
        have G5 := Lib.hid (gb_row G4.out hgrow O4.out)
        have N5 := Lib.hid (M1.out.keep hgrow (fun e => own_ne O4.out M1.out (by decide) e.symm))
        have N6 := Lib.hid (M2.out.keep hgrow (fun e => own_ne O4.out M2.out (by decide) e.symm))
        clear hown5 hgrow O4 G4 M1 M2 N1 N2 GG
        go_wp2
        go_roundw
        case rel => exact ⟨k + 1, _, by omega, rfl, val_u (by have := HJ.out; omega), O5.out, N5.out, N6.out, G5.out⟩
        case measure => first | (simp [intOf]; done) | (simp [intOf]; omega)
      · have EK := Lib.hid (show (bitsOf v n.toNat).take k = bitsOf v n.toNat by rw [List.take_of_length_le]; rw [bitsOf_len]; omega)
        have hji : (n.toNat : Int) - 1 - k = -1 := by omega
        rw [hji]
        have d0 : wr.cell? ⟨w.heap.size + 1, 0, none⟩ = some (.slice none 0 0) := N2.out.cell 0
        have f0 := N2.out.free 0
        have HR := Lib.hid hrow
        clear hrow hji
        go_wp2
        have N3 := N2.out.set 0 (.slice al M.length cl)
        have e0 := N3.cell 0
        simp at e0
        have k1 := own_low (own_keepS HR.out (gb_set wr (w.heap.size + 1) 0 (.slice al M.length cl)) N2.out (by decide)) hb
        refine bodyPost_ret (v := .tuple #[.agg #[.slice al M.length cl], .int .i64 0]) (by simp [results, Try.results28, go_sem, e0]) rfl ⟨_, rfl, gb_set1 GG.out (by omega), ?_⟩
        have k2 : BRow _ base _ M := k1
        have e : M = L ++ bitsOf v n.toNat := by rw [HM.out, EK.out]
        first | (rw [← e]; exact k2) | (simp only [List.nil_append] at e; rw [← e]; exact k2)

theorem rwrite_any (w : World) (base : Nat) (a : Option Addr) (c : Nat) (L : List Bool) (v n : Int) (h : BRow w base (.slice a L.length c) L) (hb : base ≤ w.heap.size) (hn : L.length ≤ 50000) (k0 : 0 ≤ v) (k1 : v < 4294967296) (er : Int) (L2 : List Bool) (hq : wrStep L v n = (er, L2)) :
    Calls Try.prog 28 #[.agg #[.slice a L.length c], .int .u32 v, .int .i64 n] w (RWr er base L2 w) := by
  unfold wrStep at hq
  by_cases hv : okW n = true
  · rw [if_pos hv] at hq
    by_cases hf : fitsB v n = true
    · rw [if_pos hf] at hq
      simp only [Prod.mk.injEq] at hq
      obtain ⟨rfl, rfl⟩ := hq
      have h2 : 1 ≤ n ∧ n ≤ 32 := of_decide_eq_true hv
      exact rwrite_ok w base a c L v n h hb hn h2.1 h2.2 k0 k1 hf
    · rw [if_neg hf] at hq
      simp only [Prod.mk.injEq] at hq
      obtain ⟨rfl, rfl⟩ := hq
      exact rwrite_range w base a c L v n h hv k0 k1 (by simpa using hf)
  · rw [if_neg hv] at hq
    simp only [Prod.mk.injEq] at hq
    obtain ⟨rfl, rfl⟩ := hq
    exact rwrite_width w base a c L v n h (by simpa using hv)
end Go.Proofs.Ytgknooblnpmloaa
