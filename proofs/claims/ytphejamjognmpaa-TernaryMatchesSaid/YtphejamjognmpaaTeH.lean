/- Ternary: the walk of the program's Format. -/
import Derived.Test.YtphejamjognmpaaTeG
namespace Go.Proofs.Ytphejamjognmpaa
open Go.RowKit
set_option linter.unusedVariables false

set_option maxRecDepth 100000 in
set_option maxHeartbeats 1000000 in
theorem fmt_any (W : World) (v m : Nat) (x : Int) (hv : B64 v) (hm : B64 m) : Calls Try.prog 10 #[.agg #[.int .u64 v, .int .u64 m], .int .i64 x] W (RetF v m x W) := by
  have CK := Lib.hid (fun W => chk_any W v m x hv hm)
  have HF := Lib.hid (show fmtS v m x = if chkN v m x = 0 then fmtL v m x.toNat x.toNat else [] from rfl)
  have HB := Lib.hid (show chkN v m x = 0 → 1 ≤ x ∧ x ≤ 64 from fun h => by unfold chkN at h; split at h <;> first | assumption | omega)
  obtain ⟨e, he⟩ : ∃ e, e = chkN v m x := ⟨_, rfl⟩
  have HC := Lib.hid he.symm
  rw [← he] at CK HF HB
  clear he
  have B1 := Lib.hid (IsB.new W 24 #[.int .u64 v, .int .u64 m])
  have G1 := Lib.hid (gb_alloc W (.cells #[.int .u64 v, .int .u64 m] 24) none)
  by_cases h0 : e = 0
  · subst h0
    rw [if_pos rfl] at HF
    obtain ⟨h1, h2⟩ := HB.out rfl
    obtain ⟨k, rfl⟩ : ∃ k : Nat, x = (k : Int) := ⟨x.toNat, by omega⟩
    rw [Int.toNat_natCast] at HF
    have h3 : k ≤ 64 := by omega
    have h4 : (0 : Int) ≤ k := by omega
    go_enter Try.func10, Try.ntmps10
    go_wp2_with fail
    refine (CK.out _).mono ?_
    rintro e w2 ⟨rfl, g2⟩
    have G2 := Lib.hid (gb_trans G1.out g2)
    have B2 := Lib.hid (B1.out.keep0 g2)
    clear g2
    have G3 := Lib.hid (fun cs : Array Value => gb_alloc w2 (.cells cs 49) none)
    have B3 := Lib.hid (fun cs : Array Value => IsB.new w2 49 cs)
    go_wp2
    go_loopw [21] (fun s wr => ∃ (j : Nat) (cs : Array Value), j ≤ k ∧ s = .int .i64 j ∧ cs.size = 64 ∧ IsB wr w2.heap.size 49 cs ∧ (∀ i, i < j → cs[i]? = some (.int .u8 (chr v m (k - 1 - i)))) ∧ w2.grownBy wr none) (fun s _ => k - (intOf s).toNat)
    case atStart => exact ⟨0, _, Nat.zero_le _, rfl, by rfl, B3.out _, fun i hi => absurd hi (Nat.not_lt_zero _), G3.out _⟩
    case round =>
      obtain ⟨j, cs, hj, rfl, q1, q2, q3, q4⟩ := hrel
      have CS := Lib.hid q1
      have BB := Lib.hid q2
      have FF := Lib.hid q3
      have GG := Lib.hid q4
      have BX := Lib.hid (B2.out.keep0 q4)
      clear q1 q2 q3 q4
      by_cases hlt : j < k
      · have i1 : (j : Int) < k := by omega
        obtain ⟨i, hi⟩ : ∃ i : Nat, i = k - 1 - j := ⟨_, rfl⟩
        have ei : (k : Int) - 1 - (j : Int) = (i : Int) := by omega
        have cv : wr.cell? ⟨W.heap.size, 0, none⟩ = some (.int .u64 v) := BX.out.cell 0
        have cm : wr.cell? ⟨W.heap.size, 1, none⟩ = some (.int .u64 m) := BX.out.cell 1
        have HCH := Lib.hid (fun w => char_any w v m i hv hm (by omega))
        have hj64 : j < 64 := by omega
        have hcj : ∃ u, cs[j]? = some u := ⟨cs[j]'(by rw [CS.out]; exact hj64), by simp [CS.out, hj64]⟩
        obtain ⟨u, hu⟩ := hcj
        have HI := Lib.hid hi
        have HU := Lib.hid hu
        clear hi hu
        go_wp2_with fail
        refine (HCH.out _).mono ?_
        rintro e w4 ⟨rfl, g4⟩
        have B4 := Lib.hid (BB.out.keep0 g4)
        have cj : w4.cell? ⟨w2.heap.size, j, none⟩ = some u := by rw [B4.out.cell j]; exact HU.out
        have fj := B4.out.free j
        have G5 := Lib.hid (gb_put (u := .int .u8 (chr v m i)) (i := j) (gb_trans GG.out g4) (Nat.le_refl w2.heap.size))
        have B5 := Lib.hid (B4.out.set j (.int .u8 (chr v m i)))
        have F5 := Lib.hid (show ∀ n, n < j + 1 → (cs.setIfInBounds j (.int .u8 (chr v m i)))[n]? = some (.int .u8 (chr v m (k - 1 - n))) from fun n hn => by
          by_cases e : n = j
          · subst e
            rw [Array.getElem?_setIfInBounds_self_of_lt (by rw [CS.out]; exact hj64), HI.out]
          · rw [Array.getElem?_setIfInBounds_ne (by omega)]
            exact FF.out n (by omega))
        have C5 := Lib.hid (show (cs.setIfInBounds j (.int .u8 (chr v m i))).size = 64 by rw [Array.size_setIfInBounds]; exact CS.out)
        clear g4
        go_wp2
        go_roundw
        case rel => exact ⟨j + 1, _, by omega, by go_num, C5.out, B5.out, F5.out, G5.out⟩
        case measure => (simp [intOf] <;> try omega)
      · have hje : j = k := by omega
        subst hje
        have SL := Lib.hid (show SlR wr (some ⟨w2.heap.size, 0, none⟩) j j ((fmtL v m j j).map (Value.int .u8)) from by
          refine ⟨by rw [List.length_map, fmtL_len], by simp, ?_⟩
          intro ad ha n u hu
          injection ha with ha; subst ha
          have hn : n < j := by
            have := (List.getElem?_eq_some_iff.1 hu).1
            rw [List.length_map, fmtL_len] at this
            exact this
          have e : ((⟨w2.heap.size, 0, none⟩ : Addr).add n) = ⟨w2.heap.size, n, none⟩ := by unfold Addr.add; split <;> simp_all
          rw [e, BB.out.cell n, FF.out n hn, ← hu]
          unfold fmtL
          simp [hn])
        have CV := conv_str wr _ _ _ _ SL.out
        have G6 := Lib.hid (gb_trans G2.out GG.out)
        go_wp2
        go_ret2
        exact ⟨ret_se (by rw [HF.out]) HC.out.symm, G6.out⟩
  · rw [if_neg h0] at HF
    have hne : (e != 0) = true := by rw [bne_iff_ne]; exact h0
    clear h0
    go_enter Try.func10, Try.ntmps10
    go_wp2_with fail
    refine (CK.out _).mono ?_
    rintro e w2 ⟨rfl, g2⟩
    have G2 := Lib.hid (gb_trans G1.out g2)
    clear g2
    go_wp2
    go_ret2
    exact ⟨ret_se (by rw [HF.out]; rfl) HC.out.symm, G2.out⟩
end Go.Proofs.Ytphejamjognmpaa
