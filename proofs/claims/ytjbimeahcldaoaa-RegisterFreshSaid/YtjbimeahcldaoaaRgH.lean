/- Register: the reference's New, cell, width; no condition but sizes. -/
import Derived.Test.YtjbimeahcldaoaaRgG
namespace Go.Proofs.Ytjbimeahcldaoaa
open Go.RowKit
set_option linter.unusedVariables false
theorem take_one (L : List (List Int)) (k : Nat) (h : k < L.length) : L.take (k + 1) = L.take k ++ [L.getD k []] := by
  rw [List.take_add_one, List.getD_eq_getElem?_getD, List.getElem?_eq_getElem h]
  rfl
set_option maxRecDepth 100000 in
set_option maxHeartbeats 4000000 in
theorem rnew_any (w : World) (X : PX) (L : List Rg) (h : SG w X.ra X.rn X.rc L) (hn : X.rn ≤ 100000) : Calls Try.prog 14 #[.agg #[.string X.nm, .slice X.ha X.hn X.hc, .slice X.ma X.mn X.mc, .slice X.ra X.rn X.rc, .slice X.aa X.an X.ac, .slice X.ta X.tn X.tc, .slice X.sa X.sn X.sc, .slice X.ca X.cn X.cc, .slice X.da X.dn X.dc]] w (RetR (newL L) w) := by
  obtain ⟨i1, hi1, hy0, hy1, hy2⟩ := info_parts infoU32
  have HI1 := Lib.hid hi1
  clear hi1
  have H := Lib.hid h
  have LN := Lib.hid h.len
  clear h
  obtain ⟨A, hA⟩ : ∃ A, A = w.heap.size := ⟨_, rfl⟩
  obtain ⟨w1, hw1⟩ : ∃ w1, w1 = w.alloc (.cells #[.string X.nm, .slice X.ha X.hn X.hc, .slice X.ma X.mn X.mc, .slice X.ra X.rn X.rc, .slice X.aa X.an X.ac, .slice X.ta X.tn X.tc, .slice X.sa X.sn X.sc, .slice X.ca X.cn X.cc, .slice X.da X.dn X.dc] 37) := ⟨_, rfl⟩
  have BA := Lib.hid (show IsB w1 A 37 #[.string X.nm, .slice X.ha X.hn X.hc, .slice X.ma X.mn X.mc, .slice X.ra X.rn X.rc, .slice X.aa X.an X.ac, .slice X.ta X.tn X.tc, .slice X.sa X.sn X.sc, .slice X.ca X.cn X.cc, .slice X.da X.dn X.dc] from by rw [hw1, hA]; exact IsB.new _ _ _)
  have GZ := Lib.hid (show w.grownBy w1 none from by rw [hw1]; exact gb_al (gb_refl _ _))
  have LA := Lib.hid (show A < w1.heap.size from by rw [hw1, hA]; simp)
  go_enter Try.func14, Try.ntmps14
  go_upto_region 1 with fail
  rw [← hw1, ← hA]

  have LW := Lib.hid (show w.heap.size ≤ A from by rw [hA]; exact Nat.le_refl _)
  clear hw1 hA
  go_wp2
  go_loopw [3, 4] (fun o s wr => ∃ k : Nat, k ≤ X.rn ∧ s = .int .i64 k ∧ (∃ V Vs, V = o ∧ OR wr w1.heap.size V ((newL L).take k) Vs) ∧ w1.grownBy wr none) (fun _ s _ => X.rn - (intOf s).toNat)
  case atStart => exact ⟨0, Nat.zero_le _, rfl, ⟨_, [], rfl, or_nil _ _⟩, gb_refl _ _⟩
  case round =>
    obtain ⟨k, hk, rfl, ⟨V, Vs, rfl, hO⟩, hg⟩ := hrel
    have HO := Lib.hid hO
    have HG := Lib.hid hg
    clear hO hg
    have s3 : wr.cell? ⟨A, 3, none⟩ = some (.slice X.ra X.rn X.rc) := (BA.out.keep0 HG.out).cell 3
    by_cases hlt : k < X.rn
    · obtain ⟨ar, har⟩ := H.out.some (by omega)
      rw [har] at H s3 ⊢
      obtain ⟨c0, c1, c2⟩ := ((H.out.keep0 GZ.out).keep0 HG.out).cells ar rfl k hlt
      have i0 : (0 : Int) ≤ (k : Int) := by omega
      have i2 : (k : Int) < (X.rn : Int) := by omega
      have AT := Lib.hid (newL_at L k (by rw [LN.out]; exact hlt))
      obtain ⟨g0, hg0⟩ : ∃ g, g = L.getD k rz := ⟨_, rfl⟩
      rw [← hg0] at c0 c1 c2 AT
      clear hg0
      obtain ⟨nm, wd, sz⟩ := g0
      have TK := Lib.hid (take_one (newL L) k (by rw [newL_len, LN.out]; exact hlt))
      have hlen := HO.out.nV
      have hT : ((newL L).take k).length = k := by rw [List.length_take, newL_len, LN.out]; omega
      rw [hT] at hlen
      have VL := Lib.hid hlen
      clear hlen hT
      have CASES := Lib.hid (show sz < 1 ∨ (1 ≤ sz ∧ 64 < sz) ∨ (1 ≤ sz ∧ sz ≤ 64) from by omega)
      rcases CASES.out with q | ⟨q, q2⟩ | ⟨q, q2⟩
      all_goals
        have SZ := Lib.hid (show (szN sz : Int) = if 1 ≤ sz ∧ sz ≤ 64 then sz else 0 from by
          by_cases hh : 1 ≤ sz ∧ sz ≤ 64
          · rw [if_pos hh, (szN_yes (decide_eq_true hh)).1]
          · rw [if_neg hh, szN_no (decide_eq_false hh)]; rfl)
        first
          | (rw [if_neg (by omega)] at SZ)
          | (rw [if_pos ⟨by omega, by omega⟩] at SZ)
        go_wp2_with (at_make; refine wpList_make_full _ rfl _ _ 53 rfl wr.heap.size 44 i1 (.int .u32 0) 1 Try.underlying53 HI1.out hy0 hy1 .i64 .i64 _ _ (szN sz) rfl rfl (by have := SZ.out; first | rfl | omega) (by have := SZ.out; first | rfl | omega) (by have := szN_le sz; rw [hy2]; omega) (by have := szN_le sz; unfold maxLen; omega) (by simp) ?_)
        intro w5 hown hg
        have NZ := Lib.hid (show NU w5 wr.heap.size (.slice (some ⟨wr.heap.size, 0, none⟩) (szN sz) (szN sz)) (List.replicate (szN sz) 0) by simpa [NU, made_zero] using hown)
        have O5 := Lib.hid (HO.out.keep0 hg)
        have G5 := Lib.hid (gb_trans HG.out hg)
        have g5 := Lib.hid hg
        clear hown hg c0 c1 c2 s3
        have OA := Lib.hid (show (w5.alloc (.cells #[.slice (some ⟨wr.heap.size, 0, none⟩) (szN sz) (szN sz)] 53)).ownsRow w1.heap.size 53 1 V Vs.length Vs from by
          have q := O5.out.out
          rw [← O5.out.nV] at q
          exact own_keep0 q (gb_alloc _ _ _))
        have HB := Lib.hid (show w1.heap.size ≤ (w5.alloc (.cells #[.slice (some ⟨wr.heap.size, 0, none⟩) (szN sz) (szN sz)] 53)).heap.size from by
          have := G5.out.size
          rw [sz_al]; omega)
        have VB := Lib.hid (show Vs.length + 1 ≤ 1000000 from by have := VL.out; omega)
        go_wp2_with (at_builtin; refine rpush_any rfl _ _ rfl w1.heap.size V Vs rfl OA.out _ _ _ rfl (one_cell _ _ _ _ rfl) rfl VB.out HB.out ?_; intro V2 w6 o6 g6)
        have O6 := Lib.hid (OR.more HO.out (gb_trans g5.out (gb_alloc w5 (.cells #[.slice (some ⟨wr.heap.size, 0, none⟩) (szN sz) (szN sz)] 53) none)) (List.replicate (szN sz) 0) (own_low ((NZ.out).keep0 (gb_alloc _ _ _)) HG.out.size) (fun q e => by simp [Value.ownBlock] at e; omega) (zero_rng _) g6 o6)
        have G6 := Lib.hid (show w1.grownBy w6 none from by
          have q := gb_trans G5.out (gb_alloc w5 (.cells #[.slice (some ⟨wr.heap.size, 0, none⟩) (szN sz) (szN sz)] 53) none)
          cases e : V.ownBlock with
          | none => rw [e] at g6; exact gb_trans q g6
          | some g =>
            rw [e] at g6
            exact gb_new (gb_trans (gb_any q) g6) (World.ownsRow.lt OA.out g e).1)
        rw [← AT.out, ← TK.out] at O6
        clear o6 g6 OA NZ O5
        go_wp2
        go_roundw
        case rel => exact ⟨k + 1, by omega, by go_num, ⟨_, _, rfl, O6.out⟩, G6.out⟩
        case measure => simp [intOf]; omega
    · have hke : k = X.rn := by omega
      subst hke
      rw [List.take_of_length_le (by rw [newL_len, LN.out]; exact Nat.le_refl _)] at HO
      go_wp2
      go_ret
      exact ⟨_, Vs, rfl, HO.out.low GZ.out.size, gb_trans GZ.out HG.out⟩
end Go.Proofs.Ytjbimeahcldaoaa
