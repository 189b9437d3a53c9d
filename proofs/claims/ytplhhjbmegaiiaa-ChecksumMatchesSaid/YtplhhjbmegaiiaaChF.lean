/- Records decoded by the reference: its walk; no condition but sizes and the bytes' range. -/
import Derived.Test.YtplhhjbmegaiiaaChE
import Derived.Deep.RegionWith
namespace Go.Proofs.Ytplhhjbmegaiiaa
open Go.RowKit
set_option linter.unusedVariables false

theorem cv_of {w0 w : World} {ad : Addr} {n c : Nat} {bs : List Int} {m : Nat} (h : US w0 (some ad) n c bs w) (hc : bs.length ≤ c) (hm : m + 8 ≤ bs.length) :
    (convert 31 9 (.slice (if c = ((m : Int) + 4).toNat then some ad else some (ad.add ((m : Int) + 4).toNat)) (((m : Int) + 8).toNat - ((m : Int) + 4).toNat) (c - ((m : Int) + 4).toNat))).run Try.prog w = .ok (.string (strOf ((bs.drop (m + 4)).take 4))) w ∧
    (convert 31 9 (.slice (some (ad.add ((m : Int) + 4).toNat)) (((m : Int) + 8).toNat - ((m : Int) + 4).toNat) (c - ((m : Int) + 4).toNat))).run Try.prog w = .ok (.string (strOf ((bs.drop (m + 4)).take 4))) w := by
  have k := conv_str w _ _ _ _ (h.1.cut (m + 4) 4 (by omega) hc)
  have k2 := k
  rw [if_neg (by omega)] at k2
  rw [show ((m : Int) + 4).toNat = m + 4 by omega, show ((m : Int) + 8).toNat - (m + 4) = 4 by omega]
  exact ⟨k, k2⟩
theorem big_str (w : World) (v : Int) (v0 : 0 ≤ v) (v1 : v < 4294967296) :
    Calls Try.prog 47 #[.int .u32 v] w fun e w' => ∃ a c, e = .returned (.slice a 4 c) ∧ w.grownBy w' none ∧ (convert 31 9 (.slice a 4 c)).run Try.prog w' = .ok (.string (strOf (be4 v))) w' :=
  (big_any w v v0 v1).mono fun e w' ⟨a, c, he, g, s⟩ => ⟨a, c, he, g, conv_str w' _ _ _ _ s⟩
theorem rfnvI (w : World) (ad : Addr) (n c : Nat) (bs : List Int) (m : Nat) (h : SlR w (some ad) n c (bs.map (Value.int .u8))) (hb : ∀ x ∈ bs, 0 ≤ x ∧ x ≤ 255) (hn : bs.length ≤ 1000000) (hq : m + 4 ≤ bs.length) :
    Calls Try.prog 31 #[.slice (some ad) ((m : Int) + 4).toNat c] w (RetQ (.int .u32 (fnv (bs.take (m + 4)))) w none fun _ => True) := by
  rw [show ((m : Int) + 4).toNat = m + 4 by omega]
  exact rfnvPre w ad n c bs m h hb hn hq
theorem str_yes {bs : List Int} (hb : ∀ x ∈ bs, 0 ≤ x ∧ x ≤ 255) (q : Nat) (hq : q + 4 ≤ bs.length) (v : Int) (h : num4 bs q = v) : ((strOf (be4 v)).toList == (strOf ((bs.drop q).take 4)).toList) = true := by
  rw [be4_num hb q hq, h, beq_iff_eq]
theorem str_no {bs : List Int} (hb : ∀ x ∈ bs, 0 ≤ x ∧ x ≤ 255) (q : Nat) (hq : q + 4 ≤ bs.length) (v : Int) (v0 : 0 ≤ v) (v1 : v < 4294967296) (h : ¬ num4 bs q = v) : ((strOf (be4 v)).toList == (strOf ((bs.drop q).take 4)).toList) = false := by
  rw [be4_num hb q hq, beq_eq_false_iff_ne]
  intro e
  rw [ByteArray.toList_eq, ByteArray.toList_eq] at e
  have hr := num4_range hb q
  have k := strOf_data (be4 v)
  rw [e, strOf_data] at k
  exact h (be4_inj v0 v1 hr.1 hr.2 (byte_inj (be4_range _) (be4_range _) k.symm)).symm

set_option maxRecDepth 100000 in
set_option maxHeartbeats 2000000 in
theorem runframe_any (w : World) (a : Option Addr) (n c : Nat) (bs : List Int) (h : SlR w a n c (bs.map (Value.int .u8))) (hb : ∀ x ∈ bs, 0 ≤ x ∧ x ≤ 255) (hn : bs.length ≤ 100000) (hc : bs.length ≤ c) :
    Calls Try.prog 29 #[.slice a n c] w (RetU (unfR bs) w) := by
  have hl := h.len
  subst hl
  by_cases h8 : bs.length < 8
  · have HR := Lib.hid (show unfR bs = (3, [], 0) by unfold unfR; rw [if_pos h8])
    clear h
    go_enter Try.func29, Try.ntmps29
    go_wp2
    go_ret3
    exact .mk0 HR.out (gb_refl _ _)
  · cases a with
    | none => exact absurd (h.2.1 rfl).1 (by omega)
    | some ad =>
      have HH := Lib.hid h
      have HB := Lib.hid hb
      clear h hb
      have hr := num4_range HB.out 0
      obtain ⟨m, hm⟩ : ∃ m : Nat, num4 bs 0 = m := ⟨(num4 bs 0).toNat, by omega⟩
      have HM := Lib.hid hm
      go_enter Try.func29, Try.ntmps29
      go_wp2_with fail
      refine (num0 w (some ad) _ c bs HH.out HB.out hn h8).mono ?_
      rintro e w1 ⟨rfl, g1, _⟩
      rw [hm] at hr ⊢
      have HU := Lib.hid (show US w (some ad) bs.length c bs w1 from ⟨HH.out.keep0 g1, g1⟩)
      clear g1 hm HH
      by_cases hs : (bs.length : Int) - 8 < m
      · have HR := Lib.hid (show unfR bs = (3, [], 0) by unfold unfR; rw [if_neg h8, HM.out, if_pos hs])
        go_wp2
        go_ret3
        exact .mk0 HR.out HU.out.2
      · have HS2 := Lib.hid hs
        go_wp2_with fail
        refine (num0 w1 (some ad) _ c bs HU.out.1 HB.out hn h8).mono ?_
        rintro e w2 ⟨rfl, g2, _⟩
        rw [HM.out]
        have HU1 := Lib.hid (HU.out.step g2)
        clear HU g2
        have w4 : IntKind.i64.wrap ((m : Int) + 4) = (m : Int) + 4 := IntWalk.i64_in _ (by omega)
        have w8 : IntKind.i64.wrap ((m : Int) + 8) = (m : Int) + 8 := IntWalk.i64_in _ (by omega)
        have i5 : (m : Int) + 4 ≤ (m : Int) + 8 := by omega
        have i1 : ((m : Int) + 4) ≤ c := by omega
        have i2 : (0 : Int) ≤ (m : Int) + 4 := by omega
        have i3 : ((m : Int) + 8) ≤ c := by omega
        go_wp2_with fail
        have hv := fnv_range (bs.take (m + 4))
        have HV := Lib.hid (show ∃ v, v = fnv (bs.take (m + 4)) from ⟨_, rfl⟩)
        have CV := Lib.hid (fun (w' : World) (h : US w (some ad) bs.length c bs w') => cv_of h hc (show m + 8 ≤ bs.length by omega))
        obtain ⟨Y, hY⟩ : ∃ Y, Y = strOf ((bs.drop (m + 4)).take 4) := ⟨_, rfl⟩
        have HY := Lib.hid hY
        rw [← hY] at CV
        clear hY
        have UD := Lib.hid (HU1.out.step (gb_drew _ _))
        have cvd := (CV.out _ UD.out).1
        have cvd' := (CV.out _ UD.out).2
        go_region_with (first | (go_at_call 31; refine (rfnvI _ ad _ c bs m UD.out.1 HB.out (by omega) (by omega)).mono ?_; rintro e w3 ⟨rfl, g, _⟩; have U3 := Lib.hid (UD.out.step g); have cv3 := (CV.out _ U3.out).1; have cv3' := (CV.out _ U3.out).2; clear g) | (go_at_call 47; refine (big_str _ _ hv.1 hv.2).mono ?_; rintro e w4 ⟨a4, c4, rfl, g, cv4⟩; have U4 := Lib.hid (US.step U3.out g); have cv5 := (CV.out _ U4.out).1; have cv5' := (CV.out _ U4.out).2; clear g))
        all_goals
          have HU2 := Lib.hid U4.out
          clear U4 U3 UD CV
          by_cases he : num4 bs (m + 4) = fnv (bs.take (m + 4))
          · have hne := str_yes HB.out (m + 4) (by omega) _ he
            rw [← HY.out] at hne
            have hne2 : (!((strOf (be4 (fnv (bs.take (m + 4))))).toList == Y.toList)) = false := by rw [hne]; rfl
            rw [hne2]
            have HR := Lib.hid (show unfR bs = (0, (bs.drop 4).take m, (m : Int) + 8) by
              unfold unfR; rw [if_neg h8, HM.out, if_neg (Int.not_lt.2 HS2.out), Int.toNat_natCast, if_pos he])
            clear he
            have hcut := HU2.out.1.cut 4 m (by omega) hc
            rw [if_neg (by omega)] at hcut
            rw [Addr.add_succ'] at hcut
            have HC := Lib.hid hcut
            clear hcut
            have HLM := Lib.hid (show ((bs.drop 4).take m).length ≤ 100000 by simp; omega)
            obtain ⟨Z, hZ⟩ : ∃ Z, Z = (bs.drop 4).take m := ⟨_, rfl⟩
            rw [← hZ] at HC HR HLM
            clear hZ
            have i3' : (4 : Int) ≤ (m : Int) + 4 := by omega
            go_wp2_with (at_builtin; refine push_any rfl _ _ rfl w.heap.size _ [] rfl (BL.nil _ _) _ _ _ Z rfl ?h1 ?h2 ?h3 ?_)
            case h1 => first | exact HC.out | (rw [show 4 + m - 4 = m by omega]; exact HC.out) | (rw [show m + 4 - 4 = m by omega]; exact HC.out)
            case h2 => have := HLM.out; simp; omega
            case h3 => exact HU2.out.2.size
            intro V2 w3 o2 g2 _
            have G2 := Lib.hid (gb_own HU2.out.2 (BL.nil _ w.heap.size) (Nat.le_refl _) g2)
            have O2 := Lib.hid o2
            clear o2 g2
            go_wp2
            go_ret3
            refine ⟨V2, ?_, ?_, G2.out⟩
            · rw [HR.out]; rfl
            · rw [HR.out]; simpa using O2.out
          · have hne := str_no HB.out (m + 4) (by omega) _ hv.1 hv.2 he
            rw [← HY.out] at hne
            have hne2 : (!((strOf (be4 (fnv (bs.take (m + 4))))).toList == Y.toList)) = true := by rw [hne]; rfl
            rw [hne2]
            have HR := Lib.hid (show unfR bs = (24, [], 0) by
              unfold unfR; rw [if_neg h8, HM.out, if_neg (Int.not_lt.2 HS2.out), Int.toNat_natCast, if_neg he])
            clear he
            go_wp2
            go_ret3
            exact .mk0 HR.out HU2.out.2
end Go.Proofs.Ytplhhjbmegaiiaa
