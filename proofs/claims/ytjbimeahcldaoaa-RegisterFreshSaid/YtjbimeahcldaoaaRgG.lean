/- Register: New of both sides; no condition but sizes. -/
import Derived.Test.YtjbimeahcldaoaaRgF
namespace Go.Proofs.Ytjbimeahcldaoaa
open Go.RowKit
set_option linter.unusedVariables false
/-- Where the parts of a program lie. -/
structure PX where
  nm : ByteArray
  ha : Option Addr
  hn : Nat
  hc : Nat
  ma : Option Addr
  mn : Nat
  mc : Nat
  ra : Option Addr
  rn : Nat
  rc : Nat
  aa : Option Addr
  an : Nat
  ac : Nat
  ta : Option Addr
  tn : Nat
  tc : Nat
  sa : Option Addr
  sn : Nat
  sc : Nat
  ca : Option Addr
  cn : Nat
  cc : Nat
  da : Option Addr
  dn : Nat
  dc : Nat

theorem newL_len (L : List Rg) : (newL L).length = L.length := by simp [newL]
theorem newL_at (L : List Rg) (k : Nat) (h : k < L.length) : (newL L).getD k [] = List.replicate (szN (L.getD k rz).2.2) 0 := by
  simp [newL, h]
theorem szN_yes {n : Int} (h : okS n = true) : (szN n : Int) = n ∧ szN n ≤ 64 := by
  have q := of_decide_eq_true h
  have e : szN n = n.toNat := by unfold szN; rw [if_pos h]
  rw [e]; omega
theorem szN_no {n : Int} (h : okS n = false) : szN n = 0 := by unfold szN; rw [if_neg (by rw [h]; decide)]
theorem szN_le (n : Int) : szN n ≤ 64 := by
  cases h : okS n
  · rw [szN_no h]; omega
  · exact (szN_yes h).2
set_option maxRecDepth 100000 in
set_option maxHeartbeats 4000000 in
theorem new_any (w : World) (X : PX) (L : List Rg) (h : SG w X.ra X.rn X.rc L) (hn : X.rn ≤ 1000000) : Calls Try.prog 13 #[.agg #[.string X.nm, .slice X.ha X.hn X.hc, .slice X.ma X.mn X.mc, .slice X.ra X.rn X.rc, .slice X.aa X.an X.ac, .slice X.ta X.tn X.tc, .slice X.sa X.sn X.sc, .slice X.ca X.cn X.cc, .slice X.da X.dn X.dc]] w (RetR (newL L) w) := by
  obtain ⟨i0, hi, hz0, hz1, hz2⟩ := info_parts infoRow
  obtain ⟨i1, hi1, hy0, hy1, hy2⟩ := info_parts infoU32
  have HI := Lib.hid hi
  have HI1 := Lib.hid hi1
  clear hi hi1
  have H := Lib.hid h
  have LN := Lib.hid h.len
  clear h
  obtain ⟨A, hA⟩ : ∃ A, A = w.heap.size := ⟨_, rfl⟩
  obtain ⟨w1, hw1⟩ : ∃ w1, w1 = w.alloc (.cells #[.string X.nm, .slice X.ha X.hn X.hc, .slice X.ma X.mn X.mc, .slice X.ra X.rn X.rc, .slice X.aa X.an X.ac, .slice X.ta X.tn X.tc, .slice X.sa X.sn X.sc, .slice X.ca X.cn X.cc, .slice X.da X.dn X.dc] 37) := ⟨_, rfl⟩
  have BA := Lib.hid (show IsB w1 A 37 #[.string X.nm, .slice X.ha X.hn X.hc, .slice X.ma X.mn X.mc, .slice X.ra X.rn X.rc, .slice X.aa X.an X.ac, .slice X.ta X.tn X.tc, .slice X.sa X.sn X.sc, .slice X.ca X.cn X.cc, .slice X.da X.dn X.dc] from by rw [hw1, hA]; exact IsB.new _ _ _)
  have GZ := Lib.hid (show w.grownBy w1 none from by rw [hw1]; exact gb_al (gb_refl _ _))
  have LA := Lib.hid (show A < w1.heap.size from by rw [hw1, hA]; simp)
  go_enter Try.func13, Try.ntmps13
  go_upto_region 1 with fail
  rw [← hw1, ← hA]

  have LW := Lib.hid (show w.heap.size ≤ A from by rw [hA]; exact Nat.le_refl _)
  clear hw1 hA
  have s3 : w1.cell? ⟨A, 3, none⟩ = some (.slice X.ra X.rn X.rc) := BA.out.cell 3
  go_upto_region 2 with (at_make; refine wpList_make_full _ rfl _ _ 38 rfl w1.heap.size 53 i0 (.slice none 0 0) 1 Try.underlying38 HI.out hz0 hz1 .i64 .i64 _ _ X.rn rfl rfl ?c1 ?c2 ?c3 ?c4 ?c5 ?_)
  case c1 => first | rfl | omega
  case c2 => first | rfl | omega
  case c3 => rw [hz2]; omega
  case c4 => unfold maxLen; omega
  case c5 => simp
  intro w2 hown hg
  have s3' := hg.cell s3 (by simp)
  obtain ⟨B, hB⟩ : ∃ B, B = w1.heap.size := ⟨_, rfl⟩
  rw [← hB] at hown ⊢
  have O0 := Lib.hid ((or_own (n := X.rn) (by first | exact hown | simpa [made_zero] using hown)).low (show w.heap.size ≤ B from by have := LW.out; have := LA.out; omega))
  have G0 := Lib.hid (gb_trans GZ.out hg)
  clear hown hg hB s3
  go_wp2_with fail
  go_loopw [13] (fun s wr => ∃ k : Nat, k ≤ X.rn ∧ s = .int .i64 k ∧ (∃ Vs, OR wr w.heap.size (.slice (some ⟨B, 0, none⟩) X.rn X.rn) (up X.rn k (newL L)) Vs) ∧ w.grownBy wr none) (fun s _ => X.rn - (intOf s).toNat)
  case atStart => exact ⟨0, Nat.zero_le _, rfl, ⟨_, by rw [up_zero]; exact O0.out⟩, G0.out⟩
  case round =>
    obtain ⟨k, hk, rfl, ⟨Vs, hO⟩, hg⟩ := hrel
    have HO := Lib.hid hO
    have HG := Lib.hid hg
    clear hO hg O0 G0 BA GZ LA LW
    by_cases hlt : k < X.rn
    · obtain ⟨ar, har⟩ := H.out.some (by omega)
      rw [har] at H ⊢
      obtain ⟨c0, c1, c2⟩ := (H.out.keep0 HG.out).cells ar rfl k hlt
      have i0 : (0 : Int) ≤ (k : Int) := by omega
      have i2 : (k : Int) < (X.rn : Int) := by omega
      have AT := Lib.hid (newL_at L k (by rw [LN.out]; exact hlt))
      obtain ⟨g0, hg0⟩ : ∃ g, g = L.getD k rz := ⟨_, rfl⟩
      rw [← hg0] at c0 c1 c2 AT
      clear hg0
      obtain ⟨nm, wd, sz⟩ := g0
      have IS := Lib.hid (fun W => iss_any W sz)
      unfold RetS at IS
      cases hs : okS sz
      · rw [hs] at IS
        have Z := Lib.hid (szN_no hs)
        clear hs
        go_wp2_with fail
        refine (IS.out _).mono ?_
        rintro e w3 ⟨rfl, rfl⟩
        go_wp2
        go_roundw
        case rel => exact ⟨k + 1, by omega, by go_num, ⟨Vs, by rw [← up_same X.rn k (newL L) hlt (by rw [AT.out]; show List.replicate (szN sz) 0 = []; rw [Z.out]; rfl)]; exact HO.out.keep0 (gb_alloc _ _ _)⟩, gb_al HG.out⟩
        case measure => simp [intOf]; omega
      · rw [hs] at IS
        have Z := Lib.hid (szN_yes hs)
        clear hs
        go_wp2_with fail
        refine (IS.out _).mono ?_
        rintro e w3 ⟨rfl, rfl⟩
        obtain ⟨w4, hw4⟩ : ∃ w4, w4 = wr.alloc (Obj.cells #[Value.string nm, Value.int IntKind.i64 wd, Value.int IntKind.i64 sz] 23) := ⟨_, rfl⟩
        rw [← hw4]
        have b4 : w4.cell? ⟨wr.heap.size, 2, none⟩ = some (.int .i64 sz) := by rw [hw4]; exact (IsB.new wr _ _).cell 2
        have O4 := Lib.hid (HO.out.keep0 (show wr.grownBy w4 none from by rw [hw4]; exact gb_alloc _ _ _))
        have G4 := Lib.hid (show w.grownBy w4 none from by rw [hw4]; exact gb_al HG.out)
        clear HO HG hw4 c0 c1 c2
        go_wp2_with (at_make; refine wpList_make_full _ rfl _ _ 53 rfl w4.heap.size 44 i1 (.int .u32 0) 1 Try.underlying53 HI1.out hy0 hy1 .i64 .i64 _ _ (szN sz) rfl rfl ?c1 ?c2 ?c3 ?c4 ?c5 ?_)
        case c1 => have := Z.out; first | rfl | omega
        case c2 => have := Z.out; first | rfl | omega
        case c3 => have := Z.out; rw [hy2]; omega
        case c4 => have := Z.out; unfold maxLen; omega
        case c5 => simp
        intro w5 hown hg
        have NZ := Lib.hid (show NU w5 w4.heap.size (.slice (some ⟨w4.heap.size, 0, none⟩) (szN sz) (szN sz)) (List.replicate (szN sz) 0) by simpa [NU, made_zero] using hown)
        have O5 := Lib.hid (O4.out.keep0 hg)
        have f1 : w5.frozen? ⟨B, k, none⟩ = false := by
          have := O5.out.out
          rw [up_len] at this
          exact this.frozenAt k
        have x1 : w5.cell? ⟨B, k, none⟩ = some (Vs.getD k nilV) := by
          have o := O5.out.out
          have nv := O5.out.nV
          rw [up_len] at o nv
          rw [o.cellAt k (by omega), List.getD_eq_getElem?_getD, List.getElem?_eq_getElem (show k < Vs.length by omega)]
          rfl
        have LB := (World.ownsRow.lt O4.out.out B rfl).1
        have HG5 := Lib.hid (gb_put (i := k) (u := .slice (some ⟨w4.heap.size, 0, none⟩) (szN sz) (szN sz)) (gb_trans G4.out hg) LB)
        have O6 := Lib.hid (OR.put O4.out (up_len _ _ _) k hlt (.slice (some ⟨w4.heap.size, 0, none⟩) (szN sz) (szN sz)) (List.replicate (szN sz) 0) hg (own_low NZ.out G4.out.size) (fun q e => by simp [Value.ownBlock] at e; omega) (zero_rng _))
        rw [← AT.out, up_set _ _ _ hlt] at O6
        clear hown hg NZ O5 LB
        generalize Vs.getD k nilV = V0 at x1
        go_wp2_with fail
        go_roundw
        case rel => exact ⟨k + 1, by omega, by go_num, ⟨_, O6.out⟩, HG5.out⟩
        case measure => simp [intOf]; omega
    · have hke : k = X.rn := by omega
      subst hke
      rw [up_all _ X.rn (by rw [newL_len]; exact LN.out)] at HO
      go_wp2
      go_ret
      exact ⟨_, Vs, rfl, HO.out, HG.out⟩
end Go.Proofs.Ytjbimeahcldaoaa
