/- Register: CheckContents of the reference; no condition but sizes. -/
import Derived.Test.YtjbimeahcldaoaaRgO
namespace Go.Proofs.Ytjbimeahcldaoaa
open Go.RowKit
set_option linter.unusedVariables false
theorem fitv (v wd : Int) : decide (v < pw (widN wd).toNat) = decide (v ≤ mkB wd) := by
  rw [decide_eq_decide]
  unfold widN mkB pw
  by_cases h : 1 ≤ wd ∧ wd ≤ 32
  · rw [if_pos h, if_pos h]; omega
  · rw [if_neg h, if_neg h]
    show v < 2 ^ (0 : Int).toNat ↔ v ≤ 0
    simp
    omega
theorem widN_rng (wd : Int) : 0 ≤ widN wd ∧ widN wd ≤ 32 := by
  unfold widN
  split <;> omega
theorem fitR_iff (nm : ByteArray) (wd sz : Int) (l : List Int) : fitR (nm, wd, sz) l = true ↔ ∀ j, j < l.length → l.getD j 0 ≤ mkB wd := by
  unfold fitR
  rw [List.all_eq_true]
  constructor
  · intro h j hj
    have := h (l.getD j 0) (by rw [List.getD_eq_getElem?_getD, List.getElem?_eq_getElem hj]; exact List.getElem_mem _)
    exact of_decide_eq_true this
  · intro h x hx
    obtain ⟨j, hj, rfl⟩ := List.getElem_of_mem hx
    have := h j hj
    rw [List.getD_eq_getElem?_getD, List.getElem?_eq_getElem hj] at this
    exact decide_eq_true this
set_option maxRecDepth 100000 in
set_option maxHeartbeats 2000000 in
theorem rcont_b (w : World) (X : PX) (L : List Rg) (a : Option Addr) (n c : Nat) (R : List (List Int)) (h : SG w X.ra X.rn X.rc L) (g : SR w a n c R) (hm : X.rn ≤ 1000000) (hn : n ≤ 1000000) (hrow : ∀ j, (R.getD j []).length ≤ 1000000) (e : Int) (he : contZ L R = e) :
    Calls Try.prog 16 #[.agg #[.string X.nm, .slice X.ha X.hn X.hc, .slice X.ma X.mn X.mc, .slice X.ra X.rn X.rc, .slice X.aa X.an X.ac, .slice X.ta X.tn X.tc, .slice X.sa X.sn X.sc, .slice X.ca X.cn X.cc, .slice X.da X.dn X.dc], .slice a n c] w (RetV (.int .i64 e) w) := by
  have H := Lib.hid h
  have K := Lib.hid g
  have LN := Lib.hid h.len
  have RN := Lib.hid g.len
  have HR := Lib.hid hrow
  have HE := Lib.hid he
  unfold contZ at HE
  clear h g hrow he
  obtain ⟨A, hA⟩ : ∃ A, A = w.heap.size := ⟨_, rfl⟩
  obtain ⟨w1, hw1⟩ : ∃ w1, w1 = w.alloc (.cells #[.string X.nm, .slice X.ha X.hn X.hc, .slice X.ma X.mn X.mc, .slice X.ra X.rn X.rc, .slice X.aa X.an X.ac, .slice X.ta X.tn X.tc, .slice X.sa X.sn X.sc, .slice X.ca X.cn X.cc, .slice X.da X.dn X.dc] 37) := ⟨_, rfl⟩
  have BA := Lib.hid (show IsB w1 A 37 #[.string X.nm, .slice X.ha X.hn X.hc, .slice X.ma X.mn X.mc, .slice X.ra X.rn X.rc, .slice X.aa X.an X.ac, .slice X.ta X.tn X.tc, .slice X.sa X.sn X.sc, .slice X.ca X.cn X.cc, .slice X.da X.dn X.dc] from by rw [hw1, hA]; exact IsB.new _ _ _)
  have GZ := Lib.hid (show w.grownBy w1 none from by rw [hw1]; exact gb_al (gb_refl _ _))
  have LA := Lib.hid (show A < w1.heap.size from by rw [hw1, hA]; simp)
  go_enter Try.func16, Try.ntmps16
  go_upto_region 1 with fail
  rw [← hw1, ← hA]

  clear hw1 hA
  have s3 : w1.cell? ⟨A, 3, none⟩ = some (.slice X.ra X.rn X.rc) := BA.out.cell 3
  rcases (show ¬ X.rn = n ∨ X.rn = n by omega) with hl | hl
  · obtain rfl : e = 2 := by rw [← HE.out]; exact if_neg (by rw [LN.out, RN.out]; exact hl)
    have j1 : ¬ (n : Int) = (X.rn : Int) := by omega
    have j2 : ¬ n = X.rn := by omega
    clear HE
    go_wp2
    go_ret
    exact ⟨rfl, GZ.out⟩
  subst hl
  rw [if_pos (by rw [LN.out, RN.out])] at HE
  go_wp2
  clear s3
  go_loopw [5] (fun s wr => ∃ k : Nat, k ≤ X.rn ∧ s = .int .i64 k ∧ (∀ j, j < k → ((R.getD j []).length : Int) = (L.getD j rz).2.2) ∧ w1.grownBy wr none) (fun s _ => X.rn - (intOf s).toNat)
  case atStart => exact ⟨0, Nat.zero_le _, rfl, fun j hj => absurd hj (Nat.not_lt_zero _), gb_refl _ _⟩
  case round =>
    obtain ⟨k, hk, rfl, hno, hg⟩ := hrel
    have HG := Lib.hid hg
    have HN := Lib.hid hno
    clear hg hno
    have s3 : wr.cell? ⟨A, 3, none⟩ = some (.slice X.ra X.rn X.rc) := (BA.out.keep0 HG.out).cell 3
    by_cases hlt : k < X.rn
    · obtain ⟨ar, har⟩ := H.out.some (by omega)
      obtain ⟨br, rfl⟩ := K.out.some (by omega)
      obtain ⟨x0, x1, x2⟩ := ((H.out.keep0 GZ.out).keep0 HG.out).cells ar har k hlt
      obtain ⟨fa, fn, fc, y0, y1⟩ := ((K.out.keep0 GZ.out).keep0 HG.out).cells br rfl k hlt
      have FN := Lib.hid y1.len
      rw [har] at s3 ⊢
      have i0 : (0 : Int) ≤ (k : Int) := by omega
      have i2 : (k : Int) < (X.rn : Int) := by omega
      have YES := Lib.hid (show (fn : Int) = (L.getD k rz).2.2 → ∀ j, j < k + 1 → ((R.getD j []).length : Int) = (L.getD j rz).2.2 from fun e j hj => by
        rcases (show j < k ∨ j = k by omega) with q | rfl
        · exact HN.out j q
        · rw [FN.out]; exact e)
      have NO := Lib.hid (show ¬ (fn : Int) = (L.getD k rz).2.2 → sameZ L R = false from fun e => bool_no (same_iff L R) fun q => e (by rw [← FN.out]; exact q k (by rw [LN.out]; exact hlt)))
      obtain ⟨g0, hg0⟩ : ∃ g, g = L.getD k rz := ⟨_, rfl⟩
      rw [← hg0] at x0 x1 x2 YES NO
      clear hg0 y1
      obtain ⟨nm, wd, sz⟩ := g0
      by_cases hq : (fn : Int) = sz
      · have Y2 := Lib.hid (YES.out hq)
        clear YES NO
        rw [← hq] at x2
        clear hq
        go_wp2
        go_region
        go_wp2
        go_roundw
        case rel => exact ⟨k + 1, by omega, by go_num, Y2.out, gb_dr1 HG.out⟩
        case measure => simp [intOf]; omega
      · obtain rfl : e = 2 := by rw [← HE.out]; exact if_neg (by rw [NO.out hq]; decide)
        have hq2 : ((fn : Int) != sz) = true := by rw [bne_iff_ne]; exact hq
        clear YES NO HE
        go_wp2
        go_region
        go_wp2
        go_ret
        exact ⟨rfl, gb_trans GZ.out (gb_dr1 HG.out)⟩
    · have hke : k = X.rn := by omega
      rw [if_pos ((same_iff L R).2 fun j hj => HN.out j (by rw [hke, ← LN.out]; exact hj))] at HE
      clear HN hke
      obtain ⟨wa, hwa⟩ : ∃ wa, wa = wr := ⟨_, rfl⟩
      rw [← hwa] at HG s3 ⊢
      clear hwa
      go_wp2
      go_loopw [6] (fun s wr => ∃ k : Nat, k ≤ X.rn ∧ s = .int .i64 k ∧ (∀ j, j < k → fitR (L.getD j rz) (R.getD j []) = true) ∧ w1.grownBy wr none) (fun s _ => X.rn - (intOf s).toNat)
      case atStart => exact ⟨0, Nat.zero_le _, rfl, fun j hj => absurd hj (Nat.not_lt_zero _), HG.out⟩
      case round =>
        clear HG s3 hk hlt
        obtain ⟨k, hk, rfl, hno, hg⟩ := hrel
        have HG := Lib.hid hg
        have HN := Lib.hid hno
        clear hg hno
        by_cases hlt : k < X.rn
        · obtain ⟨ar, har⟩ := H.out.some (by omega)
          obtain ⟨br, rfl⟩ := K.out.some (by omega)
          rw [har]
          have SX := Lib.hid (fun (w' : World) (q : w1.grownBy w' none) => ((H.out.keep0 GZ.out).keep0 q).cells ar har k hlt)
          obtain ⟨fa, fn, fc, yy0, yy1⟩ := (K.out.keep0 GZ.out).cells br rfl k hlt
          have Y0 := Lib.hid yy0
          have Y1 := Lib.hid yy1
          have FN := Lib.hid yy1.len
          have fb : fn ≤ 1000000 := by rw [← yy1.len]; exact HR.out k
          clear yy0 yy1
          have i0 : (0 : Int) ≤ (k : Int) := by omega
          have i2 : (k : Int) < (X.rn : Int) := by omega
          have YES := Lib.hid (show fitR (L.getD k rz) (R.getD k []) = true → ∀ j, j < k + 1 → fitR (L.getD j rz) (R.getD j []) = true from fun e j hj => by
            rcases (show j < k ∨ j = k by omega) with q | rfl
            · exact HN.out j q
            · exact e)
          have NO := Lib.hid (show ¬ fitR (L.getD k rz) (R.getD k []) = true → fitZ L R = false from fun e => bool_no (fit_iff L R) fun q => e (q k (by rw [LN.out]; exact hlt)))
          obtain ⟨g0, hg0⟩ : ∃ g, g = L.getD k rz := ⟨_, rfl⟩
          rw [← hg0] at SX YES NO
          clear hg0
          obtain ⟨nm, wd, sz⟩ := g0
          have FI := Lib.hid (fitR_iff nm wd sz (R.getD k []))
          rw [FN.out] at FI
          have WA := Lib.hid (fun W => rwid_any W nm wd sz)
          unfold RetV at WA
          have UA := Lib.hid Y1.out.at_
          obtain ⟨l0, hl0⟩ : ∃ l, l = R.getD k [] := ⟨_, rfl⟩
          rw [← hl0] at Y1 UA FI YES NO
          clear hl0
          go_wp2
          go_loopw [7] (fun s wi => ∃ i : Nat, i ≤ fn ∧ s = .int .i64 i ∧ (∀ j, j < i → l0.getD j 0 ≤ mkB wd) ∧ w1.grownBy wi none) (fun s _ => fn - (intOf s).toNat)
          case atStart => exact ⟨0, Nat.zero_le _, rfl, fun j hj => absurd hj (Nat.not_lt_zero _), HG.out⟩
          case round =>
            clear HG
            obtain ⟨i, hi, rfl, hno, hg⟩ := hrel
            obtain ⟨wi, hwi⟩ : ∃ wi, wi = wr := ⟨_, rfl⟩
            rw [← hwi] at hg ⊢
            clear hwi
            have HG := Lib.hid hg
            have HM := Lib.hid hno
            clear hg hno
            have y0 := HG.out.cell Y0.out (by simp)
            have s3 : wi.cell? ⟨A, 3, none⟩ = some (.slice X.ra X.rn X.rc) := (BA.out.keep0 HG.out).cell 3
            obtain ⟨x0, x1, x2⟩ := SX.out wi HG.out
            rw [har] at s3
            by_cases hlt2 : i < fn
            · obtain ⟨cr, rfl⟩ := Y1.out.some (by omega)
              have v0 := (Y1.out.keep0 HG.out).cells cr rfl i hlt2
              have i4 : (0 : Int) ≤ (i : Int) := by omega
              have i6 : (i : Int) < (fn : Int) := by omega
              have YES2 := Lib.hid (show l0.getD i 0 ≤ mkB wd → ∀ j, j < i + 1 → l0.getD j 0 ≤ mkB wd from fun e j hj => by
                rcases (show j < i ∨ j = i by omega) with q | rfl
                · exact HM.out j q
                · exact e)
              have NO2 := Lib.hid (show ¬ l0.getD i 0 ≤ mkB wd → ¬ fitR (nm, wd, sz) l0 = true from fun e q => e (FI.out.1 q i hlt2))
              have ub := UA.out i
              obtain ⟨v, hv⟩ : ∃ v, v = l0.getD i 0 := ⟨_, rfl⟩
              rw [← hv] at v0 YES2 NO2 ub
              clear hv
              have FT := Lib.hid (fun W => rfits_any v (widN wd) W ub.1 ub.2 (widN_rng wd).1 (widN_rng wd).2)
              unfold RetS at FT
              rw [fitv] at FT
              by_cases hh : v ≤ mkB wd
              · rw [decide_eq_true hh] at FT
                have Z2 := Lib.hid (YES2.out hh)
                clear YES2 NO2 hh
                go_upto_region 14 with fail
                have KT := Lib.hid (fun (w' : World) (g : wi.grownBy w' none) => (⟨g.cell y0 (by simp), g.cell v0 (by simp), g.cell s3 (by simp), g.cell x0 (by simp), g.cell x1 (by simp), g.cell x2 (by simp), trivial⟩ : (fun w' : World => w'.cell? (br.add k) = some (.slice (some cr) fn fc) ∧ w'.cell? (cr.add i) = some (.int .u32 v) ∧ w'.cell? ⟨A, 3, none⟩ = some (.slice (some ar) X.rn X.rc) ∧ w'.cell? (ar.add (k * 3)) = some (.string nm) ∧ w'.cell? ⟨(ar.add (k * 3)).block, (ar.add (k * 3)).off + 1, none⟩ = some (.int .i64 wd) ∧ w'.cell? ⟨(ar.add (k * 3)).block, (ar.add (k * 3)).off + 2, none⟩ = some (.int .i64 sz) ∧ True) w'))
                refine wp_region_held_drew (S := (fun w' : World => w'.cell? (br.add k) = some (.slice (some cr) fn fc) ∧ w'.cell? (cr.add i) = some (.int .u32 v) ∧ w'.cell? ⟨A, 3, none⟩ = some (.slice (some ar) X.rn X.rc) ∧ w'.cell? (ar.add (k * 3)) = some (.string nm) ∧ w'.cell? ⟨(ar.add (k * 3)).block, (ar.add (k * 3)).off + 1, none⟩ = some (.int .i64 wd) ∧ w'.cell? ⟨(ar.add (k * 3)).block, (ar.add (k * 3)).off + 2, none⟩ = some (.int .i64 sz) ∧ True)) (by kernel_rfl) (KT.out _ (gb_drew wi none)) (fun hH0 => ?_)
                refine wpAnyH_take (i := 0) (v := ?v1) rfl (by kernel_rfl) (by kernel_rfl) (by kernel_rfl) (fun _ _ _ h => h) (Or.inl ⟨by rfl, ?hy1⟩) (by assumption) ?rest1
                case hy1 => (intro wz hSw; (try dsimp only at hSw); first | (go_simp; done) | (go_simp; with_reducible rfl))
                try simp only [Act.put, List.getElem_toArray, List.getElem_cons_zero, List.setIfInBounds_toArray, List.set_cons_zero, List.set_cons_succ]
                refine wpAnyH_take (i := 1) (v := ?v2) rfl (by kernel_rfl) (by kernel_rfl) (by kernel_rfl) (fun _ _ _ h => h) (Or.inl ⟨by rfl, ?hy2⟩) (by assumption) ?rest2
                case hy2 => (intro wz hSw; (try dsimp only at hSw); first | (go_simp; done) | (go_simp; with_reducible rfl))
                try simp only [Act.put, List.getElem_toArray, List.getElem_cons_succ, List.getElem_cons_zero, List.setIfInBounds_toArray, List.set_cons_zero, List.set_cons_succ]
                refine wpAnyH_take (i := 2) (v := ?v3) rfl (by kernel_rfl) (by kernel_rfl) (by kernel_rfl) (fun _ _ _ h => h) (Or.inl ⟨by rfl, ?hy3⟩) (by assumption) ?rest3
                case hy3 => (intro wz hSw; (try dsimp only at hSw); first | (go_simp; done) | (go_simp; with_reducible rfl))
                try simp only [Act.put, List.getElem_toArray, List.getElem_cons_succ, List.getElem_cons_zero, List.setIfInBounds_toArray, List.set_cons_zero, List.set_cons_succ]
                refine wpAnyH_take (i := 3) (v := ?v4) rfl (by kernel_rfl) (by kernel_rfl) (by kernel_rfl) (fun _ _ _ h => h) (Or.inl ⟨by rfl, ?hy4⟩) (by assumption) ?rest4
                case hy4 => (intro wz hSw; (try dsimp only at hSw); first | (go_simp; done) | (go_simp; with_reducible rfl))
                try simp only [Act.put, List.getElem_toArray, List.getElem_cons_succ, List.getElem_cons_zero, List.setIfInBounds_toArray, List.set_cons_zero, List.set_cons_succ]
                refine wpAnyH_take (i := 4) (v := ?v5) rfl (by kernel_rfl) (by kernel_rfl) (by kernel_rfl) (fun _ _ _ h => h) (Or.inl ⟨by rfl, ?hy5⟩) (by assumption) ?rest5
                case hy5 => (intro wz hSw; (try dsimp only at hSw); first | (go_simp; done) | (go_simp; with_reducible rfl))
                try simp only [Act.put, List.getElem_toArray, List.getElem_cons_succ, List.getElem_cons_zero, List.setIfInBounds_toArray, List.set_cons_zero, List.set_cons_succ]
                refine wpAnyH_take (i := 5) (v := ?v6) rfl (by kernel_rfl) (by kernel_rfl) (by kernel_rfl) (fun _ _ _ h => h) (Or.inl ⟨by rfl, ?hy6⟩) (by assumption) ?rest6
                case hy6 => (intro wz hSw; (try dsimp only at hSw); first | (go_simp; done) | (go_simp; with_reducible rfl))
                try simp only [Act.put, List.getElem_toArray, List.getElem_cons_succ, List.getElem_cons_zero, List.setIfInBounds_toArray, List.set_cons_zero, List.set_cons_succ]
                refine wpAnyH_take (i := 6) (v := ?v7) rfl (by kernel_rfl) (by kernel_rfl) (by kernel_rfl) (fun _ _ _ h => h) (Or.inl ⟨by rfl, ?hy7⟩) (by assumption) ?rest7
                case hy7 => (intro wz hSw; (try dsimp only at hSw); first | (go_simp; done) | (go_simp; with_reducible rfl))
                try simp only [Act.put, List.getElem_toArray, List.getElem_cons_succ, List.getElem_cons_zero, List.setIfInBounds_toArray, List.set_cons_zero, List.set_cons_succ]
                refine wpAnyH_take (i := 7) (v := ?v8) rfl (by kernel_rfl) (by kernel_rfl) (by kernel_rfl) (fun _ _ _ h => h) (Or.inl ⟨by rfl, ?hy8⟩) (by assumption) ?rest8
                case hy8 => (intro wz hSw; (try dsimp only at hSw); first | (go_simp; done) | (go_simp; with_reducible rfl))
                try simp only [Act.put, List.getElem_toArray, List.getElem_cons_succ, List.getElem_cons_zero, List.setIfInBounds_toArray, List.set_cons_zero, List.set_cons_succ]
                refine wpAnyH_take (i := 8) (v := ?v9) rfl (by kernel_rfl) (by kernel_rfl) (by kernel_rfl) (fun _ _ _ h => h) (Or.inl ⟨by rfl, ?hy9⟩) (by assumption) ?rest9
                case hy9 => (intro wz hSw; (try dsimp only at hSw); first | (go_simp; done) | (go_simp; with_reducible rfl))
                try simp only [Act.put, List.getElem_toArray, List.getElem_cons_succ, List.getElem_cons_zero, List.setIfInBounds_toArray, List.set_cons_zero, List.set_cons_succ]
                refine wpAnyH_take (i := 9) (v := ?v10) rfl (by kernel_rfl) (by kernel_rfl) (by kernel_rfl) (fun _ _ _ h => h) (Or.inl ⟨by rfl, ?hy10⟩) (by assumption) ?rest10
                case hy10 => (intro wz hSw; (try dsimp only at hSw); first | (go_simp; done) | (go_simp; with_reducible rfl))
                try simp only [Act.put, List.getElem_toArray, List.getElem_cons_succ, List.getElem_cons_zero, List.setIfInBounds_toArray, List.set_cons_zero, List.set_cons_succ]
                refine wpAnyH_take (i := 10) (v := ?v11) rfl (by kernel_rfl) (by kernel_rfl) (by kernel_rfl) (fun _ _ _ h => h) (Or.inl ⟨by rfl, ?hy11⟩) (by assumption) ?rest11
                case hy11 => (intro wz hSw; (try dsimp only at hSw); first | (go_simp; done) | (go_simp; with_reducible rfl))
                try simp only [Act.put, List.getElem_toArray, List.getElem_cons_succ, List.getElem_cons_zero, List.setIfInBounds_toArray, List.set_cons_zero, List.set_cons_succ]
                refine wpAnyH_take (i := 11) (v := ?v12) rfl (by kernel_rfl) (by kernel_rfl) (by kernel_rfl) (fun _ _ _ h => h) (Or.inl ⟨by rfl, ?hy12⟩) (by assumption) ?rest12
                case hy12 => (intro wz hSw; (try dsimp only at hSw); first | (go_simp; done) | (go_simp; with_reducible rfl))
                try simp only [Act.put, List.getElem_toArray, List.getElem_cons_succ, List.getElem_cons_zero, List.setIfInBounds_toArray, List.set_cons_zero, List.set_cons_succ]
                refine wpAnyH_ready (rs := [12]) (by kernel_rfl) (by simp) ?_
                refine AllReadyH.cons (o := _) rfl (fun K hK => ?_) AllReadyH.nil
                go_simp
                refine (WA.out _).mono ?_
                rintro e w4 ⟨rfl, g4⟩
                have G4 := Lib.hid (gb_trans (gb_drew wi none) g4)
                clear g4
                try dsimp only
                refine hK.out _ _ (KT.out _ G4.out) (fun hH1 => ?_)
                clear hK K hH0
                try simp only [Act.put, List.getElem_toArray, List.getElem_cons_succ, List.getElem_cons_zero, List.setIfInBounds_toArray, List.set_cons_zero, List.set_cons_succ]
                refine wpAnyH_ready (rs := [13]) (by kernel_rfl) (by simp) ?_
                refine AllReadyH.cons (o := _) rfl (fun K hK => ?_) AllReadyH.nil
                go_simp
                refine (FT.out _).mono ?_
                rintro e w5 ⟨rfl, rfl⟩
                try dsimp only
                refine hK.out _ _ (KT.out _ G4.out) (fun hH2 => ?_)
                clear hK K hH1
                try simp only [Act.put, List.getElem_toArray, List.getElem_cons_succ, List.getElem_cons_zero, List.setIfInBounds_toArray, List.set_cons_zero, List.set_cons_succ]
                refine wpAnyH_take (i := 14) (v := ?v13) rfl (by kernel_rfl) (by kernel_rfl) (by kernel_rfl) (fun _ _ _ h => h) (Or.inl ⟨by rfl, ?hy13⟩) (by assumption) ?rest13
                case hy13 => (intro wz hSw; (try dsimp only at hSw); first | (go_simp; done) | (go_simp; with_reducible rfl))
                try simp only [Act.put, List.getElem_toArray, List.getElem_cons_succ, List.getElem_cons_zero, List.setIfInBounds_toArray, List.set_cons_zero, List.set_cons_succ]
                refine wpAnyH_done (by kernel_rfl) ?_ _
                clear hH2 KT
                go_wp2
                go_roundw
                case rel => exact ⟨i + 1, by omega, by go_num, Z2.out, gb_trans HG.out G4.out⟩
                case measure => simp [intOf]; omega
              · rw [decide_eq_false hh] at FT
                obtain rfl : e = 9 := by rw [← HE.out]; exact if_neg (by rw [NO.out (NO2.out hh)]; decide)
                clear YES2 NO2 hh HE
                go_upto_region 14 with fail
                have KT := Lib.hid (fun (w' : World) (g : wi.grownBy w' none) => (⟨g.cell y0 (by simp), g.cell v0 (by simp), g.cell s3 (by simp), g.cell x0 (by simp), g.cell x1 (by simp), g.cell x2 (by simp), trivial⟩ : (fun w' : World => w'.cell? (br.add k) = some (.slice (some cr) fn fc) ∧ w'.cell? (cr.add i) = some (.int .u32 v) ∧ w'.cell? ⟨A, 3, none⟩ = some (.slice (some ar) X.rn X.rc) ∧ w'.cell? (ar.add (k * 3)) = some (.string nm) ∧ w'.cell? ⟨(ar.add (k * 3)).block, (ar.add (k * 3)).off + 1, none⟩ = some (.int .i64 wd) ∧ w'.cell? ⟨(ar.add (k * 3)).block, (ar.add (k * 3)).off + 2, none⟩ = some (.int .i64 sz) ∧ True) w'))
                refine wp_region_held_drew (S := (fun w' : World => w'.cell? (br.add k) = some (.slice (some cr) fn fc) ∧ w'.cell? (cr.add i) = some (.int .u32 v) ∧ w'.cell? ⟨A, 3, none⟩ = some (.slice (some ar) X.rn X.rc) ∧ w'.cell? (ar.add (k * 3)) = some (.string nm) ∧ w'.cell? ⟨(ar.add (k * 3)).block, (ar.add (k * 3)).off + 1, none⟩ = some (.int .i64 wd) ∧ w'.cell? ⟨(ar.add (k * 3)).block, (ar.add (k * 3)).off + 2, none⟩ = some (.int .i64 sz) ∧ True)) (by kernel_rfl) (KT.out _ (gb_drew wi none)) (fun hH0 => ?_)
                refine wpAnyH_take (i := 0) (v := ?v14) rfl (by kernel_rfl) (by kernel_rfl) (by kernel_rfl) (fun _ _ _ h => h) (Or.inl ⟨by rfl, ?hy14⟩) (by assumption) ?rest14
                case hy14 => (intro wz hSw; (try dsimp only at hSw); first | (go_simp; done) | (go_simp; with_reducible rfl))
                try simp only [Act.put, List.getElem_toArray, List.getElem_cons_zero, List.setIfInBounds_toArray, List.set_cons_zero, List.set_cons_succ]
                refine wpAnyH_take (i := 1) (v := ?v15) rfl (by kernel_rfl) (by kernel_rfl) (by kernel_rfl) (fun _ _ _ h => h) (Or.inl ⟨by rfl, ?hy15⟩) (by assumption) ?rest15
                case hy15 => (intro wz hSw; (try dsimp only at hSw); first | (go_simp; done) | (go_simp; with_reducible rfl))
                try simp only [Act.put, List.getElem_toArray, List.getElem_cons_succ, List.getElem_cons_zero, List.setIfInBounds_toArray, List.set_cons_zero, List.set_cons_succ]
                refine wpAnyH_take (i := 2) (v := ?v16) rfl (by kernel_rfl) (by kernel_rfl) (by kernel_rfl) (fun _ _ _ h => h) (Or.inl ⟨by rfl, ?hy16⟩) (by assumption) ?rest16
                case hy16 => (intro wz hSw; (try dsimp only at hSw); first | (go_simp; done) | (go_simp; with_reducible rfl))
                try simp only [Act.put, List.getElem_toArray, List.getElem_cons_succ, List.getElem_cons_zero, List.setIfInBounds_toArray, List.set_cons_zero, List.set_cons_succ]
                refine wpAnyH_take (i := 3) (v := ?v17) rfl (by kernel_rfl) (by kernel_rfl) (by kernel_rfl) (fun _ _ _ h => h) (Or.inl ⟨by rfl, ?hy17⟩) (by assumption) ?rest17
                case hy17 => (intro wz hSw; (try dsimp only at hSw); first | (go_simp; done) | (go_simp; with_reducible rfl))
                try simp only [Act.put, List.getElem_toArray, List.getElem_cons_succ, List.getElem_cons_zero, List.setIfInBounds_toArray, List.set_cons_zero, List.set_cons_succ]
                refine wpAnyH_take (i := 4) (v := ?v18) rfl (by kernel_rfl) (by kernel_rfl) (by kernel_rfl) (fun _ _ _ h => h) (Or.inl ⟨by rfl, ?hy18⟩) (by assumption) ?rest18
                case hy18 => (intro wz hSw; (try dsimp only at hSw); first | (go_simp; done) | (go_simp; with_reducible rfl))
                try simp only [Act.put, List.getElem_toArray, List.getElem_cons_succ, List.getElem_cons_zero, List.setIfInBounds_toArray, List.set_cons_zero, List.set_cons_succ]
                refine wpAnyH_take (i := 5) (v := ?v19) rfl (by kernel_rfl) (by kernel_rfl) (by kernel_rfl) (fun _ _ _ h => h) (Or.inl ⟨by rfl, ?hy19⟩) (by assumption) ?rest19
                case hy19 => (intro wz hSw; (try dsimp only at hSw); first | (go_simp; done) | (go_simp; with_reducible rfl))
                try simp only [Act.put, List.getElem_toArray, List.getElem_cons_succ, List.getElem_cons_zero, List.setIfInBounds_toArray, List.set_cons_zero, List.set_cons_succ]
                refine wpAnyH_take (i := 6) (v := ?v20) rfl (by kernel_rfl) (by kernel_rfl) (by kernel_rfl) (fun _ _ _ h => h) (Or.inl ⟨by rfl, ?hy20⟩) (by assumption) ?rest20
                case hy20 => (intro wz hSw; (try dsimp only at hSw); first | (go_simp; done) | (go_simp; with_reducible rfl))
                try simp only [Act.put, List.getElem_toArray, List.getElem_cons_succ, List.getElem_cons_zero, List.setIfInBounds_toArray, List.set_cons_zero, List.set_cons_succ]
                refine wpAnyH_take (i := 7) (v := ?v21) rfl (by kernel_rfl) (by kernel_rfl) (by kernel_rfl) (fun _ _ _ h => h) (Or.inl ⟨by rfl, ?hy21⟩) (by assumption) ?rest21
                case hy21 => (intro wz hSw; (try dsimp only at hSw); first | (go_simp; done) | (go_simp; with_reducible rfl))
                try simp only [Act.put, List.getElem_toArray, List.getElem_cons_succ, List.getElem_cons_zero, List.setIfInBounds_toArray, List.set_cons_zero, List.set_cons_succ]
                refine wpAnyH_take (i := 8) (v := ?v22) rfl (by kernel_rfl) (by kernel_rfl) (by kernel_rfl) (fun _ _ _ h => h) (Or.inl ⟨by rfl, ?hy22⟩) (by assumption) ?rest22
                case hy22 => (intro wz hSw; (try dsimp only at hSw); first | (go_simp; done) | (go_simp; with_reducible rfl))
                try simp only [Act.put, List.getElem_toArray, List.getElem_cons_succ, List.getElem_cons_zero, List.setIfInBounds_toArray, List.set_cons_zero, List.set_cons_succ]
                refine wpAnyH_take (i := 9) (v := ?v23) rfl (by kernel_rfl) (by kernel_rfl) (by kernel_rfl) (fun _ _ _ h => h) (Or.inl ⟨by rfl, ?hy23⟩) (by assumption) ?rest23
                case hy23 => (intro wz hSw; (try dsimp only at hSw); first | (go_simp; done) | (go_simp; with_reducible rfl))
                try simp only [Act.put, List.getElem_toArray, List.getElem_cons_succ, List.getElem_cons_zero, List.setIfInBounds_toArray, List.set_cons_zero, List.set_cons_succ]
                refine wpAnyH_take (i := 10) (v := ?v24) rfl (by kernel_rfl) (by kernel_rfl) (by kernel_rfl) (fun _ _ _ h => h) (Or.inl ⟨by rfl, ?hy24⟩) (by assumption) ?rest24
                case hy24 => (intro wz hSw; (try dsimp only at hSw); first | (go_simp; done) | (go_simp; with_reducible rfl))
                try simp only [Act.put, List.getElem_toArray, List.getElem_cons_succ, List.getElem_cons_zero, List.setIfInBounds_toArray, List.set_cons_zero, List.set_cons_succ]
                refine wpAnyH_take (i := 11) (v := ?v25) rfl (by kernel_rfl) (by kernel_rfl) (by kernel_rfl) (fun _ _ _ h => h) (Or.inl ⟨by rfl, ?hy25⟩) (by assumption) ?rest25
                case hy25 => (intro wz hSw; (try dsimp only at hSw); first | (go_simp; done) | (go_simp; with_reducible rfl))
                try simp only [Act.put, List.getElem_toArray, List.getElem_cons_succ, List.getElem_cons_zero, List.setIfInBounds_toArray, List.set_cons_zero, List.set_cons_succ]
                refine wpAnyH_ready (rs := [12]) (by kernel_rfl) (by simp) ?_
                refine AllReadyH.cons (o := _) rfl (fun K hK => ?_) AllReadyH.nil
                go_simp
                refine (WA.out _).mono ?_
                rintro e w4 ⟨rfl, g4⟩
                have G4 := Lib.hid (gb_trans (gb_drew wi none) g4)
                clear g4
                try dsimp only
                refine hK.out _ _ (KT.out _ G4.out) (fun hH1 => ?_)
                clear hK K hH0
                try simp only [Act.put, List.getElem_toArray, List.getElem_cons_succ, List.getElem_cons_zero, List.setIfInBounds_toArray, List.set_cons_zero, List.set_cons_succ]
                refine wpAnyH_ready (rs := [13]) (by kernel_rfl) (by simp) ?_
                refine AllReadyH.cons (o := _) rfl (fun K hK => ?_) AllReadyH.nil
                go_simp
                refine (FT.out _).mono ?_
                rintro e w5 ⟨rfl, rfl⟩
                try dsimp only
                refine hK.out _ _ (KT.out _ G4.out) (fun hH2 => ?_)
                clear hK K hH1
                try simp only [Act.put, List.getElem_toArray, List.getElem_cons_succ, List.getElem_cons_zero, List.setIfInBounds_toArray, List.set_cons_zero, List.set_cons_succ]
                refine wpAnyH_take (i := 14) (v := ?v26) rfl (by kernel_rfl) (by kernel_rfl) (by kernel_rfl) (fun _ _ _ h => h) (Or.inl ⟨by rfl, ?hy26⟩) (by assumption) ?rest26
                case hy26 => (intro wz hSw; (try dsimp only at hSw); first | (go_simp; done) | (go_simp; with_reducible rfl))
                try simp only [Act.put, List.getElem_toArray, List.getElem_cons_succ, List.getElem_cons_zero, List.setIfInBounds_toArray, List.set_cons_zero, List.set_cons_succ]
                refine wpAnyH_done (by kernel_rfl) ?_ _
                clear hH2 KT
                go_wp2
                go_ret
                exact ⟨rfl, gb_trans GZ.out (gb_trans HG.out G4.out)⟩
            · have hie : i = fn := by omega
              have Y2 := Lib.hid (YES.out (FI.out.2 fun j hj => HM.out j (by rw [hie]; exact hj)))
              clear hie YES NO
              go_wp2
              go_roundw
              case rel => exact ⟨k + 1, by omega, by go_num, Y2.out, HG.out⟩
              case measure => simp [intOf]; omega
        · have hke : k = X.rn := by omega
          obtain rfl : e = 0 := by rw [← HE.out]; exact if_pos ((fit_iff L R).2 fun j hj => HN.out j (by rw [hke, ← LN.out]; exact hj))
          clear HE hke
          go_wp2
          go_ret
          exact ⟨rfl, gb_trans GZ.out HG.out⟩
end Go.Proofs.Ytjbimeahcldaoaa
