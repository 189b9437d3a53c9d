/- Env: the reference's Equal; no condition but sizes. -/
import Derived.Test.YtjhknmklejkknaaGxD
namespace Go.Proofs.Ytjhknmklejkknaa
open Go.RowKit
set_option linter.unusedVariables false
theorem conv_str (w : World) (a : Option Addr) (n c : Nat) (bs : List Int) (h : SlR w a n c (bs.map (Value.int .u8))) :
    (convert 37 9 (.slice a n c)).run Try.prog w = .ok (.string (strOf bs)) w := by
  rw [run_convert_bytes_string w 37 9 5 a n c Try.underlying37 Try.underlying5 Try.underlying9]
  have hl : bs.length = n := by simpa using h.1
  subst hl
  cases a with
  | none =>
    obtain ⟨h0, rfl⟩ := h.2.1 rfl
    have hbs : bs = [] := List.length_eq_zero_iff.1 h0
    subst hbs
    simp [Conv.bytesToString, strOf, Sem.run_pure]
  | some ad =>
    have k := run_loadCells_list (P := Try.prog) (w := w) ad (bs.map (Value.int .u8)) (h.2.2 ad rfl)
    rw [List.length_map] at k
    exact run_bytesToString w ad bs.length c bs k
theorem push_data (b : ByteArray) (x : UInt8) : (b.push x).data = b.data.push x := rfl
theorem strOf_data (bs : List Int) : (strOf bs).data.toList = bs.map fun n => UInt8.ofNat n.toNat := by
  have k : ∀ (bs : List Int) (r : ByteArray), (bs.foldl (fun r n => r.push (UInt8.ofNat n.toNat)) r).data.toList = r.data.toList ++ bs.map fun n => UInt8.ofNat n.toNat := by
    intro bs
    induction bs with
    | nil => intro r; simp
    | cons b t ih =>
      intro r
      rw [List.foldl_cons, ih, push_data]
      simp
  have := k bs ByteArray.empty
  simpa [strOf] using this
theorem byte_inj {L M : List Int} (hl : ∀ x ∈ L, 0 ≤ x ∧ x ≤ 255) (hm : ∀ x ∈ M, 0 ≤ x ∧ x ≤ 255) (h : (L.map fun n => UInt8.ofNat n.toNat) = M.map fun n => UInt8.ofNat n.toNat) : L = M := by
  induction L generalizing M with
  | nil => cases M with
    | nil => rfl
    | cons b t => simp at h
  | cons a s ih => cases M with
    | nil => simp at h
    | cons b t =>
      simp only [List.map_cons, List.cons.injEq] at h
      have h1 := congrArg UInt8.toNat h.1
      have ha := hl a (by simp)
      have hb := hm b (by simp)
      simp only [UInt8.toNat_ofNat'] at h1
      have e1 : a = b := by omega
      rw [e1, ih (fun x hx => hl x (by simp [hx])) (fun x hx => hm x (by simp [hx])) h.2]
theorem strOf_eq {L M : List Int} (h : L = M) : ((strOf L).toList == (strOf M).toList) = true := by rw [h, beq_iff_eq]
theorem strOf_ne {L M : List Int} (hl : ∀ x ∈ L, 0 ≤ x ∧ x ≤ 255) (hm : ∀ x ∈ M, 0 ≤ x ∧ x ≤ 255) (h : ¬ L = M) : ((strOf L).toList == (strOf M).toList) = false := by
  rw [beq_eq_false_iff_ne]
  intro e
  rw [ByteArray.toList_eq, ByteArray.toList_eq, strOf_data, strOf_data] at e
  exact h (byte_inj hl hm e)
set_option maxRecDepth 100000 in
set_option maxHeartbeats 8000000 in
theorem requal_c (w : World) (va fa ta pa va2 fa2 ta2 pa2 : Option Addr) (vn vc fn fc tn tc pn pc vn2 vc2 fn2 fc2 tn2 tc2 pn2 pc2 : Nat) (A B : EL) (hV : SB w va vn vc A.V) (hF : SR w fa fn fc A.F) (hT : SU w ta tn tc A.T) (hP : SY w pa pn pc A.P) (hV2 : SB w va2 vn2 vc2 B.V) (hF2 : SR w fa2 fn2 fc2 B.F) (hT2 : SU w ta2 tn2 tc2 B.T) (hP2 : SY w pa2 pn2 pc2 B.P)
    (zv : vn ≤ 100000) (zf : fn ≤ 100000) (zt : tn ≤ 100000) (zt2 : tn2 ≤ 100000) (zr : ∀ j, (A.F.getD j []).length ≤ 100000) (zr2 : ∀ j, (B.F.getD j []).length ≤ 100000) (bo : Bool) (hbo : bo = true ↔ sameE A B) :
    Calls Try.prog 18 #[.agg #[.slice va vn vc, .slice fa fn fc, .slice ta tn tc, .slice pa pn pc], .agg #[.slice va2 vn2 vc2, .slice fa2 fn2 fc2, .slice ta2 tn2 tc2, .slice pa2 pn2 pc2]] w (RetV (.bool bo) w) := by
  have HV1 := Lib.hid hV
  have HV2 := Lib.hid hV2
  have HF1 := Lib.hid hF
  have HF2 := Lib.hid hF2
  have HP1 := Lib.hid hP
  have HP2 := Lib.hid hP2
  have ZV := Lib.hid zv
  have ZF := Lib.hid zf
  have ZR := Lib.hid zr
  have ZR2 := Lib.hid zr2
  have HBO := Lib.hid hbo
  have LV1 := hV.len
  have LV2 := hV2.len
  have LF1 := hF.len
  have LF2 := hF2.len
  have QT := Lib.hid (fun (w2 : World) (q : w.grownBy w2 none) => requ_any w2 ta ta2 tn tc tn2 tc2 A.T B.T (hT.keep0 q) (hT2.keep0 q) (by omega) (by omega))
  have GB := Lib.hid (gb_trans (gb_alloc w (.cells #[.slice va vn vc, .slice fa fn fc, .slice ta tn tc, .slice pa pn pc] 42) none) (gb_alloc _ (.cells #[.slice va2 vn2 vc2, .slice fa2 fn2 fc2, .slice ta2 tn2 tc2, .slice pa2 pn2 pc2] 42) none))
  have B1 := (IsB.new w 42 #[.slice va vn vc, .slice fa fn fc, .slice ta tn tc, .slice pa pn pc]).alloc (.cells #[.slice va2 vn2 vc2, .slice fa2 fn2 fc2, .slice ta2 tn2 tc2, .slice pa2 pn2 pc2] 42)
  have B2 := IsB.new (w.alloc (.cells #[.slice va vn vc, .slice fa fn fc, .slice ta tn tc, .slice pa pn pc] 42)) 42 #[.slice va2 vn2 vc2, .slice fa2 fn2 fc2, .slice ta2 tn2 tc2, .slice pa2 pn2 pc2]
  simp only [sz_al] at B2
  replace B1 := Lib.hid B1
  replace B2 := Lib.hid B2
  clear hV hF hT hP hV2 hF2 hT2 hP2 zv zf zt zt2 zr zr2 hbo
  by_cases e1 : (vn : Int) = vn2
  · have d1 : ((vn : Int) != vn2) = false := by rw [bne_eq_false_iff_eq]; exact e1
    by_cases e2 : (fn : Int) = fn2
    · have d2 : ((fn : Int) != fn2) = false := by rw [bne_eq_false_iff_eq]; exact e2
      by_cases e3 : A.P = B.P
      · have EV := Lib.hid (show vn2 = vn by omega)
        have EF := Lib.hid (show fn2 = fn by omega)
        have L1 := Lib.hid LV1
        have L2 := Lib.hid LV2
        have L3 := Lib.hid LF1
        have L4 := Lib.hid LF2
        have E3 := Lib.hid e3
        clear e1 e2 LV1 LV2 LF1 LF2
        go_enter Try.func18, Try.ntmps18
        go_upto_region 1 with fail
        generalize (w.alloc (.cells #[.slice va vn vc, .slice fa fn fc, .slice ta tn tc, .slice pa pn pc] 42)).alloc (.cells #[.slice va2 vn2 vc2, .slice fa2 fn2 fc2, .slice ta2 tn2 tc2, .slice pa2 pn2 pc2] 42) = w2 at *
        obtain ⟨bx, hbx⟩ : ∃ b, b = w.heap.size := ⟨_, rfl⟩
        have Lbx := Lib.hid (show w.heap.size ≤ bx by rw [hbx]; exact Nat.le_refl _)
        rw [← hbx] at B1 B2 ⊢
        clear hbx
        have c0 := B1.out.cell 0
        have c1 := B1.out.cell 1
        have c2 := B1.out.cell 2
        have c3 := B1.out.cell 3
        dsimp at c0 c1 c2 c3
        have x0 := B2.out.cell 0
        have x1 := B2.out.cell 1
        have x2 := B2.out.cell 2
        have x3 := B2.out.cell 3
        dsimp at x0 x1 x2 x3
        have cv1 := conv_str w2 pa pn pc A.P ((HP1.out.slr).keep0 GB.out)
        have cv2 := conv_str w2 pa2 pn2 pc2 B.P ((HP2.out.slr).keep0 GB.out)
        have q1 := strOf_eq e3
        have q2 : ((strOf A.P).toList == (strOf B.P).toList) = true := q1
        generalize strOf A.P = s1 at *
        generalize strOf B.P = s2 at *
        clear e3
        go_wp2
        clear c0 c1 c2 c3 x0 x1 x2 x3 cv1 cv2 q1 q2
        go_loopw [5] (fun i wr => ∃ k : Nat, k ≤ vn ∧ i = .int .i64 k ∧ (∀ i, i < k → A.V.getD i false = B.V.getD i false) ∧ w2.grownBy wr none) (fun i _ => vn - (intOf i).toNat)
        case atStart => exact ⟨0, Nat.zero_le _, rfl, (fun i hi => absurd hi (Nat.not_lt_zero _)), gb_refl _ _⟩
        case round =>
          obtain ⟨k, hk, rfl, ht, hg⟩ := hrel
          have HT := Lib.hid ht
          have HG := Lib.hid hg
          clear ht hg
          have c0 := (B1.out.keep0 HG.out).cell 0
          have x0 := (B2.out.keep0 HG.out).cell 0
          dsimp at c0 x0
          by_cases hlt : k < vn
          · obtain ⟨ad, rfl⟩ := HV1.out.some (by omega)
            obtain ⟨bd, rfl⟩ := HV2.out.some (by have := EV.out; omega)
            have y1 := (HV1.out.keep0 (gb_trans GB.out HG.out)).cells ad rfl k hlt
            have y2 := (HV2.out.keep0 (gb_trans GB.out HG.out)).cells bd rfl k (by have := EV.out; omega)
            have i1 : (k : Int) < vn := by omega
            have i1' : (k : Int) < vn2 := by have := EV.out; omega
            have i0 : (0 : Int) ≤ (k : Int) := by omega
            have hw : IntKind.i64.wrap ((k : Int) + 1) = ((k + 1 : Nat) : Int) := by have := ZV.out; rw [IntKind.wrap_i64]; omega
            by_cases e : A.V.getD k false = B.V.getD k false
            · have HT2 := Lib.hid (show ∀ i, i < k + 1 → A.V.getD i false = B.V.getD i false from fun i hi => by
                rcases (show i < k ∨ i = k by omega) with q | rfl
                · exact HT.out i q
                · exact e)
              rw [← e] at y2
              clear e
              generalize A.V.getD k false = z at *
              have hee : (z == z) = true := by simp
              go_wp2
              (try go_quiet (fail))
              (try go_wp2)
              go_roundw
              case rel => exact ⟨k + 1, by omega, by first | rfl | (congr 1), HT2.out, gb_trans HG.out (by first | exact gb_drewN _ _ _ | exact gb_refl _ _)⟩
              case measure => simp [intOf]; omega
            · have hne : (A.V.getD k false == B.V.getD k false) = false := by rw [beq_eq_false_iff_ne]; exact e
              have BF := Lib.hid (show bo = false from bool_no HBO.out fun q => e (by rw [q.1]))
              generalize A.V.getD k false = z at *
              generalize B.V.getD k false = y at *
              go_wp2
              (try go_quiet (fail))
              (try go_wp2)
              go_ret
              exact ⟨by rw [BF.out] <;> rfl, gb_trans GB.out (gb_trans HG.out (by first | exact gb_drewN _ _ _ | exact gb_refl _ _))⟩
          · have i1 : ¬ (k : Int) < vn := by omega
            obtain rfl : k = vn := by omega
            have EVV := Lib.hid (show A.V = B.V by
              apply List.ext_getElem (by rw [L1.out, L2.out, EV.out])
              intro i h1 h2
              have := HT.out i (by rw [L1.out] at h1; exact h1)
              simpa [h1, h2] using this)
            generalize wr = wA at *
            go_wp2
            clear c0 x0
            go_loopw [6] (fun i wr => ∃ k : Nat, k ≤ fn ∧ i = .int .i64 k ∧ (∀ i, i < k → A.F.getD i [] = B.F.getD i []) ∧ wA.grownBy wr none) (fun i _ => fn - (intOf i).toNat)
            case atStart => exact ⟨0, Nat.zero_le _, rfl, (fun i hi => absurd hi (Nat.not_lt_zero _)), gb_refl _ _⟩
            case round =>
              obtain ⟨j, hj, rfl, ht, hg⟩ := hrel
              have JT := Lib.hid ht
              have JG := Lib.hid hg
              clear ht hg
              have WG := Lib.hid (gb_trans HG.out JG.out)
              have c1 := (B1.out.keep0 WG.out).cell 1
              have x1 := (B2.out.keep0 WG.out).cell 1
              have c2 := (B1.out.keep0 WG.out).cell 2
              have x2 := (B2.out.keep0 WG.out).cell 2
              dsimp at c1 x1 c2 x2
              by_cases hlt2 : j < fn
              · obtain ⟨ad, rfl⟩ := HF1.out.some (by omega)
                obtain ⟨bd, rfl⟩ := HF2.out.some (by have := EF.out; omega)
                obtain ⟨ga, gn, gc, y1, r1⟩ := (HF1.out.keep0 (gb_trans GB.out WG.out)).cells ad rfl j hlt2
                obtain ⟨gb, gm, gd, y2, r2⟩ := (HF2.out.keep0 (gb_trans GB.out WG.out)).cells bd rfl j (by have := EF.out; omega)
                have i1 : (j : Int) < fn := by omega
                have i1' : (j : Int) < fn2 := by have := EF.out; omega
                have i0 : (0 : Int) ≤ (j : Int) := by omega
                have hw : IntKind.i64.wrap ((j : Int) + 1) = ((j + 1 : Nat) : Int) := by have := ZF.out; rw [IntKind.wrap_i64]; omega
                have HQ := Lib.hid fun q : Nat => requ_any (wr.drewN q) ga gb gn gc gm gd (A.F.getD j []) (B.F.getD j []) (r1.keep0 (gb_drewN _ _ _)) (r2.keep0 (gb_drewN _ _ _)) (by rw [← r1.len]; have := ZR.out j; omega) (by rw [← r2.len]; have := ZR2.out j; omega)
                clear r1 r2
                by_cases e : A.F.getD j [] = B.F.getD j []
                · have HT2 := Lib.hid (show ∀ i, i < j + 1 → A.F.getD i [] = B.F.getD i [] from fun i hi => by
                    rcases (show i < j ∨ i = j by omega) with q | rfl
                    · exact JT.out i q
                    · exact e)
                  have HQ2 := Lib.hid fun q => (show _ = true from decide_eq_true e) ▸ HQ.out q
                  unfold RetD at HQ2
                  clear e HQ
                  go_wp2
                  go_quiet ((go_at_call 50; exact Calls.quiet_of (HQ2.out _)))
                  go_wp2
                  go_roundw
                  case rel => exact ⟨j + 1, by omega, by first | rfl | (congr 1), HT2.out, gb_trans JG.out (by first | exact gb_drewN _ _ _ | exact gb_refl _ _)⟩
                  case measure => simp [intOf]; omega
                · have HQ2 := Lib.hid fun q => (show _ = false from decide_eq_false e) ▸ HQ.out q
                  unfold RetD at HQ2
                  have BF := Lib.hid (show bo = false from bool_no HBO.out fun q => e (by rw [q.2.2.2]))
                  clear e HQ
                  go_wp2
                  go_quiet ((go_at_call 50; exact Calls.quiet_of (HQ2.out _)))
                  go_wp2
                  go_ret
                  exact ⟨by rw [BF.out] <;> rfl, gb_trans GB.out (gb_trans WG.out (by first | exact gb_drewN _ _ _ | exact gb_refl _ _))⟩
              · have i1 : ¬ (j : Int) < fn := by omega
                obtain rfl : j = fn := by omega
                have EFF := Lib.hid (show A.F = B.F by
                  apply List.ext_getElem (by rw [L3.out, L4.out, EF.out])
                  intro i h1 h2
                  have := JT.out i (by rw [L3.out] at h1; exact h1)
                  simpa [h1, h2] using this)
                have BF := Lib.hid (show bo = decide (A.T = B.T) from by
                  cases bo with
                  | true => exact (decide_eq_true (HBO.out.1 rfl).2.2.1).symm
                  | false => exact (decide_eq_false fun q => absurd (HBO.out.2 ⟨EVV.out, E3.out, q, EFF.out⟩) (by simp)).symm)
                have QT2 := Lib.hid (QT.out wr (gb_trans GB.out WG.out))
                unfold RetD at QT2
                generalize decide (A.T = B.T) = bt at *
                go_wp2_with (go_at_call 50; refine QT2.out.mono ?_; clear QT2; rintro e w5 ⟨rfl, m5, rfl⟩)
                go_ret
                exact ⟨by rw [BF.out] <;> rfl, gb_trans GB.out (gb_trans WG.out (gb_drewN _ _ _))⟩
      · have BF := Lib.hid (show bo = false from bool_no HBO.out fun q => e3 q.2.1)
        have q1 := strOf_ne (fun x hx => by have := HP1.out.rng x hx; omega) (fun x hx => by have := HP2.out.rng x hx; omega) e3
        clear LV1 LV2 LF1 LF2
        go_enter Try.func18, Try.ntmps18
        go_upto_region 1 with fail
        generalize (w.alloc (.cells #[.slice va vn vc, .slice fa fn fc, .slice ta tn tc, .slice pa pn pc] 42)).alloc (.cells #[.slice va2 vn2 vc2, .slice fa2 fn2 fc2, .slice ta2 tn2 tc2, .slice pa2 pn2 pc2] 42) = w2 at *
        obtain ⟨bx, hbx⟩ : ∃ b, b = w.heap.size := ⟨_, rfl⟩
        have Lbx := Lib.hid (show w.heap.size ≤ bx by rw [hbx]; exact Nat.le_refl _)
        rw [← hbx] at B1 B2 ⊢
        clear hbx
        have c0 := B1.out.cell 0
        have c1 := B1.out.cell 1
        have c2 := B1.out.cell 2
        have c3 := B1.out.cell 3
        dsimp at c0 c1 c2 c3
        have x0 := B2.out.cell 0
        have x1 := B2.out.cell 1
        have x2 := B2.out.cell 2
        have x3 := B2.out.cell 3
        dsimp at x0 x1 x2 x3
        have cv1 := conv_str w2 pa pn pc A.P ((HP1.out.slr).keep0 GB.out)
        have cv2 := conv_str w2 pa2 pn2 pc2 B.P ((HP2.out.slr).keep0 GB.out)
        generalize strOf A.P = s1 at *
        generalize strOf B.P = s2 at *
        go_wp2
        go_ret
        exact ⟨by rw [BF.out] <;> rfl, GB.out⟩
    · have d2 : ((fn : Int) != fn2) = true := by rw [bne_iff_ne]; exact e2
      have BF := Lib.hid (show bo = false from bool_no HBO.out fun q => e2 (by rw [← LF1, ← LF2, q.2.2.2]))
      clear LV1 LV2 LF1 LF2
      go_enter Try.func18, Try.ntmps18
      go_upto_region 1 with fail
      generalize (w.alloc (.cells #[.slice va vn vc, .slice fa fn fc, .slice ta tn tc, .slice pa pn pc] 42)).alloc (.cells #[.slice va2 vn2 vc2, .slice fa2 fn2 fc2, .slice ta2 tn2 tc2, .slice pa2 pn2 pc2] 42) = w2 at *
      obtain ⟨bx, hbx⟩ : ∃ b, b = w.heap.size := ⟨_, rfl⟩
      have Lbx := Lib.hid (show w.heap.size ≤ bx by rw [hbx]; exact Nat.le_refl _)
      rw [← hbx] at B1 B2 ⊢
      clear hbx
      have c0 := B1.out.cell 0
      have c1 := B1.out.cell 1
      have c2 := B1.out.cell 2
      have c3 := B1.out.cell 3
      dsimp at c0 c1 c2 c3
      have x0 := B2.out.cell 0
      have x1 := B2.out.cell 1
      have x2 := B2.out.cell 2
      have x3 := B2.out.cell 3
      dsimp at x0 x1 x2 x3
      have cv1 := conv_str w2 pa pn pc A.P ((HP1.out.slr).keep0 GB.out)
      have cv2 := conv_str w2 pa2 pn2 pc2 B.P ((HP2.out.slr).keep0 GB.out)
      go_wp2
      go_ret
      exact ⟨by rw [BF.out] <;> rfl, GB.out⟩
  · have d1 : ((vn : Int) != vn2) = true := by rw [bne_iff_ne]; exact e1
    have BF := Lib.hid (show bo = false from bool_no HBO.out fun q => e1 (by rw [← LV1, ← LV2, q.1]))
    clear LV1 LV2 LF1 LF2
    go_enter Try.func18, Try.ntmps18
    go_upto_region 1 with fail
    generalize (w.alloc (.cells #[.slice va vn vc, .slice fa fn fc, .slice ta tn tc, .slice pa pn pc] 42)).alloc (.cells #[.slice va2 vn2 vc2, .slice fa2 fn2 fc2, .slice ta2 tn2 tc2, .slice pa2 pn2 pc2] 42) = w2 at *
    obtain ⟨bx, hbx⟩ : ∃ b, b = w.heap.size := ⟨_, rfl⟩
    have Lbx := Lib.hid (show w.heap.size ≤ bx by rw [hbx]; exact Nat.le_refl _)
    rw [← hbx] at B1 B2 ⊢
    clear hbx
    have c0 := B1.out.cell 0
    have c1 := B1.out.cell 1
    have c2 := B1.out.cell 2
    have c3 := B1.out.cell 3
    dsimp at c0 c1 c2 c3
    have x0 := B2.out.cell 0
    have x1 := B2.out.cell 1
    have x2 := B2.out.cell 2
    have x3 := B2.out.cell 3
    dsimp at x0 x1 x2 x3
    have cv1 := conv_str w2 pa pn pc A.P ((HP1.out.slr).keep0 GB.out)
    have cv2 := conv_str w2 pa2 pn2 pc2 B.P ((HP2.out.slr).keep0 GB.out)
    go_wp2
    go_ret
    exact ⟨by rw [BF.out] <;> rfl, GB.out⟩
theorem requal_any (w : World) (X Y : EX) (A B : EL) (ha : ER w X A) (hb : ER w Y B) (za : EZ X A) (zb : EZ Y B) (bo : Bool) (hbo : bo = true ↔ sameE A B) :
    Calls Try.prog 18 #[.agg #[.slice X.va X.vn X.vc, .slice X.fa X.fn X.fc, .slice X.ta X.tn X.tc, .slice X.pa X.pn X.pc], .agg #[.slice Y.va Y.vn Y.vc, .slice Y.fa Y.fn Y.fc, .slice Y.ta Y.tn Y.tc, .slice Y.pa Y.pn Y.pc]] w (RetV (.bool bo) w) :=
  requal_c w X.va X.fa X.ta X.pa Y.va Y.fa Y.ta Y.pa X.vn X.vc X.fn X.fc X.tn X.tc X.pn X.pc Y.vn Y.vc Y.fn Y.fc Y.tn Y.tc Y.pn Y.pc A B ha.v ha.f ha.t ha.p hb.v hb.f hb.t hb.p za.v za.f za.t zb.t za.r zb.r bo hbo
end Go.Proofs.Ytjhknmklejkknaa
