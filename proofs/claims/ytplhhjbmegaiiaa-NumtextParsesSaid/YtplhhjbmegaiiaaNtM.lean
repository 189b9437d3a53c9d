/- The reference's parsing: the walks of ParseUint32 and DecodeHex; the law NumtextParses; no condition but sizes and the bytes' range. -/
import Derived.Test.YtplhhjbmegaiiaaNtL
import Derived.Deep.RegionWith
namespace Go.Proofs.Ytplhhjbmegaiiaa
open Go.RowKit
set_option linter.unusedVariables false

theorem toE_val {base : Int} {lim : Nat} {L : List Int} {v : Int} (h : toE base lim L = (v, true)) : valF base 0 L = v := by
  unfold toE at h
  split at h
  · injection h
  · injection h with _ h; cases h
set_option maxHeartbeats 1000000 in
theorem rparseU_dec (w : World) (L : List Int) (hl : L.length ≤ 1000000) (hL : ∀ x ∈ L, 0 ≤ x ∧ x ≤ 255) (hx : ¬ (2 ≤ L.length ∧ L.take 2 = [48, 120])) :
    Calls Try.prog 23 #[.string (strOf L)] w (RetQ (.tuple #[.int .u32 (prU L).1, .bool (prU L).2]) w none fun _ => True) := by
  have HL := Lib.hid hL
  have HR := Lib.hid (show prU L = prUd L by unfold prU; rw [if_neg hx])
  have z := strOf_size L
  have x1 := strOf_cut L 0 2
  rw [List.drop_zero, Nat.sub_zero] at x1
  have hr := toE_range 10 (Or.inl rfl) 10 (by decide) L
  have H1 := Lib.hid (fun w => rdec_any w L 10 (by decide) hl hL)
  obtain ⟨v, ok, hvo⟩ : ∃ v ok, toE 10 10 L = (v, ok) := ⟨_, _, rfl⟩
  have HVO := Lib.hid hvo
  rw [hvo] at hr H1
  clear hvo
  have q : 2 ≤ L.length → ((strOf (L.take 2)).toList == (ByteArray.mk #[48, 120]).toList) = false := by
    intro h2
    rw [show (ByteArray.mk #[48, 120]) = strOf [48, 120] from rfl]
    exact strOf_ne (fun x hx => hL x (List.mem_of_mem_take hx)) (by decide) (fun e => hx ⟨h2, e⟩)
  obtain ⟨r, hrr⟩ : ∃ r, r = strOf L := ⟨_, rfl⟩
  rw [← hrr] at z x1 H1 ⊢
  have HRr := Lib.hid hrr
  obtain ⟨p, hp⟩ : ∃ p, p = strOf (L.take 2) := ⟨_, rfl⟩
  rw [← hp] at q x1
  clear hL hrr hp hx
  by_cases h2 : 2 ≤ L.length
  · have q2 := q h2
    have q3 : (p.toList == [48, 120]) = false := by
      have k := q2
      rw [show (ByteArray.mk #[48, 120]).toList = [48, 120] from ByteArray.toList_mk [48, 120]] at k
      exact k
    have i2 : (2 : Int) ≤ L.length := by omega
    clear q
    go_enter Try.func23, Try.ntmps23
    go_wp2_with fail
    refine (H1.out w).mono ?_
    rintro e w4 ⟨rfl, rfl⟩
    cases ok with
    | false =>
      go_wp2
      go_ret2
      refine ⟨?_, gb_refl _ _, trivial⟩
      rw [HR.out]
      unfold prUd
      rw [HVO.out, if_neg (by simp)]
      rfl
    | true =>
      by_cases hb : 4294967295 < v
      · have HE := Lib.hid (show ¬ dec (v % 4294967296) = L by
          intro e
          have k := toE_val HVO.out
          rw [← e] at k
          have k2 := valF_dec 19 (v % 4294967296) (by omega) (dec_lt _ (by omega))
          have k3 : valF 10 0 (dec (v % 4294967296)) = v % 4294967296 := k2
          omega)
        go_wp2
        go_ret2
        refine ⟨?_, gb_refl _ _, trivial⟩
        rw [HR.out]
        unfold prUd
        rw [HVO.out, if_neg (fun hh => HE.out hh.2)]
        rfl
      · have em : v % 4294967296 = v := by omega
        go_wp2_with fail
        refine (dgt_any w v (by omega) (by omega)).mono ?_
        rintro e w5 ⟨rfl, g5, _⟩
        have G5 := Lib.hid g5
        clear g5
        by_cases he : dec v = L
        · have q7 := not_str_eq he
          have q1 := strOf_eq he
          rw [← HRr.out] at q7 q1
          have HE := Lib.hid he
          clear he
          go_wp2
          go_ret2
          refine ⟨?_, G5.out, trivial⟩
          rw [HR.out]
          unfold prUd
          rw [HVO.out]
          simp only [em]
          rw [if_pos ⟨trivial, HE.out⟩]
          rfl
        · have q7 := not_str_ne (dec_range _ (by omega)) HL.out he
          have q1 := strOf_ne (dec_range _ (by omega)) HL.out he
          rw [← HRr.out] at q7 q1
          have HE := Lib.hid he
          clear he
          go_wp2
          go_ret2
          refine ⟨?_, G5.out, trivial⟩
          rw [HR.out]
          unfold prUd
          rw [HVO.out]
          simp only [em]
          rw [if_neg (fun hh => HE.out hh.2)]
          rfl
  · have i2 : ¬ (2 : Int) ≤ L.length := by omega
    clear q
    go_enter Try.func23, Try.ntmps23
    go_wp2_with fail
    refine (H1.out w).mono ?_
    rintro e w4 ⟨rfl, rfl⟩
    cases ok with
    | false =>
      go_wp2
      go_ret2
      refine ⟨?_, gb_refl _ _, trivial⟩
      rw [HR.out]
      unfold prUd
      rw [HVO.out, if_neg (by simp)]
      rfl
    | true =>
      by_cases hb : 4294967295 < v
      · have HE := Lib.hid (show ¬ dec (v % 4294967296) = L by
          intro e
          have k := toE_val HVO.out
          rw [← e] at k
          have k2 := valF_dec 19 (v % 4294967296) (by omega) (dec_lt _ (by omega))
          have k3 : valF 10 0 (dec (v % 4294967296)) = v % 4294967296 := k2
          omega)
        go_wp2
        go_ret2
        refine ⟨?_, gb_refl _ _, trivial⟩
        rw [HR.out]
        unfold prUd
        rw [HVO.out, if_neg (fun hh => HE.out hh.2)]
        rfl
      · have em : v % 4294967296 = v := by omega
        go_wp2_with fail
        refine (dgt_any w v (by omega) (by omega)).mono ?_
        rintro e w5 ⟨rfl, g5, _⟩
        have G5 := Lib.hid g5
        clear g5
        by_cases he : dec v = L
        · have q7 := not_str_eq he
          have q1 := strOf_eq he
          rw [← HRr.out] at q7 q1
          have HE := Lib.hid he
          clear he
          go_wp2
          go_ret2
          refine ⟨?_, G5.out, trivial⟩
          rw [HR.out]
          unfold prUd
          rw [HVO.out]
          simp only [em]
          rw [if_pos ⟨trivial, HE.out⟩]
          rfl
        · have q7 := not_str_ne (dec_range _ (by omega)) HL.out he
          have q1 := strOf_ne (dec_range _ (by omega)) HL.out he
          rw [← HRr.out] at q7 q1
          have HE := Lib.hid he
          clear he
          go_wp2
          go_ret2
          refine ⟨?_, G5.out, trivial⟩
          rw [HR.out]
          unfold prUd
          rw [HVO.out]
          simp only [em]
          rw [if_neg (fun hh => HE.out hh.2)]
          rfl
theorem rparseU_any (w : World) (L : List Int) (hl : L.length ≤ 1000000) (hL : ∀ x ∈ L, 0 ≤ x ∧ x ≤ 255) :
    Calls Try.prog 23 #[.string (strOf L)] w (RetQ (.tuple #[.int .u32 (prU L).1, .bool (prU L).2]) w none fun _ => True) := by
  by_cases hx : 2 ≤ L.length ∧ L.take 2 = [48, 120]
  · exact rparseU_hex w L hl hL hx
  · exact rparseU_dec w L hl hL hx
set_option maxRecDepth 100000 in
set_option maxHeartbeats 2000000 in
theorem rdecode_any (w : World) (L : List Int) (hl : L.length ≤ 100000) (hL : ∀ x ∈ L, 0 ≤ x ∧ x ≤ 255) :
    Calls Try.prog 25 #[.string (strOf L)] w (RetD (decX L) w) := by
  have HL := Lib.hid hL
  have z := strOf_size L
  have HI := Lib.hid (fun i h => strOf_at L hL i h)
  obtain ⟨r, hr⟩ : ∃ r, r = strOf L := ⟨_, rfl⟩
  rw [← hr] at z HI ⊢
  clear hL hr
  by_cases hodd : L.length % 2 = 1
  · have HE := Lib.hid (decX_odd L hodd)
    have ho1 : ((L.length : Int) % 2 != 0) = true := by rw [bne_iff_ne]; omega
    have ho2 : (L.length : Int) % 2 = 1 := by omega
    go_enter Try.func25, Try.ntmps25
    go_wp2
    go_ret2
    unfold RetD
    rw [HE.out]
    exact ⟨_, rfl, BL.nil _ _, gb_refl _ _⟩
  · have ho1 : ((L.length : Int) % 2 != 0) = false := by rw [bne_eq_false_iff_eq]; omega
    go_enter Try.func25, Try.ntmps25
    go_wp2
    go_loopw [4, 5] (fun v i wr => ∃ (k : Nat) (A : List Int), 2 * k ≤ L.length ∧ i = .int .i64 ((2 * k : Nat) : Int) ∧ BL wr w.heap.size v A ∧ A.length ≤ k ∧ decX L = (decX (L.drop (2 * k))).map (A ++ ·) ∧ w.grownBy wr none) (fun _ i _ => L.length - (intOf i).toNat)
    case atStart => exact ⟨0, [], Nat.zero_le _, rfl, BL.nil _ _, Nat.le_refl _, by simp, gb_refl _ _⟩
    case round =>
      obtain ⟨k, A, hk, rfl, hv, hA, hd, hg⟩ := hrel
      have HV := Lib.hid hv
      have HD := Lib.hid hd
      have HG := Lib.hid hg
      have SZ := Lib.hid hg.size
      clear hv hd hg
      by_cases hlt : 2 * k + 1 < L.length
      · have hi : ((2 * k : Nat) : Int) + 1 < L.length := by omega
        have hi0 : ((2 * k : Nat) : Int) < L.length := by omega
        have hat := HI.out (2 * k)
        have hat1 := HI.out (2 * k + 1)
        have hx := getD_byte HL.out (2 * k)
        have hy := getD_byte HL.out (2 * k + 1)
        have H1 := Lib.hid (fun w => rdg_any w (L.getD (2 * k) 0) hx.1 hx.2)
        have H2 := Lib.hid (fun w => rdg_any w (L.getD (2 * k + 1) 0) hy.1 hy.2)
        have HE0 := Lib.hid (show decX (L.drop (2 * k)) = if dv (L.getD (2 * k) 0) < 16 ∧ dv (L.getD (2 * k + 1) 0) < 16 then (decX (L.drop (2 * k + 2))).map ((dv (L.getD (2 * k) 0) * 16 + dv (L.getD (2 * k + 1) 0)) :: ·) else none by
          rw [drop_head L (2 * k) (by omega), drop_head L (2 * k + 1) hlt]; rfl)
        obtain ⟨x, hxx⟩ : ∃ x, x = L.getD (2 * k) 0 := ⟨_, rfl⟩
        obtain ⟨y, hyy⟩ : ∃ y, y = L.getD (2 * k + 1) 0 := ⟨_, rfl⟩
        rw [← hxx] at hat hx H1 HE0
        rw [← hyy] at hat1 hy H2 HE0
        have dx := dv_range x
        have dy := dv_range y
        clear hxx hyy
        have hA' : A.length ≤ 50000 := by omega
        generalize hj : 2 * k = j at *
        have HJ := Lib.hid hj
        clear hj
        have w1 : IntKind.i64.wrap ((j : Int) + 1) = (j : Int) + 1 := IntWalk.i64_in _ (by omega)
        have i5 : (0 : Int) ≤ (j : Int) + 1 := by omega
        by_cases hdx : dv x < 16
        · have ex : rdg x = dv x := by unfold rdg; rw [if_pos hdx]
          rw [ex] at H1
          by_cases hdy : dv y < 16
          · have ey : rdg y = dv y := by unfold rdg; rw [if_pos hdy]
            rw [ey] at H2
            rw [if_pos ⟨hdx, hdy⟩] at HE0
            generalize dv x = a at *
            generalize dv y = b at *
            have w16 : IntKind.i64.wrap (16 * a) = 16 * a := IntWalk.i64_in _ (by omega)
            have w17 : IntKind.i64.wrap (16 * a + b) = 16 * a + b := IntWalk.i64_in _ (by omega)
            have w18 : IntKind.u8.wrap (16 * a + b) = 16 * a + b := by rw [IntKind.wrap_u8]; omega
            rw [show a * 16 + b = 16 * a + b by omega] at HE0
            clear ex ey
            go_wp2_with fail
            refine (H1.out wr).mono ?_
            rintro e w' ⟨rfl, rfl⟩
            go_wp2_with fail
            refine (H2.out wr).mono ?_
            rintro e w' ⟨rfl, rfl⟩
            go_wp2_with fail
            have hb0 := HG.out
            have OA := Lib.hid (fun (cs : Array Value) (t : TypeId) => HV.out.keep0 (gb_trans (gb_drew wr none) (gb_alloc wr.drew (.cells cs t) none)))
            go_region_held3 (fun w' => w.grownBy w' none) (first | assumption | exact gb_trans HG.out (gb_drew _ _) | exact gb_trans HG.out (gb_trans (gb_drew _ _) (gb_alloc _ _ _)) | exact hb0)
              (first | (go_at_call_of 42 (Value.int IntKind.u8 x); refine (H1.out _).mono ?_; rintro e w' ⟨rfl, rfl⟩) | (go_at_call_of 42 (Value.int IntKind.u8 y); refine (H2.out _).mono ?_; rintro e w' ⟨rfl, rfl⟩) | (refine step_push rfl _ _ rfl w.heap.size _ A rfl (OA.out _ _) _ _ _ [_] rfl (slr_one _ _ _ _ _ rfl) (by simp; omega) (by have := SZ.out; simp; omega) ?_; intro V2 w2 o2 g2; have G2 := gb_own (gb_trans HG.out (gb_trans (gb_drew wr none) (gb_alloc _ _ _))) (OA.out _ _) (Nat.le_refl _) g2))
            all_goals
              rename_i hs
              have G3 := Lib.hid hs
              clear hs hb0 g2 OA
              have O2 := Lib.hid o2
              clear o2
              go_wp2
              go_roundw
              case rel => exact ⟨k + 1, A ++ [_], by have := HJ.out; omega, by have := HJ.out; subst this; go_num, O2.out, by simp; omega, by rw [HD.out, HE0.out, show 2 * (k + 1) = j + 2 by have := HJ.out; omega]; cases decX (L.drop (j + 2)) <;> simp, G3.out⟩
              case measure => simp [intOf]; omega
          · have ey : rdg y = -1 := by unfold rdg; rw [if_neg hdy]
            rw [ey] at H2
            have HE := Lib.hid (show decX L = none by rw [HD.out, HE0.out, if_neg (fun hh => hdy hh.2)]; rfl)
            generalize dv x = a at *
            clear ex ey hdy dy HE0
            go_wp2_with fail
            refine (H1.out wr).mono ?_
            rintro e w' ⟨rfl, rfl⟩
            go_wp2_with fail
            refine (H2.out wr).mono ?_
            rintro e w' ⟨rfl, rfl⟩
            go_wp2
            go_ret2
            unfold RetD
            rw [HE.out]
            exact ⟨_, rfl, BL.nil _ _, HG.out⟩
        · have ex : rdg x = -1 := by unfold rdg; rw [if_neg hdx]
          rw [ex] at H1
          have HE := Lib.hid (show decX L = none by rw [HD.out, HE0.out, if_neg (fun hh => hdx hh.1)]; rfl)
          clear ex hdx dx HE0
          go_wp2_with fail
          refine (H1.out wr).mono ?_
          rintro e w' ⟨rfl, rfl⟩
          go_wp2
          go_ret2
          unfold RetD
          rw [HE.out]
          exact ⟨_, rfl, BL.nil _ _, HG.out⟩
      · have hke : 2 * k = L.length := by omega
        have HE := Lib.hid (show decX L = some A by
          rw [HD.out, hke, List.drop_length]; simp [decX])
        have hi : ¬ ((2 * k : Nat) : Int) + 1 < L.length := by omega
        generalize hj : 2 * k = j at *
        clear hj hke
        go_wp2
        go_ret2
        unfold RetD
        rw [HE.out]
        exact ⟨_, rfl, HV.out, HG.out⟩
set_option maxHeartbeats 1000000 in
theorem parses_walk (s : ByteArray) (W : World) : Calls Try.prog 4 #[.string s] W (HoldsT W) := by
  have es := bytesI_str s
  have hr := bytesI_range s
  have hl := bytesI_len s
  generalize bytesI s = L at *
  by_cases hc : s.size ≤ 1000
  · have H1 := Lib.hid (fun w => parseInt_any w L (by omega) hr)
    have H2 := Lib.hid (fun w => rparseInt_any w L (by omega) hr)
    have H3 := Lib.hid (fun w => parseU_any w L (by omega) hr)
    have H4 := Lib.hid (fun w => rparseU_any w L (by omega) hr)
    have H5 := Lib.hid (fun w => decode_any w L (by omega) hr)
    have H6 := Lib.hid (fun w => rdecode_any w L (by omega) hr)
    rw [es] at H1 H2 H3 H4 H5 H6
    generalize (prI L).1 = m at *
    generalize (prI L).2 = b at *
    generalize (prU L).1 = u at *
    generalize (prU L).2 = c at *
    generalize decX L = R at *
    clear es hr
    go_enter Try.func4, Try.ntmps4
    go_wp2_with fail
    refine (H1.out W).mono ?_
    rintro e w1 ⟨rfl, g1, _⟩
    have G1 := Lib.hid g1
    clear g1
    go_wp2_with fail
    refine (H2.out w1).mono ?_
    rintro e w2 ⟨rfl, g2, _⟩
    have G2 := Lib.hid (gb_trans G1.out g2)
    clear g2 G1
    go_wp2_with fail
    refine (H3.out w2).mono ?_
    rintro e w3 ⟨rfl, g3, _⟩
    have G3 := Lib.hid (gb_trans G2.out g3)
    clear g3 G2
    go_wp2_with fail
    refine (H4.out w3).mono ?_
    rintro e w4 ⟨rfl, g4, _⟩
    have G4 := Lib.hid (gb_trans G3.out g4)
    clear g4 G3
    go_wp2_with fail
    refine (H5.out w4).mono ?_
    rintro e w5 ⟨V5, rfl, o5, g5⟩
    obtain ⟨a5, c5, rfl⟩ := o5.shape
    have O5 := Lib.hid o5
    have G5 := Lib.hid (gb_trans G4.out g5)
    clear g5 G4 o5
    go_wp2_with fail
    refine (H6.out w5).mono ?_
    rintro e w6 ⟨V6, rfl, o6, g6⟩
    obtain ⟨a6, c6, rfl⟩ := o6.shape
    have G6 := Lib.hid (gb_trans G5.out g6)
    have cv5 := conv_str w6 a5 _ c5 (R.getD []) (O5.out.keep0 g6).slr
    have cv6 := conv_str w6 a6 _ c6 (R.getD []) o6.slr
    generalize strOf (R.getD []) = Y at *
    generalize (R.getD []).length = n at *
    generalize R.isSome = d at *
    have q1 : (Y.toList == Y.toList) = true := by rw [beq_iff_eq]
    have q2 : (m == m) = true := by rw [beq_iff_eq]
    have q3 : (u == u) = true := by rw [beq_iff_eq]
    clear g6 G5 o6 O5
    go_wp2_with fail
    refine (works_any w6).mono ?_
    rintro e w7 ⟨rfl, g7, _⟩
    have G7 := Lib.hid (gb_trans G6.out g7)
    clear g7 G6 cv5 cv6
    go_wp2
    go_ret
    exact ⟨rfl, gb_below0 G7.out⟩
  · go_enter Try.func4, Try.ntmps4
    go_wp2_with fail
    refine (works_any W).mono ?_
    rintro e w4 ⟨rfl, g4, _⟩
    go_wp2
    go_ret
    exact ⟨rfl, gb_below0 g4⟩
end Go.Proofs.Ytplhhjbmegaiiaa
