/- Laws on text: the walks of NumtextFormats, NumtextInts, NumtextHex, NumtextCanonical; no condition. -/
import Derived.Test.YtplhhjbmegaiiaaNtH
import Derived.Test.YtplhhjbmegaiiaaNtP
namespace Go.Proofs.Ytplhhjbmegaiiaa
open Go.RowKit
set_option linter.unusedVariables false

theorem gb_below0 {W w : World} (g : W.grownBy w none) : Below W.heap.size W w := (Below.refl _ _).grown g (Nat.le_refl _) (by intro k hk; cases hk)
/-- The law holds. -/
def HoldsT (W : World) (e : Ending) (w' : World) : Prop := e = .returned (.bool true) ∧ Below W.heap.size W w'
theorem formats_walk (n v : Int) (W : World) (hn : (Lit.int .i64 n).wf = true) (hv : (Lit.int .u32 v).wf = true) : Calls Try.prog 3 #[.int .i64 n, .int .u32 v] W (HoldsT W) := by
  have hn := i64_bd hn
  have hv := u32_bd hv
  obtain ⟨A, hA⟩ : ∃ A, A = strOf (fmtI n) := ⟨_, rfl⟩
  obtain ⟨B, hB⟩ : ∃ B, B = strOf (dec v) := ⟨_, rfl⟩
  have H1 := Lib.hid (fun w => fmtInt_any w n hn.1 hn.2)
  have H2 := Lib.hid (fun w => rfmtInt_any w n hn.1 hn.2)
  have H3 := Lib.hid (fun w => fmtU_any w v hv.1 hv.2)
  have H4 := Lib.hid (fun w => rfmtU_any w v hv.1 hv.2)
  rw [← hA] at H1 H2
  rw [← hB] at H3 H4
  have q1 : (A.toList == A.toList) = true := by rw [beq_iff_eq]
  have q2 : (B.toList == B.toList) = true := by rw [beq_iff_eq]
  clear hA hB
  go_enter Try.func3, Try.ntmps3
  go_wp2_with fail
  refine (H1.out W).mono ?_
  rintro e w1 ⟨rfl, g1, _⟩
  have G1 := Lib.hid g1
  clear g1
  go_wp2_with fail
  refine (H2.out w1).mono ?_
  rintro e w2 ⟨rfl, g2, _⟩
  have G2 := Lib.hid (gb_trans G1.out g2)
  clear g2 G1
  go_wp2_with fail
  refine (H3.out w2).mono ?_
  rintro e w3 ⟨rfl, g3, _⟩
  have G3 := Lib.hid (gb_trans G2.out g3)
  clear g3 G2
  go_wp2_with fail
  refine (H4.out w3).mono ?_
  rintro e w4 ⟨rfl, g4, _⟩
  have G4 := Lib.hid (gb_trans G3.out g4)
  clear g4 G3
  go_wp2_with fail
  refine (works_any w4).mono ?_
  rintro e w5 ⟨rfl, g5, _⟩
  have G5 := Lib.hid (gb_trans G4.out g5)
  clear g5 G4
  go_wp2
  go_ret
  exact ⟨rfl, gb_below0 G5.out⟩

theorem cons_str (c : UInt8) (x : Int) (hx : UInt8.ofNat x.toNat = c) (L : List Int) : (⟨#[c]⟩ : ByteArray) ++ strOf L = strOf (x :: L) := by
  have e : (⟨#[c]⟩ : ByteArray) = strOf [x] := by rw [← hx]; rfl
  rw [e, strOf_app]; rfl
theorem snoc_str (c : UInt8) (x : Int) (hx : UInt8.ofNat x.toNat = c) (L : List Int) : strOf L ++ (⟨#[c]⟩ : ByteArray) = strOf (L ++ [x]) := by
  have e : (⟨#[c]⟩ : ByteArray) = strOf [x] := by rw [← hx]; rfl
  rw [e, strOf_app]
theorem fmtI_len (n : Int) : (fmtI n).length ≤ 21 := by
  rw [fmtI_def]
  split
  · have := dec_len (-n); simp; omega
  · have := dec_len n; omega
set_option maxHeartbeats 1000000 in
theorem ints_walk (n : Int) (W : World) (hn : (Lit.int .i64 n).wf = true) : Calls Try.prog 5 #[.int .i64 n] W (HoldsT W) := by
  have hn := i64_bd hn
  have hlen := fmtI_len n
  have hr := fmtI_range n
  have r48 : ∀ x ∈ 48 :: fmtI n, 0 ≤ x ∧ x ≤ 255 := by
    intro x hx
    rcases List.mem_cons.1 hx with h | h
    · omega
    · exact hr x h
  have r43 : ∀ x ∈ 43 :: fmtI n, 0 ≤ x ∧ x ≤ 255 := by
    intro x hx
    rcases List.mem_cons.1 hx with h | h
    · omega
    · exact hr x h
  have r32 : ∀ x ∈ fmtI n ++ [32], 0 ≤ x ∧ x ≤ 255 := app_range hr (by decide)
  have HP := Lib.hid (prI_fmt n hn.1 hn.2)
  have H1 := Lib.hid (fun w => fmtInt_any w n hn.1 hn.2)
  have H2 := Lib.hid (fun w => parseInt_any w (fmtI n) (by omega) hr)
  have H3 := Lib.hid (fun w => parseInt_any w (48 :: fmtI n) (by simp; omega) r48)
  have H4 := Lib.hid (fun w => parseInt_any w (43 :: fmtI n) (by simp; omega) r43)
  have H5 := Lib.hid (fun w => parseInt_any w (fmtI n ++ [32]) (by simp; omega) r32)
  rw [prI_zero n hn.1 hn.2] at H3
  rw [prI_plus n] at H4
  rw [prI_blank n] at H5
  have e3 := cons_str 48 48 rfl (fmtI n)
  have e4 := cons_str 43 43 rfl (fmtI n)
  have e5 := snoc_str 32 32 rfl (fmtI n)
  have z := strOf_size (fmtI n)
  generalize (prI (48 :: fmtI n)).1 = y3 at *
  generalize (prI (43 :: fmtI n)).1 = y4 at *
  generalize (prI (fmtI n ++ [32])).1 = y5 at *
  generalize strOf (48 :: fmtI n) = S3 at *
  generalize strOf (43 :: fmtI n) = S4 at *
  generalize strOf (fmtI n ++ [32]) = S5 at *
  obtain ⟨P, hP⟩ : ∃ P, P = prI (fmtI n) := ⟨_, rfl⟩
  rw [← hP] at HP H2
  obtain ⟨A, hA⟩ : ∃ A, A = strOf (fmtI n) := ⟨_, rfl⟩
  rw [← hA] at H1 H2 e3 e4 e5 z
  have i1 : (⟨#[48]⟩ : ByteArray).size + A.size ≤ 9223372036854775807 := by rw [z, show (⟨#[48]⟩ : ByteArray).size = 1 from rfl]; omega
  have i2 : (⟨#[43]⟩ : ByteArray).size + A.size ≤ 9223372036854775807 := by rw [z, show (⟨#[43]⟩ : ByteArray).size = 1 from rfl]; omega
  have i3 : A.size + (⟨#[32]⟩ : ByteArray).size ≤ 9223372036854775807 := by rw [z, show (⟨#[32]⟩ : ByteArray).size = 1 from rfl]; omega
  clear hA hr r48 r43 r32 hP
  rcases (show (-999999999 ≤ n ∧ n ≤ 999999999) ∨ n < -999999999 ∨ 999999999 < n by omega) with hs | hs | hs
  · rw [if_pos hs] at HP
    rw [HP.out] at H2
    obtain ⟨s1, s2⟩ := hs
    go_enter Try.func5, Try.ntmps5
    go_wp2_with fail
    refine (H1.out W).mono ?_
    rintro e w1 ⟨rfl, g1, _⟩
    have G1 := Lib.hid g1
    clear g1
    go_wp2_with fail
    refine (H2.out w1).mono ?_
    rintro e w2 ⟨rfl, g2, _⟩
    have G2 := Lib.hid (gb_trans G1.out g2)
    clear g2 G1
    go_wp2_with fail
    refine (H3.out w2).mono ?_
    rintro e w3 ⟨rfl, g3, _⟩
    have G3 := Lib.hid (gb_trans G2.out g3)
    clear g3 G2
    go_wp2_with fail
    refine (H4.out w3).mono ?_
    rintro e w4 ⟨rfl, g4, _⟩
    have G4 := Lib.hid (gb_trans G3.out g4)
    clear g4 G3
    go_wp2_with fail
    refine (H5.out w4).mono ?_
    rintro e w5 ⟨rfl, g5, _⟩
    have G5 := Lib.hid (gb_trans G4.out g5)
    clear g5 G4
    go_wp2_with fail
    refine (works_any w5).mono ?_
    rintro e w6 ⟨rfl, g6, _⟩
    have G6 := Lib.hid (gb_trans G5.out g6)
    clear g6 G5
    go_wp2
    go_ret
    exact ⟨rfl, gb_below0 G6.out⟩
  · rw [if_neg (by omega)] at HP
    rw [HP.out] at H2
    go_enter Try.func5, Try.ntmps5
    go_wp2_with fail
    refine (H1.out W).mono ?_
    rintro e w1 ⟨rfl, g1, _⟩
    have G1 := Lib.hid g1
    clear g1
    go_wp2_with fail
    refine (H2.out w1).mono ?_
    rintro e w2 ⟨rfl, g2, _⟩
    have G2 := Lib.hid (gb_trans G1.out g2)
    clear g2 G1
    go_wp2_with fail
    refine (H3.out w2).mono ?_
    rintro e w3 ⟨rfl, g3, _⟩
    have G3 := Lib.hid (gb_trans G2.out g3)
    clear g3 G2
    go_wp2_with fail
    refine (H4.out w3).mono ?_
    rintro e w4 ⟨rfl, g4, _⟩
    have G4 := Lib.hid (gb_trans G3.out g4)
    clear g4 G3
    go_wp2_with fail
    refine (H5.out w4).mono ?_
    rintro e w5 ⟨rfl, g5, _⟩
    have G5 := Lib.hid (gb_trans G4.out g5)
    clear g5 G4
    go_wp2_with fail
    refine (works_any w5).mono ?_
    rintro e w6 ⟨rfl, g6, _⟩
    have G6 := Lib.hid (gb_trans G5.out g6)
    clear g6 G5
    go_wp2
    go_ret
    exact ⟨rfl, gb_below0 G6.out⟩
  · rw [if_neg (by omega)] at HP
    rw [HP.out] at H2
    go_enter Try.func5, Try.ntmps5
    go_wp2_with fail
    refine (H1.out W).mono ?_
    rintro e w1 ⟨rfl, g1, _⟩
    have G1 := Lib.hid g1
    clear g1
    go_wp2_with fail
    refine (H2.out w1).mono ?_
    rintro e w2 ⟨rfl, g2, _⟩
    have G2 := Lib.hid (gb_trans G1.out g2)
    clear g2 G1
    go_wp2_with fail
    refine (H3.out w2).mono ?_
    rintro e w3 ⟨rfl, g3, _⟩
    have G3 := Lib.hid (gb_trans G2.out g3)
    clear g3 G2
    go_wp2_with fail
    refine (H4.out w3).mono ?_
    rintro e w4 ⟨rfl, g4, _⟩
    have G4 := Lib.hid (gb_trans G3.out g4)
    clear g4 G3
    go_wp2_with fail
    refine (H5.out w4).mono ?_
    rintro e w5 ⟨rfl, g5, _⟩
    have G5 := Lib.hid (gb_trans G4.out g5)
    clear g5 G4
    go_wp2_with fail
    refine (works_any w5).mono ?_
    rintro e w6 ⟨rfl, g6, _⟩
    have G6 := Lib.hid (gb_trans G5.out g6)
    clear g6 G5
    go_wp2
    go_ret
    exact ⟨rfl, gb_below0 G6.out⟩

/-- A slice of bytes as a law is handed it. -/
structure ArgT (W : World) (a : Option Addr) (len cap : Nat) (bs : List Int) : Prop where
  slr : SlR W a len cap (bs.map (Value.int .u8))
  rng : ∀ x ∈ bs, 0 ≤ x ∧ x ≤ 255
  len : bs.length = len
theorem argT_of {W : World} {a : Option Addr} {len cap : Nat} {z : List Int} (h : IsRow .u8 W a len cap z) : ArgT W a len cap (z.take len) :=
  ⟨row_slr h, fun x hx => u8_bd (row_wf h x hx), row_len h⟩
set_option maxHeartbeats 1000000 in
theorem hex_walk (a : Option Addr) (len cap : Nat) (z : List Int) (W : World) (h : IsRow .u8 W a len cap z) : Calls Try.prog 7 #[.slice a len cap] W (HoldsT W) := by
  have A1 := Lib.hid (argT_of h)
  have hl := (argT_of h).len
  clear h
  generalize z.take len = bs at *
  subst hl
  by_cases hc : bs.length ≤ 2000
  · have er := encL_range bs A1.out.rng
    have el := encL_len bs
    have H1 := Lib.hid (fun w (s : SlR w a bs.length cap (bs.map (Value.int .u8))) => encode_any w a _ cap bs s A1.out.rng (by omega))
    have H2 := Lib.hid (fun w => decode_any w (encL bs) (by omega) er)
    have H3 := Lib.hid (fun w => decode_any w (encL bs ++ [48]) (by simp; omega) (app_range er (by decide)))
    rw [decX_enc bs A1.out.rng] at H2
    rw [decX_odd (encL bs ++ [48]) (by simp; omega)] at H3
    have e3 := snoc_str 48 48 rfl (encL bs)
    have z := strOf_size (encL bs)
    rw [el] at z
    generalize strOf (encL bs ++ [48]) = S3 at *
    generalize strOf (encL bs) = S at *
    have i3 : S.size + (⟨#[48]⟩ : ByteArray).size ≤ 9223372036854775807 := by rw [z, show (⟨#[48]⟩ : ByteArray).size = 1 from rfl]; omega
    clear er el
    go_enter Try.func7, Try.ntmps7
    go_wp2_with fail
    refine (H1.out W A1.out.slr).mono ?_
    rintro e w1 ⟨rfl, g1, _⟩
    have G1 := Lib.hid g1
    clear g1
    go_wp2_with fail
    refine (H2.out w1).mono ?_
    rintro e w2 ⟨V2, rfl, o2, g2⟩
    change BL w2 w1.heap.size V2 bs at o2
    obtain ⟨a2, c2, rfl⟩ := o2.shape
    have G2 := Lib.hid (gb_trans G1.out g2)
    have O2 := Lib.hid o2
    clear g2 o2 G1
    go_wp2_with fail
    refine (H3.out w2).mono ?_
    rintro e w3 ⟨V3, rfl, o3, g3⟩
    have G3 := Lib.hid (gb_trans G2.out g3)
    have cv1 := conv_str w3 a2 _ c2 bs (O2.out.keep0 g3).slr
    have cv2 := conv_str w3 a _ cap bs (A1.out.slr.keep0 G3.out)
    clear g3 o3 G2 O2
    generalize strOf bs = Y at *
    have q1 : (Y.toList == Y.toList) = true := by rw [beq_iff_eq]
    go_wp2_with fail
    refine (works_any w3).mono ?_
    rintro e w4 ⟨rfl, g4, _⟩
    have G4 := Lib.hid (gb_trans G3.out g4)
    clear g4 cv1 cv2
    go_wp2
    go_ret
    exact ⟨rfl, gb_below0 G4.out⟩
  · go_enter Try.func7, Try.ntmps7
    go_wp2_with fail
    refine (works_any W).mono ?_
    rintro e w4 ⟨rfl, g4, _⟩
    go_wp2
    go_ret
    exact ⟨rfl, gb_below0 g4⟩

/-- The bytes of a string. -/
def bytesI (s : ByteArray) : List Int := s.data.toList.map fun b => (b.toNat : Int)
theorem bytesI_str (s : ByteArray) : strOf (bytesI s) = s := by
  apply str_ext
  rw [strOf_data]
  unfold bytesI
  rw [List.map_map]
  have e : ((fun n : Int => UInt8.ofNat n.toNat) ∘ fun b : UInt8 => ((b.toNat : Nat) : Int)) = id := by
    funext b
    simp
  rw [e, List.map_id]
theorem bytesI_range (s : ByteArray) : ∀ x ∈ bytesI s, 0 ≤ x ∧ x ≤ 255 := by
  intro x hx
  unfold bytesI at hx
  obtain ⟨b, _, rfl⟩ := List.mem_map.1 hx
  have := b.toNat_lt
  omega
theorem bytesI_len (s : ByteArray) : (bytesI s).length = s.size := by unfold bytesI; simp
set_option maxHeartbeats 1000000 in
theorem canonical_walk (s : ByteArray) (W : World) : Calls Try.prog 8 #[.string s] W (HoldsT W) := by
  have es := bytesI_str s
  have hr := bytesI_range s
  have hl := bytesI_len s
  generalize bytesI s = L at *
  by_cases hc : s.size ≤ 1000
  · have H1 := Lib.hid (fun w => parseInt_any w L (by omega) hr)
    have H2 := Lib.hid (fun w => decode_any w L (by omega) hr)
    have hb := prI_bound L
    have hy := prI_yes (L := L)
    have HD := Lib.hid (decX_back L · hr)
    have HD2 := Lib.hid (decX_range L)
    have HD3 := Lib.hid (decX_len L)
    rw [es] at H1 H2
    obtain ⟨m, ok, hmo⟩ : ∃ m ok, prI L = (m, ok) := ⟨_, _, rfl⟩
    rw [hmo] at H1 hb hy
    have q1 : (s.toList == s.toList) = true := by rw [beq_iff_eq]
    have HF := Lib.hid (fun w => fmtInt_any w m (by simp only at hb; omega) (by simp only at hb; omega))
    clear hmo
    cases ok with
    | true =>
      have hy2 : strOf (fmtI m) = s := by rw [← es]; exact congrArg strOf (hy rfl)
      rw [hy2] at HF
      clear hy hy2
      cases hd : decX L with
      | none =>
        rw [hd] at H2
        go_enter Try.func8, Try.ntmps8
        go_wp2_with fail
        refine (H1.out W).mono ?_
        rintro e w1 ⟨rfl, g1, _⟩
        have G1 := Lib.hid g1
        clear g1
        go_wp2_with fail
        refine (H2.out w1).mono ?_
        rintro e w2 ⟨V2, rfl, o2, g2⟩
        have G2 := Lib.hid (gb_trans G1.out g2)
        clear g2 o2 G1
        go_wp2_with fail
        refine (HF.out w2).mono ?_
        rintro e w3 ⟨rfl, g3, _⟩
        replace G2 := Lib.hid (gb_trans G2.out g3)
        clear g3
        go_wp2_with fail
        refine (works_any _).mono ?_
        rintro e w6 ⟨rfl, g6, _⟩
        have G6 := Lib.hid (gb_trans G2.out g6)
        clear g6 G2
        go_wp2
        go_ret
        exact ⟨rfl, gb_below0 G6.out⟩
      | some M =>
        rw [hd] at H2
        have hm := HD2.out M hd
        have hml := HD3.out M hd
        have he := HD.out M hd
        have HE := Lib.hid (fun w a n c (q : SlR w a n c (M.map (Value.int .u8))) => encode_any w a n c M q hm (by omega))
        rw [he, es] at HE
        clear hd he hm
        go_enter Try.func8, Try.ntmps8
        go_wp2_with fail
        refine (H1.out W).mono ?_
        rintro e w1 ⟨rfl, g1, _⟩
        have G1 := Lib.hid g1
        clear g1
        go_wp2_with fail
        refine (H2.out w1).mono ?_
        rintro e w2 ⟨V2, rfl, o2, g2⟩
        change BL w2 w1.heap.size V2 M at o2
        obtain ⟨a2, c2, rfl⟩ := o2.shape
        have O2 := Lib.hid o2
        have G2 := Lib.hid (gb_trans G1.out g2)
        clear g2 o2 G1
        go_wp2_with fail
        refine (HF.out w2).mono ?_
        rintro e w3 ⟨rfl, g3, _⟩
        replace O2 := Lib.hid (O2.out.keep0 g3)
        replace G2 := Lib.hid (gb_trans G2.out g3)
        clear g3
        go_wp2_with fail
        refine (HE.out _ _ _ _ O2.out.slr).mono ?_
        rintro e w4 ⟨rfl, g4, _⟩
        have G4 := Lib.hid (gb_trans G2.out g4)
        clear g4 G2 O2
        go_wp2_with fail
        refine (works_any _).mono ?_
        rintro e w6 ⟨rfl, g6, _⟩
        have G6 := Lib.hid (gb_trans G4.out g6)
        clear g6 G4
        go_wp2
        go_ret
        exact ⟨rfl, gb_below0 G6.out⟩
    | false =>
      clear hy HF
      cases hd : decX L with
      | none =>
        rw [hd] at H2
        go_enter Try.func8, Try.ntmps8
        go_wp2_with fail
        refine (H1.out W).mono ?_
        rintro e w1 ⟨rfl, g1, _⟩
        have G1 := Lib.hid g1
        clear g1
        go_wp2_with fail
        refine (H2.out w1).mono ?_
        rintro e w2 ⟨V2, rfl, o2, g2⟩
        have G2 := Lib.hid (gb_trans G1.out g2)
        clear g2 o2 G1
        go_wp2_with fail
        refine (works_any _).mono ?_
        rintro e w6 ⟨rfl, g6, _⟩
        have G6 := Lib.hid (gb_trans G2.out g6)
        clear g6 G2
        go_wp2
        go_ret
        exact ⟨rfl, gb_below0 G6.out⟩
      | some M =>
        rw [hd] at H2
        have hm := HD2.out M hd
        have hml := HD3.out M hd
        have he := HD.out M hd
        have HE := Lib.hid (fun w a n c (q : SlR w a n c (M.map (Value.int .u8))) => encode_any w a n c M q hm (by omega))
        rw [he, es] at HE
        clear hd he hm
        go_enter Try.func8, Try.ntmps8
        go_wp2_with fail
        refine (H1.out W).mono ?_
        rintro e w1 ⟨rfl, g1, _⟩
        have G1 := Lib.hid g1
        clear g1
        go_wp2_with fail
        refine (H2.out w1).mono ?_
        rintro e w2 ⟨V2, rfl, o2, g2⟩
        change BL w2 w1.heap.size V2 M at o2
        obtain ⟨a2, c2, rfl⟩ := o2.shape
        have O2 := Lib.hid o2
        have G2 := Lib.hid (gb_trans G1.out g2)
        clear g2 o2 G1
        go_wp2_with fail
        refine (HE.out _ _ _ _ O2.out.slr).mono ?_
        rintro e w4 ⟨rfl, g4, _⟩
        have G4 := Lib.hid (gb_trans G2.out g4)
        clear g4 G2 O2
        go_wp2_with fail
        refine (works_any _).mono ?_
        rintro e w6 ⟨rfl, g6, _⟩
        have G6 := Lib.hid (gb_trans G4.out g6)
        clear g6 G4
        go_wp2
        go_ret
        exact ⟨rfl, gb_below0 G6.out⟩
  · go_enter Try.func8, Try.ntmps8
    go_wp2_with fail
    refine (works_any W).mono ?_
    rintro e w4 ⟨rfl, g4, _⟩
    go_wp2
    go_ret
    exact ⟨rfl, gb_below0 g4⟩
end Go.Proofs.Ytplhhjbmegaiiaa
