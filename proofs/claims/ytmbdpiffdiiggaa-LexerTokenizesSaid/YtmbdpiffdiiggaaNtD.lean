/- Reading numbers out of a text: the walk of toEnd; no condition but sizes and the bytes' range. -/
import Derived.Test.YtmbdpiffdiiggaaNtC
namespace Go.Proofs.Ytmbdpiffdiiggaa
open Go.RowKit
set_option linter.unusedVariables false

def valF (base v : Int) (T : List Int) : Int := T.foldl (fun v x => v * base + dv x) v
def okD (base : Int) (T : List Int) : Bool := T.all fun x => decide (dv x < base)
def toE (base : Int) (limit : Nat) (T : List Int) : Int × Bool := if 1 ≤ T.length ∧ T.length ≤ limit ∧ okD base T = true then (valF base 0 T, true) else (0, false)
theorem okD_at {base : Int} {T : List Int} (h : okD base T = true) (k : Nat) (hk : k < T.length) : dv (T.getD k 0) < base := by
  have k2 := (List.all_eq_true.1 h) T[k] (List.getElem_mem hk)
  simp [hk]
  exact of_decide_eq_true k2
theorem valF_snoc (base v : Int) (T : List Int) (x : Int) : valF base v (T ++ [x]) = valF base v T * base + dv x := by simp [valF]
def p16 : Nat → Int
  | 0 => 1
  | n + 1 => 16 * p16 n
theorem p16_mono (n : Nat) (h : n ≤ 10) : p16 n ≤ 1099511627776 := by
  rcases (show n = 0 ∨ n = 1 ∨ n = 2 ∨ n = 3 ∨ n = 4 ∨ n = 5 ∨ n = 6 ∨ n = 7 ∨ n = 8 ∨ n = 9 ∨ n = 10 by omega) with rfl | rfl | rfl | rfl | rfl | rfl | rfl | rfl | rfl | rfl | rfl <;> decide
theorem valF_grow (base : Int) (hb : base = 10 ∨ base = 16) (T : List Int) (v q : Int) (h0 : 0 ≤ v) (h1 : v < q) (hok : okD base T = true) : 0 ≤ valF base v T ∧ valF base v T < q * p16 T.length := by
  induction T generalizing v q with
  | nil => simp [valF, p16]; exact ⟨h0, h1⟩
  | cons x t ih =>
    simp only [okD, List.all_cons, Bool.and_eq_true, decide_eq_true_eq] at hok
    have hx := dv_range x
    have k := ih (v * base + dv x) (q * 16) (by rcases hb with rfl | rfl <;> omega) (by rcases hb with rfl | rfl <;> omega) hok.2
    refine ⟨k.1, ?_⟩
    have e : q * p16 (x :: t).length = q * 16 * p16 t.length := by
      rw [List.length_cons]
      show q * (16 * p16 t.length) = _
      rw [Int.mul_assoc]
    rw [e]
    exact k.2
theorem valF_range (base : Int) (hb : base = 10 ∨ base = 16) (T : List Int) (hl : T.length ≤ 10) (hok : okD base T = true) : 0 ≤ valF base 0 T ∧ valF base 0 T < 1099511627776 := by
  have k := valF_grow base hb T 0 1 (Int.le_refl _) (by decide) hok
  have p := p16_mono T.length hl
  omega

/-- What the region keeps. -/
def NPx (w : World) (b : Nat) (L : List Int) (B : Int) (w' : World) : Prop := w.grownBy w' (some b) ∧ ∃ off : Int, IsB w' b 95 #[.string (strOf L), .int .i64 off, .int .u64 B]
theorem npx_c {w w' : World} {b : Nat} {L : List Int} {B : Int} (h : NPx w b L B w') : w'.cell? ⟨b, 2, none⟩ = some (.int .u64 B) ∧ NPx w b L B w' := by
  obtain ⟨off, hb⟩ := h.2
  exact ⟨hb.cell 2, h⟩
set_option maxRecDepth 100000 in
set_option maxHeartbeats 2000000 in
theorem toEnd_any (w : World) (b : Nat) (L : List Int) (o : Nat) (base : Int) (lim : Nat) (hbase : base = 10 ∨ base = 16) (h : IsB w b 95 #[.string (strOf L), .int .i64 o, .int .u64 base]) (ho : o ≤ L.length) (hl : L.length ≤ 1000000) (hL : ∀ x ∈ L, 0 ≤ x ∧ x ≤ 255) (hlim : lim ≤ 10) :
    Calls Try.prog 92 #[.pointer (some ⟨b, 0, none⟩), .int .i64 lim] w fun e w' => e = .returned (.tuple #[.int .u64 (toE base lim (L.drop o)).1, .bool (toE base lim (L.drop o)).2]) ∧ w.grownBy w' (some b) := by
  rcases hbase with rfl | rfl
  · have HB := Lib.hid h
    have HO := Lib.hid ho
    have hC : Cur w b 95 #[.string (strOf L), .int .i64 o, .int .u64 10] L o := ⟨h, rfl, rfl, ho⟩
    have HU := Lib.hid (unread_any w b _ _ L o hC hl)
    obtain ⟨T, hT⟩ : ∃ T, T = L.drop o := ⟨_, rfl⟩
    rw [← hT] at HU ⊢
    have HT := Lib.hid hT
    have z1 := strOf_size T
    have hlT : T.length ≤ 1000000 := by rw [hT]; simp; omega
    obtain ⟨r, hr⟩ : ∃ r, r = strOf T := ⟨_, rfl⟩
    rw [← hr] at HU z1
    have HL := Lib.hid hL
    clear hC h hT hr hL ho
    by_cases h0 : T.length = 0
    · have HR := Lib.hid (show toE 10 lim T = (0, false) by unfold toE; rw [if_neg (by omega)])
      rw [h0] at z1
      go_enter Try.func92, Try.ntmps92
      go_wp2_with fail
      refine HU.out.mono ?_
      rintro e w1 ⟨rfl, g1, _⟩
      have G1 := Lib.hid g1
      clear g1 HU
      go_wp2
      go_ret2
      rw [HR.out]
      exact ⟨rfl, gb_any G1.out⟩
    · by_cases h1 : (lim : Int) < T.length
      · have HR := Lib.hid (show toE 10 lim T = (0, false) by unfold toE; rw [if_neg (by omega)])
        have h0' : ((T.length : Int) == 0) = false := by rw [beq_eq_false_iff_ne]; omega
        go_enter Try.func92, Try.ntmps92
        go_wp2_with fail
        refine HU.out.mono ?_
        rintro e w1 ⟨rfl, g1, _⟩
        have G1 := Lib.hid g1
        clear g1 HU
        go_wp2
        go_ret2
        rw [HR.out]
        exact ⟨rfl, gb_any G1.out⟩
      · have h0' : ((T.length : Int) == 0) = false := by rw [beq_eq_false_iff_ne]; omega
        have h1' : T.length ≤ lim := by omega
        have h1d : decide (lim < T.length) = false := decide_eq_false (by omega)
        go_enter Try.func92, Try.ntmps92
        go_wp2_with fail
        refine HU.out.mono ?_
        rintro e w1 ⟨rfl, g1, _⟩
        have G1 := Lib.hid g1
        have B1 := Lib.hid (HB.out.keep0 g1)
        clear g1 HU HB
        go_wp2
        go_loopw [7, 23] (fun v i wr => ∃ k : Nat, k ≤ T.length ∧ v = .int .u64 (valF 10 0 (T.take k)) ∧ i = .int .i64 k ∧ IsB wr b 95 #[.string (strOf L), .int .i64 ((o + k : Nat) : Int), .int .u64 10] ∧ okD 10 (T.take k) = true ∧ w.grownBy wr (some b)) (fun _ i _ => T.length - (intOf i).toNat)
        case atStart => exact ⟨0, Nat.zero_le _, rfl, rfl, by simpa using B1.out, rfl, gb_any G1.out⟩
        case round =>
          obtain ⟨k, hk, rfl, rfl, hb, hok, hg⟩ := hrel
          have HV := Lib.hid (valF_range 10 (by decide) (T.take k) (by simp; omega) hok)
          have hv := HV.out
          have HG := Lib.hid hg
          have HOK := Lib.hid hok
          have HBK := Lib.hid hb
          clear hg hok hb B1
          by_cases hlt : k < T.length
          · have hi : (k : Int) < T.length := by omega
            have TL : T.getD k 0 = L.getD (o + k) 0 := by rw [HT.out]; simp [List.getD_eq_getElem?_getD, List.getElem?_drop]
            have hok2 : o + k < L.length := by have := HT.out; have := HO.out; rw [HT.out] at hlt; simp at hlt; omega
            have HC := Lib.hid (show Cur wr.drew b 95 #[.string (strOf L), .int .i64 ((o + k : Nat) : Int), .int .u64 10] L (o + k) from ⟨HBK.out.keep0 (gb_drew _ none), rfl, rfl, by omega⟩)
            have c2 : wr.cell? ⟨b, 2, none⟩ = some (.int .u64 10) := HBK.out.cell 2
            have HS := Lib.hid (take_snoc T k hlt)
            by_cases hd : dv (T.getD k 0) < 10
            · have HD := Lib.hid (digit_yes wr.drew b _ _ L (o + k) 10 HC.out hl HL.out hok2 (by rw [← TL]; exact hd))
              rw [← TL] at HD
              have hx := dv_range (T.getD k 0)
              have HE1 := Lib.hid (show valF 10 0 (T.take (k + 1)) = valF 10 0 (T.take k) * 10 + dv (T.getD k 0) by rw [HS.out]; simp [valF])
              have HE2 := Lib.hid (show okD 10 (T.take (k + 1)) = true by rw [HS.out]; unfold okD at *; rw [List.all_append, HOK.out]; simpa using hd)
              obtain ⟨d, hdd⟩ : ∃ d, d = dv (T.getD k 0) := ⟨_, rfl⟩
              rw [← hdd] at HD hx HE1 hd
              obtain ⟨v, hvv⟩ : ∃ v, v = valF 10 0 (T.take k) := ⟨_, rfl⟩
              rw [← hvv] at hv HE1 ⊢
              clear TL hdd hvv HS HC HV HOK
              go_wp2_with fail
              have hb0 := npx_c ⟨HG.out, _, HBK.out⟩
              go_region_held3 (fun w' => w'.cell? ⟨b, 2, none⟩ = some (.int .u64 10) ∧ NPx w b L 10 w') (first | exact npx_c ⟨gb_trans HG.out (gb_trans (gb_drew _ _) g2), _, q2.blk⟩ | exact npx_c ⟨gb_trans HG.out (gb_drew _ _), _, HBK.out.keep0 (gb_drew _ none)⟩ | exact hb0 | assumption)
                (first | (go_at_call 97; refine HD.out.mono ?_; rintro e w2 ⟨rfl, g2, q2⟩))
              rename_i hs
              clear hs hb0 HBK
              have B2 := Lib.hid (show IsB w2 b 95 #[.string (strOf L), .int .i64 ((o + k + 1 : Nat) : Int), .int .u64 10] from q2.blk)
              have G2 := Lib.hid (gb_trans HG.out (gb_trans (gb_drew _ _) g2))
              have c3 : w2.cell? ⟨b, 2, none⟩ = some (.int .u64 10) := B2.out.cell 2
              clear g2 q2 HD c2
              go_wp2
              go_roundw
              case rel => exact ⟨k + 1, by omega, by rw [HE1.out], by go_num, B2.out, HE2.out, G2.out⟩
              case measure => simp [intOf]; omega
            · have HD := Lib.hid (digit_no wr.drew b _ _ L (o + k) 10 HC.out hl HL.out (fun _ => by rw [← TL]; exact hd))
              have HR := Lib.hid (show toE 10 lim T = (0, false) by
                unfold toE
                rw [if_neg]
                intro hh
                exact hd (okD_at hh.2.2 k hlt))
              clear TL HS HC HV HOK hd
              go_wp2_with fail
              have hb0 := npx_c ⟨HG.out, _, HBK.out⟩
              go_region_held3 (fun w' => w'.cell? ⟨b, 2, none⟩ = some (.int .u64 10) ∧ NPx w b L 10 w') (first | exact npx_c ⟨gb_trans HG.out (gb_trans (gb_drew _ _) (gb_any g2)), _, HBK.out.keep0 (gb_trans (gb_drew _ none) g2)⟩ | exact npx_c ⟨gb_trans HG.out (gb_drew _ _), _, HBK.out.keep0 (gb_drew _ none)⟩ | exact hb0 | assumption)
                (first | (go_at_call 97; refine HD.out.mono ?_; rintro e w2 ⟨rfl, g2, _⟩))
              rename_i hs
              clear hs hb0 HBK
              have G2 := Lib.hid (gb_trans HG.out (gb_trans (gb_drew _ _) (gb_any g2)))
              clear g2 HD c2
              go_wp2
              go_ret2
              rw [HR.out]
              exact ⟨rfl, G2.out⟩
          · have hke : k = T.length := by omega
            subst hke
            rw [List.take_length] at *
            have HR := Lib.hid (show toE 10 lim T = (valF 10 0 T, true) by
              have k2 : okD 10 T = true := by simpa using HOK.out
              unfold toE
              rw [if_pos ⟨by omega, h1', k2⟩])
            clear HBK HOK
            go_wp2
            go_ret2
            rw [HR.out]
            exact ⟨rfl, HG.out⟩
  · have HB := Lib.hid h
    have HO := Lib.hid ho
    have hC : Cur w b 95 #[.string (strOf L), .int .i64 o, .int .u64 16] L o := ⟨h, rfl, rfl, ho⟩
    have HU := Lib.hid (unread_any w b _ _ L o hC hl)
    obtain ⟨T, hT⟩ : ∃ T, T = L.drop o := ⟨_, rfl⟩
    rw [← hT] at HU ⊢
    have HT := Lib.hid hT
    have z1 := strOf_size T
    have hlT : T.length ≤ 1000000 := by rw [hT]; simp; omega
    obtain ⟨r, hr⟩ : ∃ r, r = strOf T := ⟨_, rfl⟩
    rw [← hr] at HU z1
    have HL := Lib.hid hL
    clear hC h hT hr hL ho
    by_cases h0 : T.length = 0
    · have HR := Lib.hid (show toE 16 lim T = (0, false) by unfold toE; rw [if_neg (by omega)])
      rw [h0] at z1
      go_enter Try.func92, Try.ntmps92
      go_wp2_with fail
      refine HU.out.mono ?_
      rintro e w1 ⟨rfl, g1, _⟩
      have G1 := Lib.hid g1
      clear g1 HU
      go_wp2
      go_ret2
      rw [HR.out]
      exact ⟨rfl, gb_any G1.out⟩
    · by_cases h1 : (lim : Int) < T.length
      · have HR := Lib.hid (show toE 16 lim T = (0, false) by unfold toE; rw [if_neg (by omega)])
        have h0' : ((T.length : Int) == 0) = false := by rw [beq_eq_false_iff_ne]; omega
        go_enter Try.func92, Try.ntmps92
        go_wp2_with fail
        refine HU.out.mono ?_
        rintro e w1 ⟨rfl, g1, _⟩
        have G1 := Lib.hid g1
        clear g1 HU
        go_wp2
        go_ret2
        rw [HR.out]
        exact ⟨rfl, gb_any G1.out⟩
      · have h0' : ((T.length : Int) == 0) = false := by rw [beq_eq_false_iff_ne]; omega
        have h1' : T.length ≤ lim := by omega
        have h1d : decide (lim < T.length) = false := decide_eq_false (by omega)
        go_enter Try.func92, Try.ntmps92
        go_wp2_with fail
        refine HU.out.mono ?_
        rintro e w1 ⟨rfl, g1, _⟩
        have G1 := Lib.hid g1
        have B1 := Lib.hid (HB.out.keep0 g1)
        clear g1 HU HB
        go_wp2
        go_loopw [7, 23] (fun v i wr => ∃ k : Nat, k ≤ T.length ∧ v = .int .u64 (valF 16 0 (T.take k)) ∧ i = .int .i64 k ∧ IsB wr b 95 #[.string (strOf L), .int .i64 ((o + k : Nat) : Int), .int .u64 16] ∧ okD 16 (T.take k) = true ∧ w.grownBy wr (some b)) (fun _ i _ => T.length - (intOf i).toNat)
        case atStart => exact ⟨0, Nat.zero_le _, rfl, rfl, by simpa using B1.out, rfl, gb_any G1.out⟩
        case round =>
          obtain ⟨k, hk, rfl, rfl, hb, hok, hg⟩ := hrel
          have HV := Lib.hid (valF_range 16 (by decide) (T.take k) (by simp; omega) hok)
          have hv := HV.out
          have HG := Lib.hid hg
          have HOK := Lib.hid hok
          have HBK := Lib.hid hb
          clear hg hok hb B1
          by_cases hlt : k < T.length
          · have hi : (k : Int) < T.length := by omega
            have TL : T.getD k 0 = L.getD (o + k) 0 := by rw [HT.out]; simp [List.getD_eq_getElem?_getD, List.getElem?_drop]
            have hok2 : o + k < L.length := by have := HT.out; have := HO.out; rw [HT.out] at hlt; simp at hlt; omega
            have HC := Lib.hid (show Cur wr.drew b 95 #[.string (strOf L), .int .i64 ((o + k : Nat) : Int), .int .u64 16] L (o + k) from ⟨HBK.out.keep0 (gb_drew _ none), rfl, rfl, by omega⟩)
            have c2 : wr.cell? ⟨b, 2, none⟩ = some (.int .u64 16) := HBK.out.cell 2
            have HS := Lib.hid (take_snoc T k hlt)
            by_cases hd : dv (T.getD k 0) < 16
            · have HD := Lib.hid (digit_yes wr.drew b _ _ L (o + k) 16 HC.out hl HL.out hok2 (by rw [← TL]; exact hd))
              rw [← TL] at HD
              have hx := dv_range (T.getD k 0)
              have HE1 := Lib.hid (show valF 16 0 (T.take (k + 1)) = valF 16 0 (T.take k) * 16 + dv (T.getD k 0) by rw [HS.out]; simp [valF])
              have HE2 := Lib.hid (show okD 16 (T.take (k + 1)) = true by rw [HS.out]; unfold okD at *; rw [List.all_append, HOK.out]; simpa using hd)
              obtain ⟨d, hdd⟩ : ∃ d, d = dv (T.getD k 0) := ⟨_, rfl⟩
              rw [← hdd] at HD hx HE1 hd
              obtain ⟨v, hvv⟩ : ∃ v, v = valF 16 0 (T.take k) := ⟨_, rfl⟩
              rw [← hvv] at hv HE1 ⊢
              clear TL hdd hvv HS HC HV HOK
              go_wp2_with fail
              have hb0 := npx_c ⟨HG.out, _, HBK.out⟩
              go_region_held3 (fun w' => w'.cell? ⟨b, 2, none⟩ = some (.int .u64 16) ∧ NPx w b L 16 w') (first | exact npx_c ⟨gb_trans HG.out (gb_trans (gb_drew _ _) g2), _, q2.blk⟩ | exact npx_c ⟨gb_trans HG.out (gb_drew _ _), _, HBK.out.keep0 (gb_drew _ none)⟩ | exact hb0 | assumption)
                (first | (go_at_call 97; refine HD.out.mono ?_; rintro e w2 ⟨rfl, g2, q2⟩))
              rename_i hs
              clear hs hb0 HBK
              have B2 := Lib.hid (show IsB w2 b 95 #[.string (strOf L), .int .i64 ((o + k + 1 : Nat) : Int), .int .u64 16] from q2.blk)
              have G2 := Lib.hid (gb_trans HG.out (gb_trans (gb_drew _ _) g2))
              have c3 : w2.cell? ⟨b, 2, none⟩ = some (.int .u64 16) := B2.out.cell 2
              clear g2 q2 HD c2
              go_wp2
              go_roundw
              case rel => exact ⟨k + 1, by omega, by rw [HE1.out], by go_num, B2.out, HE2.out, G2.out⟩
              case measure => simp [intOf]; omega
            · have HD := Lib.hid (digit_no wr.drew b _ _ L (o + k) 16 HC.out hl HL.out (fun _ => by rw [← TL]; exact hd))
              have HR := Lib.hid (show toE 16 lim T = (0, false) by
                unfold toE
                rw [if_neg]
                intro hh
                exact hd (okD_at hh.2.2 k hlt))
              clear TL HS HC HV HOK hd
              go_wp2_with fail
              have hb0 := npx_c ⟨HG.out, _, HBK.out⟩
              go_region_held3 (fun w' => w'.cell? ⟨b, 2, none⟩ = some (.int .u64 16) ∧ NPx w b L 16 w') (first | exact npx_c ⟨gb_trans HG.out (gb_trans (gb_drew _ _) (gb_any g2)), _, HBK.out.keep0 (gb_trans (gb_drew _ none) g2)⟩ | exact npx_c ⟨gb_trans HG.out (gb_drew _ _), _, HBK.out.keep0 (gb_drew _ none)⟩ | exact hb0 | assumption)
                (first | (go_at_call 97; refine HD.out.mono ?_; rintro e w2 ⟨rfl, g2, _⟩))
              rename_i hs
              clear hs hb0 HBK
              have G2 := Lib.hid (gb_trans HG.out (gb_trans (gb_drew _ _) (gb_any g2)))
              clear g2 HD c2
              go_wp2
              go_ret2
              rw [HR.out]
              exact ⟨rfl, G2.out⟩
          · have hke : k = T.length := by omega
            subst hke
            rw [List.take_length] at *
            have HR := Lib.hid (show toE 16 lim T = (valF 16 0 T, true) by
              have k2 : okD 16 T = true := by simpa using HOK.out
              unfold toE
              rw [if_pos ⟨by omega, h1', k2⟩])
            clear HBK HOK
            go_wp2
            go_ret2
            rw [HR.out]
            exact ⟨rfl, HG.out⟩
end Go.Proofs.Ytmbdpiffdiiggaa
