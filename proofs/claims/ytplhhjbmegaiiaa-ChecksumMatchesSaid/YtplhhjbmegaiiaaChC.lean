/- Numbers of four bytes read and appended; records made: the walks; no condition but sizes and the bytes' range. -/
import Derived.Test.YtplhhjbmegaiiaaChB
namespace Go.Proofs.Ytplhhjbmegaiiaa
open Go.RowKit
set_option linter.unusedVariables false

theorem add_add (a : Addr) (i j : Nat) : (a.add i).add j = a.add (i + j) := by
  unfold Addr.add
  by_cases hi : i = 0 <;> by_cases hj : j = 0 <;> simp [hi, hj, Nat.add_assoc]
theorem SlR.len {w : World} {k : IntKind} {a : Option Addr} {n c : Nat} {bs : List Int} (h : SlR w a n c (bs.map (Value.int k))) : bs.length = n := by simpa using h.1
/-- A part of a slice. -/
theorem SlR.cut {w : World} {k : IntKind} {ad : Addr} {n c : Nat} {bs : List Int} (h : SlR w (some ad) n c (bs.map (Value.int k))) (q m : Nat) (hm : q + m ≤ bs.length) (hc : bs.length ≤ c) :
    SlR w (if c = q then some ad else some (ad.add q)) m (c - q) (((bs.drop q).take m).map (Value.int k)) := by
  refine ⟨by simp; omega, ?_, ?_⟩
  · intro e; split at e <;> cases e
  · intro a2 he j u hu
    have hj : j < m := by
      have := (List.getElem?_eq_some_iff.1 hu).1
      simp at this; omega
    rw [if_neg (by omega)] at he
    injection he with he
    subst he
    rw [add_add]
    refine h.2.2 ad rfl (q + j) u ?_
    rw [← hu]
    simp [hj, List.getElem?_drop]
theorem SlR.pre {w : World} {k : IntKind} {ad : Addr} {n c : Nat} {bs : List Int} (h : SlR w (some ad) n c (bs.map (Value.int k))) (m : Nat) (hm : m ≤ bs.length) :
    SlR w (some ad) m c ((bs.take m).map (Value.int k)) := by
  refine ⟨by simp; omega, by simp, ?_⟩
  intro a2 he j u hu
  have hj : j < m := by
    have := (List.getElem?_eq_some_iff.1 hu).1
    simp at this; omega
  refine h.2.2 a2 he j u ?_
  rw [← hu]
  simp [hj]

def be4 (v : Int) : List Int := [v / 16777216 % 256, v / 65536 % 256, v / 256 % 256, v % 256]
def num4 (bs : List Int) (q : Nat) : Int := 16777216 * bs.getD q 0 + 65536 * bs.getD (q + 1) 0 + 256 * bs.getD (q + 2) 0 + bs.getD (q + 3) 0
theorem be4_range (v : Int) : ∀ x ∈ be4 v, 0 ≤ x ∧ x ≤ 255 := by
  intro x hx
  simp [be4] at hx
  omega
theorem num4_range {bs : List Int} (hb : ∀ x ∈ bs, 0 ≤ x ∧ x ≤ 255) (q : Nat) : 0 ≤ num4 bs q ∧ num4 bs q < 4294967296 := by
  have h0 := getD_byte hb q
  have h1 := getD_byte hb (q + 1)
  have h2 := getD_byte hb (q + 2)
  have h3 := getD_byte hb (q + 3)
  unfold num4; omega
def nk (bs : List Int) (q : Nat) : Nat → Int
  | 0 => 0
  | k + 1 => nk bs q k * 256 + bs.getD (q + k) 0
theorem nk_four (bs : List Int) (q : Nat) : nk bs q 4 = num4 bs q := by simp only [nk, num4]; simp only [Nat.add_zero]; omega
theorem nk_range {bs : List Int} (hb : ∀ x ∈ bs, 0 ≤ x ∧ x ≤ 255) (q k : Nat) (hk : k < 4) : 0 ≤ nk bs q k ∧ nk bs q k < 16777216 := by
  have h0 := getD_byte hb (q + 0)
  have h1 := getD_byte hb (q + 1)
  have h2 := getD_byte hb (q + 2)
  rcases (show k = 0 ∨ k = 1 ∨ k = 2 ∨ k = 3 by omega) with rfl | rfl | rfl | rfl <;> simp only [nk] <;> omega

theorem or8 (v x : Int) (h0 : 0 ≤ v) (h1 : v < 16777216) (x0 : 0 ≤ x) (x1 : x ≤ 255) : bits .or .u32 (v * 256) x = v * 256 + x :=
  bits_join .u32 32 (by decide) wraps_u32 8 (v * 256) x (by omega) (by simp) (by simp; omega) x0 (by simp; omega) (by simp; omega)
set_option maxHeartbeats 1000000 in
theorem numberAt_any (w : World) (a : Option Addr) (n c : Nat) (bs : List Int) (q : Nat) (h : SlR w a n c (bs.map (Value.int .u8))) (hb : ∀ x ∈ bs, 0 ≤ x ∧ x ≤ 255) (hn : bs.length ≤ 1000000) (hc : bs.length ≤ c) (hq : q + 4 ≤ bs.length) :
    Calls Try.prog 45 #[.slice a n c, .int .i64 q] w (RetQ (.int .u32 (num4 bs q)) w none fun _ => True) := by
  have hl := h.len
  subst hl
  cases a with
  | none => exact absurd (h.2.1 rfl).1 (by omega)
  | some ad =>
    have HH := Lib.hid h
    have i1 : (q : Int) + 4 ≤ bs.length := by omega
    have i2 : (q : Int) + 4 ≤ c := by omega
    have HB := Lib.hid hb
    clear h hb
    go_enter Try.func45, Try.ntmps45
    go_wp2
    have ea : (if c = q then (some ad : Option Addr) else some (ad.add q)) = some (ad.add q) := if_neg (by omega)
    have HQ := Lib.hid (HH.out.cut q 4 (by omega) hc)
    rw [ea] at HQ
    try rw [ea]
    generalize ad.add q = a2 at *
    go_loopw [5, 14] (fun v i wr => ∃ k : Nat, k ≤ 4 ∧ v = .int .u32 (nk bs q k) ∧ i = .int .i64 k ∧ w.grownBy wr none) (fun _ i _ => 4 - (intOf i).toNat)
    case atStart => exact ⟨0, by omega, rfl, rfl, gb_refl _ _⟩
    case round =>
      obtain ⟨k, hk, rfl, rfl, hg⟩ := hrel
      have HG := Lib.hid hg
      clear hg
      by_cases hlt : k < 4
      · have hr := nk_range HB.out q k hlt
        have hx := getD_byte HB.out (q + k)
        have c1 := (HQ.out.keep0 HG.out).cellAt k (by simp; omega)
        have ex : (((bs.drop q).take 4).getD k 0) = bs.getD (q + k) 0 := by
          simp [List.getD_eq_getElem?_getD, hlt, List.getElem?_drop]
        rw [ex] at c1
        have HN := Lib.hid (show nk bs q (k + 1) = nk bs q k * 256 + bs.getD (q + k) 0 from rfl)
        generalize bs.getD (q + k) 0 = x at *
        generalize nk bs q k = v at *
        have e1 := or8 v x hr.1 hr.2 hx.1 hx.2
        go_wp2
        go_roundw
        case rel => exact ⟨k + 1, by omega, by rw [HN.out], by go_num, HG.out⟩
        case measure => simp [intOf]; omega
      · have hje : k = 4 := by omega
        subst hje
        have HN := Lib.hid (nk_four bs q)
        generalize nk bs q 4 = v at *
        go_wp2
        go_ret
        exact ⟨ret_i HN.out, HG.out, trivial⟩

/-- The call returns bytes of its own. -/
def RetB (base : Nat) (L : List Int) (w0 : World) (e : Ending) (w' : World) : Prop := ∃ V, e = .returned V ∧ BL w' base V L ∧ w0.grownBy w' none
set_option maxHeartbeats 1000000 in
theorem appnum_any (w0 w : World) (base : Nat) (V : Value) (L : List Int) (v : Int) (hg : w0.grownBy w none) (hb0 : w0.heap.size ≤ base) (hb : base ≤ w.heap.size) (hown : BL w base V L) (hl : L.length ≤ 900000) (v0 : 0 ≤ v) (v1 : v < 4294967296) :
    Calls Try.prog 51 #[V, .int .u32 v] w (RetB base (L ++ be4 v) w0) := by
  have HO := Lib.hid hown
  have HG0 := Lib.hid hg
  clear hown hg
  go_enter Try.func51, Try.ntmps51
  go_wp2
  go_loopw [0, 6] (fun b i wr => ∃ k : Nat, k ≤ 4 ∧ i = .int .i64 k ∧ BL wr base b (L ++ (be4 v).take k) ∧ w0.grownBy wr none ∧ base ≤ wr.heap.size) (fun _ i _ => 4 - (intOf i).toNat)
  case atStart => exact ⟨0, by omega, rfl, by simpa using HO.out, HG0.out, hb⟩
  case round =>
    rename_i bv _
    obtain ⟨k, hk, rfl, hbl, hg, hbs⟩ := hrel
    have HB := Lib.hid hbl
    have HG := Lib.hid hg
    have hlen : (L ++ (be4 v).take k).length ≤ 900004 := by simp [be4]; omega
    clear hbl hg HO HG0
    by_cases hlt : k < 4
    · rcases (show k = 0 ∨ k = 1 ∨ k = 2 ∨ k = 3 by omega) with rfl | rfl | rfl | rfl
      all_goals
        go_wp2_with (at_builtin; refine push_any rfl _ _ rfl base _ (L ++ (be4 v).take _) rfl (HB.out.keep0 (gb_alloc _ _ _)) _ _ _ [_] rfl (slr_one _ _ _ _ _ rfl) (by simp only [List.length_singleton]; omega) (by simp; omega) ?_)
        intro V2 w2 o2 g2 _
        have G2 := Lib.hid (gb_own (gb_trans HG.out (gb_alloc _ _ _)) (HB.out.keep0 (gb_alloc _ _ _)) hb0 g2)
        have O2 := Lib.hid o2
        have S2 := Lib.hid (show base ≤ w2.heap.size by have := g2.size; simp at this; omega)
        clear o2 g2
        go_wp2
        go_roundw
        case rel =>
          have e0 : v / 16777216 % 256 = v / 16777216 := by omega
          first
            | exact ⟨1, by omega, by go_num, by simpa [be4, e0] using O2.out, G2.out, S2.out⟩
            | exact ⟨2, by omega, by go_num, by simpa [be4] using O2.out, G2.out, S2.out⟩
            | exact ⟨3, by omega, by go_num, by simpa [be4] using O2.out, G2.out, S2.out⟩
            | exact ⟨4, by omega, by go_num, by simpa [be4] using O2.out, G2.out, S2.out⟩
        case measure => simp [intOf]
    · have hje : k = 4 := by omega
      subst hje
      go_wp2
      go_ret
      exact ⟨_, rfl, by simpa [be4] using HB.out, HG.out⟩
def frm (b : List Int) : List Int := (be4 b.length ++ b) ++ be4 (fnv (be4 b.length ++ b))
theorem app_range {a b : List Int} (ha : ∀ x ∈ a, 0 ≤ x ∧ x ≤ 255) (hb : ∀ x ∈ b, 0 ≤ x ∧ x ≤ 255) : ∀ x ∈ a ++ b, 0 ≤ x ∧ x ≤ 255 := by
  intro x hx
  rcases List.mem_append.1 hx with h | h
  · exact ha x h
  · exact hb x h
theorem hl4 (v : Int) : (be4 v).length = 4 := rfl
theorem frame_any (w : World) (a : Option Addr) (n c : Nat) (bs : List Int) (h : SlR w a n c (bs.map (Value.int .u8))) (hb : ∀ x ∈ bs, 0 ≤ x ∧ x ≤ 255) (hn : bs.length ≤ 100000) :
    Calls Try.prog 34 #[.slice a n c] w (RetB w.heap.size (frm bs) w) := by
  have hl := h.len
  subst hl
  have HH := Lib.hid h
  clear h
  go_enter Try.func34, Try.ntmps34
  go_wp2_with fail
  refine (appnum_any w w w.heap.size _ [] bs.length (gb_refl _ _) (Nat.le_refl _) (Nat.le_refl _) (BL.nil _ _) (by simp) (by omega) (by omega)).mono ?_
  rintro e w1 ⟨V1, rfl, o1, g1⟩
  have G1 := Lib.hid g1
  have O1 := Lib.hid o1
  clear o1 g1
  go_wp2_with (at_builtin; refine push_any rfl _ _ rfl w.heap.size _ _ rfl O1.out _ _ _ bs rfl (HH.out.keep0 G1.out) (by simp [be4]; omega) G1.out.size ?_)
  intro V2 w2 o2 g2 _
  have G2 := Lib.hid (gb_own G1.out O1.out (Nat.le_refl _) g2)
  obtain ⟨R, hR⟩ : ∃ R, R = be4 bs.length ++ bs := ⟨_, rfl⟩
  rw [← hR] at o2
  obtain ⟨a2, c2, rfl⟩ := o2.shape
  have O2 := Lib.hid o2
  have HL := Lib.hid (show R.length ≤ 100004 by rw [hR]; simp [be4]; omega)
  have HB := Lib.hid (show ∀ x ∈ R, 0 ≤ x ∧ x ≤ 255 by rw [hR]; exact app_range (be4_range _) hb)
  have HR := Lib.hid hR
  clear o2 g2 O1 G1 hR
  have HF := Lib.hid (fnv_any w2 _ _ _ _ O2.out.slr HB.out (by have := HL.out; omega))
  go_wp2_with fail
  refine HF.out.mono ?_
  rintro e w3 ⟨rfl, g3, _⟩
  have G3 := Lib.hid (gb_trans G2.out g3)
  have O3 := Lib.hid (O2.out.keep0 g3)
  have hr := fnv_range R
  obtain ⟨v, hv⟩ : ∃ v, v = fnv R := ⟨_, rfl⟩
  rw [← hv] at hr
  have HV := Lib.hid hv
  rw [← hv]
  clear hv
  have HA := Lib.hid (appnum_any w w3 w.heap.size _ _ v G3.out (Nat.le_refl _) G3.out.size O3.out (by have := HL.out; omega) hr.1 hr.2)
  clear g3 HF G2 O2
  go_wp2_with fail
  refine HA.out.mono ?_
  rintro e w4 ⟨V4, rfl, o4, g4⟩
  have G4 := Lib.hid g4
  have O4 := Lib.hid o4
  clear o4 g4 HA
  go_wp2
  go_ret
  refine ⟨_, rfl, ?_, G4.out⟩
  have k := O4.out
  rw [HV.out, HR.out] at k
  exact k

theorem big_any (w : World) (v : Int) (v0 : 0 ≤ v) (v1 : v < 4294967296) :
    Calls Try.prog 47 #[.int .u32 v] w fun e w' => ∃ a c, e = .returned (.slice a 4 c) ∧ w.grownBy w' none ∧ SlR w' a 4 c ((be4 v).map (Value.int .u8)) := by
  go_enter Try.func47, Try.ntmps47
  go_wp2
  go_ret
  have e0 : v / 16777216 % 256 = v / 16777216 := by omega
  exact ⟨_, _, rfl, gb_alloc _ _ _, by simpa [be4, e0] using slr_new w .u8 (be4 v) 5⟩
theorem rframe_any (w : World) (a : Option Addr) (n c : Nat) (bs : List Int) (h : SlR w a n c (bs.map (Value.int .u8))) (hb : ∀ x ∈ bs, 0 ≤ x ∧ x ≤ 255) (hn : bs.length ≤ 100000) :
    Calls Try.prog 35 #[.slice a n c] w (RetB w.heap.size (frm bs) w) := by
  have hl := h.len
  subst hl
  have HH := Lib.hid h
  clear h
  go_enter Try.func35, Try.ntmps35
  go_wp2_with fail
  refine (big_any w bs.length (by omega) (by omega)).mono ?_
  rintro e w0 ⟨a0, c0, rfl, g0, s0⟩
  have G0 := Lib.hid g0
  have S0 := Lib.hid s0
  clear g0 s0
  go_wp2_with (at_builtin; refine push_any rfl _ _ rfl w.heap.size _ [] rfl (BL.nil _ _) _ _ _ (be4 bs.length) rfl S0.out (by simp [be4]) G0.out.size ?_)
  intro V1 w1 o1 g1 _
  have G1 := Lib.hid (gb_own G0.out (BL.nil w0 w.heap.size) (Nat.le_refl _) g1)
  have O1 := Lib.hid o1
  clear o1 g1 G0 S0
  go_wp2_with (at_builtin; refine push_any rfl _ _ rfl w.heap.size _ _ rfl O1.out _ _ _ bs rfl (HH.out.keep0 G1.out) (by simp [be4]; omega) G1.out.size ?_)
  intro V2 w2 o2 g2 _
  have G2 := Lib.hid (gb_own G1.out O1.out (Nat.le_refl _) g2)
  obtain ⟨R, hR⟩ : ∃ R, R = be4 bs.length ++ bs := ⟨_, rfl⟩
  rw [← hR] at o2
  obtain ⟨a2, c2, rfl⟩ := o2.shape
  have O2 := Lib.hid o2
  have HL := Lib.hid (show R.length ≤ 100004 by rw [hR]; simp [be4]; omega)
  have HB := Lib.hid (show ∀ x ∈ R, 0 ≤ x ∧ x ≤ 255 by rw [hR]; exact app_range (be4_range _) hb)
  have HR := Lib.hid hR
  clear o2 g2 O1 G1 hR
  have HF := Lib.hid (rfnv_any w2 _ _ _ _ O2.out.slr HB.out (by have := HL.out; omega))
  go_wp2_with fail
  refine HF.out.mono ?_
  rintro e w3 ⟨rfl, g3, _⟩
  have G3 := Lib.hid (gb_trans G2.out g3)
  have O3 := Lib.hid (O2.out.keep0 g3)
  have hr := fnv_range R
  obtain ⟨v, hv⟩ : ∃ v, v = fnv R := ⟨_, rfl⟩
  rw [← hv] at hr
  have HV := Lib.hid hv
  rw [← hv]
  clear hv
  have HA := Lib.hid (big_any w3 v hr.1 hr.2)
  clear g3 HF G2 O2
  go_wp2_with fail
  refine HA.out.mono ?_
  rintro e w4 ⟨a4, c4, rfl, g4, s4⟩
  have G4 := Lib.hid (gb_trans G3.out g4)
  have O4 := Lib.hid (O3.out.keep0 g4)
  have S4 := Lib.hid s4
  clear g4 s4 HA G3 O3
  go_wp2_with (at_builtin; refine push_any rfl _ _ rfl w.heap.size _ _ rfl O4.out _ _ _ _ rfl S4.out (by have := HL.out; rw [hl4]; omega) G4.out.size ?_)
  intro V5 w5 o5 g5 _
  have G5 := Lib.hid (gb_own G4.out O4.out (Nat.le_refl _) g5)
  have O5 := Lib.hid o5
  clear o5 g5
  go_wp2
  go_ret
  refine ⟨_, rfl, ?_, G5.out⟩
  have k := O5.out
  rw [HV.out, HR.out] at k
  exact k
end Go.Proofs.Ytplhhjbmegaiiaa
