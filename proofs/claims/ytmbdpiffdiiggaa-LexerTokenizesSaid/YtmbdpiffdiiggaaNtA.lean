/- Decimal text: the walks of FormatInt, FormatUint32 and their references; no condition. -/
import Derived.Test.YtmbdpiffdiiggaaChD
namespace Go.Proofs.Ytmbdpiffdiiggaa
open Go.RowKit
set_option linter.unusedVariables false

/-- The decimal digits of v, at most f + 1 of them. -/
def decF : Nat → Int → List Int
  | 0, v => [48 + v % 10]
  | f + 1, v => if v < 10 then [48 + v] else decF f (v / 10) ++ [48 + v % 10]
def dec (v : Int) : List Int := decF 19 v
def fmtI (n : Int) : List Int := if n < 0 then 45 :: dec (-n) else dec n
def tenTo : Nat → Int
  | 0 => 1
  | f + 1 => 10 * tenTo f
theorem tenTo_pos (f : Nat) : 1 ≤ tenTo f := by
  induction f with
  | zero => exact Int.le_refl _
  | succ f ih => unfold tenTo; omega
theorem decF_small (f : Nat) (v : Int) (h0 : 0 ≤ v) (h : v < 10) : decF f v = [48 + v] := by
  cases f with
  | zero => unfold decF; rw [show v % 10 = v by omega]
  | succ f => unfold decF; rw [if_pos h]
theorem decF_same (f g : Nat) (v : Int) (h0 : 0 ≤ v) (hf : v < tenTo (f + 1)) (hg : v < tenTo (g + 1)) : decF f v = decF g v := by
  induction f generalizing g v with
  | zero =>
    have : v < 10 := by simpa [tenTo] using hf
    rw [decF_small 0 v h0 this, decF_small g v h0 this]
  | succ f ih =>
    by_cases h : v < 10
    · rw [decF_small _ v h0 h, decF_small g v h0 h]
    · cases g with
      | zero => exact absurd (show v < 10 by simpa [tenTo] using hg) h
      | succ g =>
        have e1 : tenTo (f + 1 + 1) = 10 * tenTo (f + 1) := rfl
        have e2 : tenTo (g + 1 + 1) = 10 * tenTo (g + 1) := rfl
        unfold decF
        rw [if_neg h, if_neg h, ih g (v / 10) (by omega) (by omega) (by omega)]
theorem decF_range (f : Nat) (v : Int) (h0 : 0 ≤ v) : ∀ x ∈ decF f v, 48 ≤ x ∧ x ≤ 57 := by
  induction f generalizing v with
  | zero => intro x hx; simp [decF] at hx; omega
  | succ f ih =>
    intro x hx
    unfold decF at hx
    split at hx
    · simp at hx; omega
    · rcases List.mem_append.1 hx with h | h
      · exact ih (v / 10) (by omega) x h
      · simp at h; omega
theorem dec_range (v : Int) (h0 : 0 ≤ v) : ∀ x ∈ dec v, 0 ≤ x ∧ x ≤ 255 := fun x hx => by
  have := decF_range 19 v h0 x hx
  omega
theorem decF_len (f : Nat) (v : Int) : 1 ≤ (decF f v).length ∧ (decF f v).length ≤ f + 1 := by
  induction f generalizing v with
  | zero => simp [decF]
  | succ f ih =>
    unfold decF
    split
    · simp
    · have := ih (v / 10)
      simp
      omega
theorem big_ten : (18446744073709551616 : Int) ≤ tenTo 20 := by decide +kernel

def D16 : ByteArray := ⟨#[48, 49, 50, 51, 52, 53, 54, 55, 56, 57, 97, 98, 99, 100, 101, 102]⟩
def hexd (x : Int) : Int := if x < 10 then 48 + x else 87 + x
theorem D16_at : ∀ i : Fin 16, ((#[48, 49, 50, 51, 52, 53, 54, 55, 56, 57, 97, 98, 99, 100, 101, 102] : Array UInt8)[i.val]'(i.isLt)).toNat = (hexd i.val).toNat := by decide +kernel
theorem ret_s {a b : ByteArray} (h : a = b) : Ending.returned (.string a) = .returned (.string b) := by rw [h]

theorem bl_new (w : World) (x : Int) : BL (w.alloc (.cells #[.int .u8 x] 5)) w.heap.size (.slice (some ⟨w.heap.size, 0, none⟩) 1 1) [x] :=
  ⟨rfl, Or.inr ⟨w.heap.size, 1, #[.int .u8 x], rfl, Nat.le_refl _, IsB.new w _ _, Nat.le_refl _, by decide, rfl, rfl⟩⟩
theorem BL.size {w : World} {base : Nat} {V : Value} {L : List Int} (h : BL w base V L) (hn : 0 < L.length) : base ≤ w.heap.size := by
  obtain ⟨g, c, rfl⟩ := own_head h hn
  have := h.lt g rfl
  omega
theorem D16_get (i : Nat) (h : i < (ByteArray.mk #[48, 49, 50, 51, 52, 53, 54, 55, 56, 57, 97, 98, 99, 100, 101, 102]).size) :
    ((((ByteArray.mk #[48, 49, 50, 51, 52, 53, 54, 55, 56, 57, 97, 98, 99, 100, 101, 102])[i]'h).toNat : Nat) : Int) = hexd i := by
  have h2 : i < 16 := h
  have k := D16_at ⟨i, h2⟩
  have e : ((ByteArray.mk #[48, 49, 50, 51, 52, 53, 54, 55, 56, 57, 97, 98, 99, 100, 101, 102])[i]'h).toNat = (hexd i).toNat := k
  rw [e]
  unfold hexd
  split <;> omega
theorem hexd_ten (v : Int) (h0 : 0 ≤ v) : hexd (((v % 10).toNat : Nat) : Int) = 48 + v % 10 := by unfold hexd; rw [if_pos (by omega)]; omega

set_option maxHeartbeats 1000000 in
theorem appdec (f : Nat) : ∀ (v : Int) (w0 w : World) (base : Nat) (V : Value) (L : List Int), 0 ≤ v → v < tenTo (f + 1) → v < 18446744073709551616 → w0.grownBy w none → w0.heap.size ≤ base → base ≤ w.heap.size → BL w base V L → L.length ≤ 900000 → f ≤ 19 →
    Calls Try.prog 99 #[V, .int .u64 v] w (RetB base (L ++ decF f v) w0) := by
  induction f with
  | zero =>
    intro v w0 w base V L h0 hf h64 hg hb0 hb hown hl h19
    have h10 : v < 10 := by simpa [tenTo] using hf
    have HO := Lib.hid hown
    have HG := Lib.hid hg
    clear hown hg hf
    go_enter Try.func99, Try.ntmps99
    go_wp2_with (at_builtin; refine push_any rfl _ _ rfl base _ L rfl (HO.out.keep0 (gb_alloc _ _ _)) _ _ _ [_] rfl (slr_one _ _ _ _ _ rfl) (by simp; omega) (by simp; omega) ?_)
    intro V2 w2 o2 g2 _
    rw [D16_get] at o2
    have G2 := Lib.hid (gb_own (gb_trans HG.out (gb_alloc _ _ _)) (HO.out.keep0 (gb_alloc _ _ _)) hb0 g2)
    have O2 := Lib.hid o2
    clear o2 g2
    go_wp2
    go_ret
    refine ⟨_, rfl, ?_, G2.out⟩
    have k := O2.out
    rw [hexd_ten v h0, show v % 10 = v by omega] at k
    rw [decF_small 0 v h0 h10]
    exact k
  | succ f ih =>
    intro v w0 w base V L h0 hf h64 hg hb0 hb hown hl h19
    have HO := Lib.hid hown
    have HG := Lib.hid hg
    have e1 : tenTo (f + 1 + 1) = 10 * tenTo (f + 1) := rfl
    have HF := Lib.hid (show v / 10 < tenTo (f + 1) by omega)
    have IH := Lib.hid ih
    clear hown hg hf e1 ih
    by_cases h10 : v < 10
    · go_enter Try.func99, Try.ntmps99
      go_wp2_with (at_builtin; refine push_any rfl _ _ rfl base _ L rfl (HO.out.keep0 (gb_alloc _ _ _)) _ _ _ [_] rfl (slr_one _ _ _ _ _ rfl) (by simp; omega) (by simp; omega) ?_)
      intro V2 w2 o2 g2 _
      rw [D16_get] at o2
      have G2 := Lib.hid (gb_own (gb_trans HG.out (gb_alloc _ _ _)) (HO.out.keep0 (gb_alloc _ _ _)) hb0 g2)
      have O2 := Lib.hid o2
      clear o2 g2
      go_wp2
      go_ret
      refine ⟨_, rfl, ?_, G2.out⟩
      have k := O2.out
      rw [hexd_ten v h0, show v % 10 = v by omega] at k
      rw [decF_small _ v h0 h10]
      exact k
    · have HD := Lib.hid (show decF (f + 1) v = decF f (v / 10) ++ [48 + v % 10] by
        show (if v < 10 then [48 + v] else decF f (v / 10) ++ [48 + v % 10]) = _
        rw [if_neg h10])
      have HL := Lib.hid (show (L ++ decF f (v / 10)).length ≤ 900000 + 1 + f by
        have := (decF_len f (v / 10)).2
        rw [List.length_append]; omega)
      go_enter Try.func99, Try.ntmps99
      go_wp2_with fail
      refine (IH.out (v / 10) w0 w base V L (by omega) HF.out (by omega) HG.out hb0 hb HO.out hl (by omega)).mono ?_
      rintro e w1 ⟨V1, rfl, o1, g1⟩
      have O1 := Lib.hid o1
      have G1 := Lib.hid g1
      have S1 := Lib.hid (show base ≤ w1.heap.size from (BL.size o1 (by have := (decF_len f (v / 10)).1; rw [List.length_append]; omega)))
      clear o1 g1
      go_wp2_with (at_builtin; refine push_any rfl _ _ rfl base _ (L ++ decF f (v / 10)) rfl (O1.out.keep0 (gb_alloc _ _ _)) _ _ _ [_] rfl (slr_one _ _ _ _ _ rfl) (by have := HL.out; rw [List.length_singleton]; omega) (by simp; have := S1.out; omega) ?_)
      intro V2 w2 o2 g2 _
      rw [D16_get] at o2
      have G2 := Lib.hid (gb_own (gb_trans G1.out (gb_alloc _ _ _)) (O1.out.keep0 (gb_alloc _ _ _)) hb0 g2)
      have O2 := Lib.hid o2
      clear o2 g2
      go_wp2
      go_ret
      refine ⟨_, rfl, ?_, G2.out⟩
      have k := O2.out
      rw [hexd_ten v h0] at k
      rw [HD.out]
      exact k

theorem i64_neg (n : Int) (h : -9223372036854775808 ≤ n) (h1 : n < 0) : IntKind.u64.wrap n = n + 18446744073709551616 ∧ IntKind.u64.wrap (-(n + 18446744073709551616)) = -n := by
  rw [IntKind.wrap_u64, IntKind.wrap_u64]; omega
theorem fmtI_def {n : Int} : fmtI n = if n < 0 then 45 :: dec (-n) else dec n := rfl
theorem dec_lt (v : Int) (h : v < 18446744073709551616) : v < tenTo (19 + 1) := Int.lt_of_lt_of_le h big_ten
theorem fmtU_any (w : World) (n : Int) (h0 : 0 ≤ n) (h1 : n < 4294967296) :
    Calls Try.prog 93 #[.int .u32 n] w (RetQ (.string (strOf (dec n))) w none fun _ => True) := by
  go_enter Try.func93, Try.ntmps93
  go_wp2_with fail
  refine (appdec 19 n w _ w.heap.size _ [] (by omega) (dec_lt _ (by omega)) (by omega) (gb_refl _ _) (Nat.le_refl _) (Nat.le_refl _) (BL.nil _ _) (by simp) (Nat.le_refl _)).mono ?_
  rintro e w1 ⟨V1, rfl, o1, g1⟩
  change BL w1 w.heap.size V1 (dec n) at o1
  obtain ⟨L, hL⟩ : ∃ L, L = dec n := ⟨_, rfl⟩
  rw [← hL] at o1
  have HL := Lib.hid hL
  obtain ⟨a1, c1, rfl⟩ := o1.shape
  have cv := conv_str w1 a1 _ c1 L o1.slr
  have G1 := Lib.hid g1
  clear o1 g1 hL
  go_wp2
  go_ret
  refine ⟨?_, G1.out, trivial⟩
  rw [← HL.out]; rfl

theorem strOf_size (L : List Int) : (strOf L).size = L.length := by
  have k := congrArg List.length (strOf_data L)
  simpa using k
theorem str_ext {a b : ByteArray} (h : a.data.toList = b.data.toList) : a = b := by
  apply ByteArray.ext
  exact Array.ext' h
theorem strOf_app (L M : List Int) : strOf L ++ strOf M = strOf (L ++ M) := by
  apply str_ext
  rw [ByteArray.data_append, Array.toList_append, strOf_data, strOf_data, strOf_data, List.map_append]
theorem strOf_cut (L : List Int) (a b : Nat) : (strOf L).extract a b = strOf ((L.drop a).take (b - a)) := by
  apply str_ext
  rw [ByteArray.data_extract, strOf_data, Array.toList_extract, List.extract_eq_take_drop, strOf_data, List.map_take, List.map_drop]
set_option maxHeartbeats 1000000 in
theorem digits_any (f : Nat) : ∀ (v : Int) (w : World), 0 ≤ v → v < tenTo (f + 1) → v < 18446744073709551616 → f ≤ 19 →
    Calls Try.prog 87 #[.int .u64 v] w (RetQ (.string (strOf (decF f v))) w none fun _ => True) := by
  have small : ∀ (v : Int) (w : World), 0 ≤ v → v < 10 → Calls Try.prog 87 #[.int .u64 v] w (RetQ (.string (strOf [48 + v])) w none fun _ => True) := by
    intro v w h0 h10
    have cv := conv_str (w.alloc (.cells #[.int .u8 (48 + v)] 5)) _ _ _ [48 + v] (slr_one w .u8 (48 + v) 5 w.heap.size rfl)
    go_enter Try.func87, Try.ntmps87
    go_wp2
    go_ret
    exact ⟨rfl, gb_alloc _ _ _, trivial⟩
  induction f with
  | zero =>
    intro v w h0 hf h64 h19
    have h10 : v < 10 := by simpa [tenTo] using hf
    rw [decF_small 0 v h0 h10]
    exact small v w h0 h10
  | succ f ih =>
    intro v w h0 hf h64 h19
    by_cases h10 : v < 10
    · rw [decF_small _ v h0 h10]
      exact small v w h0 h10
    · have e1 : tenTo (f + 1 + 1) = 10 * tenTo (f + 1) := rfl
      have HF := Lib.hid (show v / 10 < tenTo (f + 1) by omega)
      have IH := Lib.hid ih
      have SM := Lib.hid small
      have HD := Lib.hid (show decF (f + 1) v = decF f (v / 10) ++ [48 + v % 10] by
        show (if v < 10 then [48 + v] else decF f (v / 10) ++ [48 + v % 10]) = _
        rw [if_neg h10])
      have hl := (decF_len f (v / 10)).2
      rw [HD.out, ← strOf_app]
      have z1 := strOf_size (decF f (v / 10))
      have z2 := strOf_size [48 + v % 10]
      clear ih small e1 hf
      go_enter Try.func87, Try.ntmps87
      go_wp2_with fail
      refine (IH.out (v / 10) w (by omega) HF.out (by omega) (by omega)).mono ?_
      rintro e w1 ⟨rfl, g1, _⟩
      have G1 := Lib.hid g1
      clear g1
      go_wp2_with fail
      refine (SM.out (v % 10) w1 (by omega) (by omega)).mono ?_
      rintro e w2 ⟨rfl, g2, _⟩
      have G2 := Lib.hid (gb_trans G1.out g2)
      clear g2
      obtain ⟨A, hA⟩ : ∃ A, A = strOf (decF f (v / 10)) := ⟨_, rfl⟩
      obtain ⟨B, hB⟩ : ∃ B, B = strOf [48 + v % 10] := ⟨_, rfl⟩
      rw [← hA] at z1
      rw [← hB] at z2
      rw [← hA, ← hB]
      have HA := Lib.hid hA
      have HB := Lib.hid hB
      clear hA hB
      have i1 : A.size + B.size ≤ 9223372036854775807 := by rw [z1, z2]; simp; omega
      go_wp2
      go_ret
      refine ⟨?_, G2.out, trivial⟩
      rw [← HA.out, ← HB.out]; rfl

theorem dgt_any (w : World) (v : Int) (h0 : 0 ≤ v) (h : v < 18446744073709551616) : Calls Try.prog 87 #[.int .u64 v] w (RetQ (.string (strOf (dec v))) w none fun _ => True) :=
  digits_any 19 v w h0 (dec_lt v h) h (Nat.le_refl _)
theorem dec_len (v : Int) : (dec v).length ≤ 20 := (decF_len 19 v).2
end Go.Proofs.Ytmbdpiffdiiggaa
