/- Records decoded: the walks of Unframe and its reference; no condition but sizes and the bytes' range. -/
import Derived.Test.YtplhhjbmegaiiaaChD
namespace Go.Proofs.Ytplhhjbmegaiiaa
open Go.RowKit
set_option linter.unusedVariables false

def unfR (bs : List Int) : Int × List Int × Int :=
  if bs.length < 8 then (3, [], 0)
  else if (bs.length : Int) - 8 < num4 bs 0 then (3, [], 0)
  else if num4 bs ((num4 bs 0).toNat + 4) = fnv (bs.take ((num4 bs 0).toNat + 4)) then (0, (bs.drop 4).take (num4 bs 0).toNat, num4 bs 0 + 8)
  else (24, [], 0)
def RetU (R : Int × List Int × Int) (w : World) (e : Ending) (w' : World) : Prop :=
  ∃ V, e = .returned (.tuple #[V, .int .i64 R.2.2, .int .i64 R.1]) ∧ BL w' w.heap.size V R.2.1 ∧ w.grownBy w' none
theorem RetU.mk0 {R : Int × List Int × Int} {w w' : World} {x y : Int} (hR : R = (x, [], y)) (g : w.grownBy w' none) : RetU R w (.returned (.tuple #[.slice none 0 0, .int .i64 y, .int .i64 x])) w' := by
  subst hR; exact ⟨_, rfl, BL.nil _ _, g⟩
/-- What a region keeps: the bytes read, and the world only grew. -/
def US (w0 : World) (a : Option Addr) (n c : Nat) (bs : List Int) (w : World) : Prop := SlR w a n c (bs.map (Value.int .u8)) ∧ w0.grownBy w none
theorem US.slr {w0 w : World} {a : Option Addr} {n c : Nat} {bs : List Int} (h : US w0 a n c bs w) : SlR w a n c (bs.map (Value.int .u8)) := h.1
theorem US.step {w0 w w2 : World} {a : Option Addr} {n c : Nat} {bs : List Int} (h : US w0 a n c bs w) (k : w.grownBy w2 none) : US w0 a n c bs w2 := ⟨h.1.keep0 k, gb_trans h.2 k⟩

theorem numAt0 (w : World) (a : Option Addr) (n c : Nat) (bs : List Int) (h : SlR w a n c (bs.map (Value.int .u8))) (hb : ∀ x ∈ bs, 0 ≤ x ∧ x ≤ 255) (hn : bs.length ≤ 1000000) (hc : bs.length ≤ c) (hq : 4 ≤ bs.length) :
    Calls Try.prog 45 #[.slice a n c, .int .i64 0] w (RetQ (.int .u32 (num4 bs 0)) w none fun _ => True) :=
  numberAt_any w a n c bs 0 h hb hn hc (by omega)
theorem numAt4 (w : World) (a : Option Addr) (n c : Nat) (bs : List Int) (m : Nat) (h : SlR w a n c (bs.map (Value.int .u8))) (hb : ∀ x ∈ bs, 0 ≤ x ∧ x ≤ 255) (hn : bs.length ≤ 1000000) (hc : bs.length ≤ c) (hq : m + 8 ≤ bs.length) :
    Calls Try.prog 45 #[.slice a n c, .int .i64 (4 + (m : Int))] w (RetQ (.int .u32 (num4 bs (m + 4))) w none fun _ => True) := by
  have e : (4 + (m : Int)) = ((m + 4 : Nat) : Int) := by omega
  rw [e]
  exact numberAt_any w a n c bs (m + 4) h hb hn hc (by omega)

theorem fnvPre (w : World) (ad : Addr) (n c : Nat) (bs : List Int) (m : Nat) (h : SlR w (some ad) n c (bs.map (Value.int .u8))) (hb : ∀ x ∈ bs, 0 ≤ x ∧ x ≤ 255) (hn : bs.length ≤ 1000000) (hq : m + 4 ≤ bs.length) :
    Calls Try.prog 30 #[.slice (some ad) (4 + (m : Int)).toNat c] w (RetQ (.int .u32 (fnv (bs.take (m + 4)))) w none fun _ => True) := by
  have e : (4 + (m : Int)).toNat = m + 4 := by omega
  rw [e]
  exact fnv_any w _ _ _ _ (h.pre (m + 4) hq) (fun x hx => hb x (List.mem_of_mem_take hx)) (by simp; omega)
set_option maxRecDepth 100000 in
set_option maxHeartbeats 2000000 in
theorem unframe_any (w : World) (a : Option Addr) (n c : Nat) (bs : List Int) (h : SlR w a n c (bs.map (Value.int .u8))) (hb : ∀ x ∈ bs, 0 ≤ x ∧ x ≤ 255) (hn : bs.length ≤ 100000) (hc : bs.length ≤ c) :
    Calls Try.prog 28 #[.slice a n c] w (RetU (unfR bs) w) := by
  have hl := h.len
  subst hl
  by_cases h8 : bs.length < 8
  · have HR := Lib.hid (show unfR bs = (3, [], 0) by unfold unfR; rw [if_pos h8])
    clear h
    go_enter Try.func28, Try.ntmps28
    go_wp2
    go_ret3
    exact .mk0 HR.out (gb_refl _ _)
  · cases a with
    | none => exact absurd (h.2.1 rfl).1 (by omega)
    | some ad =>
      have HH := Lib.hid h
      have HB := Lib.hid hb
      clear h hb
      have hr := num4_range HB.out 0
      obtain ⟨m, hm⟩ : ∃ m : Nat, num4 bs 0 = m := ⟨(num4 bs 0).toNat, by omega⟩
      have HM := Lib.hid hm
      go_enter Try.func28, Try.ntmps28
      go_wp2_with fail
      refine (numAt0 w (some ad) _ c bs HH.out HB.out (by omega) hc (by omega)).mono ?_
      rintro e w1 ⟨rfl, g1, _⟩
      rw [hm] at hr ⊢
      have HU := Lib.hid (show US w (some ad) bs.length c bs w1 from ⟨HH.out.keep0 g1, g1⟩)
      clear g1 hm HH
      by_cases hs : (bs.length : Int) - 8 < m
      · have HR := Lib.hid (show unfR bs = (3, [], 0) by unfold unfR; rw [if_neg h8, HM.out, if_pos hs])
        go_wp2
        go_ret3
        exact .mk0 HR.out HU.out.2
      · have HS2 := Lib.hid hs
        have i1 : (4 + (m : Int)) ≤ c := by omega
        have i2 : (0 : Int) ≤ 4 + (m : Int) := by omega
        have i3 : (4 : Int) ≤ 4 + (m : Int) := by omega
        go_wp2_with fail
        go_region_held3 (fun w' => US w (some ad) bs.length c bs w') (first | exact US.step (by assumption) (by assumption) | exact US.step HU.out (gb_drew _ _) | exact HU.out | assumption)
          (first | (go_at_call 45; refine (numAt4 _ (some ad) _ c bs m (US.slr (by assumption)) HB.out (by omega) hc (by omega)).mono ?_; rintro e w' ⟨rfl, g, _⟩) | (go_at_call 30; refine (fnvPre _ ad _ c bs m (US.slr (by assumption)) HB.out (by omega) (by omega)).mono ?_; rintro e w' ⟨rfl, g, _⟩))
        all_goals
          rename_i hs
          have HU2 := Lib.hid hs
          clear hs
          by_cases he : num4 bs (m + 4) = fnv (bs.take (m + 4))
          · have hne : (num4 bs (m + 4) != fnv (bs.take (m + 4))) = false := by rw [bne_eq_false_iff_eq]; exact he
            have HR := Lib.hid (show unfR bs = (0, (bs.drop 4).take m, (m : Int) + 8) by
              unfold unfR; rw [if_neg h8, HM.out, if_neg (Int.not_lt.2 HS2.out), Int.toNat_natCast, if_pos he])
            clear he
            have hcut := HU2.out.1.cut 4 m (by omega) hc
            rw [if_neg (by omega)] at hcut
            rw [Addr.add_succ'] at hcut
            have HC := Lib.hid hcut
            clear hcut
            have HLM := Lib.hid (show ((bs.drop 4).take m).length ≤ 100000 by simp; omega)
            obtain ⟨Z, hZ⟩ : ∃ Z, Z = (bs.drop 4).take m := ⟨_, rfl⟩
            rw [← hZ] at HC HR HLM
            clear hZ
            go_wp2_with (at_builtin; refine push_any rfl _ _ rfl w.heap.size _ [] rfl (BL.nil _ _) _ _ _ Z rfl ?h1 ?h2 ?h3 ?_)
            case h1 => rw [show 4 + m - 4 = m by omega]; exact HC.out
            case h2 => have := HLM.out; simp; omega
            case h3 => exact HU2.out.2.size
            intro V2 w2 o2 g2 _
            have G2 := Lib.hid (gb_own HU2.out.2 (BL.nil _ w.heap.size) (Nat.le_refl _) g2)
            have O2 := Lib.hid o2
            clear o2 g2
            go_wp2
            go_ret3
            refine ⟨V2, ?_, ?_, G2.out⟩
            · rw [HR.out, show ((m : Int) + 8) = 4 + m + 4 by omega]; rfl
            · rw [HR.out]; simpa using O2.out
          · have hne : (num4 bs (m + 4) != fnv (bs.take (m + 4))) = true := by rw [bne_iff_ne]; exact he
            have HR := Lib.hid (show unfR bs = (24, [], 0) by
              unfold unfR; rw [if_neg h8, HM.out, if_neg (Int.not_lt.2 HS2.out), Int.toNat_natCast, if_neg he])
            clear he
            go_wp2
            go_ret3
            exact .mk0 HR.out HU2.out.2
theorem num0 (w : World) (a : Option Addr) (n c : Nat) (bs : List Int) (h : SlR w a n c (bs.map (Value.int .u8))) (hb : ∀ x ∈ bs, 0 ≤ x ∧ x ≤ 255) (hn : bs.length ≤ 100000) (h8 : ¬ bs.length < 8) :
    Calls Try.prog 46 #[.slice a n c] w (RetQ (.int .i64 (num4 bs 0)) w none fun _ => True) := number_any w a n c bs h hb (by omega) (by omega)
theorem rfnvPre (w : World) (ad : Addr) (n c : Nat) (bs : List Int) (m : Nat) (h : SlR w (some ad) n c (bs.map (Value.int .u8))) (hb : ∀ x ∈ bs, 0 ≤ x ∧ x ≤ 255) (hn : bs.length ≤ 1000000) (hq : m + 4 ≤ bs.length) :
    Calls Try.prog 31 #[.slice (some ad) (m + 4) c] w (RetQ (.int .u32 (fnv (bs.take (m + 4)))) w none fun _ => True) :=
  rfnv_any w _ _ _ _ (h.pre (m + 4) hq) (fun x hx => hb x (List.mem_of_mem_take hx)) (by simp; omega)
theorem be4_num {bs : List Int} (hb : ∀ x ∈ bs, 0 ≤ x ∧ x ≤ 255) (q : Nat) (hq : q + 4 ≤ bs.length) : (bs.drop q).take 4 = be4 (num4 bs q) := by
  have h0 := getD_byte hb q
  have h1 := getD_byte hb (q + 1)
  have h2 := getD_byte hb (q + 2)
  have h3 := getD_byte hb (q + 3)
  have e : (bs.drop q).take 4 = [bs.getD q 0, bs.getD (q + 1) 0, bs.getD (q + 2) 0, bs.getD (q + 3) 0] := by
    rw [List.drop_eq_getElem_cons (by omega), List.take_succ_cons, List.drop_eq_getElem_cons (by omega), List.take_succ_cons, List.drop_eq_getElem_cons (by omega), List.take_succ_cons, List.drop_eq_getElem_cons (by omega), List.take_succ_cons]
    simp [show q < bs.length by omega, show q + 1 < bs.length by omega, show q + 1 + 1 < bs.length by omega, show q + 1 + 1 + 1 < bs.length by omega]
  rw [e]
  unfold be4 num4
  generalize bs.getD q 0 = x0 at *
  generalize bs.getD (q + 1) 0 = x1 at *
  generalize bs.getD (q + 2) 0 = x2 at *
  generalize bs.getD (q + 3) 0 = x3 at *
  have e0 : (16777216 * x0 + 65536 * x1 + 256 * x2 + x3) / 16777216 % 256 = x0 := by omega
  have e1 : (16777216 * x0 + 65536 * x1 + 256 * x2 + x3) / 65536 % 256 = x1 := by omega
  have e2 : (16777216 * x0 + 65536 * x1 + 256 * x2 + x3) / 256 % 256 = x2 := by omega
  have e3 : (16777216 * x0 + 65536 * x1 + 256 * x2 + x3) % 256 = x3 := by omega
  rw [e0, e1, e2, e3]
theorem num_be4 (v : Int) (h0 : 0 ≤ v) (h1 : v < 4294967296) (L M : List Int) : num4 (L ++ be4 v ++ M) L.length = v := by
  unfold num4
  have g : ∀ j, j < 4 → (L ++ be4 v ++ M).getD (L.length + j) 0 = (be4 v).getD j 0 := by
    intro j hj
    rw [List.append_assoc]
    rcases (show j = 0 ∨ j = 1 ∨ j = 2 ∨ j = 3 by omega) with rfl | rfl | rfl | rfl <;> simp [be4]
  have g0 := g 0 (by omega)
  rw [Nat.add_zero] at g0
  rw [g0, g 1 (by omega), g 2 (by omega), g 3 (by omega)]
  simp [be4]
  omega
theorem be4_inj {v u : Int} (h0 : 0 ≤ v) (h1 : v < 4294967296) (k0 : 0 ≤ u) (k1 : u < 4294967296) (h : be4 v = be4 u) : v = u := by
  simp only [be4, List.cons.injEq] at h
  omega
end Go.Proofs.Ytplhhjbmegaiiaa
