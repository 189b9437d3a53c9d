/- Env: the closures of Clone, Set and withHeader, and hasHeader; no condition. -/
import Derived.Test.YtolifmpnhflegaaEvB
namespace Go.Proofs.Ytolifmpnhflegaa
open Go.RowKit
set_option linter.unusedVariables false
def setG (rh rf v wd : Int) (h i old : Int) : Int := if h = rh ∧ i = rf then redB v wd else old
def zerG (x : Int) (h i old : Int) : Int := if h = x then 0 else old
def idG (h i old : Int) : Int := old
theorem setG_rng (rh rf v wd : Int) : ∀ h i x, 0 ≤ x → x < 4294967296 → 0 ≤ setG rh rf v wd h i x ∧ setG rh rf v wd h i x < 4294967296 := by
  intro h i x h0 h1
  unfold setG
  have := redB_range v wd
  split <;> omega
theorem zerG_rng (y : Int) : ∀ h i x, 0 ≤ x → x < 4294967296 → 0 ≤ zerG y h i x ∧ zerG y h i x < 4294967296 := by
  intro h i x h0 h1
  unfold zerG
  split <;> omega
theorem idG_rng : ∀ h i x, 0 ≤ x → x < 4294967296 → 0 ≤ idG h i x ∧ idG h i x < 4294967296 := fun h i x h0 h1 => ⟨h0, h1⟩
set_option maxRecDepth 100000 in
theorem cl1_any (w : World) (h i v : Int) : Calls Try.prog 59 #[.agg #[.int .i64 h, .int .i64 i], .int .u32 v] w (RetV (.int .u32 v) w) := by
  go_enter Try.func59, Try.ntmps59
  go_wp2
  go_ret
  exact ⟨rfl, gb_al (gb_refl _ _)⟩
set_option maxRecDepth 100000 in
theorem wh1_any (w : World) (h i v x : Int) (b : Nat) (hb : IsB w b 3 #[.int .i64 x]) : Calls Try.prog 70 #[.agg #[.int .i64 h, .int .i64 i], .int .u32 v, .pointer (some ⟨b, 0, none⟩)] w (RetV (.int .u32 (zerG x h i v)) w) := by
  have c0 := (hb.alloc (.cells #[.int .i64 h, .int .i64 i] 39)).cell 0
  dsimp at c0
  by_cases e : h = x
  · have HZ := Lib.hid (show zerG x h i v = 0 from if_pos e)
    have d1 : (h == x) = true := by rw [beq_iff_eq]; exact e
    have d2 : decide (h = x) = true := decide_eq_true e
    clear hb e
    go_enter Try.func70, Try.ntmps70
    go_wp2
    go_ret
    exact ⟨by rw [HZ.out] <;> rfl, gb_al (gb_refl _ _)⟩
  · have HZ := Lib.hid (show zerG x h i v = v from if_neg e)
    have d1 : (h == x) = false := by rw [beq_eq_false_iff_ne]; exact e
    have d2 : decide (h = x) = false := decide_eq_false e
    clear hb
    go_enter Try.func70, Try.ntmps70
    go_wp2
    go_ret
    exact ⟨by rw [HZ.out] <;> rfl, gb_al (gb_refl _ _)⟩
set_option maxRecDepth 100000 in
theorem st1_any (w : World) (h i old rh rf v wd : Int) (v0 : 0 ≤ v) (v1 : v < 4294967296) (b2 b3 b4 : Nat) (h2 : IsB w b2 39 #[.int .i64 rh, .int .i64 rf]) (h3 : IsB w b3 49 #[.int .u32 v]) (h4 : IsB w b4 3 #[.int .i64 wd]) :
    Calls Try.prog 46 #[.agg #[.int .i64 h, .int .i64 i], .int .u32 old, .pointer (some ⟨b2, 0, none⟩), .pointer (some ⟨b3, 0, none⟩), .pointer (some ⟨b4, 0, none⟩)] w (RetV (.int .u32 (setG rh rf v wd h i old)) w) := by
  have k2 := h2.alloc (.cells #[.int .i64 h, .int .i64 i] 39)
  have k3 := h3.alloc (.cells #[.int .i64 h, .int .i64 i] 39)
  have k4 := h4.alloc (.cells #[.int .i64 h, .int .i64 i] 39)
  have B1 := IsB.new w 39 #[.int .i64 h, .int .i64 i]
  have G1 := Lib.hid (gb_alloc w (.cells #[.int .i64 h, .int .i64 i] 39) none)
  have MK := Lib.hid (fun W => mask_any wd W)
  have AM := and_mask v wd v0 v1
  clear h2 h3 h4
  by_cases e : h = rh ∧ i = rf
  · have HZ := Lib.hid (show setG rh rf v wd h i old = redB v wd from if_pos e)
    obtain ⟨rfl, rfl⟩ := e
    have c0 := k2.cell 0
    have c1 := k2.cell 1
    dsimp at c0 c1
    go_enter Try.func46, Try.ntmps46
    go_upto_region 2 with fail
    generalize w.alloc (.cells #[.int .i64 h, .int .i64 i] 39) = w1 at *
    generalize w.heap.size = bn at *
    have KS := Lib.hid (fun (w' : World) (q : w1.grownBy w' none) => (⟨(k3.keep0 q).cell 0, (k4.keep0 q).cell 0, q⟩ : (fun w' : World => w'.cell? ⟨b3, 0, none⟩ = some (.int .u32 v) ∧ w'.cell? ⟨b4, 0, none⟩ = some (.int .i64 wd) ∧ w1.grownBy w' none) w'))
    clear c0 c1 k2 k3 k4 B1
    go_region_held3 (fun w' : World => w'.cell? ⟨b3, 0, none⟩ = some (.int .u32 v) ∧ w'.cell? ⟨b4, 0, none⟩ = some (.int .i64 wd) ∧ w1.grownBy w' none)
      (first
        | assumption
        | exact KS.out _ (by first | assumption | exact gb_drew _ _ | exact gb_trans (gb_drew _ _) (by assumption)))
      (first
        | (go_at_call 47; refine (MK.out _).mono ?_; rintro e w' ⟨rfl, gA'⟩; have gA := gb_gr gA' none))
    go_wp2
    go_ret
    exact ⟨by rw [HZ.out] <;> rfl, gb_trans G1.out (by first | assumption | exact gb_trans (gb_drew _ _) (by assumption))⟩
  · have HZ := Lib.hid (show setG rh rf v wd h i old = old from if_neg e)
    have c0 := k2.cell 0
    have c1 := k2.cell 1
    dsimp at c0 c1
    by_cases e1 : h = rh
    · have e2 : ¬ i = rf := fun q => e ⟨e1, q⟩
      subst e1
      have d1 : (i == rf) = false := by rw [beq_eq_false_iff_ne]; exact e2
      have d2 : decide (i = rf) = false := decide_eq_false e2
      clear e B1 k2 k3 k4
      go_enter Try.func46, Try.ntmps46
      go_wp2
      go_ret
      exact ⟨by rw [HZ.out] <;> rfl, G1.out⟩
    · have d1 : (h == rh) = false := by rw [beq_eq_false_iff_ne]; exact e1
      have d2 : decide (h = rh) = false := decide_eq_false e1
      clear e B1 k2 k3 k4
      go_enter Try.func46, Try.ntmps46
      go_wp2
      go_ret
      exact ⟨by rw [HZ.out] <;> rfl, G1.out⟩
set_option maxRecDepth 100000 in
set_option maxHeartbeats 1000000 in
theorem hash_any (w : World) (nm m v3 v4 v5 v6 v7 v8 f1 f2 f3 : Value) (ha va : Option Addr) (hn hc vn vc : Nat) (h : Int) :
    Calls Try.prog 49 #[.agg #[nm, .slice ha hn hc, m, v3, v4, v5, v6, v7, v8], .agg #[.slice va vn vc, f1, f2, f3], .int .i64 h] w (RetV (.bool (isX h hn && isX h vn)) w) := by
  have I1 := Lib.hid (fun w => eisx_any w h hn)
  have I2 := Lib.hid (fun w => eisx_any w h vn)
  unfold RetS at I1 I2
  have GG := Lib.hid (gb_trans (gb_alloc w (.cells #[nm, .slice ha hn hc, m, v3, v4, v5, v6, v7, v8] 31) none) (gb_alloc _ (.cells #[.slice va vn vc, f1, f2, f3] 37) none))
  cases h1 : isX h hn with
  | false =>
    rw [h1] at I1
    clear h1
    go_enter Try.func49, Try.ntmps49
    go_wp2_with fail
    refine (I1.out _).mono ?_
    rintro e w1 ⟨rfl, rfl⟩
    go_wp2
    go_ret
    exact ⟨rfl, GG.out⟩
  | true =>
    rw [h1] at I1
    clear h1
    cases h2 : isX h vn with
    | false =>
      rw [h2] at I2
      clear h2
      go_enter Try.func49, Try.ntmps49
      go_wp2_with fail
      refine (I1.out _).mono ?_
      rintro e w1 ⟨rfl, rfl⟩
      go_wp2_with fail
      refine (I2.out _).mono ?_
      rintro e w1 ⟨rfl, rfl⟩
      go_wp2
      go_ret
      exact ⟨rfl, GG.out⟩
    | true =>
      rw [h2] at I2
      clear h2
      go_enter Try.func49, Try.ntmps49
      go_wp2_with fail
      refine (I1.out _).mono ?_
      rintro e w1 ⟨rfl, rfl⟩
      go_wp2_with fail
      refine (I2.out _).mono ?_
      rintro e w1 ⟨rfl, rfl⟩
      go_wp2
      go_ret
      exact ⟨rfl, GG.out⟩
end Go.Proofs.Ytolifmpnhflegaa
