/- Ternary: the walks of Intersect, Check, narrowed and cut. -/
import Derived.Test.YteemhabgliglmaaTeB
import Derived.BigQuiet
import Derived.Laws.ResultCell
namespace Go.Proofs.Yteemhabgliglmaa
open Go.RowKit
set_option linter.unusedVariables false

theorem results_cell1 {fn : Func} {p : Tmp} {ty : TypeId} (h : fn.results = #[.cell p ty]) (tmps : Array Value) (P : Program) (w : World) :
    (results fn tmps).run P w = ((asAddr (tmps.getD p undef)).run P w).andThen fun a w₁ => ((loadVar ty a).run P w₁) := by
  simp only [results, h]
  simp [Sem.run_bind, Result.andThen]
theorem gb_put {W0 w : World} {g i : Nat} {u : Value} (h : W0.grownBy w none) (hg : W0.heap.size ≤ g) : W0.grownBy (w.setCell ⟨g, i, none⟩ u) none := gb_new (gb_trans (gb_any h) (gb_set _ _ _ _)) hg
def meetN (v m v2 m2 : Nat) : Bool := iAgree v v2 (m &&& m2)
def intV (v m v2 m2 : Nat) : Nat := if meetN v m v2 m2 then (v &&& m) ||| (v2 &&& m2) else 0
def intM (v m v2 m2 : Nat) : Nat := if meetN v m v2 m2 then m ||| m2 else 0
theorem intV_lt (v m v2 m2 : Nat) (hv : B64 v) (hv2 : B64 v2) : B64 (intV v m v2 m2) := by
  unfold intV
  split
  · exact Nat.or_lt_two_pow (n := 64) (Nat.lt_of_le_of_lt Nat.and_le_left hv) (Nat.lt_of_le_of_lt Nat.and_le_left hv2)
  · unfold B64; decide
theorem intM_lt (v m v2 m2 : Nat) (hm : B64 m) (hm2 : B64 m2) : B64 (intM v m v2 m2) := by
  unfold intM
  split
  · exact Nat.or_lt_two_pow (n := 64) hm hm2
  · unfold B64; decide
/-- What Intersect answers. -/
def RetI (v m v2 m2 : Nat) (w : World) (e : Ending) (w' : World) : Prop := e = .returned (.tuple #[.agg #[.int .u64 (intV v m v2 m2), .int .u64 (intM v m v2 m2)], .bool (meetN v m v2 m2)]) ∧ w.grownBy w' none
set_option maxRecDepth 100000 in
theorem int_any (w : World) (v m v2 m2 : Nat) (hv : B64 v) (hm : B64 m) (hv2 : B64 v2) (hm2 : B64 m2) : Calls Try.prog 62 #[.agg #[.int .u64 v, .int .u64 m], .agg #[.int .u64 v2, .int .u64 m2]] w (RetI v m v2 m2 w) := by
  obtain ⟨b, hb, hbl, eb⟩ := bA m m2 hm hm2
  have AG := Lib.hid (fun w => agree_any w v v2 b hv hv2 hbl)
  obtain ⟨p, hp, hpl, ep⟩ := bA v m hv hm
  obtain ⟨q, hq, hql, eq⟩ := bA v2 m2 hv2 hm2
  obtain ⟨r, hr, hrl, er⟩ := bO p q hpl hql
  obtain ⟨s, hs, hsl, es⟩ := bO m m2 hm hm2
  have eM : meetN v m v2 m2 = iAgree v v2 b := by unfold meetN; rw [hb]
  have eV : intV v m v2 m2 = if iAgree v v2 b then r else 0 := by unfold intV; rw [eM, hr, hp, hq]
  have eN : intM v m v2 m2 = if iAgree v v2 b then s else 0 := by unfold intM; rw [eM, hs]
  unfold RetI
  rw [eM, eV, eN]
  clear hb hp hq hr hs eM eV eN
  cases hk : iAgree v v2 b
  · rw [hk] at AG
    clear hk
    go_enter Try.func62, Try.ntmps62
    go_wp2_with fail
    refine (AG.out _).mono ?_
    rintro e w1 ⟨rfl, rfl⟩
    go_wp2
    (try simp only [Exit.inBlock, Exit.then])
    refine bodyPost_ret (v := (.tuple #[.agg #[.int .u64 0, .int .u64 0], .bool false])) (by rw [results_cell_tmp rfl]; go_simp) rfl ⟨by simp, ?_⟩
    exact al3 _ _ _ _
  · rw [hk] at AG
    clear hk
    go_enter Try.func62, Try.ntmps62
    go_wp2_with fail
    refine (AG.out _).mono ?_
    rintro e w1 ⟨rfl, rfl⟩
    go_wp2
    (try simp only [Exit.inBlock, Exit.then])
    refine bodyPost_ret (v := (.tuple #[.agg #[.int .u64 r, .int .u64 s], .bool true])) (by rw [results_cell_tmp rfl]; go_simp) rfl ⟨by simp, ?_⟩
    exact al3 _ _ _ _
set_option maxRecDepth 100000 in
theorem rint_any (w : World) (v m v2 m2 : Nat) (hv : B64 v) (hm : B64 m) (hv2 : B64 v2) (hm2 : B64 m2) : Calls Try.prog 42 #[.agg #[.int .u64 v, .int .u64 m], .agg #[.int .u64 v2, .int .u64 m2]] w (RetI v m v2 m2 w) := by
  obtain ⟨b, hb, hbl, eb⟩ := bA m m2 hm hm2
  obtain ⟨x, hx, hxl, ex⟩ := bA v b hv hbl
  obtain ⟨y, hy, hyl, ey⟩ := bA v2 b hv2 hbl
  obtain ⟨p, hp, hpl, ep⟩ := bA v m hv hm
  obtain ⟨q, hq, hql, eq⟩ := bA v2 m2 hv2 hm2
  obtain ⟨r, hr, hrl, er⟩ := bO p q hpl hql
  obtain ⟨s, hs, hsl, es⟩ := bO m m2 hm hm2
  have eM : meetN v m v2 m2 = decide (x = y) := by
    unfold meetN iAgree
    rw [← hb, decide_eq_decide, xor_and_zero, hx, hy]
  have eV : intV v m v2 m2 = if x = y then r else 0 := by unfold intV; rw [eM, hr, hp, hq]; simp only [decide_eq_true_eq]
  have eN : intM v m v2 m2 = if x = y then s else 0 := by unfold intM; rw [eM, hs]; simp only [decide_eq_true_eq]
  unfold RetI
  rw [eM, eV, eN]
  clear hb hx hy hp hq hr hs eM eV eN
  by_cases hk : x = y
  · rw [decide_eq_true hk, if_pos hk, if_pos hk]
    have h1 : ((x : Int) != y) = false := by simp [hk]
    go_enter Try.func42, Try.ntmps42
    go_wp2
    (try simp only [Exit.inBlock, Exit.then])
    refine bodyPost_ret (v := (.tuple #[.agg #[.int .u64 r, .int .u64 s], .bool true])) (by rw [results_cell_tmp rfl]; go_simp) rfl ⟨by simp, ?_⟩
    exact al3 _ _ _ _
  · rw [decide_eq_false hk, if_neg hk, if_neg hk]
    have h1 : ((x : Int) != y) = true := by rw [bne_iff_ne]; omega
    have h1' : ¬ (x : Int) = y := by omega
    go_enter Try.func42, Try.ntmps42
    go_wp2
    (try simp only [Exit.inBlock, Exit.then])
    refine bodyPost_ret (v := (.tuple #[.agg #[.int .u64 0, .int .u64 0], .bool false])) (by rw [results_cell_tmp rfl]; go_simp) rfl ⟨by simp, ?_⟩
    exact al3 _ _ _ _
/-- The error of Check. -/
def chkN (v m : Nat) (w : Int) : Int := if 1 ≤ w ∧ w ≤ 64 then (if andN m (lowN w.toNat) = 0 then (if andN v m = 0 then 0 else 5) else 9) else 10
theorem and_self_iff (a b : Nat) (ha : B64 a) (hb : B64 b) : andN a b = 0 ↔ a &&& b = a := by
  rw [andN_zero a b ha hb, Nat.and_comm]
/-- The cube cut to a width. -/
def cutM (m k : Nat) : Nat := m &&& lowN k
def cutV (v m k : Nat) : Nat := v &&& (m &&& lowN k)
set_option maxRecDepth 100000 in
theorem narrow_any (W : World) (v m k : Nat) (hv : B64 v) (hm : B64 m) (hk : k ≤ 64) : Calls Try.prog 73 #[.agg #[.int .u64 v, .int .u64 m], .int .i64 k] W (RetV (.agg #[.int .u64 (cutV v m k), .int .u64 (cutM m k)]) W) := by
  have HL := Lib.hid (fun W => lowb_any W k hk)
  have lb := lowN_lt k hk
  obtain ⟨p, hp, hpl, ep⟩ := bA m (lowN k) hm lb
  obtain ⟨q, hq, hql, eq⟩ := bA v p hv hpl
  have e1 : cutM m k = p := hp.symm
  have e2 : cutV v m k = q := by unfold cutV; rw [hq, hp]
  rw [e1, e2]
  generalize lowN k = l at *
  clear hp hq e1 e2
  go_enter Try.func73, Try.ntmps73
  go_wp2
  go_quiet ((go_at_call 71; exact Calls.quiet_of_same (HL.out _)))
  go_wp2
  (try simp only [Exit.inBlock, Exit.then])
  refine bodyPost_ret (v := .agg #[.int .u64 q, .int .u64 p]) (by rw [results_cell1 rfl]; go_simp) rfl ⟨rfl, ?_⟩
  refine gb_put (gb_put (gb_trans (al2 _ _ _) (gb_drewN _ _ _)) (Nat.le_succ _)) (Nat.le_succ _)
set_option maxRecDepth 100000 in
theorem cut_any (W : World) (v m k : Nat) (hv : B64 v) (hm : B64 m) (hk : k ≤ 64) : Calls Try.prog 66 #[.agg #[.int .u64 v, .int .u64 m], .int .i64 k] W (RetV (.agg #[.int .u64 (cutV v m k), .int .u64 (cutM m k)]) W) := by
  have HL := Lib.hid (fun W => rlow_any W k hk)
  have lb := lowN_lt k hk
  obtain ⟨p, hp, hpl, ep⟩ := bA m (lowN k) hm lb
  obtain ⟨q, hq, hql, eq⟩ := bA v p hv hpl
  have e1 : cutM m k = p := hp.symm
  have e2 : cutV v m k = q := by unfold cutV; rw [hq, hp]
  rw [e1, e2]
  generalize lowN k = l at *
  clear hp hq e1 e2
  go_enter Try.func66, Try.ntmps66
  go_wp2
  go_quiet ((go_at_call 75; exact Calls.quiet_of_same (HL.out _)))
  go_wp2
  (try simp only [Exit.inBlock, Exit.then])
  refine bodyPost_ret (v := .agg #[.int .u64 q, .int .u64 p]) (by rw [results_cell1 rfl]; go_simp) rfl ⟨rfl, ?_⟩
  refine gb_put (gb_put (gb_trans (al2 _ _ _) (gb_drewN _ _ _)) (Nat.le_succ _)) (Nat.le_succ _)
end Go.Proofs.Yteemhabgliglmaa
