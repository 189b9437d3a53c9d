/- Parser: the reference: next, cases; no condition. -/
import Derived.Test.YtjhknmklejkknaaGxK
import Derived.Test.YtjhknmklejkknaaEvM
import Derived.BigQuiet
namespace Go.Proofs.Ytjhknmklejkknaa
open Go.RowKit
set_option linter.unusedVariables false
theorem an_iff {a b : Nat} (ha : a < 4294967296) (hb : b < 4294967296) : a &&& (4294967295 - b) = 0 ↔ a &&& b = a := by
  have tb : ∀ i, (4294967295 - b).testBit i = (decide (i < 32) && !b.testBit i) := fun i => by
    rw [show 4294967295 - b = 2 ^ 32 - (b + 1) by omega]; exact Nat.testBit_two_pow_sub_succ hb i
  constructor
  · intro h
    refine Nat.eq_of_testBit_eq fun i => ?_
    have k := congrArg (fun x => x.testBit i) h
    simp only [Nat.testBit_and, tb, Nat.zero_testBit] at k
    rw [Nat.testBit_and]
    by_cases hi : i < 32
    · cases h1 : a.testBit i <;> cases h2 : b.testBit i <;> simp_all
    · have : a.testBit i = false := Nat.testBit_lt_two_pow (Nat.lt_of_lt_of_le ha (show 2 ^ 32 ≤ 2 ^ i from Nat.pow_le_pow_right (by decide) (by omega)))
      simp [this]
  · intro h
    refine Nat.eq_of_testBit_eq fun i => ?_
    have k := congrArg (fun x => x.testBit i) h
    simp only [Nat.testBit_and] at k
    rw [Nat.testBit_and, tb, Nat.zero_testBit]
    cases h1 : a.testBit i <;> cases h2 : b.testBit i <;> simp_all
theorem not_iff_and {v m : Int} (v0 : 0 ≤ v) (v1 : v < 4294967296) (m0 : 0 ≤ m) (m1 : m < 4294967296) : bits .andNot .u32 v m = 0 ↔ bits .and .u32 v m = v := by
  rw [u32_andNot _ _ v0 v1 m0 m1, u32_and _ _ v0 v1 m0 m1]
  obtain ⟨a, rfl⟩ : ∃ a : Nat, v = a := ⟨v.toNat, by omega⟩
  obtain ⟨b, rfl⟩ : ∃ b : Nat, m = b := ⟨m.toNat, by omega⟩
  have := an_iff (a := a) (b := b) (by omega) (by omega)
  simp only [Int.toNat_natCast]
  constructor
  · intro h; exact_mod_cast this.1 (by exact_mod_cast h)
  · intro h; exact_mod_cast this.2 (by exact_mod_cast h)
set_option maxRecDepth 100000 in
set_option maxHeartbeats 8000000 in
theorem rnext_any (w : World) (nm v3 v4 v5 v7 v8 : Value) (ha ma sa : Option Addr) (hn hc mn mc sn sc : Nat) (i : Nat) (x : Int) : Calls Try.prog 75 #[.agg #[nm, .slice ha hn hc, .slice ma mn mc, v3, v4, v5, .slice sa sn sc, v7, v8], .int .i64 (i : Int), .int .i64 x] w (RetV (.bool (nxB sn i x)) w) := by
  obtain ⟨b, hb⟩ : ∃ b, b = nxB sn i x := ⟨_, rfl⟩
  rw [← hb]
  unfold nxB at hb
  have G1 := Lib.hid (gb_alloc w (.cells #[nm, .slice ha hn hc, .slice ma mn mc, v3, v4, v5, .slice sa sn sc, v7, v8] 31) none)
  have B1 := IsB.new w 31 #[nm, .slice ha hn hc, .slice ma mn mc, v3, v4, v5, .slice sa sn sc, v7, v8]
  replace B1 := Lib.hid B1
  go_enter Try.func75, Try.ntmps75
  go_upto_region 1 with fail
  generalize w.alloc (.cells #[nm, .slice ha hn hc, .slice ma mn mc, v3, v4, v5, .slice sa sn sc, v7, v8] 31) = w1 at *
  obtain ⟨bx, hbx⟩ : ∃ b, b = w.heap.size := ⟨_, rfl⟩
  have Lbx := Lib.hid (show w.heap.size ≤ bx by rw [hbx]; exact Nat.le_refl _)
  rw [← hbx] at B1 ⊢
  clear hbx
  have c0 := (B1.out.keep0 (gb_refl _ _)).cell 0
  have c1 := (B1.out.keep0 (gb_refl _ _)).cell 1
  have c2 := (B1.out.keep0 (gb_refl _ _)).cell 2
  have c3 := (B1.out.keep0 (gb_refl _ _)).cell 3
  have c4 := (B1.out.keep0 (gb_refl _ _)).cell 4
  have c5 := (B1.out.keep0 (gb_refl _ _)).cell 5
  have c6 := (B1.out.keep0 (gb_refl _ _)).cell 6
  have c7 := (B1.out.keep0 (gb_refl _ _)).cell 7
  have c8 := (B1.out.keep0 (gb_refl _ _)).cell 8
  dsimp at c0 c1 c2 c3 c4 c5 c6 c7 c8
  by_cases h1 : x = -1
  · obtain rfl : b = true := by rw [hb]; exact decide_eq_true (.inl h1)
    clear hb
    subst h1
    go_wp2
    go_ret
    exact ⟨rfl, G1.out⟩
  have e1 : (x == -1) = false := by rw [beq_eq_false_iff_ne]; exact h1
  by_cases h2 : x = -2
  · obtain rfl : b = true := by rw [hb]; exact decide_eq_true (.inr (.inl h2))
    clear hb
    subst h2
    go_wp2
    go_ret
    exact ⟨rfl, G1.out⟩
  have e2 : (x == -2) = false := by rw [beq_eq_false_iff_ne]; exact h2
  by_cases h3 : (i : Int) < x
  case neg =>
    have e3 : decide ((i : Int) < x) = false := decide_eq_false h3
    obtain rfl : b = false := by rw [hb]; exact decide_eq_false (by omega)
    clear hb
    go_wp2
    go_ret
    exact ⟨rfl, G1.out⟩
  have e3 : decide ((i : Int) < x) = true := decide_eq_true h3
  by_cases h4 : x < (sn : Int)
  · have e4 : decide (x < (sn : Int)) = true := decide_eq_true h4
    obtain rfl : b = true := by rw [hb]; exact decide_eq_true (.inr (.inr ⟨h3, h4⟩))
    clear hb
    go_wp2
    go_ret
    exact ⟨rfl, G1.out⟩
  · have e4 : decide (x < (sn : Int)) = false := decide_eq_false h4
    obtain rfl : b = false := by rw [hb]; exact decide_eq_false (by omega)
    clear hb
    go_wp2
    go_ret
    exact ⟨rfl, G1.out⟩
/-- What cases answers. -/
def CsC (H : List (ByteArray × List Fld)) (M : List Fld) (S : List Pst) (i : Nat) (a e : Int) : Prop :=
  (∃ j, j < (S.getD i psz).cs.length ∧ (∀ k, k < j → caseE H M S i k = 0) ∧ caseE H M S i j ≠ 0 ∧ a = j ∧ e = caseE H M S i j) ∨
  ((∀ k, k < (S.getD i psz).cs.length → caseE H M S i k = 0) ∧ a = -1 ∧ e = 0)
theorem csC_ex (H : List (ByteArray × List Fld)) (M : List Fld) (S : List Pst) (i : Nat) : ∃ a e, CsC H M S i a e := by
  rcases first_not (fun k => caseE H M S i k = 0) (S.getD i psz).cs.length with q | ⟨j, hj, b, e⟩
  · exact ⟨-1, 0, .inr ⟨q, rfl, rfl⟩⟩
  · exact ⟨j, _, .inl ⟨j, hj, b, e, rfl, rfl⟩⟩
theorem CsC.bad {H : List (ByteArray × List Fld)} {M : List Fld} {S : List Pst} {i : Nat} {a e : Int} (h : CsC H M S i a e) {j : Nat} (hj : j < (S.getD i psz).cs.length) (b : ∀ k, k < j → caseE H M S i k = 0) (x : caseE H M S i j ≠ 0) : a = j ∧ e = caseE H M S i j := by
  rcases h with ⟨k, hk, b2, x2, q1, q2⟩ | ⟨b2, _⟩
  · have : k = j := by
      rcases Nat.lt_trichotomy k j with r | r | r
      · exact absurd (b k r) x2
      · exact r
      · exact absurd (b2 j r) x
    subst this; exact ⟨q1, q2⟩
  · exact absurd (b2 j hj) x
theorem CsC.good {H : List (ByteArray × List Fld)} {M : List Fld} {S : List Pst} {i : Nat} {a e : Int} (h : CsC H M S i a e) (b : ∀ k, k < (S.getD i psz).cs.length → caseE H M S i k = 0) : a = -1 ∧ e = 0 := by
  rcases h with ⟨k, hk, b2, x2, q1, q2⟩ | ⟨b2, q⟩
  · exact absurd (b k hk) x2
  · exact q
/-- A fault of the cases is a fault of the transitions. -/
theorem CsC.tr {H : List (ByteArray × List Fld)} {M : List Fld} {S : List Pst} {i : Nat} {a e : Int} (h : CsC H M S i a e) (x : e ≠ 0) : TrC H M S i a e := by
  rcases h with q | ⟨_, _, q⟩
  · exact .inl q
  · exact absurd q x
theorem CsC.all {H : List (ByteArray × List Fld)} {M : List Fld} {S : List Pst} {i : Nat} {a e : Int} (h : CsC H M S i a e) (x : e = 0) : ∀ k, k < (S.getD i psz).cs.length → caseE H M S i k = 0 := by
  rcases h with ⟨k, hk, b2, x2, q1, q2⟩ | ⟨q, _⟩
  · exact absurd (q2.symm.trans x) x2
  · exact q
theorem rfits18_any (W : World) (v : Int) (k : Nat) (k0 : 0 ≤ v) (k1 : v < 4294967296) (h1 : k ≤ 32) (b : Bool) (hb : decide (v < 2 ^ k) = b) : Calls Try.prog 52 #[.int .u32 v, .int .i64 (k : Int)] W (RetS (.bool b) W) := by
  have := rfits_any v (k : Int) W k0 k1 (by omega) (by omega)
  rw [Int.toNat_natCast] at this
  unfold pw at this
  rwa [hb] at this
set_option maxRecDepth 100000 in
set_option maxHeartbeats 8000000 in
theorem rcases_any (w : World) (nm v3 v4 v5 v7 v8 : Value) (ha ma sa : Option Addr) (hn hc mn mc sn sc : Nat) (H : List (ByteArray × List Fld)) (M : List Fld) (S : List Pst) (hH : SH w ha hn hc H) (hM : SF w ma mn mc M) (hS : SPs w sa sn sc S) (i : Nat) (hi : i < sn) (hcs : (S.getD i psz).cs.length ≤ 100000) (a e : Int) (hr : CsC H M S i a e) :
    Calls Try.prog 74 #[.agg #[nm, .slice ha hn hc, .slice ma mn mc, v3, v4, v5, .slice sa sn sc, v7, v8], .int .i64 (i : Int)] w (RetV (.tuple #[.int .i64 a, .int .i64 e]) w) := by
  have LS := Lib.hid hS.len
  have HR := Lib.hid hr
  obtain ⟨sd, rfl⟩ := hS.some (by omega)
  obtain ⟨z0, ⟨xa, xn, xc, z1, zx⟩, z2, z3, z4, ⟨ca, cn, cc, z5, zc⟩, z6⟩ := hS.cells sd rfl i hi
  have LC := Lib.hid zc.len
  have HC := Lib.hid zc
  have CN := Lib.hid (show cn ≤ 100000 by have := zc.len; omega)
  have CX := Lib.hid (fun j => caseE_X H M S i j)
  rw [LS.out] at CX
  have BAD0 := Lib.hid (fun (j : Nat) (hj : j < cn) => HR.out.bad (j := j) (by rw [LC.out]; exact hj))
  have GOOD := Lib.hid (fun (b : ∀ k, k < cn → caseE H M S i k = 0) => HR.out.good (by rw [LC.out]; exact b))
  have KW := Lib.hid (fun (W : World) (q : w.grownBy W none) => rwid12_any W nm v3 v4 v5 (.slice (some sd) sn sc) v7 v8 ha ma hn hc mn mc H M (hH.keep0 q) (hM.keep0 q) (S.getD i psz).h (S.getD i psz).f)
  obtain ⟨k, hk, k32⟩ : ∃ k : Nat, widE H M (S.getD i psz).h (S.getD i psz).f = (k : Int) ∧ k ≤ 32 := ⟨(widE H M (S.getD i psz).h (S.getD i psz).f).toNat, by have := wid_rng H M (S.getD i psz).h (S.getD i psz).f; omega, by have := wid_rng H M (S.getD i psz).h (S.getD i psz).f; omega⟩
  rw [hk] at KW
  unfold caseX at CX
  rw [hk, Int.toNat_natCast] at CX
  unfold RetV at KW
  have K32 := Lib.hid k32
  have SC := Lib.hid (fun (W : World) (q : w.grownBy W none) => CPs.keep (show CPs w (sd.add (i * 7)) (S.getD i psz) from ⟨z0, ⟨xa, xn, xc, z1, zx⟩, z2, z3, z4, ⟨ca, cn, cc, z5, zc⟩, z6⟩) q)
  clear hk k32 hr hcs
  generalize hps : S.getD i psz = ps at *
  obtain ⟨s0, ex, sl, h9, f9, cs, df⟩ := ps
  dsimp only at z0 z1 z2 z3 z4 z5 z6 zx zc LC HC CX BAD0 GOOD KW
  have Z0 := Lib.hid (fun (W : World) (q : w.grownBy W none) => q.cell z0 (by simp))
  have Z1 := Lib.hid (fun (W : World) (q : w.grownBy W none) => q.cell z1 (by simp))
  have Z2 := Lib.hid (fun (W : World) (q : w.grownBy W none) => q.cell z2 (by simp))
  have Z3 := Lib.hid (fun (W : World) (q : w.grownBy W none) => q.cell z3 (by simp))
  have Z4 := Lib.hid (fun (W : World) (q : w.grownBy W none) => q.cell z4 (by simp))
  have Z5 := Lib.hid (fun (W : World) (q : w.grownBy W none) => q.cell z5 (by simp))
  have Z6 := Lib.hid (fun (W : World) (q : w.grownBy W none) => q.cell z6 (by simp))
  clear z0 z1 z2 z3 z4 z5 z6 zx zc SC hps
  have G1 := Lib.hid (gb_alloc w (.cells #[nm, .slice ha hn hc, .slice ma mn mc, v3, v4, v5, .slice (some sd) sn sc, v7, v8] 31) none)
  have B1 := IsB.new w 31 #[nm, .slice ha hn hc, .slice ma mn mc, v3, v4, v5, .slice (some sd) sn sc, v7, v8]
  replace B1 := Lib.hid B1
  clear hH hM hS
  go_enter Try.func74, Try.ntmps74
  go_upto_region 1 with fail
  generalize w.alloc (.cells #[nm, .slice ha hn hc, .slice ma mn mc, v3, v4, v5, .slice (some sd) sn sc, v7, v8] 31) = w1 at *
  obtain ⟨bx, hbx⟩ : ∃ b, b = w.heap.size := ⟨_, rfl⟩
  have Lbx := Lib.hid (show w.heap.size ≤ bx by rw [hbx]; exact Nat.le_refl _)
  rw [← hbx] at B1 ⊢
  clear hbx
  have i1 : (i : Int) < sn := by omega
  have i0 : (0 : Int) ≤ (i : Int) := by omega
  have z0 := Z0.out _ G1.out
  have z1 := Z1.out _ G1.out
  have z2 := Z2.out _ G1.out
  have z3 := Z3.out _ G1.out
  have z4 := Z4.out _ G1.out
  have z5 := Z5.out _ G1.out
  have z6 := Z6.out _ G1.out
  have c0 := (B1.out.keep0 (gb_refl _ _)).cell 0
  have c1 := (B1.out.keep0 (gb_refl _ _)).cell 1
  have c2 := (B1.out.keep0 (gb_refl _ _)).cell 2
  have c3 := (B1.out.keep0 (gb_refl _ _)).cell 3
  have c4 := (B1.out.keep0 (gb_refl _ _)).cell 4
  have c5 := (B1.out.keep0 (gb_refl _ _)).cell 5
  have c6 := (B1.out.keep0 (gb_refl _ _)).cell 6
  have c7 := (B1.out.keep0 (gb_refl _ _)).cell 7
  have c8 := (B1.out.keep0 (gb_refl _ _)).cell 8
  dsimp at c0 c1 c2 c3 c4 c5 c6 c7 c8
  have GB := Lib.hid (gb_alloc w1 (.cells #[.string s0, .slice xa xn xc, .bool sl, .int .i64 h9, .int .i64 f9, .slice ca cn cc, .int .i64 df] 55) none)
  have B2 := Lib.hid (IsB.new w1 55 #[.string s0, .slice xa xn xc, .bool sl, .int .i64 h9, .int .i64 f9, .slice ca cn cc, .int .i64 df])
  go_upto_region 2 with fail
  generalize w1.alloc (.cells #[.string s0, .slice xa xn xc, .bool sl, .int .i64 h9, .int .i64 f9, .slice ca cn cc, .int .i64 df] 55) = w2 at *
  generalize w1.heap.size = b7 at *
  clear z0 z1 z2 z3 z4 z5 z6 i1 i0 Z0 Z1 Z2 Z3 Z4 Z5 Z6
  clear c0 c1 c2 c3 c4 c5 c6 c7 c8
  have c0 := (B1.out.keep0 GB.out).cell 0
  have c1 := (B1.out.keep0 GB.out).cell 1
  have c2 := (B1.out.keep0 GB.out).cell 2
  have c3 := (B1.out.keep0 GB.out).cell 3
  have c4 := (B1.out.keep0 GB.out).cell 4
  have c5 := (B1.out.keep0 GB.out).cell 5
  have c6 := (B1.out.keep0 GB.out).cell 6
  have c7 := (B1.out.keep0 GB.out).cell 7
  have c8 := (B1.out.keep0 GB.out).cell 8
  dsimp at c0 c1 c2 c3 c4 c5 c6 c7 c8
  have x0 := (B2.out.keep0 (gb_refl _ _)).cell 0
  have x1 := (B2.out.keep0 (gb_refl _ _)).cell 1
  have x2 := (B2.out.keep0 (gb_refl _ _)).cell 2
  have x3 := (B2.out.keep0 (gb_refl _ _)).cell 3
  have x4 := (B2.out.keep0 (gb_refl _ _)).cell 4
  have x5 := (B2.out.keep0 (gb_refl _ _)).cell 5
  have x6 := (B2.out.keep0 (gb_refl _ _)).cell 6
  dsimp at x0 x1 x2 x3 x4 x5 x6
  go_wp2_with fail
  refine (KW.out _ (gb_trans G1.out GB.out)).mono ?_
  rintro e9 w3 ⟨rfl, g⟩
  have G3 := Lib.hid (gb_trans GB.out g)
  replace B2 := Lib.hid (B2.out.keep0 g)
  clear g KW GB
  clear c0 c1 c2 c3 c4 c5 c6 c7 c8 x0 x1 x2 x3 x4 x5 x6
  go_wp2
  go_loopw [8] (fun i9 wr => ∃ j : Nat, j ≤ cn ∧ i9 = .int .i64 j ∧ (∀ x, x < j → caseE H M S i x = 0) ∧ w3.grownBy wr none) (fun i9 _ => cn - (intOf i9).toNat)
  case atStart => exact ⟨0, Nat.zero_le _, rfl, fun x hx => absurd hx (Nat.not_lt_zero _), gb_refl _ _⟩
  case round =>
    obtain ⟨j, hj, rfl, ht, hg⟩ := hrel
    have HT := Lib.hid ht
    have HG := Lib.hid hg
    clear ht hg
    have x0 := (B2.out.keep0 HG.out).cell 0
    have x1 := (B2.out.keep0 HG.out).cell 1
    have x2 := (B2.out.keep0 HG.out).cell 2
    have x3 := (B2.out.keep0 HG.out).cell 3
    have x4 := (B2.out.keep0 HG.out).cell 4
    have x5 := (B2.out.keep0 HG.out).cell 5
    have x6 := (B2.out.keep0 HG.out).cell 6
    dsimp at x0 x1 x2 x3 x4 x5 x6
    by_cases hlt : j < cn
    · obtain ⟨cd, hcd⟩ := HC.out.some (by omega)
      subst hcd
      obtain ⟨⟨y0, y1, y2⟩, ⟨y3, y4, y5⟩, y6⟩ := (HC.out.keep0SCa (gb_trans G1.out (gb_trans G3.out HG.out))).cells cd rfl j hlt
      have j1 : (j : Int) < cn := by omega
      have j0 : (0 : Int) ≤ (j : Int) := by omega
      have hw : IntKind.i64.wrap ((j : Int) + 1) = ((j + 1 : Nat) : Int) := by have := CN.out; rw [IntKind.wrap_i64]; omega
      have CJ := Lib.hid (CX.out j)
      generalize cs.getD j csz = c9 at *
      obtain ⟨xv, xm, xn⟩ := c9
      dsimp only at y0 y1 y2 y3 y4 y5 y6
      have CJ2 := Lib.hid (show caseE H M S i j = if ¬ (xv < 2 ^ k ∧ xm < 2 ^ k) then 9 else if (bits .andNot .u32 xv xm == 0) = false then 5 else if nxB sn i xn = false then 14 else 0 from CJ.out)
      have BAD := Lib.hid (fun x => BAD0.out j hlt HT.out x)
      have NX := Lib.hid (show caseE H M S i j = 0 → ∀ x, x < j + 1 → caseE H M S i x = 0 from fun q x hx => by
        rcases (show x < j ∨ x = j by omega) with r | rfl
        · exact HT.out x r
        · exact q)
      generalize caseE H M S i j = r9 at *
      have HV := Lib.hid (⟨y1, y2⟩ : 0 ≤ xv ∧ xv < 4294967296)
      have HM := Lib.hid (⟨y4, y5⟩ : 0 ≤ xm ∧ xm < 4294967296)
      have GB := Lib.hid (gb_alloc wr (.cells #[.int .u32 xv, .int .u32 xm, .int .i64 xn] 114) none)
      have B3 := Lib.hid (IsB.new wr 114 #[.int .u32 xv, .int .u32 xm, .int .i64 xn])
      clear CJ y1 y2 y4 y5
      go_upto_region 7 with fail
      generalize wr.alloc (.cells #[.int .u32 xv, .int .u32 xm, .int .i64 xn] 114) = w5 at *
      generalize wr.heap.size = b8 at *
      have G5 := Lib.hid (gb_trans G3.out (gb_trans HG.out GB.out))
      have G6 := Lib.hid (gb_trans HG.out GB.out)
      clear y0 y3 y6
      clear x0 x1 x2 x3 x4 x5 x6
      have c0 := (B1.out.keep0 G5.out).cell 0
      have c1 := (B1.out.keep0 G5.out).cell 1
      have c2 := (B1.out.keep0 G5.out).cell 2
      have c3 := (B1.out.keep0 G5.out).cell 3
      have c4 := (B1.out.keep0 G5.out).cell 4
      have c5 := (B1.out.keep0 G5.out).cell 5
      have c6 := (B1.out.keep0 G5.out).cell 6
      have c7 := (B1.out.keep0 G5.out).cell 7
      have c8 := (B1.out.keep0 G5.out).cell 8
      dsimp at c0 c1 c2 c3 c4 c5 c6 c7 c8
      have y0 := (B3.out.keep0 (gb_refl _ _)).cell 0
      have y1 := (B3.out.keep0 (gb_refl _ _)).cell 1
      have y2 := (B3.out.keep0 (gb_refl _ _)).cell 2
      dsimp at y0 y1 y2
      cases h1 : decide (xv < 2 ^ k)
      · have Z := Lib.hid (show r9 = 9 by rw [CJ2.out, if_pos (fun q => by have := decide_eq_true q.1; rw [h1] at this; cases this)])
        go_wp2_with fail
        refine (rfits18_any _ xv k HV.out.1 HV.out.2 K32.out false h1).mono ?_
        rintro e9 w8 ⟨rfl, hw8⟩
        obtain rfl := hw8.symm
        have E := Lib.hid (BAD.out (by rw [Z.out]; decide))
        go_wp2
        go_ret2
        exact ⟨ret_ii E.out.1.symm (by rw [E.out.2, Z.out]), gb_trans G1.out G5.out⟩
      cases h2 : decide (xm < 2 ^ k)
      · have Z := Lib.hid (show r9 = 9 by rw [CJ2.out, if_pos (fun q => by have := decide_eq_true q.2; rw [h2] at this; cases this)])
        go_wp2_with fail
        refine (rfits18_any _ xv k HV.out.1 HV.out.2 K32.out true h1).mono ?_
        rintro e9 w8 ⟨rfl, hw8⟩
        obtain rfl := hw8.symm
        go_wp2_with fail
        refine (rfits18_any _ xm k HM.out.1 HM.out.2 K32.out false h2).mono ?_
        rintro e9 w8 ⟨rfl, hw8⟩
        obtain rfl := hw8.symm
        have E := Lib.hid (BAD.out (by rw [Z.out]; decide))
        go_wp2
        go_ret2
        exact ⟨ret_ii E.out.1.symm (by rw [E.out.2, Z.out]), gb_trans G1.out G5.out⟩
      have HR2 := Lib.hid (show r9 = if (bits .andNot .u32 xv xm == 0) = false then 5 else if nxB sn i xn = false then 14 else 0 by rw [CJ2.out, if_neg (fun q => q ⟨of_decide_eq_true h1, of_decide_eq_true h2⟩)])
      have NA := Lib.hid (not_iff_and HV.out.1 HV.out.2 HM.out.1 HM.out.2)
      clear CJ2
      by_cases h3 : bits .andNot .u32 xv xm = 0
      case neg =>
        have q3 : (bits .and .u32 xv xm != xv) = true := by rw [bne_iff_ne]; exact fun q => h3 (NA.out.2 q)
        have Z := Lib.hid (show r9 = 5 by rw [HR2.out, if_pos (by rw [beq_eq_false_iff_ne]; exact h3)])
        clear h3
        go_wp2_with fail
        refine (rfits18_any _ xv k HV.out.1 HV.out.2 K32.out true h1).mono ?_
        rintro e9 w8 ⟨rfl, hw8⟩
        obtain rfl := hw8.symm
        go_wp2_with fail
        refine (rfits18_any _ xm k HM.out.1 HM.out.2 K32.out true h2).mono ?_
        rintro e9 w8 ⟨rfl, hw8⟩
        obtain rfl := hw8.symm
        have E := Lib.hid (BAD.out (by rw [Z.out]; decide))
        go_wp2
        go_ret2
        exact ⟨ret_ii E.out.1.symm (by rw [E.out.2, Z.out]), gb_trans G1.out G5.out⟩
      have q3 : (bits .and .u32 xv xm != xv) = false := by rw [NA.out.1 h3]; simp
      rw [h3, if_neg (by decide)] at HR2
      clear h3 NA
      have KN := Lib.hid (fun (W : World) => rnext_any W nm v3 v4 v5 v7 v8 ha ma (some sd) hn hc mn mc sn sc i xn)
      generalize nxB sn i xn = b4 at *
      unfold RetV at KN
      go_wp2_with fail
      refine (rfits18_any _ xv k HV.out.1 HV.out.2 K32.out true h1).mono ?_
      rintro e9 w8 ⟨rfl, hw8⟩
      obtain rfl := hw8.symm
      go_wp2_with fail
      refine (rfits18_any _ xm k HM.out.1 HM.out.2 K32.out true h2).mono ?_
      rintro e9 w8 ⟨rfl, hw8⟩
      obtain rfl := hw8.symm
      go_wp2_with fail
      refine (KN.out _).mono ?_
      rintro e9 w9 ⟨rfl, g⟩
      have G9 := Lib.hid (gb_trans G5.out g)
      have G10 := Lib.hid (gb_trans G6.out g)
      clear g
      cases b4
      · have Z := Lib.hid (show r9 = 14 by rw [HR2.out, if_pos rfl])
        have E := Lib.hid (BAD.out (by rw [Z.out]; decide))
        go_wp2
        go_ret2
        exact ⟨ret_ii E.out.1.symm (by rw [E.out.2, Z.out]), gb_trans G1.out G9.out⟩
      · have Z := Lib.hid (NX.out (by rw [HR2.out, if_neg (by decide)]))
        go_wp2
        go_roundw
        case rel => exact ⟨j + 1, by omega, by go_num, Z.out, G10.out⟩
        case measure => simp [intOf]; omega
    · have hje : j = cn := by omega
      have j1 : ¬ (j : Int) < cn := by omega
      have E := Lib.hid (GOOD.out (by rw [← hje]; exact HT.out))
      go_wp2
      go_ret2
      exact ⟨ret_ii E.out.1.symm E.out.2.symm, gb_trans G1.out (gb_trans G3.out HG.out)⟩
end Go.Proofs.Ytjhknmklejkknaa
