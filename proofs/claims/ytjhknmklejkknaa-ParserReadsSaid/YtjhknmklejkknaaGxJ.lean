/- Several texts in one: PsH, PsI. -/
import Derived.Test.YtjhknmklejkknaaPsG
import Derived.BigQuiet
import Derived.Test.YtjhknmklejkknaaGxL
section
namespace Go.Proofs.Ytjhknmklejkknaa
open Go.RowKit
set_option linter.unusedVariables false
set_option maxRecDepth 100000 in
set_option maxHeartbeats 8000000 in
theorem rcheck18_any (w : World) (nm v3 v4 v5 v7 v8 : Value) (ha ma sa : Option Addr) (hn hc mn mc sn sc : Nat) (H : List (ByteArray × List Fld)) (M : List Fld) (S : List Pst) (hH : SH w ha hn hc H) (hM : SF w ma mn mc M) (hS : SPs w sa sn sc S) (hnz : ∀ i, (S.getD i psz).nm.size ≤ 9223372036854775807) (a b e : Int) (hr : PkC H M S a b e) :
    Calls Try.prog 15 #[.agg #[nm, .slice ha hn hc, .slice ma mn mc, v3, v4, v5, .slice sa sn sc, v7, v8]] w (RetV (.tuple #[.int .i64 a, .int .i64 b, .int .i64 e]) w) := by
  have LS := Lib.hid hS.len
  have HR := Lib.hid hr
  have KS := Lib.hid (fun (W : World) (q : w.grownBy W none) => rstate_any W nm v3 v4 v5 v7 v8 ha ma sa hn hc mn mc sn sc H M S (hH.keep0 q) (hM.keep0 q) (hS.keep0SPs q) hnz)
  have G1 := Lib.hid (gb_alloc w (.cells #[nm, .slice ha hn hc, .slice ma mn mc, v3, v4, v5, .slice sa sn sc, v7, v8] 31) none)
  have B1 := IsB.new w 31 #[nm, .slice ha hn hc, .slice ma mn mc, v3, v4, v5, .slice sa sn sc, v7, v8]
  replace B1 := Lib.hid B1
  clear hH hM hS hr hnz
  go_enter Try.func15, Try.ntmps15
  go_upto_region 1 with fail
  generalize w.alloc (.cells #[nm, .slice ha hn hc, .slice ma mn mc, v3, v4, v5, .slice sa sn sc, v7, v8] 31) = w1 at *
  obtain ⟨bx, hbx⟩ : ∃ b, b = w.heap.size := ⟨_, rfl⟩
  have Lbx := Lib.hid (show w.heap.size ≤ bx by rw [hbx]; exact Nat.le_refl _)
  rw [← hbx] at B1 ⊢
  clear hbx
  have c0 := (B1.out.keep0 (gb_refl _ _)).cell 0
  have c1 := (B1.out.keep0 (gb_refl _ _)).cell 1
  have c2 := (B1.out.keep0 (gb_refl _ _)).cell 2
  have c3 := (B1.out.keep0 (gb_refl _ _)).cell 3
  have c4 := (B1.out.keep0 (gb_refl _ _)).cell 4
  have c5 := (B1.out.keep0 (gb_refl _ _)).cell 5
  have c6 := (B1.out.keep0 (gb_refl _ _)).cell 6
  have c7 := (B1.out.keep0 (gb_refl _ _)).cell 7
  have c8 := (B1.out.keep0 (gb_refl _ _)).cell 8
  dsimp at c0 c1 c2 c3 c4 c5 c6 c7 c8
  by_cases h0 : sn = 0
  · have q0 : ((sn : Int) == 0) = true := by simp [h0]
    have E := Lib.hid (HR.out.zero (by rw [LS.out]; exact h0))
    go_wp2
    go_ret3
    exact ⟨ret_iii E.out.1.symm E.out.2.1.symm E.out.2.2.symm, G1.out⟩
  have q0 : ((sn : Int) == 0) = false := by simp [h0]
  by_cases h1 : 12 < sn
  · have i1 : (12 : Int) < sn := by omega
    have E := Lib.hid (HR.out.many (by rw [LS.out]; exact h1))
    go_wp2
    go_ret3
    exact ⟨ret_iii E.out.1.symm E.out.2.1.symm E.out.2.2.symm, G1.out⟩
  have i1 : ¬ (12 : Int) < sn := by omega
  have P0 := Lib.hid (show 0 < S.length by rw [LS.out]; omega)
  have P1 := Lib.hid (show S.length ≤ 12 by rw [LS.out]; omega)
  go_wp2
  clear c0 c1 c2 c3 c4 c5 c6 c7 c8
  clear q0 i1
  go_loopw [5] (fun i9 wr => ∃ j : Nat, j ≤ sn ∧ i9 = .int .i64 j ∧ (∀ x, x < j → stOk H M S x) ∧ w1.grownBy wr none) (fun i9 _ => sn - (intOf i9).toNat)
  case atStart => exact ⟨0, Nat.zero_le _, rfl, fun x hx => absurd hx (Nat.not_lt_zero _), gb_refl _ _⟩
  case round =>
    obtain ⟨j, hj, rfl, ht, hg⟩ := hrel
    have HT := Lib.hid ht
    have HG := Lib.hid hg
    clear ht hg
    have c0 := (B1.out.keep0 HG.out).cell 0
    have c1 := (B1.out.keep0 HG.out).cell 1
    have c2 := (B1.out.keep0 HG.out).cell 2
    have c3 := (B1.out.keep0 HG.out).cell 3
    have c4 := (B1.out.keep0 HG.out).cell 4
    have c5 := (B1.out.keep0 HG.out).cell 5
    have c6 := (B1.out.keep0 HG.out).cell 6
    have c7 := (B1.out.keep0 HG.out).cell 7
    have c8 := (B1.out.keep0 HG.out).cell 8
    dsimp at c0 c1 c2 c3 c4 c5 c6 c7 c8
    by_cases hlt : j < sn
    · have hl : j < S.length := by rw [LS.out]; exact hlt
      have j1 : (j : Int) < sn := by omega
      have hw : IntKind.i64.wrap ((j : Int) + 1) = ((j + 1 : Nat) : Int) := by have := P1.out; rw [IntKind.wrap_i64]; omega
      obtain ⟨sub, et, hst⟩ := stC_ex H M S j
      have OK := Lib.hid hst.ok
      have NXT := Lib.hid (show stOk H M S j → ∀ x, x < j + 1 → stOk H M S x from fun q x hx => by
        rcases (show x < j ∨ x = j by omega) with r | rfl
        · exact HT.out x r
        · exact q)
      have AT := Lib.hid (show et ≠ 0 → a = j ∧ b = sub ∧ e = et from fun x => by
        have q := HR.out.at_ P0.out P1.out hl HT.out (fun y => x (OK.out.2 y))
        have u := StC.one q.2 hst
        exact ⟨q.1, u.1, u.2⟩)
      have KS2 := Lib.hid (KS.out _ (gb_trans G1.out HG.out) j hlt (by have := P1.out; rw [LS.out] at this; exact this) sub et hst)
      unfold RetV at KS2
      clear hst hl
      go_wp2_with fail
      refine KS2.out.mono ?_
      rintro e9 w2 ⟨rfl, g⟩
      have G2 := Lib.hid (gb_trans HG.out g)
      clear g
      clear c0 c1 c2 c3 c4 c5 c6 c7 c8
      by_cases het : et = 0
      · have q0 : (et != 0) = false := by simp [het]
        have Z := Lib.hid (NXT.out (OK.out.1 het))
        clear het
        go_wp2
        go_roundw
        case rel => exact ⟨j + 1, by omega, by go_num, Z.out, G2.out⟩
        case measure => simp [intOf]; omega
      · have q0 : (et != 0) = true := by simp [het]
        have E := Lib.hid (AT.out het)
        clear het
        go_wp2
        go_ret3
        exact ⟨ret_iii E.out.1.symm E.out.2.1.symm E.out.2.2.symm, gb_trans G1.out G2.out⟩
    · have hje : j = sn := by omega
      have j1 : ¬ (j : Int) < sn := by omega
      have E := Lib.hid (HR.out.good P0.out P1.out (by rw [LS.out, ← hje]; exact HT.out))
      go_wp2
      go_ret3
      exact ⟨ret_iii E.out.1.symm E.out.2.1.symm E.out.2.2.symm, gb_trans G1.out HG.out⟩
end Go.Proofs.Ytjhknmklejkknaa
end
section
namespace Go.Proofs.Ytjhknmklejkknaa
open Go.RowKit
set_option linter.unusedVariables false
set_option maxRecDepth 100000 in
set_option maxHeartbeats 8000000 in
theorem phdrs_any (w : World) (nm v3 v4 v5 v7 v8 : Value) (ha ma sa : Option Addr) (hn hc mn mc sn sc : Nat) (H : List (ByteArray × List Fld)) (hH : SH w ha hn hc H) (hz9 : HZ H) (hb9 : hn ≤ 100000) (b : Bool) (hb : b = true ↔ hdsOk H) : Calls Try.prog 108 #[.agg #[nm, .slice ha hn hc, .slice ma mn mc, v3, v4, v5, .slice sa sn sc, v7, v8]] w (RetV (.bool b) w) := by
  have HH := Lib.hid hH
  have LH := Lib.hid hH.len
  have ZH := Lib.hid hz9
  have HN := Lib.hid hb9
  have HB := Lib.hid hb
  have G1 := Lib.hid (gb_alloc w (.cells #[nm, .slice ha hn hc, .slice ma mn mc, v3, v4, v5, .slice sa sn sc, v7, v8] 31) none)
  have B1 := IsB.new w 31 #[nm, .slice ha hn hc, .slice ma mn mc, v3, v4, v5, .slice sa sn sc, v7, v8]
  replace B1 := Lib.hid B1
  clear hH hz9 hb9 hb
  go_enter Try.func108, Try.ntmps108
  go_upto_region 1 with fail
  generalize w.alloc (.cells #[nm, .slice ha hn hc, .slice ma mn mc, v3, v4, v5, .slice sa sn sc, v7, v8] 31) = w1 at *
  obtain ⟨bx, hbx⟩ : ∃ b, b = w.heap.size := ⟨_, rfl⟩
  have Lbx := Lib.hid (show w.heap.size ≤ bx by rw [hbx]; exact Nat.le_refl _)
  rw [← hbx] at B1 ⊢
  clear hbx
  have c0 := (B1.out.keep0 (gb_refl _ _)).cell 0
  have c1 := (B1.out.keep0 (gb_refl _ _)).cell 1
  have c2 := (B1.out.keep0 (gb_refl _ _)).cell 2
  have c3 := (B1.out.keep0 (gb_refl _ _)).cell 3
  have c4 := (B1.out.keep0 (gb_refl _ _)).cell 4
  have c5 := (B1.out.keep0 (gb_refl _ _)).cell 5
  have c6 := (B1.out.keep0 (gb_refl _ _)).cell 6
  have c7 := (B1.out.keep0 (gb_refl _ _)).cell 7
  have c8 := (B1.out.keep0 (gb_refl _ _)).cell 8
  dsimp at c0 c1 c2 c3 c4 c5 c6 c7 c8
  go_wp2
  clear c0 c1 c2 c3 c4 c5 c6 c7 c8
  go_loopw [8] (fun i9 wr => ∃ j : Nat, j ≤ hn ∧ i9 = .int .i64 j ∧ (∀ i, i < j → chkH (H.getD i hz).1 (H.getD i hz).2 = 0) ∧ w1.grownBy wr none) (fun i9 _ => hn - (intOf i9).toNat)
  case atStart => exact ⟨0, Nat.zero_le _, rfl, fun i hi => absurd hi (Nat.not_lt_zero _), gb_refl _ _⟩
  case round =>
    obtain ⟨j, hj, rfl, ht, hg⟩ := hrel
    have HT := Lib.hid ht
    have HG := Lib.hid hg
    clear ht hg
    by_cases hlt : j < hn
    · obtain ⟨hd, hhd⟩ := HH.out.some (by omega)
      subst hhd
      have j1 : (j : Int) < hn := by omega
      have j0 : (0 : Int) ≤ (j : Int) := by omega
      have hw : IntKind.i64.wrap ((j : Int) + 1) = ((j + 1 : Nat) : Int) := by have := HN.out; rw [IntKind.wrap_i64]; omega
      obtain ⟨ya, yn, yc, d0, d1, ok⟩ := sh_hd (HH.out.keep0 (gb_trans G1.out HG.out)) ZH.out.nm ZH.out.fl rfl hlt
      have K := Lib.hid (fun (W : World) (q : wr.grownBy W none) => check_any W _ ya yn yc _ (ok.sf.keep0 q) ok.few ok.nm ok.hn)
      unfold RetG at K
      clear ok
      have NX := Lib.hid (show chkH (H.getD j hz).1 (H.getD j hz).2 = 0 → ∀ i, i < j + 1 → chkH (H.getD i hz).1 (H.getD i hz).2 = 0 from fun q i hi => by
        rcases (show i < j ∨ i = j by omega) with r | rfl
        · exact HT.out i r
        · exact q)
      have BD := Lib.hid (show chkH (H.getD j hz).1 (H.getD j hz).2 ≠ 0 → ¬ hdsOk H from fun q r => q (r _ (by
        rw [List.getD_eq_getElem?_getD, List.getElem?_eq_getElem (by rw [LH.out]; exact hlt)]; exact List.getElem_mem _)))
      generalize (H.getD j hz).1 = s0 at *
      generalize (H.getD j hz).2 = l0 at *
      generalize chkH s0 l0 = r2 at *
      have GB := Lib.hid (gb_alloc wr (.cells #[.string s0, .slice ya yn yc] 66) none)
      have B2 := Lib.hid (IsB.new wr 66 #[.string s0, .slice ya yn yc])
      go_upto_region 4 with fail
      generalize wr.alloc (.cells #[.string s0, .slice ya yn yc] 66) = w5 at *
      generalize wr.heap.size = b7 at *
      have G5 := Lib.hid (gb_trans HG.out GB.out)
      clear d0 d1
      have x0 := (B2.out.keep0 (gb_refl _ _)).cell 0
      have x1 := (B2.out.keep0 (gb_refl _ _)).cell 1
      dsimp at x0 x1
      go_wp2_with fail
      refine (K.out _ GB.out).mono ?_
      rintro e9 w6 ⟨rfl, g⟩
      have G6 := Lib.hid (gb_trans G5.out g)
      clear g
      clear x0 x1
      by_cases hr2 : r2 = 0
      · have q0 : (r2 != 0) = false := by simp [hr2]
        have Z := Lib.hid (NX.out hr2)
        clear hr2
        go_wp2
        go_roundw
        case rel => exact ⟨j + 1, by omega, by go_num, Z.out, G6.out⟩
        case measure => simp [intOf]; omega
      · have q0 : (r2 != 0) = true := by simp [hr2]
        have Z := Lib.hid (show b = false by cases b; rfl; exact absurd (HB.out.1 rfl) (BD.out hr2))
        clear hr2
        go_wp2
        go_ret
        exact ⟨by rw [Z.out] <;> rfl, gb_trans G1.out G6.out⟩
    · have hke : j = hn := by omega
      have j1 : ¬ (j : Int) < hn := by omega
      have HO := Lib.hid (show hdsOk H from fun x hx => by
        obtain ⟨i, hi, rfl⟩ := List.mem_iff_getElem.1 hx
        have q := HT.out i (by rw [hke, ← LH.out]; exact hi)
        rw [List.getD_eq_getElem?_getD, List.getElem?_eq_getElem hi] at q
        exact q)
      have Z := Lib.hid (show b = true from HB.out.2 HO.out)
      go_wp2
      go_ret
      exact ⟨by rw [Z.out] <;> rfl, gb_trans G1.out HG.out⟩
/-- Why a parse can't begin. -/
def inE (e : Int) (b : Bool) (n : Nat) : Int := if e ≠ 0 ∨ b = false then 2 else if 512 < n then 4 else 0
set_option maxRecDepth 100000 in
set_option maxHeartbeats 8000000 in
theorem pinput_any (w : World) (nm v3 v4 v5 v7 v8 : Value) (ha ma sa : Option Addr) (hn hc mn mc sn sc : Nat) (H : List (ByteArray × List Fld)) (M : List Fld) (S : List Pst) (hH : SH w ha hn hc H) (hM : SF w ma mn mc M) (hS : SPs w sa sn sc S) (hnz : ∀ i, (S.getD i psz).nm.size ≤ 9223372036854775807) (hz9 : HZ H) (hb9 : hn ≤ 100000) (ta : Option Addr) (n tc : Nat) (a1 a2 e : Int) (hr : PkC H M S a1 a2 e) (b : Bool) (hb : b = true ↔ hdsOk H) : Calls Try.prog 76 #[.agg #[nm, .slice ha hn hc, .slice ma mn mc, v3, v4, v5, .slice sa sn sc, v7, v8], .slice ta n tc] w (RetV (.int .i64 (inE e b n)) w) := by
  have K1 := Lib.hid (fun (W : World) (q : w.grownBy W none) => pcheck_any W nm v3 v4 v5 v7 v8 ha ma sa hn hc mn mc sn sc H M S (hH.keep0 q) (hM.keep0 q) (hS.keep0SPs q) hnz a1 a2 e hr)
  have K2 := Lib.hid (fun (W : World) (q : w.grownBy W none) => phdrs_any W nm v3 v4 v5 v7 v8 ha ma sa hn hc mn mc sn sc H (hH.keep0 q) hz9 hb9 b hb)
  unfold RetV at K1 K2
  have G1 := Lib.hid (gb_alloc w (.cells #[nm, .slice ha hn hc, .slice ma mn mc, v3, v4, v5, .slice sa sn sc, v7, v8] 31) none)
  have B1 := IsB.new w 31 #[nm, .slice ha hn hc, .slice ma mn mc, v3, v4, v5, .slice sa sn sc, v7, v8]
  replace B1 := Lib.hid B1
  clear hH hM hS hnz hz9 hb9 hr hb
  go_enter Try.func76, Try.ntmps76
  go_upto_region 1 with fail
  generalize w.alloc (.cells #[nm, .slice ha hn hc, .slice ma mn mc, v3, v4, v5, .slice sa sn sc, v7, v8] 31) = w1 at *
  obtain ⟨bx, hbx⟩ : ∃ b, b = w.heap.size := ⟨_, rfl⟩
  have Lbx := Lib.hid (show w.heap.size ≤ bx by rw [hbx]; exact Nat.le_refl _)
  rw [← hbx] at B1 ⊢
  clear hbx
  have c0 := (B1.out.keep0 (gb_refl _ _)).cell 0
  have c1 := (B1.out.keep0 (gb_refl _ _)).cell 1
  have c2 := (B1.out.keep0 (gb_refl _ _)).cell 2
  have c3 := (B1.out.keep0 (gb_refl _ _)).cell 3
  have c4 := (B1.out.keep0 (gb_refl _ _)).cell 4
  have c5 := (B1.out.keep0 (gb_refl _ _)).cell 5
  have c6 := (B1.out.keep0 (gb_refl _ _)).cell 6
  have c7 := (B1.out.keep0 (gb_refl _ _)).cell 7
  have c8 := (B1.out.keep0 (gb_refl _ _)).cell 8
  dsimp at c0 c1 c2 c3 c4 c5 c6 c7 c8
  go_wp2_with fail
  refine (K1.out _ G1.out).mono ?_
  rintro e9 w2 ⟨rfl, g⟩
  have G2 := Lib.hid (gb_trans G1.out g)
  replace B1 := Lib.hid (B1.out.keep0 g)
  clear g
  clear c0 c1 c2 c3 c4 c5 c6 c7 c8
  have c0 := (B1.out.keep0 (gb_refl _ _)).cell 0
  have c1 := (B1.out.keep0 (gb_refl _ _)).cell 1
  have c2 := (B1.out.keep0 (gb_refl _ _)).cell 2
  have c3 := (B1.out.keep0 (gb_refl _ _)).cell 3
  have c4 := (B1.out.keep0 (gb_refl _ _)).cell 4
  have c5 := (B1.out.keep0 (gb_refl _ _)).cell 5
  have c6 := (B1.out.keep0 (gb_refl _ _)).cell 6
  have c7 := (B1.out.keep0 (gb_refl _ _)).cell 7
  have c8 := (B1.out.keep0 (gb_refl _ _)).cell 8
  dsimp at c0 c1 c2 c3 c4 c5 c6 c7 c8
  by_cases he : e = 0
  case neg =>
    have q0 : (e != 0) = true := by simp [he]
    have Z := Lib.hid (show inE e b n = 2 by unfold inE; simp [he])
    go_wp2
    go_ret
    exact ⟨by rw [Z.out] <;> rfl, G2.out⟩

  have q0 : (e != 0) = false := by simp [he]
  go_wp2_with fail
  refine (K2.out _ G2.out).mono ?_
  rintro e9 w3 ⟨rfl, g⟩
  have G3 := Lib.hid (gb_trans G2.out g)
  clear g
  cases b
  · have Z := Lib.hid (show inE e false n = 2 by unfold inE; simp )
    go_wp2
    go_ret
    exact ⟨by rw [Z.out] <;> rfl, G3.out⟩
  by_cases hn5 : 512 < n
  · have i1 : (512 : Int) < n := by omega
    have Z := Lib.hid (show inE e true n = 4 by unfold inE; simp [he, hn5])
    go_wp2
    go_ret
    exact ⟨by rw [Z.out] <;> rfl, G3.out⟩
  · have i1 : ¬ (512 : Int) < n := by omega
    have Z := Lib.hid (show inE e true n = 0 by unfold inE; simp [he, hn5])
    go_wp2
    go_ret
    exact ⟨by rw [Z.out] <;> rfl, G3.out⟩
end Go.Proofs.Ytjhknmklejkknaa
end
