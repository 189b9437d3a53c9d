/- Expr: the reference: arity, declared widths, valid widths; no condition. -/
import Derived.Test.YtdbjeihbfooipaaExL
namespace Go.Proofs.Ytdbjeihbfooipaa
open Go.RowKit
set_option linter.unusedVariables false
/-- An operator's number of operands, or -1. -/
def arI (op : Int) : Int := if arB op = true then ((arN op : Nat) : Int) else -1
set_option maxRecDepth 100000 in
set_option maxHeartbeats 2000000 in
theorem rarity_any (W : World) (op : Int) : Calls Try.prog 155 #[.int .i64 op] W (RetS (.int .i64 (arI op)) W) := by
  rcases (show op < 1 ∨ (1 ≤ op ∧ op ≤ 4) ∨ (5 ≤ op ∧ op ≤ 8) ∨ (9 ≤ op ∧ op ≤ 16) ∨ op = 17 ∨ 17 < op by omega) with h | ⟨h, k⟩ | ⟨h, k⟩ | ⟨h, k⟩ | h | h
  · have e : arI op = -1 := by unfold arI arB; rw [if_neg (by simp; omega)]
    rw [e]
    clear e
    have f0 : ¬ 1 ≤ op := by omega
    have f1 : ¬ 5 ≤ op := by omega
    have f2 : ¬ 9 ≤ op := by omega
    have f3 : ¬ op = 17 := by omega
    have f9 : (op == 17) = false := by rw [beq_eq_false_iff_ne]; omega
    go_enter Try.func155, Try.ntmps155
    go_wp2
    go_ret
    exact ⟨rfl, rfl⟩
  · have e : arI op = 0 := by
      have e1 : arN op = 0 := by unfold arN; (repeat' split) <;> omega
      unfold arI arB
      rw [if_pos (decide_eq_true (by omega)), e1]; rfl
    rw [e]
    clear e
    have f0 : 1 ≤ op := by omega
    have f1 : op ≤ 4 := by omega
    go_enter Try.func155, Try.ntmps155
    go_wp2
    go_ret
    exact ⟨rfl, rfl⟩
  · have e : arI op = 1 := by
      have e1 : arN op = 1 := by unfold arN; (repeat' split) <;> omega
      unfold arI arB
      rw [if_pos (decide_eq_true (by omega)), e1]; rfl
    rw [e]
    clear e
    have f0 : 1 ≤ op := by omega
    have f1 : ¬ op ≤ 4 := by omega
    have f2 : 5 ≤ op := by omega
    have f3 : op ≤ 8 := by omega
    go_enter Try.func155, Try.ntmps155
    go_wp2
    go_ret
    exact ⟨rfl, rfl⟩
  · have e : arI op = 2 := by
      have e1 : arN op = 2 := by unfold arN; (repeat' split) <;> omega
      unfold arI arB
      rw [if_pos (decide_eq_true (by omega)), e1]; rfl
    rw [e]
    clear e
    have f0 : 1 ≤ op := by omega
    have f1 : ¬ op ≤ 4 := by omega
    have f2 : 5 ≤ op := by omega
    have f3 : ¬ op ≤ 8 := by omega
    have f4 : 9 ≤ op := by omega
    have f5 : op ≤ 16 := by omega
    go_enter Try.func155, Try.ntmps155
    go_wp2
    go_ret
    exact ⟨rfl, rfl⟩
  · have e : arI op = 3 := by
      have e1 : arN op = 3 := by unfold arN; (repeat' split) <;> omega
      unfold arI arB
      rw [if_pos (decide_eq_true (by omega)), e1]; rfl
    rw [e]
    clear e
    subst h
    go_enter Try.func155, Try.ntmps155
    go_wp2
    go_ret
    exact ⟨rfl, rfl⟩
  · have e : arI op = -1 := by unfold arI arB; rw [if_neg (by simp; omega)]
    rw [e]
    clear e
    have f0 : 1 ≤ op := by omega
    have f1 : ¬ op ≤ 4 := by omega
    have f2 : 5 ≤ op := by omega
    have f3 : ¬ op ≤ 8 := by omega
    have f4 : 9 ≤ op := by omega
    have f5 : ¬ op ≤ 16 := by omega
    have f6 : ¬ op = 17 := by omega
    have f9 : (op == 17) = false := by rw [beq_eq_false_iff_ne]; omega
    go_enter Try.func155, Try.ntmps155
    go_wp2
    go_ret
    exact ⟨rfl, rfl⟩
set_option maxRecDepth 100000 in
set_option maxHeartbeats 2000000 in
theorem rwide_any (W : World) (x : Int) : Calls Try.prog 170 #[.int .i64 x] W (RetS (.tuple #[.int .i64 (if okW x = true then x else 0), .int .i64 (if okW x = true then 0 else 10)]) W) := by
  rcases (show x < 1 ∨ 32 < x ∨ (1 ≤ x ∧ x ≤ 32) by omega) with h | h | ⟨h, k⟩
  · have e : okW x = false := by unfold okW; exact decide_eq_false (by omega)
    rw [e]
    clear e
    go_enter Try.func170, Try.ntmps170
    go_wp2
    go_ret2
    exact ⟨rfl, rfl⟩
  · have e : okW x = false := by unfold okW; exact decide_eq_false (by omega)
    have f0 : ¬ x < 1 := by omega
    rw [e]
    clear e
    go_enter Try.func170, Try.ntmps170
    go_wp2
    go_ret2
    exact ⟨rfl, rfl⟩
  · have e : okW x = true := (okW_iff x).2 ⟨h, k⟩
    have f0 : ¬ x < 1 := by omega
    have f1 : ¬ 32 < x := by omega
    rw [e]
    clear e
    go_enter Try.func170, Try.ntmps170
    go_wp2
    go_ret2
    exact ⟨rfl, rfl⟩
/-- The declared width of a field, and whether it is there. -/
def declT (H : List (ByteArray × List Fld)) (M : List Fld) (h f : Int) : Int × Bool := if isX f (dfs H M h).length = true then (((dfs H M h).getD f.toNat fz).2, true) else (0, false)
theorem isX_no {i : Int} {n : Nat} (h : i < 0 ∨ (n : Int) ≤ i) : isX i n = false := by unfold isX; exact decide_eq_false (by omega)
theorem isX_yes {i n : Nat} (h : i < n) : isX (i : Int) n = true := by unfold isX; exact decide_eq_true (by omega)
theorem declT_no {H : List (ByteArray × List Fld)} {M L : List Fld} {h f : Int} (e : dfs H M h = L) (k : isX f L.length = false) : declT H M h f = (0, false) := by unfold declT; rw [e, k]; rfl
theorem declT_yes {H : List (ByteArray × List Fld)} {M L : List Fld} {h : Int} {j : Nat} (e : dfs H M h = L) (k : j < L.length) : declT H M h (j : Int) = ((L.getD j fz).2, true) := by unfold declT; rw [e, isX_yes k, if_pos rfl, Int.toNat_natCast]
set_option maxRecDepth 100000 in
set_option maxHeartbeats 4000000 in
theorem rdecl_any (w : World) (nm v3 v4 v5 v6 v7 v8 : Value) (ha ma : Option Addr) (hn hc mn mc : Nat) (H : List (ByteArray × List Fld)) (M : List Fld) (hH : SH w ha hn hc H) (hM : SF w ma mn mc M) (h f : Int) :
    Calls Try.prog 172 #[.agg #[nm, .slice ha hn hc, .slice ma mn mc, v3, v4, v5, v6, v7, v8], .agg #[.int .i64 h, .int .i64 f]] w (RetV (.tuple #[.int .i64 (declT H M h f).1, .bool (declT H M h f).2]) w) := by
  have HH := Lib.hid hH
  have HL := Lib.hid hH.len
  have hcap := hH.cap
  by_cases h1 : h = -1
  · subst h1
    have HE := Lib.hid (show dfs H M (-1) = M by unfold dfs; rw [if_pos rfl])
    have S := Lib.hid hM
    clear hH hM
    rcases (show f < 0 ∨ (0 ≤ f ∧ (mn : Int) ≤ f) ∨ (0 ≤ f ∧ f < (mn : Int)) by omega) with q | ⟨q, q2⟩ | ⟨q, q2⟩
    · rw [declT_no HE.out (isX_no (.inl q))]
      go_enter Try.func172, Try.ntmps172
      go_wp2
      go_ret2
      exact ⟨rfl, gb_al (gb_al (gb_refl _ _))⟩
    · rw [declT_no HE.out (isX_no (.inr (by rw [S.out.len]; exact q2)))]
      have q3 : ¬ f < 0 := by omega
      go_enter Try.func172, Try.ntmps172
      go_wp2
      go_ret2
      exact ⟨rfl, gb_al (gb_al (gb_refl _ _))⟩
    · obtain ⟨i, rfl⟩ := Int.eq_ofNat_of_zero_le q
      have hi : i < mn := by omega
      obtain ⟨bd, HFA⟩ := S.out.some (by omega)
      obtain ⟨d0, d1⟩ := S.out.cells bd HFA i hi
      rw [declT_yes HE.out (by rw [S.out.len]; exact hi)]
      subst HFA
      have q3 : ¬ (i : Int) < 0 := by omega
      have q4 : ¬ (mn : Int) ≤ (i : Int) := by omega
      have q5 : (i : Int) < (mn : Int) := q2
      have scap := S.out.cap
      generalize (M.getD i fz).2 = wd at *
      have c5 := fun o => (gb_alloc w o none).cell d1 (by simp)
      have c6 := fun o1 o2 => (gb_al (o := o2) (gb_alloc w o1 none)).cell d1 (by simp)
      clear d0
      go_enter Try.func172, Try.ntmps172
      go_wp2
      go_ret2
      exact ⟨rfl, gb_al (gb_al (gb_refl _ _))⟩
  · have n1 : (h == -1) = false := by rw [beq_eq_false_iff_ne]; exact h1
    have n2 : ¬ h = -1 := h1
    have HD := Lib.hid (show dfs H M h = if isX h hn = true then (H.getD h.toNat hz).2 else [] by unfold dfs; rw [if_neg h1, HL.out])
    clear hM
    rcases (show h < 0 ∨ (0 ≤ h ∧ (hn : Int) ≤ h) ∨ (0 ≤ h ∧ h < (hn : Int)) by omega) with p | ⟨p, p2⟩ | ⟨p, p2⟩
    · rw [isX_no (.inl p), if_neg (by decide)] at HD
      rw [declT_no HD.out (by unfold isX; exact decide_eq_false (by simp <;> omega))]
      clear hH
      go_enter Try.func172, Try.ntmps172
      go_wp2
      go_ret2
      exact ⟨rfl, gb_al (gb_al (gb_refl _ _))⟩
    · rw [isX_no (.inr p2), if_neg (by decide)] at HD
      rw [declT_no HD.out (by unfold isX; exact decide_eq_false (by simp <;> omega))]
      have p3 : ¬ h < 0 := by omega
      clear hH
      go_enter Try.func172, Try.ntmps172
      go_wp2
      go_ret2
      exact ⟨rfl, gb_al (gb_al (gb_refl _ _))⟩
    · obtain ⟨j, rfl⟩ := Int.eq_ofNat_of_zero_le p
      have hj : j < hn := by omega
      rw [isX_yes hj, if_pos rfl, Int.toNat_natCast] at HD
      obtain ⟨ad, rfl⟩ := hH.some (by omega)
      obtain ⟨c0, fa, fn, fc, c1, sf⟩ := hH.cells ad rfl j hj
      have HE := HD
      have S := Lib.hid sf
      generalize (H.getD j hz).2 = LX at *
      have c8 := fun o => (gb_alloc w o none).cell c1 (by simp)
      have c9 := fun o1 o2 => (gb_al (o := o2) (gb_alloc w o1 none)).cell c1 (by simp)
      have p3 : ¬ (j : Int) < 0 := by omega
      have p4 : ¬ (hn : Int) ≤ (j : Int) := by omega
      have p5 : (j : Int) < (hn : Int) := p2
      clear c0 sf hH HD
      rcases (show f < 0 ∨ (0 ≤ f ∧ (fn : Int) ≤ f) ∨ (0 ≤ f ∧ f < (fn : Int)) by omega) with q | ⟨q, q2⟩ | ⟨q, q2⟩
      · rw [declT_no HE.out (isX_no (.inl q))]
        go_enter Try.func172, Try.ntmps172
        go_wp2
        go_ret2
        exact ⟨rfl, gb_al (gb_al (gb_refl _ _))⟩
      · rw [declT_no HE.out (isX_no (.inr (by rw [S.out.len]; exact q2)))]
        have q3 : ¬ f < 0 := by omega
        go_enter Try.func172, Try.ntmps172
        go_wp2
        go_ret2
        exact ⟨rfl, gb_al (gb_al (gb_refl _ _))⟩
      · obtain ⟨i, rfl⟩ := Int.eq_ofNat_of_zero_le q
        have hi : i < fn := by omega
        obtain ⟨bd, HFA⟩ := S.out.some (by omega)
        obtain ⟨d0, d1⟩ := S.out.cells bd HFA i hi
        rw [declT_yes HE.out (by rw [S.out.len]; exact hi)]
        subst HFA
        have q3 : ¬ (i : Int) < 0 := by omega
        have q4 : ¬ (fn : Int) ≤ (i : Int) := by omega
        have q5 : (i : Int) < (fn : Int) := q2
        have scap := S.out.cap
        generalize (LX.getD i fz).2 = wd at *
        have c5 := fun o => (gb_alloc w o none).cell d1 (by simp)
        have c6 := fun o1 o2 => (gb_al (o := o2) (gb_alloc w o1 none)).cell d1 (by simp)
        clear d0
        go_enter Try.func172, Try.ntmps172
        go_wp2
        go_ret2
        exact ⟨rfl, gb_al (gb_al (gb_refl _ _))⟩
end Go.Proofs.Ytdbjeihbfooipaa
