/- Expr: the reference's operators, as one; no condition but that the operands fit their widths. -/
import Derived.Test.YtdbjeihbfooipaaExZb
namespace Go.Proofs.Ytdbjeihbfooipaa
open Go.RowKit
set_option linter.unusedVariables false
theorem wex {f : Nat} {args : Array Value} {w : World} {r : Except Int Tm} {a b : Int} (h1 : rW r = a) (h2 : rE r = b) (h : Calls Try.prog f args w (RetV (.tuple #[.int .i64 a, .int .i64 b]) w)) : Calls Try.prog f args w (RetWE r w) := by
  subst h1 h2; exact h
theorem nod1 (C : Cx) (op n wd : Int) (t : Tm) (h : arN op = 1) : nodeT C (op, n, wd) [t] = unT (op, n, wd) t := by
  unfold nodeT; rw [if_neg (by show ¬ arN op = 0; omega), if_pos (by show arN op = 1; exact h)]; rfl
theorem nod2 (C : Cx) (op n wd : Int) (t u : Tm) (h : arN op = 2) : nodeT C (op, n, wd) [t, u] = binT op t u := by
  unfold nodeT; rw [if_neg (by show ¬ arN op = 0; omega), if_neg (by show ¬ arN op = 1; omega), if_pos (by show arN op = 2; exact h)]; rfl
theorem nod3 (C : Cx) (op n wd : Int) (t u v : Tm) (h : arN op = 3) : nodeT C (op, n, wd) [t, u, v] = choT t u v := by
  unfold nodeT; rw [if_neg (by show ¬ arN op = 0; omega), if_neg (by show ¬ arN op = 1; omega), if_neg (by show ¬ arN op = 2; omega)]; rfl
theorem un_sh (op n wd : Int) (t : Tm) (h : op = 6 ∨ op = 7) : (n < 0 → unT (op, n, wd) t = .error 9) ∧ (31 < n → unT (op, n, wd) t = .error 9) ∧ (0 ≤ n ∧ n ≤ 31 → rW (unT (op, n, wd) t) = t.1 ∧ rE (unT (op, n, wd) t) = 0) := by
  unfold unT
  dsimp only
  rw [if_neg (by omega), if_neg (by omega)]
  refine ⟨fun k => by rw [if_pos (.inl k)], fun k => by rw [if_pos (.inr k)], fun k => ?_⟩
  rw [if_neg (by omega)]
  split <;> exact ⟨rfl, rfl⟩
theorem arN_un (op : Int) (h : 5 ≤ op ∧ op ≤ 8) : arN op = 1 := by unfold arN; (repeat' split) <;> omega
theorem arN_bi (op : Int) (h : 9 ≤ op ∧ op ≤ 16) : arN op = 2 := by unfold arN; (repeat' split) <;> omega
theorem arN_17 : arN 17 = 3 := by decide
theorem bin_ne (op : Int) (t u : Tm) (h : op ≠ 14) (k : ¬ t.1 = u.1) : binT op t u = .error 10 := by unfold binT; rw [if_neg h, if_neg k]
theorem bin_eq (op : Int) (t u : Tm) (h : op ≠ 14) (k : t.1 = u.1) : binT op t u = .ok (combT op t u) := by unfold binT; rw [if_neg h, if_pos k]
theorem wcat_yes {a b : Int} (ha : 1 ≤ a ∧ a ≤ 32) (hb : 1 ≤ b ∧ b ≤ 32) (h : okW (a + b) = true) : catOk a b = true := by
  have q := (okW_iff _).1 h
  unfold catOk; simp; omega
theorem wcat_no {a b : Int} (h : okW (a + b) = false) : ¬ catOk a b = true := by
  intro k
  have q : ¬ (1 ≤ a + b ∧ a + b ≤ 32) := fun z => by rw [(okW_iff _).2 z] at h; cases h
  unfold catOk at k; simp at k; omega
theorem rop_any (w : World) (ad : Addr) (c_ : Nat) (C : Cx) (op n wd : Int) (ts : List Tm) (hb : arB op = true) (hl : ts.length = arN op) (hp : 0 < arN op) (hg : ∀ t ∈ ts, GT t) (hc : ∀ i, i < ts.length → w.cell? (ad.add i) = some (.int .i64 (ts.getD i tz).1)) :
    Calls Try.prog 157 #[.agg #[.int .i64 op, .int .i64 n, .int .i64 wd], .slice (some ad) ts.length c_] w (RetWE (nodeT C (op, n, wd) ts) w) := by
  have h17 : 1 ≤ op ∧ op ≤ 17 := of_decide_eq_true hb
  have h5 : 5 ≤ op := by
    rcases Int.lt_or_le op 5 with h | h
    · have : arN op = 0 := by unfold arN; (repeat' split) <;> omega
      omega
    · exact h
  rcases (show (5 ≤ op ∧ op ≤ 8) ∨ (9 ≤ op ∧ op ≤ 16) ∨ op = 17 by omega) with h | h | h
  · have e1 := arN_un op h
    rw [e1] at hl
    match ts, hl with
    | [t], _ =>
      have h0 : w.cell? (ad.add 0) = some (.int .i64 t.1) := hc 0 (by simp)
      have gt := hg t (by simp)
      rw [nod1 C op n wd t e1]
      rcases (show op = 5 ∨ op = 6 ∨ op = 7 ∨ op = 8 by omega) with rfl | rfl | rfl | rfl
      · exact wex rfl rfl (rop_not w ad c_ 5 n wd t.1 h0)
      · obtain ⟨k1, k2, k3⟩ := un_sh 6 n wd t (.inl rfl)
        rcases (show n < 0 ∨ 31 < n ∨ (0 ≤ n ∧ n ≤ 31) by omega) with k | k | k
        · rw [k1 k]; exact wex rfl rfl (rop_shn6 w ad c_ 6 n wd t.1 h0 k)
        · rw [k2 k]; exact wex rfl rfl (rop_shp6 w ad c_ 6 n wd t.1 h0 k)
        · exact wex (k3 k).1 (k3 k).2 (rop_sh6 w ad c_ 6 n wd t.1 h0 k)
      · obtain ⟨k1, k2, k3⟩ := un_sh 7 n wd t (.inr rfl)
        rcases (show n < 0 ∨ 31 < n ∨ (0 ≤ n ∧ n ≤ 31) by omega) with k | k | k
        · rw [k1 k]; exact wex rfl rfl (rop_shn7 w ad c_ 7 n wd t.1 h0 k)
        · rw [k2 k]; exact wex rfl rfl (rop_shp7 w ad c_ 7 n wd t.1 h0 k)
        · exact wex (k3 k).1 (k3 k).2 (rop_sh7 w ad c_ 7 n wd t.1 h0 k)
      · have e : unT (8, n, wd) t = sliceT t n wd := rfl
        rw [e]
        unfold sliceT
        rcases Int.lt_or_le n 0 with k | k
        · rw [if_pos k]; exact wex rfl rfl (rop_slneg w ad c_ 8 n wd t.1 h0 k)
        · rw [if_neg (by omega)]
          rcases Int.lt_or_le wd 1 with a | a
          · rw [if_neg (fun q => by have := (okW_iff _).1 q.1; omega)]; exact wex rfl rfl (rop_sl1 w ad c_ 8 n wd t.1 h0 k a)
          · rcases Int.lt_or_le 32 wd with b | b
            · rw [if_neg (fun q => by have := (okW_iff _).1 q.1; omega)]; exact wex rfl rfl (rop_sl2 w ad c_ 8 n wd t.1 h0 k b)
            · rcases Int.lt_or_le (t.1 - wd) n with d | d
              · rw [if_neg (fun q => by have := q.2; omega)]; exact wex rfl rfl (rop_sl3 w ad c_ 8 n wd t.1 h0 k ⟨a, b⟩ gt.1 d)
              · rw [if_pos ⟨(okW_iff _).2 ⟨a, b⟩, d⟩]; exact wex rfl rfl (rop_sl4 w ad c_ 8 n wd t.1 h0 k ⟨a, b⟩ gt.1 d)
  · have e1 := arN_bi op h
    rw [e1] at hl
    match ts, hl with
    | [t, u], _ =>
      have h0 : w.cell? (ad.add 0) = some (.int .i64 t.1) := hc 0 (by simp)
      have h1 : w.cell? (ad.add 1) = some (.int .i64 u.1) := hc 1 (by simp)
      have gt := hg t (by simp)
      have gu := hg u (by simp)
      rw [nod2 C op n wd t u e1]
      rcases (show op = 9 ∨ op = 10 ∨ op = 11 ∨ op = 12 ∨ op = 13 ∨ op = 14 ∨ op = 15 ∨ op = 16 by omega) with rfl | rfl | rfl | rfl | rfl | rfl | rfl | rfl
      · by_cases hk : t.1 = u.1
        · rw [bin_eq 9 t u (by decide) hk]; exact wex rfl rfl (rop_y9 w ad c_ 9 n wd t.1 u.1 h0 h1 hk)
        · rw [bin_ne 9 t u (by decide) hk]; exact wex rfl rfl (rop_n9 w ad c_ 9 n wd t.1 u.1 h0 h1 hk)
      · by_cases hk : t.1 = u.1
        · rw [bin_eq 10 t u (by decide) hk]; exact wex rfl rfl (rop_y10 w ad c_ 10 n wd t.1 u.1 h0 h1 hk)
        · rw [bin_ne 10 t u (by decide) hk]; exact wex rfl rfl (rop_n10 w ad c_ 10 n wd t.1 u.1 h0 h1 hk)
      · by_cases hk : t.1 = u.1
        · rw [bin_eq 11 t u (by decide) hk]; exact wex rfl rfl (rop_y11 w ad c_ 11 n wd t.1 u.1 h0 h1 hk)
        · rw [bin_ne 11 t u (by decide) hk]; exact wex rfl rfl (rop_n11 w ad c_ 11 n wd t.1 u.1 h0 h1 hk)
      · by_cases hk : t.1 = u.1
        · rw [bin_eq 12 t u (by decide) hk]; exact wex rfl rfl (rop_y12 w ad c_ 12 n wd t.1 u.1 h0 h1 hk)
        · rw [bin_ne 12 t u (by decide) hk]; exact wex rfl rfl (rop_n12 w ad c_ 12 n wd t.1 u.1 h0 h1 hk)
      · by_cases hk : t.1 = u.1
        · rw [bin_eq 13 t u (by decide) hk]; exact wex rfl rfl (rop_y13 w ad c_ 13 n wd t.1 u.1 h0 h1 hk)
        · rw [bin_ne 13 t u (by decide) hk]; exact wex rfl rfl (rop_n13 w ad c_ 13 n wd t.1 u.1 h0 h1 hk)
      · have e : binT 14 t u = concT t u := rfl
        rw [e]
        unfold concT
        cases hk : okW (t.1 + u.1) with
        | true => rw [if_pos (show catOk t.1 u.1 = true from wcat_yes gt.1 gu.1 hk)]; exact wex rfl rfl (rop_cat1 w ad c_ 14 n wd t.1 u.1 h0 h1 gt.1 gu.1 hk)
        | false => rw [if_neg (show ¬ catOk t.1 u.1 = true from wcat_no hk)]; exact wex rfl rfl (rop_cat0 w ad c_ 14 n wd t.1 u.1 h0 h1 gt.1 gu.1 hk)
      · by_cases hk : t.1 = u.1
        · rw [bin_eq 15 t u (by decide) hk]; exact wex rfl rfl (rop_y15 w ad c_ 15 n wd t.1 u.1 h0 h1 hk)
        · rw [bin_ne 15 t u (by decide) hk]; exact wex rfl rfl (rop_n15 w ad c_ 15 n wd t.1 u.1 h0 h1 hk)
      · by_cases hk : t.1 = u.1
        · rw [bin_eq 16 t u (by decide) hk]; exact wex rfl rfl (rop_y16 w ad c_ 16 n wd t.1 u.1 h0 h1 hk)
        · rw [bin_ne 16 t u (by decide) hk]; exact wex rfl rfl (rop_n16 w ad c_ 16 n wd t.1 u.1 h0 h1 hk)
  · subst h
    rw [arN_17] at hl
    match ts, hl with
    | [t, u, v], _ =>
      have h0 : w.cell? (ad.add 0) = some (.int .i64 t.1) := hc 0 (by simp)
      have h1 : w.cell? (ad.add 1) = some (.int .i64 u.1) := hc 1 (by simp)
      have h2 : w.cell? (ad.add 2) = some (.int .i64 v.1) := hc 2 (by simp)
      rw [nod3 C 17 n wd t u v arN_17]
      unfold choT
      by_cases ka : t.1 = 1
      · by_cases kb : u.1 = v.1
        · rw [if_pos ⟨ka, kb⟩]
          split
          · exact wex rfl rfl (rop_if3 w ad c_ 17 n wd t.1 u.1 v.1 h0 h1 h2 ka kb)
          · exact wex kb.symm rfl (rop_if3 w ad c_ 17 n wd t.1 u.1 v.1 h0 h1 h2 ka kb)
        · rw [if_neg (fun q => kb q.2)]; exact wex rfl rfl (rop_if2 w ad c_ 17 n wd t.1 u.1 v.1 h0 h1 h2 ka kb)
      · rw [if_neg (fun q => ka q.1)]; exact wex rfl rfl (rop_if1 w ad c_ 17 n wd t.1 u.1 v.1 h0 h1 h2 ka)
end Go.Proofs.Ytdbjeihbfooipaa
