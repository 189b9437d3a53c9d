/- Table: what a valid table keeps; no condition. -/
import Derived.Test.YtaiemcpkiegdiaaTbU
namespace Go.Proofs.Ytaiemcpkiegdiaa
open Go.RowKit
set_option linter.unusedVariables false
theorem okT_iff (P : Pg) (t : Int) : okT P t = true ↔ (chkT P t).2 = 0 := by simp [okT]
theorem bad_tab {P : Pg} {t : Int} (h : ¬ okT P t = true) : kindT P t = 0 ∧ tabV P t = tbz := ⟨by unfold kindT; rw [if_neg h], by unfold tabV; rw [if_neg h]⟩
theorem keys_good {P : Pg} {ks : List TKy} (h : (keysR P.H P.M ks).2 = 0) : (∀ j, j < ks.length → keyE P.H P.M (ks.getD j tkz) = 0) ∧ keysE P.H P.M ks = 0 := by
  unfold keysR at h
  split at h
  · rename_i j e
    unfold fstE at e
    have k := List.find?_some e
    exact absurd h (by simpa using k)
  · rename_i e
    unfold fstE at e
    refine ⟨fun j hj => ?_, ?_⟩
    · have k := List.find?_eq_none.1 e j (List.mem_range.2 hj)
      simpa using k
    · split at h
      · assumption
      · exact h
theorem wid_good {H : List (ByteArray × List Fld)} {M : List Fld} {x : TKy} (h : keyE H M x = 0) : 1 ≤ widE H M x.h x.f ∧ widE H M x.h x.f ≤ 32 := by
  have r := wid_le H M x.h x.f
  unfold keyE at h
  split at h
  · cases h
  · omega
theorem ws_good {P : Pg} {t : Int} (h : okT P t = true) : (∀ j, j < (tabV P t).ks.length → 1 ≤ (wsT P.H P.M (tabV P t).ks).getD j 0 ∧ (wsT P.H P.M (tabV P t).ks).getD j 0 ≤ 32) ∧ sumI (wsT P.H P.M (tabV P t).ks) ≤ 64 := by
  obtain ⟨k1, k2⟩ := keys_good (ok_tab h).2.1
  refine ⟨fun j hj => ?_, ?_⟩
  · rw [ws_at P.H P.M _ j hj]
    exact wid_good (k1 j hj)
  · unfold keysE at k2
    split at k2
    · cases k2
    · split at k2
      · cases k2
      · omega
theorem da_good {P : Pg} {t : Int} (h : okT P t = true) : (tabV P t).da ∈ (tabV P t).acs := by
  have a := (ok_tab h).2.2
  have z := acts_zero (P := P) t
  unfold actionsE at a
  rw [if_pos z] at a
  split at a
  · assumption
  · cases a
theorem shr_one (x w : Int) (h : 1 ≤ w ∧ w ≤ 32) : redB x w / 2 ^ (w - 1).toNat ≤ 1 ∧ 0 ≤ redB x w / 2 ^ (w - 1).toNat := by
  have r := redB_lt x w h
  have p := Int.pow_pos (n := 2) (m := (w - 1).toNat) (by decide)
  have e : (2 : Int) ^ w.toNat = 2 ^ (w - 1).toNat * 2 := by rw [← Int.pow_succ]; congr 1; omega
  rw [e] at r
  refine ⟨?_, Int.ediv_nonneg r.1 (Int.le_of_lt p)⟩
  have k : redB x w / 2 ^ (w - 1).toNat < 2 := Int.ediv_lt_of_lt_mul p (by rw [Int.mul_comm]; exact r.2)
  omega
theorem key_shr {w : World} {fa ta : Option Addr} {fn fc tn tc : Nat} {P : Pg} {V : List Bool} {F : List (List Int)} {T : List Int} (hF : SR w fa fn fc F) (hT : SU w ta tn tc T) {t : Int} (h : okT P t = true) (j : Nat) (hj : j < (tabV P t).ks.length) :
    (keyV P.H P.M V F T (tabV P t).ks).getD j 0 / 2 ^ ((wsT P.H P.M (tabV P t).ks).getD j 0 - 1).toNat ≤ 1 := by
  have g := (ws_good h).1 j hj
  have r := get_rng (V := V) hF hT ((tabV P t).ks.getD j tkz).h ((tabV P t).ks.getD j tkz).f
  rw [keyV_at P.H P.M V F T _ j hj, and_mask _ _ r.1 r.2]
  rw [ws_at P.H P.M _ j hj] at g ⊢
  exact (shr_one _ _ g).1
theorem mem_snoc (l : List Int) (a : Int) (j : Nat) (h : j < l.length) : decide (a ∈ l.take (j + 1)) = (decide (a ∈ l.take j) || (l.getD j 0 == a)) := by
  have e0 : l.take (j + 1) = l.take j ++ [l.getD j 0] := by rw [List.take_add_one, List.getElem?_eq_getElem h, List.getD_eq_getElem?_getD, List.getElem?_eq_getElem h]; rfl
  rw [e0]
  generalize l.getD j 0 = x
  rw [Bool.eq_iff_iff]
  simp only [decide_eq_true_eq, List.mem_append, List.mem_singleton, Bool.or_eq_true, beq_iff_eq]
  exact ⟨fun h => h.imp id Eq.symm, fun h => h.imp id Eq.symm⟩
end Go.Proofs.Ytaiemcpkiegdiaa
