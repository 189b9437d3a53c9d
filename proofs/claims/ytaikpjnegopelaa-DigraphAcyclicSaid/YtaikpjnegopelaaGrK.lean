/- The walk of the reference's LongestPath. -/
import Derived.Test.YtaikpjnegopelaaGrJ
import Derived.Test.YtaikpjnegopelaaDgU
namespace Go.Proofs.Ytaikpjnegopelaa
open Go.RowKit
set_option linter.unusedVariables false

theorem lvIn_small (g : List (List Int)) (x : Nat) (o : List Int) (B : Int) (h : ∀ j, o.getD j 0 ≤ B) (v : Nat) : (∀ j, j ≠ x → (lvIn g x o v).getD j 0 ≤ B) ∧ (lvIn g x o v).getD x 0 ≤ B + 1 + (if x < v then 1 else 0) := by
  induction v with
  | zero =>
    refine ⟨fun j _ => h j, ?_⟩
    have := h x
    show o.getD x 0 ≤ B + 1 + (if x < 0 then 1 else 0)
    rw [if_neg (Nat.not_lt_zero _)]
    omega
  | succ v ih =>
    obtain ⟨i1, i2⟩ := ih
    unfold lvIn
    split
    · refine ⟨fun j hj => ?_, ?_⟩
      · rw [getD_set, if_neg (fun k => hj k.1.symm)]; exact i1 j hj
      · rw [getD_set]
        by_cases e : v = x
        · subst e
          simp at i2 ⊢
          split <;> omega
        · have := i1 v e
          by_cases q : x < v
          · rw [if_pos q] at i2; rw [if_pos (show x < v + 1 by omega)]
            split <;> omega
          · rw [if_neg q] at i2; rw [if_neg (show ¬ x < v + 1 by omega)]
            split <;> omega
    · refine ⟨i1, ?_⟩
      by_cases q : x < v
      · rw [if_pos q] at i2; rw [if_pos (show x < v + 1 by omega)]; exact i2
      · rw [if_neg q] at i2; split <;> omega
theorem lvL_small (g : List (List Int)) (L : List Int) (i : Nat) : ∀ j, (lvL g L i).getD j 0 ≤ 2 * (i : Int) := by
  induction i with
  | zero => intro j; have := lvL_range g L 0 j; simp at this ⊢; omega
  | succ i ih =>
    intro j
    unfold lvL
    obtain ⟨h1, h2⟩ := lvIn_small g (L.getD i 0).toNat (lvL g L i) _ ih g.length
    by_cases e : j = (L.getD i 0).toNat
    · subst e; split at h2 <;> omega
    · have := h1 j e; omega
def argF (d : List Int) : Nat → Nat → Nat → Nat
  | 0, v, m => m
  | f + 1, v, m => argF d f (v + 1) (if d.getD m 0 < d.getD v 0 then v else m)
theorem argF_lt (d : List Int) (n f : Nat) : ∀ v m, v + f ≤ n → m < n → argF d f v m < n := by
  induction f with
  | zero => intro v m _ h; exact h
  | succ f ih =>
    intro v m h1 h2
    unfold argF
    refine ih (v + 1) _ (by omega) ?_
    split <;> omega
/-- The longest path as the reference gives it. -/
def longG (g : List (List Int)) : List Int :=
  if (topG (revG g)).isSome = true ∧ 0 < g.length then des g (levG (revG g)) (argF (levG (revG g)) (g.length - 1) 1 0) else []
theorem levG_len (g : List (List Int)) (h : (topG g).isSome = true) : (levG g).length = g.length := by
  unfold levG
  split
  · rename_i e; rw [e] at h; simp at h
  · exact lvL_len _ _ _
theorem levG_range (g : List (List Int)) (j : Nat) : 0 ≤ (levG g).getD j 0 ∧ (levG g).getD j 0 ≤ 2 * (g.length : Int) := by
  unfold levG
  split
  · simp <;> omega
  · rename_i L e
    have h1 := lvL_range g L L.length j
    have h2 := lvL_small g L L.length j
    have h3 := (topG_mem g L e).1
    exact ⟨h1.1, by omega⟩

set_option maxRecDepth 100000 in
set_option maxHeartbeats 2000000 in
theorem rlong_any (w : World) (a : Option Addr) (n c : Nat) (g : List (List Int)) (h : SlG w a n c g) (hn : n ≤ 100000) :
    Calls Try.prog 25 #[.slice a n c] w (RetNB w.heap.size (longG g) (topG (revG g)).isSome w) := by
  have HH := Lib.hid h
  have hl := h.1
  subst hl
  clear h
  obtain ⟨ok, hok⟩ : ∃ ok, ok = (topG (revG g)).isSome := ⟨_, rfl⟩
  have HOK := Lib.hid hok.symm
  rw [← hok]
  clear hok
  go_enter Try.func25, Try.ntmps25
  go_wp2_with fail
  refine (rrev_any _ _ _ _ g HH.out hn).mono ?_
  rintro e w1 ⟨b0, hb0, rfl, q1, q2⟩
  have R1 := Lib.hid q1
  have G1 := Lib.hid q2
  have hs1 := q2.size
  clear q1 q2 hb0
  go_wp2_with fail
  refine (rlev_any _ _ _ _ (revG g) R1.out hn).mono ?_
  rintro e w2 ⟨V, rfl, q1, q2⟩
  rw [HOK.out]
  have hs2 := q2.size
  obtain ⟨A, C, rfl⟩ := q1.shape
  have HL := Lib.hid (NL.slr q1 rfl)
  have G2 := Lib.hid (gb_trans G1.out q2)
  have HH2 := Lib.hid (HH.out.keep0 G2.out)
  clear q1 q2 G1 R1
  cases ok with
  | false =>
    have HE := Lib.hid (show longG g = [] by unfold longG; rw [HOK.out]; simp)
    obtain ⟨m, hm⟩ : ∃ m, m = (levG (revG g)).length := ⟨_, rfl⟩
    rw [← hm]
    clear hm
    go_wp2
    go_ret2
    exact ⟨_, rfl, by rw [HE.out]; exact NL.nil _ _, G2.out⟩
  | true =>
    have hlen := (levG_len (revG g) HOK.out).trans (revG_len g)
    rw [hlen] at HL ⊢
    have HLN := Lib.hid hlen
    clear hlen
    by_cases h0 : g.length = 0
    · have HE := Lib.hid (show longG g = [] by unfold longG; rw [if_neg (by omega)])
      have h0' : ((g.length : Nat) : Int) = 0 := by omega
      go_wp2
      go_ret2
      exact ⟨_, rfl, by rw [HE.out]; exact NL.nil _ _, G2.out⟩
    · have HE := Lib.hid (show longG g = des g (levG (revG g)) (argF (levG (revG g)) (g.length - 1) 1 0) by unfold longG; rw [HOK.out, if_pos ⟨rfl, by omega⟩])
      have HR := Lib.hid (fun j => levG_range (revG g) j)
      have HRL := Lib.hid (revG_len g)
      have hb0 : (((g.length : Nat) : Int) == 0) = false := by rw [beq_eq_false_iff_ne]; omega
      cases A with
      | none => exact absurd (HL.out.2.1 rfl).1 (by omega)
      | some ad =>
        obtain ⟨d, hd⟩ : ∃ d, d = levG (revG g) := ⟨_, rfl⟩
        rw [← hd] at HL HLN HE HR
        obtain ⟨M, hM⟩ : ∃ M, M = argF d (g.length - 1) 1 0 := ⟨_, rfl⟩
        have HM := Lib.hid hM.symm
        have hMn : M < g.length := by rw [hM]; exact argF_lt d g.length _ _ _ (by omega) (by omega)
        rw [← hM] at HE
        clear hd hM
        go_wp2
        go_loopw [6, 7] (fun fr i wr => ∃ (v m f : Nat), v + f = g.length ∧ 1 ≤ v ∧ m < g.length ∧ i = .int .i64 v ∧ fr = .int .i64 m ∧ argF d f v m = M ∧ ∃ q, wr = w2.drewN q) (fun _ i _ => g.length - (intOf i).toNat)
        case atStart => exact ⟨1, 0, g.length - 1, by omega, Nat.le_refl _, by omega, rfl, rfl, HM.out, dn_zero _⟩
        case round =>
          obtain ⟨v, m, f, hv, hv1, hm, rfl, rfl, hf, hq⟩ := hrel
          have HQ := Lib.hid hq
          have HL3 := Lib.hid (HL.out.keep0 (dn_gb hq none))
          have HH3 := Lib.hid (HH2.out.keep0 (dn_gb hq none))
          have HF := Lib.hid hf
          clear hq hf
          by_cases hvt : v < g.length
          · obtain ⟨f, rfl⟩ : ∃ f2, f = f2 + 1 := ⟨f - 1, by omega⟩
            have i1 : (v : Int) < g.length := by omega
            have i2 : (m : Int) < g.length := by omega
            have c1 := HL3.out.cellAt v (by rw [HLN.out]; exact hvt)
            have c2 := HL3.out.cellAt m (by rw [HLN.out]; exact hm)
            have hff := HF.out
            rw [argF] at hff
            by_cases hlt : d.getD m 0 < d.getD v 0
            · rw [if_pos hlt] at hff
              have HX := Lib.hid hff
              clear hff
              generalize d.getD v 0 = z1 at *
              generalize d.getD m 0 = z2 at *
              go_wp2
              go_quiet (fail)
              go_wp2
              go_roundw
              case rel => exact ⟨v + 1, v, f, by omega, by omega, hvt, by go_num, rfl, HX.out, dn_more HQ.out _⟩
              case measure => simp [intOf]; omega
            · rw [if_neg hlt] at hff
              have HX := Lib.hid hff
              have hlt2 : decide (d.getD m 0 < d.getD v 0) = false := decide_eq_false hlt
              clear hff
              generalize d.getD v 0 = z1 at *
              generalize d.getD m 0 = z2 at *
              go_wp2
              go_quiet (fail)
              go_wp2
              go_roundw
              case rel => exact ⟨v + 1, m, f, by omega, by omega, hm, by go_num, rfl, HX.out, dn_more HQ.out _⟩
              case measure => simp [intOf]; omega
          · have hf0 : f = 0 := by omega
            subst hf0
            have hmM : m = M := HF.out
            subst hmM
            have i1 : ¬ (v : Int) < g.length := by omega
            have HB := Lib.hid (show d.getD m 0 ≤ 400000 ∧ -9223372036854775808 ≤ d.getD m 0 by have := HR.out m; have := HRL.out; omega)
            go_wp2_with fail
            refine (rdes_any _ _ _ _ _ _ _ g d m HH3.out HL3.out hn hm rfl HB.out.1 HB.out.2).mono ?_
            rintro e w5 ⟨V3, rfl, q1, q2⟩
            obtain ⟨b3, d3, rfl⟩ := q1.shape
            have N3 := Lib.hid q1
            have G3 := Lib.hid (gb_trans G2.out (gb_trans (dn_gb HQ.out none) q2))
            have hs3 := (gb_trans G2.out (dn_gb HQ.out none)).size
            clear q1 q2
            go_wp2
            go_ret2
            exact ⟨_, rfl, by rw [HE.out]; exact own_low N3.out hs3, G3.out⟩
end Go.Proofs.Ytaikpjnegopelaa
