/- Records and checksums as lists of bytes: what the walks' answers have to do with each other; no walk. -/
import Derived.Test.YtplhhjbmegaiiaaChE
namespace Go.Proofs.Ytplhhjbmegaiiaa
open Go.RowKit
set_option linter.unusedVariables false

theorem unf_gen {bs : List Int} (N : Nat) (hN : num4 bs 0 = N) (h8 : 8 + N ≤ bs.length) :
    unfR bs = if num4 bs (N + 4) = fnv (bs.take (N + 4)) then (0, (bs.drop 4).take N, (N : Int) + 8) else (24, [], 0) := by
  unfold unfR
  rw [if_neg (by omega), hN, if_neg (by omega), Int.toNat_natCast]
theorem frm_len (b : List Int) : (frm b).length = b.length + 8 := by simp [frm, be4]
theorem frm_range {b : List Int} (hb : ∀ x ∈ b, 0 ≤ x ∧ x ≤ 255) : ∀ x ∈ frm b, 0 ≤ x ∧ x ≤ 255 :=
  app_range (app_range (be4_range _) hb) (be4_range _)
theorem unf_frm {b : List Int} (rest : List Int) (hl : b.length ≤ 100000) : unfR (frm b ++ rest) = (0, b, (b.length : Int) + 8) := by
  have h0 : num4 (frm b ++ rest) 0 = (b.length : Nat) := by
    have k := num_be4 b.length (by omega) (by omega) [] (b ++ be4 (fnv (be4 b.length ++ b)) ++ rest)
    simpa [frm] using k
  have hr := fnv_range (be4 b.length ++ b)
  have h1 : num4 (frm b ++ rest) (b.length + 4) = fnv (be4 b.length ++ b) := by
    have k := num_be4 (fnv (be4 b.length ++ b)) hr.1 hr.2 (be4 b.length ++ b) rest
    rw [show (be4 b.length ++ b).length = b.length + 4 by simp [be4]] at k
    exact k
  have h2 : (frm b ++ rest).take (b.length + 4) = be4 b.length ++ b := by
    rw [frm, List.append_assoc, List.take_append_of_le_length (by simp [be4])]
    rw [List.take_of_length_le (by simp [be4])]
  rw [unf_gen b.length h0 (by simp [frm_len]; omega), h1, h2, if_pos rfl]
  have h3 : ((frm b ++ rest).drop 4).take b.length = b := by
    have e : (frm b ++ rest).drop 4 = b ++ (be4 (fnv (be4 b.length ++ b)) ++ rest) := by simp [frm, be4]
    rw [e]
    simp
  rw [h3]
theorem unf_short {bs : List Int} (hb : ∀ x ∈ bs, 0 ≤ x ∧ x ≤ 255) (h : (unfR bs).1 ≠ 0) : (unfR bs).2 = ([], 0) := by
  unfold unfR at h ⊢
  split
  · rfl
  · split
    · rfl
    · split
      · rename_i h1 h2 h3
        rw [if_neg h1, if_neg h2, if_pos h3] at h
        exact absurd rfl h
      · rfl
theorem unf_back {bs : List Int} (hb : ∀ x ∈ bs, 0 ≤ x ∧ x ≤ 255) (h : (unfR bs).1 = 0) :
    ∃ N : Nat, (unfR bs).2.2 = (N : Int) + 8 ∧ N + 8 ≤ bs.length ∧ frm (unfR bs).2.1 = bs.take (N + 8) ∧ (unfR bs).2.1.length = N ∧ (∀ x ∈ (unfR bs).2.1, 0 ≤ x ∧ x ≤ 255) := by
  by_cases h8 : bs.length < 8
  · unfold unfR at h; rw [if_pos h8] at h; cases h
  · have hr := num4_range hb 0
    obtain ⟨N, hN⟩ : ∃ N : Nat, num4 bs 0 = N := ⟨(num4 bs 0).toNat, by omega⟩
    by_cases hs : (bs.length : Int) - 8 < N
    · unfold unfR at h; rw [if_neg h8, hN, if_pos hs] at h; cases h
    · have e := unf_gen N hN (by omega)
      rw [e] at h ⊢
      by_cases hc : num4 bs (N + 4) = fnv (bs.take (N + 4))
      · rw [if_pos hc]
        refine ⟨N, rfl, by omega, ?_, by simp; omega, fun x hx => hb x (List.mem_of_mem_drop (List.mem_of_mem_take hx))⟩
        have hl : ((bs.drop 4).take N).length = N := by simp; omega
        have e4 : be4 (N : Int) ++ (bs.drop 4).take N = bs.take (N + 4) := by
          have k := be4_num hb 0 (by omega)
          rw [hN, List.drop_zero] at k
          rw [← k, Nat.add_comm N 4, List.take_add]
        show (be4 (((bs.drop 4).take N).length : Int) ++ (bs.drop 4).take N) ++ be4 (fnv (be4 (((bs.drop 4).take N).length : Int) ++ (bs.drop 4).take N)) = bs.take (N + 8)
        rw [hl, e4, ← hc, ← be4_num hb (N + 4) (by omega), show N + 8 = (N + 4) + 4 by omega, List.take_add (l := bs) (i := N + 4)]
      · rw [if_neg hc] at h; cases h

theorem fxor_inj_r {h b c : Int} (b0 : 0 ≤ b) (c0 : 0 ≤ c) (e : fxor h b = fxor h c) : b = c := by
  have e1 : h.toNat ^^^ b.toNat = h.toNat ^^^ c.toNat := by unfold fxor at e; exact Int.ofNat.inj e
  have e2 : b.toNat = c.toNat := by
    have k := congrArg (fun x => h.toNat ^^^ x) e1
    simpa [← Nat.xor_assoc] using k
  omega
theorem fxor_inj_l {h g b : Int} (h0 : 0 ≤ h) (g0 : 0 ≤ g) (e : fxor h b = fxor g b) : h = g := by
  have e1 : h.toNat ^^^ b.toNat = g.toNat ^^^ b.toNat := by unfold fxor at e; exact Int.ofNat.inj e
  have e2 : h.toNat = g.toNat := by
    have k := congrArg (fun x => x ^^^ b.toNat) e1
    simpa [Nat.xor_assoc] using k
  omega
theorem mul_back (y : Int) (y0 : 0 ≤ y) (y1 : y < 4294967296) : (y * 16777619 % 4294967296) * 899433627 % 4294967296 = y := by
  rw [Int.mul_emod (y * 16777619 % 4294967296) 899433627 4294967296, Int.emod_emod, ← Int.mul_emod, Int.mul_assoc, show (16777619 : Int) * 899433627 = 1 + 4294967296 * 3513497 by decide, Int.mul_add, Int.mul_one, Int.mul_left_comm, Int.add_mul_emod_self_left]
  exact Int.emod_eq_of_lt y0 y1
theorem mul_inj (y z : Int) (y0 : 0 ≤ y) (y1 : y < 4294967296) (z0 : 0 ≤ z) (z1 : z < 4294967296) (e : y * 16777619 % 4294967296 = z * 16777619 % 4294967296) : y = z := by
  rw [← mul_back y y0 y1, e, mul_back z z0 z1]
theorem fnvS_inj_l {h g b : Int} (h0 : 0 ≤ h) (h1 : h < 4294967296) (g0 : 0 ≤ g) (g1 : g < 4294967296) (b0 : 0 ≤ b) (b1 : b ≤ 255) (e : fnvS h b = fnvS g b) : h = g := by
  have k1 := fxor_range h b h0 h1 b0 (by omega)
  have k2 := fxor_range g b g0 g1 b0 (by omega)
  exact fxor_inj_l h0 g0 (mul_inj _ _ k1.1 k1.2 k2.1 k2.2 e)
theorem fnvS_inj_r {h b c : Int} (h0 : 0 ≤ h) (h1 : h < 4294967296) (b0 : 0 ≤ b) (b1 : b ≤ 255) (c0 : 0 ≤ c) (c1 : c ≤ 255) (e : fnvS h b = fnvS h c) : b = c := by
  have k1 := fxor_range h b h0 h1 b0 (by omega)
  have k2 := fxor_range h c h0 h1 c0 (by omega)
  exact fxor_inj_r b0 c0 (mul_inj _ _ k1.1 k1.2 k2.1 k2.2 e)
theorem fnvG_inj (bs : List Int) (hb : ∀ x ∈ bs, 0 ≤ x ∧ x ≤ 255) (h g : Int) (h0 : 0 ≤ h) (h1 : h < 4294967296) (g0 : 0 ≤ g) (g1 : g < 4294967296) (e : fnvG h bs = fnvG g bs) : h = g := by
  induction bs generalizing h g with
  | nil => exact e
  | cons b t ih =>
    have k := hb b (by simp)
    have e2 := ih (fun x hx => hb x (by simp [hx])) (fnvS h b) (fnvS g b) (fnvS_range _ _).1 (fnvS_range _ _).2 (fnvS_range _ _).1 (fnvS_range _ _).2 e
    exact fnvS_inj_l h0 h1 g0 g1 k.1 k.2 e2
theorem fnvG_app (h : Int) (A B : List Int) : fnvG h (A ++ B) = fnvG (fnvG h A) B := by simp [fnvG]
theorem fnv_set (L : List Int) (hb : ∀ x ∈ L, 0 ≤ x ∧ x ≤ 255) (p : Nat) (hp : p < L.length) (v : Int) (v0 : 0 ≤ v) (v1 : v ≤ 255) (e : fnv (L.set p v) = fnv L) : v = L.getD p 0 := by
  have hx := hb L[p] (List.getElem_mem hp)
  have e1 : L = L.take p ++ ([L[p]] ++ L.drop (p + 1)) := by
    have k := List.take_append_drop p L
    rw [List.drop_eq_getElem_cons hp] at k
    exact k.symm
  have e2 : L.set p v = L.take p ++ ([v] ++ L.drop (p + 1)) := by
    rw [List.set_eq_take_append_cons_drop, if_pos hp]; rfl
  have k1 : fnv L = fnvG (fnvS (fnvG 2166136261 (L.take p)) L[p]) (L.drop (p + 1)) := by
    conv => lhs; rw [e1]
    unfold fnv
    rw [fnvG_app, fnvG_app]; rfl
  have k2 : fnv (L.set p v) = fnvG (fnvS (fnvG 2166136261 (L.take p)) v) (L.drop (p + 1)) := by
    rw [e2]
    unfold fnv
    rw [fnvG_app, fnvG_app]; rfl
  rw [k1, k2] at e
  have r := fnvG_range (L.take p) 2166136261 (by decide) (by decide)
  have e3 := fnvG_inj _ (fun x hx => hb x (List.mem_of_mem_drop hx)) _ _ (fnvS_range _ _).1 (fnvS_range _ _).2 (fnvS_range _ _).1 (fnvS_range _ _).2 e
  have e4 := fnvS_inj_r r.1 r.2 v0 v1 hx.1 hx.2 e3
  simp [hp, e4]
theorem set_range {L : List Int} (hb : ∀ x ∈ L, 0 ≤ x ∧ x ≤ 255) (p : Nat) (v : Int) (v0 : 0 ≤ v) (v1 : v ≤ 255) : ∀ x ∈ L.set p v, 0 ≤ x ∧ x ≤ 255 := by
  intro x hx
  rcases List.mem_or_eq_of_mem_set hx with h | h
  · exact hb x h
  · omega
theorem getD_set_ne (L : List Int) (p q : Nat) (v : Int) (h : p ≠ q) : (L.set p v).getD q 0 = L.getD q 0 := by simp [h]
theorem unf_spoilt {b : List Int} (hb : ∀ x ∈ b, 0 ≤ x ∧ x ≤ 255) (hl : b.length ≤ 100000) (p : Nat) (h4 : 4 ≤ p) (hp : p < b.length + 8) (v : Int) (v0 : 0 ≤ v) (v1 : v ≤ 255) (hv : v ≠ (frm b).getD p 0) :
    unfR ((frm b).set p v) = (24, [], 0) := by
  have hf := frm_range hb
  have hr := fnv_range (be4 b.length ++ b)
  have hlen := frm_len b
  have hs := set_range hf p v v0 v1
  have h0 : num4 ((frm b).set p v) 0 = (b.length : Nat) := by
    have k := num_be4 b.length (by omega) (by omega) [] (b ++ be4 (fnv (be4 b.length ++ b)))
    have k2 : num4 (frm b) 0 = b.length := by simpa [frm] using k
    rw [← k2]
    unfold num4
    rw [getD_set_ne _ _ _ _ (by omega), getD_set_ne _ _ _ _ (by omega), getD_set_ne _ _ _ _ (by omega), getD_set_ne _ _ _ _ (by omega)]
  rw [unf_gen b.length h0 (by simp [hlen]; omega), if_neg]
  have hn : num4 (frm b) (b.length + 4) = fnv (be4 b.length ++ b) := by
    have k := num_be4 (fnv (be4 b.length ++ b)) hr.1 hr.2 (be4 b.length ++ b) []
    rw [show (be4 b.length ++ b).length = b.length + 4 by simp [be4]] at k
    simpa [frm] using k
  have ht : (frm b).take (b.length + 4) = be4 b.length ++ b := by
    rw [frm, List.take_append_of_le_length (by simp [be4]), List.take_of_length_le (by simp [be4])]
  intro e
  by_cases hc : p < b.length + 4
  · have e1 : num4 ((frm b).set p v) (b.length + 4) = num4 (frm b) (b.length + 4) := by
      unfold num4
      rw [getD_set_ne _ _ _ _ (by omega), getD_set_ne _ _ _ _ (by omega), getD_set_ne _ _ _ _ (by omega), getD_set_ne _ _ _ _ (by omega)]
    rw [e1, hn, List.take_set, ht] at e
    have k := fnv_set (be4 b.length ++ b) (app_range (be4_range _) hb) p (by simp [be4]; omega) v v0 v1 e.symm
    apply hv
    have e5 : (frm b).getD p 0 = (be4 b.length ++ b).getD p 0 := by
      unfold frm
      simp only [List.getD_eq_getElem?_getD]
      rw [List.getElem?_append_left (l₁ := be4 b.length ++ b) (by simp [be4]; omega)]
    rw [e5]
    exact k
  · rw [List.take_set_of_le (by omega), ht, ← hn] at e
    have k1 := be4_num hs (b.length + 4) (by simp [hlen])
    have k2 := be4_num hf (b.length + 4) (by omega)
    rw [e, ← k2] at k1
    have k3 := congrArg (fun l : List Int => l.getD (p - (b.length + 4)) 0) k1
    apply hv
    have z : p - (b.length + 4) < 4 := by omega
    have z2 : b.length + 4 + (p - (b.length + 4)) = p := by omega
    simpa [z, z2, hlen, hp] using k3

theorem wsum_app (A B : List Int) (k : Nat) (h : k ≤ A.length) : wsum (A ++ B) k = wsum A k := by
  induction k with
  | zero => rfl
  | succ k ih =>
    simp only [wsum]
    rw [ih (by omega)]
    have e : (A ++ B).getD k 0 = A.getD k 0 := by
      simp only [List.getD_eq_getElem?_getD]
      rw [List.getElem?_append_left (by omega)]
    rw [e]
theorem inet_cancels {bs : List Int} (hb : ∀ x ∈ bs, 0 ≤ x ∧ x ≤ 255) (he : bs.length % 2 = 0) : inet (bs ++ [inet bs / 256, inet bs % 256]) = 0 := by
  have hw := wsum_range hb bs.length
  have hc : inet bs = 65535 - fold16 (wsum bs bs.length) := rfl
  have e : wsum (bs ++ [inet bs / 256, inet bs % 256]) (bs.length + 1 + 1) = wsum bs bs.length + inet bs := by
    simp only [wsum]
    rw [wsum_app _ _ _ (Nat.le_refl _), if_pos he, if_neg (by omega)]
    have e0 : (bs ++ [inet bs / 256, inet bs % 256]).getD bs.length 0 = inet bs / 256 := by simp
    have e1 : (bs ++ [inet bs / 256, inet bs % 256]).getD (bs.length + 1) 0 = inet bs % 256 := by simp
    rw [e0, e1]
    omega
  have hl : (bs ++ [inet bs / 256, inet bs % 256]).length = bs.length + 1 + 1 := by simp
  show 65535 - fold16 (wsum _ (bs ++ [inet bs / 256, inet bs % 256]).length) = 0
  rw [hl, e, hc]
  generalize wsum bs bs.length = S at *
  unfold fold16
  (repeat' split) <;> omega
theorem wsum_set (bs : List Int) (p : Nat) (v : Int) (hp : p < bs.length) (k : Nat) :
    wsum (bs.set p v) k = wsum bs k + if p < k then (if p % 2 = 0 then 256 * (v - bs.getD p 0) else v - bs.getD p 0) else 0 := by
  induction k with
  | zero => simp [wsum]
  | succ k ih =>
    simp only [wsum]
    rw [ih]
    by_cases h : p = k
    · subst h
      have e : (bs.set p v).getD p 0 = v := by simp [hp]
      rw [e]
      rw [if_neg (Nat.lt_irrefl _), if_pos (Nat.lt_succ_self _)]
      split <;> omega
    · rw [getD_set_ne _ _ _ _ h]
      by_cases h2 : p < k
      · rw [if_pos h2, if_pos (show p < k + 1 by omega)]; split <;> split <;> omega
      · rw [if_neg h2, if_neg (show ¬ p < k + 1 by omega)]; split <;> omega
def swapW (bs : List Int) (i j : Nat) : List Int :=
  (((bs.set (2 * i) (bs.getD (2 * j) 0)).set (2 * i + 1) (bs.getD (2 * j + 1) 0)).set (2 * j) (bs.getD (2 * i) 0)).set (2 * j + 1) (bs.getD (2 * i + 1) 0)
theorem getD_set_eq (L : List Int) (p : Nat) (v : Int) (h : p < L.length) : (L.set p v).getD p 0 = v := by simp [h]
theorem wsum_even (L : List Int) (n i : Nat) (v : Int) (hn : n = L.length) (h : 2 * i < n) : wsum (L.set (2 * i) v) n = wsum L n + 256 * (v - L.getD (2 * i) 0) := by
  rw [wsum_set L (2 * i) v (by omega) n, if_pos h, if_pos (by omega)]
theorem wsum_odd (L : List Int) (n i : Nat) (v : Int) (hn : n = L.length) (h : 2 * i + 1 < n) : wsum (L.set (2 * i + 1) v) n = wsum L n + (v - L.getD (2 * i + 1) 0) := by
  rw [wsum_set L (2 * i + 1) v (by omega) n, if_pos h, if_neg (by omega)]
theorem inet_swap (bs : List Int) (i j : Nat) (hi : 2 * i + 1 < bs.length) (hj : 2 * j + 1 < bs.length) : inet (swapW bs i j) = inet bs := by
  have hl : (swapW bs i j).length = bs.length := by simp [swapW]
  unfold inet
  rw [hl]
  have e : wsum (swapW bs i j) bs.length = wsum bs bs.length := by
    unfold swapW
    rw [wsum_odd _ bs.length j _ (by simp) (by omega), wsum_even _ bs.length j _ (by simp) (by omega), wsum_odd _ bs.length i _ (by simp) (by omega), wsum_even _ bs.length i _ rfl (by omega)]
    rw [getD_set_ne _ (2 * j) (2 * j + 1) _ (by omega), getD_set_ne _ (2 * i) (2 * i + 1) _ (by omega)]
    by_cases h : i = j
    · subst h
      rw [getD_set_ne _ (2 * i + 1) (2 * i) _ (by omega), getD_set_eq _ (2 * i) _ (by omega), getD_set_eq _ (2 * i + 1) _ (by simp; omega)]
      omega
    · rw [getD_set_ne _ (2 * i + 1) (2 * j + 1) _ (by omega), getD_set_ne _ (2 * i) (2 * j + 1) _ (by omega), getD_set_ne _ (2 * i + 1) (2 * j) _ (by omega), getD_set_ne _ (2 * i) (2 * j) _ (by omega)]
      omega
  rw [e]
end Go.Proofs.Ytplhhjbmegaiiaa
