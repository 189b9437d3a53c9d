/- Env: the theory of the laws over lists: what New, Set, AddHeader and RemoveHeader answer passes Check, and what a value reads as behind Set; no condition. -/
import Derived.Test.YtolifmpnhflegaaEvZ
namespace Go.Proofs.Ytolifmpnhflegaa
open Go.RowKit
set_option linter.unusedVariables false
theorem dcl_len2 (H : List (ByteArray × List Fld)) (M : List Fld) : (dclL H M).length = H.length + 1 := by simp [dclL]
theorem dcl_zero (H : List (ByteArray × List Fld)) (M : List Fld) : (dclL H M).getD 0 [] = M := rfl
theorem dcl_succ (H : List (ByteArray × List Fld)) (M : List Fld) (k : Nat) : (dclL H M).getD (k + 1) [] = (H.getD k hz).2 := by
  by_cases h : k < H.length
  · simp [dclL, h]
  · simp [dclL, List.getElem?_eq_none (show H.length ≤ k by omega), hz]
theorem dcl_bd {H : List (ByteArray × List Fld)} {M : List Fld} (h : sizeP H M) (j : Nat) : ((dclL H M).getD j []).length ≤ 16 := by
  cases j with
  | zero => rw [dcl_zero]; exact h.2.1
  | succ k =>
    rw [dcl_succ]
    by_cases hk : k < H.length
    · exact h.2.2 k hk
    · rw [List.getD_eq_getElem?_getD, List.getElem?_eq_none (by omega)]; exact Nat.zero_le _
theorem hf_bd {H : List (ByteArray × List Fld)} {M : List Fld} (h : sizeP H M) (j : Nat) : (H.getD j hz).2.length ≤ 100000 := by
  have := dcl_bd h (j + 1); rw [dcl_succ] at this; omega
theorem chk_ex (H : List (ByteArray × List Fld)) (M : List Fld) (L : EL) : ∃ r, chkE H M L r := by
  unfold chkE
  by_cases h1 : shP H M L
  · by_cases h2 : ftP (dclL H M) (L.T :: L.F)
    · by_cases h3 : zrP L
      · exact ⟨0, .inr (.inr (.inr ⟨h1, h2, h3, rfl⟩))⟩
      · exact ⟨5, .inr (.inr (.inl ⟨h1, h2, h3, rfl⟩))⟩
    · exact ⟨9, .inr (.inl ⟨h1, h2, rfl⟩)⟩
  · exact ⟨2, .inl ⟨h1, rfl⟩⟩
def okE (H : List (ByteArray × List Fld)) (M : List Fld) (L : EL) : Prop := shP H M L ∧ ftP (dclL H M) (L.T :: L.F) ∧ zrP L
theorem chk_ok {H : List (ByteArray × List Fld)} {M : List Fld} {L : EL} (h : okE H M L) : chkE H M L 0 := .inr (.inr (.inr ⟨h.1, h.2.1, h.2.2, rfl⟩))
theorem chk_no {H : List (ByteArray × List Fld)} {M : List Fld} {L : EL} {r : Int} (h : chkE H M L r) : (r = 0 ∧ okE H M L) ∨ (r ≠ 0 ∧ ¬ okE H M L) := by
  rcases h with ⟨a, rfl⟩ | ⟨a, b, rfl⟩ | ⟨a, b, c, rfl⟩ | ⟨a, b, c, rfl⟩
  · exact .inr ⟨by decide, fun q => a q.1⟩
  · exact .inr ⟨by decide, fun q => b q.2.1⟩
  · exact .inr ⟨by decide, fun q => c q.2.2⟩
  · exact .inl ⟨rfl, a, b, c⟩
theorem size_of {H : List (ByteArray × List Fld)} {M : List Fld} {L : EL} (h : sizeP H M) (s : shP H M L) (p : L.P.length ≤ 600) : sizeE L := by
  obtain ⟨s1, s2, s3, s4⟩ := (shP_iff H M L).1 s
  refine ⟨by have := h.1; omega, by have := h.1; omega, by have := h.2.1; omega, p, fun i hi => ?_⟩
  rw [s4 i (by omega)]
  exact h.2.2 i (by omega)
theorem newE_sh (H : List (ByteArray × List Fld)) (M : List Fld) : shP H M (newE H M) := by
  rw [shP_iff]
  refine ⟨by simp [newE], by simp [newE], by simp [newE], fun i hi => ?_⟩
  simp [newE, hi]
theorem mkB_nn (w : Int) : 0 ≤ mkB w := (mkB_range w).1
theorem rep_getD (n j : Nat) : (List.replicate n (0 : Int)).getD j 0 = 0 := by
  by_cases h : j < n
  · simp [h]
  · simp [show n ≤ j by omega]
theorem nE_row (H : List (ByteArray × List Fld)) (M : List Fld) (k : Nat) : ∃ n, (newE H M).F.getD k [] = List.replicate n 0 := by
  by_cases h : k < H.length
  · exact ⟨(H.getD k hz).2.length, by simp [newE, h]⟩
  · exact ⟨0, by simp [newE, List.getElem?_eq_none (show H.length ≤ k by omega)]⟩
theorem newE_ok (H : List (ByteArray × List Fld)) (M : List Fld) : okE H M (newE H M) := by
  refine ⟨newE_sh H M, fun i hi j hj => ?_, fun h hh => .inr ?_⟩
  · refine Int.le_trans (Int.le_of_eq ?_) (mkB_nn _)
    cases i with
    | zero => exact rep_getD _ _
    | succ k =>
      obtain ⟨n, e⟩ := nE_row H M k
      show ((newE H M).F.getD k []).getD j 0 = 0
      rw [e]; exact rep_getD _ _
  · obtain ⟨n, e⟩ := nE_row H M h
    rw [e, List.any_eq_false]
    intro x hx
    rw [List.eq_of_mem_replicate hx]; decide
theorem chL_at (g : Int → Int → Int) (l : List Int) (j : Nat) (h : j < l.length) : (chL g l).getD j 0 = g j (l.getD j 0) := by simp [chL, h]
theorem chF_len2 (g : Int → Int → Int → Int) (F : List (List Int)) : (chF g F).length = F.length := by simp [chF]
theorem chF_gd (g : Int → Int → Int → Int) (F : List (List Int)) (k : Nat) : (chF g F).getD k [] = chL (g k) (F.getD k []) := by
  by_cases h : k < F.length
  · simp [chF, h]
  · simp [chF, List.getElem?_eq_none (show F.length ≤ k by omega), chL]
theorem chE_sh {H : List (ByteArray × List Fld)} {M : List Fld} {L : EL} (g : Int → Int → Int → Int) (h : shP H M L) : shP H M (chE g L) := by
  rw [shP_iff] at h ⊢
  obtain ⟨s1, s2, s3, s4⟩ := h
  refine ⟨s1, by show (chF g L.F).length = _; rw [chF_len2, s2], by show (chL (g (-1)) L.T).length = _; rw [chL_len, s3], fun i hi => ?_⟩
  show ((chF g L.F).getD i []).length = _
  rw [chF_gd, chL_len, s4 i hi]
/-- Fitting, said by header and field. -/
theorem ft_iff (H : List (ByteArray × List Fld)) (M : List Fld) (T : List Int) (F : List (List Int)) : ftP (dclL H M) (T :: F) ↔ (∀ j, j < M.length → T.getD j 0 ≤ mkB (M.getD j fz).2) ∧ ∀ k, k < H.length → ∀ j, j < (H.getD k hz).2.length → (F.getD k []).getD j 0 ≤ mkB ((H.getD k hz).2.getD j fz).2 := by
  unfold ftP
  rw [dcl_len2]
  constructor
  · intro h
    refine ⟨fun j hj => ?_, fun k hk j hj => ?_⟩
    · have := h 0 (by omega) j (by rw [dcl_zero]; exact hj)
      rw [dcl_zero] at this
      exact this
    · have := h (k + 1) (by omega) j (by rw [dcl_succ]; exact hj)
      rw [dcl_succ] at this
      simpa using this
  · rintro ⟨h0, h1⟩ i hi j hj
    cases i with
    | zero => rw [dcl_zero] at hj ⊢; exact h0 j hj
    | succ k =>
      rw [dcl_succ] at hj ⊢
      have := h1 k (by omega) j hj
      simpa using this
theorem red_le (x w : Int) (h : okW w = true) : redB x w ≤ mkB w := by
  have h : 1 ≤ w ∧ w ≤ 32 := by simpa [okW] using h
  have := (redB_lt x w h).2
  rw [mkB_in w h]; omega
theorem wid_top {H : List (ByteArray × List Fld)} {M : List Fld} {f : Int} {j : Nat} (e : f = j) (hj : j < M.length) (h : widE H M (-1) f ≠ 0) : widE H M (-1) f = (M.getD j fz).2 ∧ okW (M.getD j fz).2 = true := by
  subst e
  unfold widE dfs at h ⊢
  simp only [if_pos] at h ⊢
  split at h
  · rename_i q
    rw [if_pos q]
    split at h
    · rename_i q2
      rw [if_pos q2]
      exact ⟨by simp, by simpa using q2⟩
    · exact absurd rfl h
  · exact absurd rfl h
theorem isX_nat (k n : Nat) : isX (k : Int) n = decide (k < n) := by
  unfold isX
  by_cases h : k < n
  · simp [h]
  · simp [h]
theorem wid_in {H : List (ByteArray × List Fld)} {M : List Fld} {f : Int} {k j : Nat} (e : f = j) (hk : k < H.length) (hj : j < (H.getD k hz).2.length) (h : widE H M k f ≠ 0) : widE H M k f = ((H.getD k hz).2.getD j fz).2 ∧ okW ((H.getD k hz).2.getD j fz).2 = true := by
  subst e
  have e1 : dfs H M (k : Int) = (H.getD k hz).2 := by
    unfold dfs
    rw [if_neg (by omega), isX_nat, if_pos (by simpa using hk)]
    simp
  unfold widE at h ⊢
  rw [e1] at h ⊢
  split at h
  · rename_i q
    rw [if_pos q]
    split at h
    · rename_i q2
      rw [if_pos q2]
      exact ⟨by simp, by simpa using q2⟩
    · exact absurd rfl h
  · exact absurd rfl h
theorem any_ch (g : Int → Int → Int) (l : List Int) (h : ∀ i v, v = 0 → g i v = 0) (z : l.any (fun v => v != 0) = false) : (chL g l).any (fun v => v != 0) = false := by
  rw [List.any_eq_false] at z ⊢
  intro x hx
  unfold chL at hx
  obtain ⟨i, hi, rfl⟩ := List.mem_mapIdx.1 hx
  have := z l[i] (List.getElem_mem _)
  simp at this
  simp [h i l[i] this]
theorem set_ok {H : List (ByteArray × List Fld)} {M : List Fld} {L : EL} (h : okE H M L) (rh rf v : Int) : okE H M (setE H M L rh rf v) := by
  unfold setE
  split
  · exact h
  · rename_i q
    have hw : widE H M rh rf ≠ 0 := fun e => q (.inl e)
    have ho : openB L.V rh = true := by cases e : openB L.V rh with | true => rfl | false => exact absurd (.inr e) q
    obtain ⟨s, f, z⟩ := h
    refine ⟨chE_sh _ s, ?_, ?_⟩
    · rw [shP_iff] at s
      obtain ⟨s1, s2, s3, s4⟩ := s
      rw [ft_iff] at f
      show ftP (dclL H M) (chL (setG rh rf v (widE H M rh rf) (-1)) L.T :: chF (setG rh rf v (widE H M rh rf)) L.F)
      rw [ft_iff]
      refine ⟨fun j hj => ?_, fun k hk j hj => ?_⟩
      · rw [chL_at _ _ _ (by omega)]
        unfold setG
        split
        · rename_i c
          obtain ⟨c1, c2⟩ := c
          subst c1
          obtain ⟨w1, w2⟩ := wid_top c2.symm hj hw
          rw [w1]; exact red_le _ _ w2
        · exact f.1 j hj
      · rw [chF_gd, chL_at _ _ _ (by rw [s4 k hk]; exact hj)]
        unfold setG
        split
        · rename_i c
          obtain ⟨c1, c2⟩ := c
          subst c1
          obtain ⟨w1, w2⟩ := wid_in c2.symm hk hj hw
          rw [w1]; exact red_le _ _ w2
        · exact f.2 k hk j hj
    · intro k hk
      have hk : k < L.F.length := by rw [← chF_len2 (setG rh rf v (widE H M rh rf)) L.F]; exact hk
      rcases z k hk with c | c
      · exact .inl c
      · by_cases e : (k : Int) = rh
        · left
          show L.V.getD k false = true
          subst e
          unfold openB at ho
          have n1 : ¬ ((k : Int) = -1) := by omega
          simp [n1, validB] at ho
          simpa using ho.2
        · right
          show ((chF (setG rh rf v (widE H M rh rf)) L.F).getD k []).any _ = false
          rw [chF_gd]
          exact any_ch _ _ (fun i v2 h0 => by unfold setG; rw [if_neg (fun q => e q.1)]; exact h0) c
theorem with_ok {H : List (ByteArray × List Fld)} {M : List Fld} {L : EL} (h : okE H M L) (j : Nat) (b : Bool) : okE H M (withE L j b) := by
  obtain ⟨s, f, z⟩ := h
  have s' := s
  rw [shP_iff] at s
  obtain ⟨s1, s2, s3, s4⟩ := s
  have sh := chE_sh (zerG j) s'
  rw [shP_iff] at sh
  refine ⟨?_, ?_, ?_⟩
  · rw [shP_iff]
    exact ⟨by show (L.V.set j b).length = _; rw [List.length_set, s1], sh.2.1, sh.2.2.1, sh.2.2.2⟩
  · rw [ft_iff] at f
    show ftP (dclL H M) (chL (zerG j (-1)) L.T :: chF (zerG j) L.F)
    rw [ft_iff]
    refine ⟨fun i hi => ?_, fun k hk i hi => ?_⟩
    · rw [chL_at _ _ _ (by omega)]
      unfold zerG
      split
      · exact mkB_nn _
      · exact f.1 i hi
    · rw [chF_gd, chL_at _ _ _ (by rw [s4 k hk]; exact hi)]
      unfold zerG
      split
      · exact mkB_nn _
      · exact f.2 k hk i hi
  · intro k hk
    have hk : k < L.F.length := by rw [← chF_len2 (zerG j) L.F]; exact hk
    by_cases e : k = j
    · subst e
      right
      show ((chF (zerG k) L.F).getD k []).any _ = false
      rw [chF_gd, List.any_eq_false]
      intro x hx
      unfold chL at hx
      obtain ⟨i, hi, rfl⟩ := List.mem_mapIdx.1 hx
      simp [zerG]
    · rcases z k hk with c | c
      · left
        show (L.V.set j b).getD k false = true
        rw [List.getD_eq_getElem?_getD, List.getElem?_set_ne (by omega), ← List.getD_eq_getElem?_getD]
        exact c
      · right
        show ((chF (zerG j) L.F).getD k []).any _ = false
        rw [chF_gd]
        exact any_ch _ _ (fun i v2 h0 => by unfold zerG; split <;> simp [h0]) c
/-- What a value reads as behind a change. -/
theorem vls_ch (g : Int → Int → Int → Int) (L : EL) (h : Int) : vls (chE g L).F (chE g L).T h = chL (g h) (vls L.F L.T h) := by
  unfold vls
  show (if h = -1 then chL (g (-1)) L.T else if isX h (chF g L.F).length = true then (chF g L.F).getD h.toNat [] else []) = _
  rw [chF_len2]
  split
  · rename_i e; subst e; rfl
  · split
    · rename_i q
      rw [chF_gd]
      have : 0 ≤ h := by have : 0 ≤ h ∧ h < (L.F.length : Int) := by simpa [isX] using q
                         omega
      rw [show ((h.toNat : Nat) : Int) = h by omega]
    · simp [chL]
theorem get_ch (g : Int → Int → Int → Int) (L : EL) (h f : Int) : getE (chE g L).V (chE g L).F (chE g L).T h f = if openB L.V h = true ∧ isX f (vls L.F L.T h).length = true then g h f ((vls L.F L.T h).getD f.toNat 0) else 0 := by
  unfold getE
  rw [vls_ch, chL_len, show (chE g L).V = L.V from rfl]
  split
  · rename_i q
    have hx : 0 ≤ f ∧ f < ((vls L.F L.T h).length : Int) := by simpa [isX] using q.2
    rw [chL_at _ _ _ (by omega), show ((f.toNat : Nat) : Int) = f by omega]
  · rfl
theorem get_far (H : List (ByteArray × List Fld)) (M : List Fld) (L : EL) (rh rf v qh qf : Int) (h : ¬ (qh = rh ∧ qf = rf)) : getE (setE H M L rh rf v).V (setE H M L rh rf v).F (setE H M L rh rf v).T qh qf = getE L.V L.F L.T qh qf := by
  unfold setE
  split
  · rfl
  · rw [get_ch]
    unfold getE
    split
    · unfold setG; rw [if_neg h]
    · rfl
theorem wid_has {H : List (ByteArray × List Fld)} {M : List Fld} {L : EL} (s : shP H M L) (rh rf : Int) (h : widE H M rh rf ≠ 0) : isX rf (vls L.F L.T rh).length = true := by
  rw [shP_iff] at s
  obtain ⟨s1, s2, s3, s4⟩ := s
  unfold widE at h
  split at h
  · rename_i q
    rw [← q]
    congr 1
    unfold vls dfs
    split
    · exact s3
    · rw [s2]
      split
      · rename_i c
        have c : 0 ≤ rh ∧ rh < (H.length : Int) := by simpa [isX] using c
        exact s4 _ (by omega)
      · rfl
  · exact absurd rfl h
theorem get_near {H : List (ByteArray × List Fld)} {M : List Fld} {L : EL} (s : shP H M L) (rh rf v : Int) (h : widE H M rh rf ≠ 0) (ho : openB L.V rh = true) : getE (setE H M L rh rf v).V (setE H M L rh rf v).F (setE H M L rh rf v).T rh rf = redB v (widE H M rh rf) := by
  unfold setE
  rw [if_neg (by rintro (q | q); exact h q; rw [ho] at q; cases q), get_ch, if_pos ⟨ho, wid_has s rh rf h⟩]
  unfold setG
  rw [if_pos ⟨rfl, rfl⟩]
end Go.Proofs.Ytolifmpnhflegaa
