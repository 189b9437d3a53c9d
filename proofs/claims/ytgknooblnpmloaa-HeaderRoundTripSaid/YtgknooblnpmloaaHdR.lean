/- Header: what is written is read back, and what is read is written again: plain facts on bits; no condition but ranges. -/
import Derived.Test.YtgknooblnpmloaaHdY
namespace Go.Proofs.Ytgknooblnpmloaa
open Go.RowKit
set_option linter.unusedVariables false

def bitsL : List (Int × Int) → List Bool
  | [] => []
  | (v, n) :: t => bitsOf v n.toNat ++ bitsL t
/-- Every value fits its width. -/
def fitL (ps : List (Int × Int)) : Prop := ∀ p ∈ ps, (1 ≤ p.2 ∧ p.2 ≤ 32) ∧ 0 ≤ p.1 ∧ p.1 < 2 ^ p.2.toNat
theorem pkRun_fit (ps : List (Int × Int)) (h : fitL ps) : ∀ L, pkRun L ps = (0, L ++ bitsL ps) := by
  induction ps with
  | nil => intro L; simp [pkRun, bitsL]
  | cons p t ih =>
    intro L
    obtain ⟨v, n⟩ := p
    obtain ⟨hn, h0, h1⟩ := h (v, n) (by simp)
    unfold pkRun
    rw [wr_good L v n hn h1]
    simp only [if_true]
    rw [ih (fun q hq => h q (by simp [hq]))]
    simp [bitsL]
theorem acc_mid (pre post : List Bool) (v : Int) (n : Nat) (h0 : 0 ≤ v) (h1 : v < 2 ^ n) : accB (packB (pre ++ bitsOf v n ++ post)) pre.length n = v := by
  refine acc_of _ _ _ _ h0 h1 ?_
  intro i hi
  have hlen : pre.length + i < (pre ++ bitsOf v n ++ post).length := by simp only [List.length_append, bitsOf_len]; omega
  rw [bit_pack _ _ hlen]
  have e : (pre ++ bitsOf v n ++ post).getD (pre.length + i) false = vb v n i := by
    rw [List.append_assoc, List.getD_eq_getElem?_getD, List.getElem?_append_right (by omega), Nat.add_sub_cancel_left, List.getElem?_append_left (by rw [bitsOf_len]; exact hi)]
    simp [bitsOf, hi]
  unfold bv
  rw [e]
  unfold vb
  by_cases q : v / 2 ^ (n - 1 - i) % 2 = 1
  · simp [q]
  · simp [q]; omega
theorem nums_back (ps : List (Int × Int)) (h : fitL ps) : ∀ pre post, numsB (packB (pre ++ bitsL ps ++ post)) pre.length (ps.map (·.2)) = ps.map (·.1) := by
  induction ps with
  | nil => intro pre post; rfl
  | cons p t ih =>
    intro pre post
    obtain ⟨v, n⟩ := p
    obtain ⟨hn, h0, h1⟩ := h (v, n) (by simp)
    simp only [List.map_cons, numsB, bitsL]
    have e1 := acc_mid pre (bitsL t ++ post) v n.toNat h0 h1
    have e2 := ih (fun q hq => h q (by simp [hq])) (pre ++ bitsOf v n.toNat) post
    rw [show pre ++ bitsOf v n.toNat ++ (bitsL t ++ post) = pre ++ (bitsOf v n.toNat ++ bitsL t) ++ post by simp [List.append_assoc]] at e1
    rw [show pre ++ bitsOf v n.toNat ++ bitsL t ++ post = pre ++ (bitsOf v n.toNat ++ bitsL t) ++ post by simp [List.append_assoc]] at e2
    rw [e1]
    congr 1
    rw [← e2]
    simp [bitsOf_len]
theorem bitsL_len (ps : List (Int × Int)) : (bitsL ps).length = sumL (ps.map (·.2)) := by
  induction ps with
  | nil => rfl
  | cons p t ih => obtain ⟨v, n⟩ := p; simp [bitsL, sumL, ih, bitsOf_len]
/-- The value that the law writes into field k. -/
def vF (vals : List Int) (L : List Fld) (k : Nat) : Int := vals.getD k 0 / 2 ^ (32 - (L.getD k fz).2).toNat
def vFs (vals : List Int) (L : List Fld) (k : Nat) : List Int := (List.range k).map (vF vals L)
theorem vFs_len (vals : List Int) (L : List Fld) (k : Nat) : (vFs vals L k).length = k := by simp [vFs]
theorem vFs_succ (vals : List Int) (L : List Fld) (k : Nat) : vFs vals L (k + 1) = vFs vals L k ++ [vF vals L k] := by simp [vFs, List.range_succ]
theorem vF_range (x n : Int) (h : 0 ≤ x ∧ x < 4294967296) (hn : 1 ≤ n ∧ n ≤ 32) : 0 ≤ x / 2 ^ (32 - n).toNat ∧ x / 2 ^ (32 - n).toNat < 2 ^ n.toNat := by
  obtain ⟨m, rfl⟩ : ∃ m : Nat, n = (m : Int) := ⟨n.toNat, by omega⟩
  have hp := pow_pos' (32 - (m : Int)).toNat
  refine ⟨Int.ediv_nonneg h.1 (by omega), ?_⟩
  refine Int.ediv_lt_of_lt_mul hp ?_
  rw [← Int.pow_add, show (m : Int).toNat + (32 - (m : Int)).toNat = 32 by omega]
  exact h.2
theorem zip_fit (vals : List Int) (L : List Fld) (hv : ∀ x ∈ vals, 0 ≤ x ∧ x < 4294967296) (hl : L.length ≤ vals.length) (hg : goodL (wsL L)) : fitL ((vFs vals L L.length).zip (wsL L)) := by
  intro p hp
  obtain ⟨j, hj, rfl⟩ := List.mem_iff_getElem.1 hp
  rw [List.length_zip, vFs_len, wsL_len, Nat.min_self] at hj
  rw [List.getElem_zip]
  have hw : j < (wsL L).length := by rw [wsL_len]; exact hj
  have e1 : (wsL L)[j] = (L.getD j fz).2 := by rw [← wsL_get L j hj]; simp [hw]
  have e2 : (vFs vals L L.length)[j]'(by rw [vFs_len]; exact hj) = vF vals L j := by simp [vFs]
  have g := hg (wsL L)[j] (List.getElem_mem hw)
  rw [e1] at g
  show (1 ≤ (wsL L)[j] ∧ (wsL L)[j] ≤ 32) ∧ 0 ≤ (vFs vals L L.length)[j]'_ ∧ (vFs vals L L.length)[j]'_ < 2 ^ ((wsL L)[j]).toNat
  rw [e1, e2]
  exact ⟨g, vF_range _ _ (hv _ (by simp [show j < vals.length by omega])) g⟩
theorem zip_snd (vals : List Int) (L : List Fld) : (((vFs vals L L.length).zip (wsL L)).map (·.2)) = wsL L := by
  rw [List.map_snd_zip]; rw [vFs_len, wsL_len]; exact Nat.le_refl _
theorem zip_fst (vals : List Int) (L : List Fld) : (((vFs vals L L.length).zip (wsL L)).map (·.1)) = vFs vals L L.length := by
  rw [List.map_fst_zip]; rw [vFs_len, wsL_len]; exact Nat.le_refl _
/-- What Write answers for the law's values, and what Read then answers. -/
theorem round_ok {hs : ByteArray} {L : List Fld} (vals : List Int) (h : chkH hs L = 0) (hv : ∀ x ∈ vals, 0 ≤ x ∧ x < 4294967296) (hl : L.length ≤ vals.length) :
    ∃ (Bv : List Bool) (q : Nat), wrH hs L (vFs vals L L.length) [] = (0, Bv) ∧ Bv.length = 8 * q ∧ bytesR Bv = (0, packB Bv) ∧ (packB Bv).length = q ∧ bitsH hs L = 8 * q ∧ q ≤ 48 ∧ rdH hs L (packB Bv) 0 = (0, vFs vals L L.length, 8 * q) := by
  obtain ⟨h1, h2, h3, h4, h5⟩ := chk_ok hs L h
  have hi := isum_good _ h5
  rw [wsL_len] at hi
  have hf := zip_fit vals L hv hl h5
  have hr := pkRun_fit _ hf []
  have hb := nums_back _ hf [] []
  have hbl := bitsL_len ((vFs vals L L.length).zip (wsL L))
  rw [zip_snd] at hb hbl
  rw [zip_fst] at hb
  simp only [List.nil_append, List.append_nil, List.length_nil] at hr hb
  obtain ⟨Bv, hB⟩ : ∃ B, B = bitsL ((vFs vals L L.length).zip (wsL L)) := ⟨_, rfl⟩
  rw [← hB] at hr hb hbl
  have hp := packB_len Bv
  refine ⟨Bv, sumL (wsL L) / 8, ?_, by omega, ?_, by omega, ?_, by omega, ?_⟩
  · unfold wrH
    rw [if_neg (show ¬ ¬ chkH hs L = 0 from fun x => x h), if_neg (by rw [vFs_len]; exact fun x => x rfl), hr, if_pos rfl, List.nil_append]
  · unfold bytesR
    rw [if_pos (by omega)]
  · rw [(bits_ok h).1]; omega
  · unfold rdH
    rw [if_neg (show ¬ ¬ chkH hs L = 0 from fun x => x h), if_neg (by omega), hb]
    simp only [Nat.zero_add, Prod.mk.injEq, true_and]
    omega
theorem bitsTo_cut (bs : List Int) (q : Nat) (h : q ≤ bs.length) : bitsTo (bs.take q) (8 * q) = bitsTo bs (8 * q) := by
  unfold bitsTo
  apply List.map_congr_left
  intro j hj
  have hj := List.mem_range.1 hj
  unfold bitAt
  congr 3
  rw [List.getD_eq_getElem?_getD, List.getD_eq_getElem?_getD, List.getElem?_take, if_pos (by omega)]
/-- What Read answers for bytes that are long enough, and what Write makes of it. -/
theorem again_ok {hs : ByteArray} {L : List Fld} (bs : List Int) (h : chkH hs L = 0) (hb : ∀ x ∈ bs, 0 ≤ x ∧ x ≤ 255) (hl : ¬ (bs.length : Int) * 8 < bitsH hs L) :
    ∃ (ys : List Int) (Bz : List Bool) (q : Nat), rdH hs L bs 0 = (0, ys, 8 * q) ∧ ys.length = L.length ∧ (∀ x ∈ ys, 0 ≤ x ∧ x < 4294967296) ∧ wrH hs L ys [] = (0, Bz) ∧ Bz.length ≤ 400 ∧ bytesR Bz = (0, bs.take q) ∧ q ≤ bs.length ∧ (bs.take q).length = q := by
  obtain ⟨h1, h2, h3, h4, h5⟩ := chk_ok hs L h
  have hi := isum_good _ h5
  rw [wsL_len] at hi
  have hbt := (bits_ok h).1
  have hr := pkRun_good bs (wsL L) 0 h5
  rw [Nat.zero_add, show bitsTo bs 0 = [] from rfl] at hr
  have hq : sumL (wsL L) = 8 * (sumL (wsL L) / 8) := by omega
  have hql : sumL (wsL L) / 8 ≤ bs.length := by omega
  have ht : (bs.take (sumL (wsL L) / 8)).length = sumL (wsL L) / 8 := by rw [List.length_take]; omega
  refine ⟨numsB bs 0 (wsL L), bitsTo bs (sumL (wsL L)), sumL (wsL L) / 8, ?_, by rw [numsB_len, wsL_len], numsB_range bs (wsL L) 0 h5, ?_, by rw [bitsTo_len]; omega, ?_, hql, ht⟩
  · unfold rdH
    rw [if_neg (show ¬ ¬ chkH hs L = 0 from fun x => x h), if_neg (by omega)]
    simp only [Nat.zero_add, Prod.mk.injEq, true_and]
    omega
  · unfold wrH
    rw [if_neg (show ¬ ¬ chkH hs L = 0 from fun x => x h), if_neg (by rw [numsB_len, wsL_len]; exact fun x => x rfl), hr, if_pos rfl, List.nil_append]
  · unfold bytesR
    rw [bitsTo_len, if_pos (by omega)]
    congr 1
    have k := pack_bits (bs.take (sumL (wsL L) / 8)) (fun x hx => hb x (List.mem_of_mem_take hx))
    rw [ht, bitsTo_cut _ _ hql, ← hq] at k
    exact k
theorem short_ok {hs : ByteArray} {L : List Fld} (bs : List Int) (h : chkH hs L = 0) (hl : (bs.length : Int) * 8 < bitsH hs L) : rdH hs L bs 0 = (3, [], 0) := by
  unfold rdH
  rw [(bits_ok h).1] at hl
  rw [if_neg (show ¬ ¬ chkH hs L = 0 from fun x => x h), if_pos (by omega)]
end Go.Proofs.Ytgknooblnpmloaa
