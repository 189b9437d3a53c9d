/- Deparser: the bits that are emitted, header by header, and what reading them gives; plain facts; no condition. -/
import Derived.Test.YtjhknmklejkknaaDpE
import Derived.Test.YtjhknmklejkknaaGlC
namespace Go.Proofs.Ytjhknmklejkknaa
open Go.RowKit
set_option linter.unusedVariables false
/-- One header's bits. -/
def btD (H : List (ByteArray × List Fld)) (V : List Bool) (F : List (List Int)) (d : Int) : List Bool :=
  if V.getD d.toNat false = true then bitsL ((F.getD d.toNat []).zip (wsL (H.getD d.toNat hz).2)) else []
theorem getD_mem' {α : Type} (l : List α) (z : α) (k : Nat) (h : k < l.length) : l.getD k z ∈ l := by
  rw [List.getD_eq_getElem?_getD, List.getElem?_eq_getElem h]; exact List.getElem_mem _
theorem fit_of {H : List (ByteArray × List Fld)} {M : List Fld} {L : EL} (he : envOk H M L) (ho : hdsOk H) (hF : ∀ k, ∀ x ∈ L.F.getD k [], 0 ≤ x ∧ x < 4294967296) {k : Nat} (hk : k < H.length) :
    (L.F.getD k []).length = (wsL (H.getD k hz).2).length ∧ fitL ((L.F.getD k []).zip (wsL (H.getD k hz).2)) ∧ chkH (H.getD k hz).1 (H.getD k hz).2 = 0 := by
  obtain ⟨s1, s2, s3, s4⟩ := (shP_iff H M L).1 he.1
  have hc : chkH (H.getD k hz).1 (H.getD k hz).2 = 0 := ho _ (getD_mem' H hz k hk)
  obtain ⟨_, _, _, _, hg⟩ := chk_ok _ _ hc
  have hl : (L.F.getD k []).length = (wsL (H.getD k hz).2).length := by rw [wsL_len]; exact s4 k hk
  have ft := he.2.1
  unfold ftP at ft
  have f1 := ft (k + 1) (by simp [dclL]; omega)
  have e1 : (dclL H M).getD (k + 1) [] = (H.getD k hz).2 := by simp [dclL, hk]
  have e2 : (L.T :: L.F).getD (k + 1) [] = L.F.getD k [] := by simp
  rw [e1, e2] at f1
  refine ⟨hl, fun p hp => ?_, hc⟩
  obtain ⟨j, hj, rfl⟩ := List.mem_iff_getElem.1 hp
  rw [List.length_zip] at hj
  have j1 : j < (L.F.getD k []).length := by omega
  have j2 : j < (H.getD k hz).2.length := by rw [hl, wsL_len] at j1; exact j1
  have w1 := hg _ (List.getElem_mem (l := wsL (H.getD k hz).2) (n := j) (by rw [wsL_len]; exact j2))
  have q := f1 j j2
  have x0 := hF k _ (getD_mem' (L.F.getD k []) 0 j j1)
  have eW : (wsL (H.getD k hz).2)[j]'(by rw [wsL_len]; exact j2) = ((H.getD k hz).2.getD j fz).2 := by
    have := wsL_get (H.getD k hz).2 j j2
    rw [List.getD_eq_getElem?_getD, List.getElem?_eq_getElem (by rw [wsL_len]; exact j2)] at this
    simpa using this
  have gd : ∀ (l : List Int) (h : j < l.length), l[j] = l.getD j 0 := fun l h => by simp [h]
  have eF : (L.F.getD k [])[j]'j1 = (L.F.getD k []).getD j 0 := gd _ j1
  rw [List.getElem_zip]
  show (1 ≤ (wsL (H.getD k hz).2)[j] ∧ _) ∧ 0 ≤ (L.F.getD k [])[j] ∧ (L.F.getD k [])[j] < 2 ^ ((wsL (H.getD k hz).2)[j]).toNat
  refine ⟨w1, ?_⟩
  rw [eF, eW]
  rw [eW] at w1
  rw [mkB_in _ w1] at q
  exact ⟨x0.1, by omega⟩
theorem wr_okD {hs : ByteArray} {l : List Fld} {f : List Int} (B : List Bool) (h0 : chkH hs l = 0) (h1 : f.length = (wsL l).length) (h2 : fitL (f.zip (wsL l))) : wrH hs l f B = (0, B ++ bitsL (f.zip (wsL l))) := by
  unfold wrH
  rw [if_neg (by rw [h0]; simp), if_neg (by rw [h1, wsL_len]; simp), pkRun_fit _ h2]
  simp
/-- The law's valid data. -/
structure DV (H : List (ByteArray × List Fld)) (M : List Fld) (D : List Int) (L : EL) : Prop where
  e : envOk H M L
  h : hdsOk H
  d : dcOk H.length D
  r : ∀ k, ∀ x ∈ L.F.getD k [], 0 ≤ x ∧ x < 4294967296
theorem bt_len {H : List (ByteArray × List Fld)} {M : List Fld} {L : EL} (he : envOk H M L) (ho : hdsOk H) (hF : ∀ k, ∀ x ∈ L.F.getD k [], 0 ≤ x ∧ x < 4294967296) {k : Nat} (hk : k < H.length) :
    (bitsL ((L.F.getD k []).zip (wsL (H.getD k hz).2))).length = sumL (wsL (H.getD k hz).2) ∧ sumL (wsL (H.getD k hz).2) % 8 = 0 ∧ isum (wsL (H.getD k hz).2) = (sumL (wsL (H.getD k hz).2) : Int) := by
  obtain ⟨h1, h2, h3⟩ := fit_of he ho hF hk
  obtain ⟨_, _, _, h8, hg⟩ := chk_ok _ _ h3
  have gi := (isum_good _ hg).1
  refine ⟨?_, by rw [gi] at h8; omega, gi⟩
  rw [bitsL_len, List.map_snd_zip (by omega)]
theorem bt_eq {H : List (ByteArray × List Fld)} {V : List Bool} {F : List (List Int)} (n : Nat) : btD H V F n = if V.getD n false = true then bitsL ((F.getD n []).zip (wsL (H.getD n hz).2)) else [] := rfl
theorem isX_nat {x : Int} {n : Nat} (h : isX x n = true) : ∃ k : Nat, x = k ∧ k < n := by
  have := (isX_iff x n).1 h
  exact ⟨x.toNat, by omega, by omega⟩
theorem em_one {H : List (ByteArray × List Fld)} {M : List Fld} {L : EL} (he : envOk H M L) (ho : hdsOk H) (hF : ∀ k, ∀ x ∈ L.F.getD k [], 0 ≤ x ∧ x < 4294967296) (B : List Bool) {d : Int} (hd : isX d H.length = true) : emF H L.V L.F B d = B ++ btD H L.V L.F d := by
  obtain ⟨k, rfl, hk⟩ := isX_nat hd
  obtain ⟨h1, h2, h3⟩ := fit_of he ho hF hk
  unfold emF btD
  rw [show ((k : Int)).toNat = k from rfl]
  split
  · rw [wr_okD B h3 h1 h2]
  · simp
theorem em_flat {H : List (ByteArray × List Fld)} {M : List Fld} {L : EL} (he : envOk H M L) (ho : hdsOk H) (hF : ∀ k, ∀ x ∈ L.F.getD k [], 0 ≤ x ∧ x < 4294967296) (D : List Int) : (∀ d ∈ D, isX d H.length = true) → ∀ B, emL H L.V L.F B D = B ++ D.flatMap (btD H L.V L.F) := by
  induction D with
  | nil => intro _ B; simp [emL]
  | cons d t ih =>
    intro hd B
    show emL H L.V L.F (emF H L.V L.F B d) t = _
    rw [ih (fun x hx => hd x (by simp [hx])), em_one he ho hF B (hd d (by simp)), List.flatMap_cons, List.append_assoc]
theorem bt_mod {H : List (ByteArray × List Fld)} {M : List Fld} {L : EL} (he : envOk H M L) (ho : hdsOk H) (hF : ∀ k, ∀ x ∈ L.F.getD k [], 0 ≤ x ∧ x < 4294967296) {d : Int} (hd : isX d H.length = true) : (btD H L.V L.F d).length % 8 = 0 := by
  obtain ⟨k, rfl, hk⟩ := isX_nat hd
  rw [bt_eq]
  split
  · obtain ⟨q1, q2, _⟩ := bt_len he ho hF hk
    rw [q1]; exact q2
  · rfl
theorem flat_mod {H : List (ByteArray × List Fld)} {M : List Fld} {L : EL} (he : envOk H M L) (ho : hdsOk H) (hF : ∀ k, ∀ x ∈ L.F.getD k [], 0 ≤ x ∧ x < 4294967296) (D : List Int) : (∀ d ∈ D, isX d H.length = true) → (D.flatMap (btD H L.V L.F)).length % 8 = 0 := by
  induction D with
  | nil => intro _; rfl
  | cons d t ih =>
    intro hd
    have q1 := bt_mod he ho hF (hd d (by simp))
    have q2 := ih (fun x hx => hd x (by simp [hx]))
    rw [List.flatMap_cons, List.length_append]; omega
theorem byteAt_left (A B : List Bool) (i : Nat) (h : 8 * i + 8 ≤ A.length) : byteAt (A ++ B) i = byteAt A i := by
  have e : ∀ p, p < A.length → bv (A ++ B) p = bv A p := fun p hp => by
    unfold bv
    rw [List.getD_eq_getElem?_getD, List.getD_eq_getElem?_getD, List.getElem?_append_left hp]
  unfold byteAt
  rw [e _ (by omega), e _ (by omega), e _ (by omega), e _ (by omega), e _ (by omega), e _ (by omega), e _ (by omega), e _ (by omega)]
theorem byteAt_right (A B : List Bool) (q i : Nat) (h : A.length = 8 * q) : byteAt (A ++ B) (q + i) = byteAt B i := by
  have e : ∀ p p2, p = A.length + p2 → bv (A ++ B) p = bv B p2 := fun p p2 hp => by
    unfold bv
    rw [List.getD_eq_getElem?_getD, List.getD_eq_getElem?_getD, hp, List.getElem?_append_right (by omega)]
    simp
  unfold byteAt
  rw [e _ (8 * i) (by omega), e _ (8 * i + 1) (by omega), e _ (8 * i + 2) (by omega), e _ (8 * i + 3) (by omega), e _ (8 * i + 4) (by omega), e _ (8 * i + 5) (by omega), e _ (8 * i + 6) (by omega), e _ (8 * i + 7) (by omega)]
theorem packB_app (A B : List Bool) (h : A.length % 8 = 0) : packB (A ++ B) = packB A ++ packB B := by
  obtain ⟨q, hq⟩ : ∃ q, A.length = 8 * q := ⟨A.length / 8, by omega⟩
  apply List.ext_getElem
  · rw [List.length_append, packB_len, packB_len, packB_len, List.length_append]; omega
  · intro i h1 h2
    rw [packB_at]
    rw [packB_len] at h1
    by_cases hi : i < q
    · rw [List.getElem_append_left (by rw [packB_len]; omega), packB_at, byteAt_left A B i (by omega)]
    · rw [List.getElem_append_right (by rw [packB_len]; omega), packB_at]
      have e : (packB A).length = q := by rw [packB_len]; omega
      obtain ⟨k, rfl⟩ : ∃ k, i = q + k := ⟨i - q, by omega⟩
      rw [byteAt_right A B q k hq]
      congr 1
      omega
theorem vb_bit (x : Int) (n i : Nat) (hi : i < n) : bv (bitsOf x n) i = if x / 2 ^ (n - 1 - i) % 2 = 1 then 1 else 0 := by
  unfold bv bitsOf
  rw [List.getD_eq_getElem?_getD, List.getElem?_map, List.getElem?_range hi]
  simp [vb]
theorem packB_byte (x : Int) (h : 0 ≤ x ∧ x ≤ 255) : packB (bitsOf x 8) = [x] := by
  have hl : (bitsOf x 8).length = 8 := bitsOf_len _ _
  have e : packB (bitsOf x 8) = [byteAt (bitsOf x 8) 0] := by
    unfold packB; rw [hl]; rfl
  rw [e]
  congr 1
  unfold byteAt
  rw [vb_bit x 8 _ (by decide), vb_bit x 8 _ (by decide), vb_bit x 8 _ (by decide), vb_bit x 8 _ (by decide), vb_bit x 8 _ (by decide), vb_bit x 8 _ (by decide), vb_bit x 8 _ (by decide), vb_bit x 8 _ (by decide)]
  have b2 : ∀ y : Int, (if y % 2 = 1 then (1 : Int) else 0) = y % 2 := fun y => by
    rcases (show y % 2 = 0 ∨ y % 2 = 1 by omega) with q | q <;> rw [q] <;> rfl
  simp only [b2]
  have := byte_bits x h.1 h.2
  simpa using this
theorem packB_bytes (l : List Int) (h : ∀ x ∈ l, 0 ≤ x ∧ x ≤ 255) : packB (bytesBits l) = l := by
  induction l with
  | nil => rfl
  | cons b t ih =>
    show packB (bitsOf b 8 ++ bytesBits t) = _
    rw [packB_app _ _ (by rw [bitsOf_len]), packB_byte b (h b (by simp)), ih (fun x hx => h x (by simp [hx]))]
    rfl
theorem dv_isx {H : List (ByteArray × List Fld)} {M : List Fld} {D : List Int} {L : EL} (h : DV H M D L) : ∀ d ∈ D, isX d H.length = true := by
  intro d hd
  obtain ⟨i, hi, rfl⟩ := List.mem_iff_getElem.1 hd
  have := h.d.isx hi
  rw [List.getD_eq_getElem?_getD, List.getElem?_eq_getElem hi] at this
  exact this
/-- Where reading stands ahead of element k. -/
def posD (H : List (ByteArray × List Fld)) (L : EL) (D : List Int) (k : Nat) : Nat := ((D.take k).flatMap (btD H L.V L.F)).length
theorem emit_eq {H : List (ByteArray × List Fld)} {M : List Fld} {D : List Int} {L : EL} (h : DV H M D L) : emit H M D L = packB (D.flatMap (btD H L.V L.F)) ++ L.P := by
  rw [emit_yes h.d h.h h.e, em_flat h.e h.h h.r D (dv_isx h) []]
  unfold bytesR
  rw [List.nil_append, if_pos (flat_mod h.e h.h h.r D (dv_isx h))]
theorem rd_back {H : List (ByteArray × List Fld)} {M : List Fld} {D : List Int} {L : EL} (h : DV H M D L) (hp : ∀ x ∈ L.P, 0 ≤ x ∧ x < 256) (k n : Nat) (hk : k < D.length) (hn : D.getD k 0 = (n : Int)) (hN : n < H.length) (hv : L.V.getD n false = true) :
    rdH (H.getD n hz).1 (H.getD n hz).2 (emit H M D L) (posD H L D k) = (0, L.F.getD n [], posD H L D (k + 1)) := by
  obtain ⟨f1, f2, f3⟩ := fit_of h.e h.h h.r hN
  obtain ⟨l1, l2, l3⟩ := bt_len h.e h.h h.r hN
  have hd := dv_isx h
  have e0 : D = D.take k ++ (D.getD k 0 :: D.drop (k + 1)) := by
    have : D.getD k 0 = D[k] := by rw [List.getD_eq_getElem?_getD, List.getElem?_eq_getElem hk]; rfl
    rw [this]; simp
  have eb : btD H L.V L.F (D.getD k 0) = bitsL ((L.F.getD n []).zip (wsL (H.getD n hz).2)) := by rw [hn, bt_eq, if_pos hv]
  have eX : D.flatMap (btD H L.V L.F) = (D.take k).flatMap (btD H L.V L.F) ++ bitsL ((L.F.getD n []).zip (wsL (H.getD n hz).2)) ++ (D.drop (k + 1)).flatMap (btD H L.V L.F) := by
    conv => lhs; rw [e0]
    rw [List.flatMap_append, List.flatMap_cons, eb, List.append_assoc]
  have eS : posD H L D (k + 1) = posD H L D k + sumL (wsL (H.getD n hz).2) := by
    unfold posD
    rw [take_one D 0 k hk, List.flatMap_append, List.length_append, ← l1, List.flatMap_cons, List.flatMap_nil, List.append_nil, eb]
  have m1 := flat_mod h.e h.h h.r D hd
  have eE : emit H M D L = packB ((D.take k).flatMap (btD H L.V L.F) ++ bitsL ((L.F.getD n []).zip (wsL (H.getD n hz).2)) ++ ((D.drop (k + 1)).flatMap (btD H L.V L.F) ++ bytesBits L.P)) := by
    rw [emit_eq h, ← List.append_assoc, ← eX, packB_app _ _ m1, packB_bytes L.P (fun x hx => by have := hp x hx; omega)]
  unfold rdH
  rw [if_neg (by rw [f3]; simp), if_neg, eS]
  · congr 2
    have q := nums_back _ f2 ((D.take k).flatMap (btD H L.V L.F)) ((D.drop (k + 1)).flatMap (btD H L.V L.F) ++ bytesBits L.P)
    rw [List.map_snd_zip (by omega), List.map_fst_zip (by omega)] at q
    rw [eE]; exact q
  · rw [l3]
    have q : (emit H M D L).length = (D.flatMap (btD H L.V L.F)).length / 8 + L.P.length := by rw [emit_eq h, List.length_append, packB_len]; omega
    have q2 : (D.flatMap (btD H L.V L.F)).length = posD H L D k + sumL (wsL (H.getD n hz).2) + ((D.drop (k + 1)).flatMap (btD H L.V L.F)).length := by
      rw [eX, List.length_append, List.length_append, l1]; rfl
    omega
theorem rest_back {H : List (ByteArray × List Fld)} {M : List Fld} {D : List Int} {L : EL} (h : DV H M D L) : restR (emit H M D L) (posD H L D D.length) = (0, L.P) := by
  have m1 := flat_mod h.e h.h h.r D (dv_isx h)
  have e : posD H L D D.length = (D.flatMap (btD H L.V L.F)).length := by unfold posD; rw [List.take_length]
  unfold restR
  rw [e, if_pos m1, emit_eq h]
  congr 1
  rw [List.drop_append_of_le_length (by rw [packB_len]; omega), List.drop_of_length_le (by rw [packB_len]; omega), List.nil_append]
end Go.Proofs.Ytjhknmklejkknaa
