/- Cubeset: the sets that the laws on partitions and complements speak of: plain facts. -/
import Derived.Test.YteemhabgliglmaaCtP
namespace Go.Proofs.Yteemhabgliglmaa
open Go.RowKit
set_option linter.unusedVariables false
theorem b64_0 : B64 0 := by unfold B64; decide
theorem wf_all : Wf [(0, 0)] := fun p hp => by rw [List.mem_singleton.1 hp]; exact ⟨b64_0, b64_0⟩
theorem wf_nil : Wf [] := fun p hp => by cases hp
theorem sc_nil (w : World) : SC w none 0 0 [] := ⟨rfl, fun _ => ⟨rfl, rfl⟩, Nat.le_refl _, (fun ad e => by cases e), (fun p hp => by cases hp)⟩
theorem rst_nil (k x : Nat) : rstN k [] x = false := rfl
theorem rst_all (k x : Nat) : rstN k [(0, 0)] x = true := by
  unfold rstN
  rw [List.any_cons]
  have : hasN 0 (0 &&& lowN k) x = true := by
    rw [hasN_iff]
    intro i hi
    rw [Nat.zero_and, Nat.zero_testBit] at hi; cases hi
  rw [show hasN ((0 : Nat), (0 : Nat)).1 (((0 : Nat), (0 : Nat)).2 &&& lowN k) x = true from this]
  rfl
theorem gd_wf {k : Nat} {L : List (Nat × Nat)} (h : ∀ p ∈ L, Gd k p) : Wf L := fun p hp => ⟨(h p hp).1, (h p hp).2.1⟩
theorem simpL_le (L : List (Nat × Nat)) : (simpL L).length ≤ L.length := by
  unfold simpL keptT
  rw [List.length_map]
  have := List.length_filter_le (fun i => !redN L i) (List.range L.length)
  rwa [List.length_range] at this
theorem stepE_or (L : List (Nat × Nat)) : stepE L = 0 ∨ stepE L = 12 := by
  unfold stepE; split
  · exact .inr rfl
  · exact .inl rfl
theorem stepL_wf' (L : List (Nat × Nat)) (h : Wf L) : Wf (stepL L) := by
  unfold stepL
  split
  · exact wf_nil
  · exact simpL_wf' L h
theorem stepL_len' (L : List (Nat × Nat)) : (stepL L).length ≤ 1024 := by
  unfold stepL
  split
  · exact Nat.zero_le _
  · omega
theorem stepL_gd {k : Nat} (L : List (Nat × Nat)) (h : ∀ p ∈ L, Gd k p) : ∀ p ∈ stepL L, Gd k p := by
  unfold stepL
  split
  · intro p hp; cases hp
  · exact simp_gd L h
theorem intG_or (M : List (Nat × Nat)) : ∀ L out : List (Nat × Nat), (intG M L out).2 = 0 ∨ (intG M L out).2 = 12 := by
  intro L
  induction L with
  | nil => intro out; exact .inl rfl
  | cons p L ih =>
    intro out
    unfold intG
    split
    · exact .inr rfl
    · exact ih _
theorem intG_len' (M : List (Nat × Nat)) : ∀ L out : List (Nat × Nat), out.length ≤ 1024 → (intG M L out).1.length ≤ 1024 := by
  intro L
  induction L with
  | nil => intro out h; exact h
  | cons p L ih =>
    intro out h
    unfold intG
    split
    · exact Nat.zero_le _
    · exact ih _ (by omega)
theorem gd_bits {k : Nat} (hk : k ≤ 64) {v m : Nat} (hc : Canon v m) (hm : ∀ j, m.testBit j = true → j < k) : Gd k (v, m) :=
  ⟨b64_of_bits v k hk fun j hj => hm j (hc j hj), b64_of_bits m k hk hm, hc, hm⟩
theorem rowI_gd {k : Nat} (hk : k ≤ 64) (p : Nat × Nat) (M : List (Nat × Nat)) (hp : Gd k p) (hM : ∀ q ∈ M, Gd k q) : ∀ r ∈ rowI p M, Gd k r := by
  intro r hr
  obtain ⟨q, hq, hr⟩ := List.mem_flatMap.1 hr
  unfold interN at hr
  split at hr
  · rename_i hm
    rw [List.mem_singleton.1 hr]
    unfold intV intM
    rw [if_pos hm, if_pos hm]
    refine gd_bits hk ?_ ?_
    · intro i hi
      rw [Nat.testBit_or, Nat.testBit_and, Nat.testBit_and] at hi
      rw [Nat.testBit_or]
      revert hi
      cases p.2.testBit i <;> cases q.2.testBit i <;> simp
    · intro j hj
      rw [Nat.testBit_or, Bool.or_eq_true] at hj
      rcases hj with h | h
      · exact hp.2.2.2 j h
      · exact (hM q hq).2.2.2 j h
  · cases hr
theorem intG_gd {k : Nat} (hk : k ≤ 64) (M : List (Nat × Nat)) (hM : ∀ q ∈ M, Gd k q) : ∀ L out : List (Nat × Nat), (∀ p ∈ L, Gd k p) → (∀ p ∈ out, Gd k p) → ∀ p ∈ (intG M L out).1, Gd k p := by
  intro L
  induction L with
  | nil => intro out _ h; exact h
  | cons p L ih =>
    intro out hL ho
    unfold intG
    split
    · intro q hq; cases hq
    · refine ih _ (fun q hq => hL q (by simp [hq])) (simp_gd _ fun q hq => ?_)
      rcases List.mem_append.1 hq with h | h
      · exact ho q h
      · exact rowI_gd hk p M (hL p (by simp)) hM q h
theorem subG_or (k : Nat) : ∀ M l : List (Nat × Nat), (subG k M l).2 = 0 ∨ (subG k M l).2 = 12 := by
  intro M
  induction M with
  | nil => intro l; exact .inl rfl
  | cons q M ih =>
    intro l
    unfold subG
    split
    · exact .inr rfl
    · exact ih _
theorem subG_gd {k : Nat} (h1 : 1 ≤ k) (hk : k ≤ 64) : ∀ M l : List (Nat × Nat), Wf M → (∀ p ∈ l, Gd k p) → l.length ≤ 1024 → (∀ p ∈ (subG k M l).1, Gd k p) ∧ (subG k M l).1.length ≤ 1024 := by
  intro M
  induction M with
  | nil => intro l _ hg hl; exact ⟨hg, hl⟩
  | cons q M ih =>
    intro l hM hg hl
    unfold subG
    split
    · exact ⟨(fun p hp => by cases hp), Nat.zero_le _⟩
    · refine ih _ (fun p hp => hM p (by simp [hp])) (simp_gd _ fun p hp => ?_) (by omega)
      obtain ⟨r, hr, hp⟩ := List.mem_flatMap.1 hp
      exact gd_subL h1 hk (hg r hr) (hM q (by simp)) p hp
theorem subs_is {k : Nat} (h1 : 1 ≤ k) (hk : k ≤ 64) (L M : List (Nat × Nat)) : subsX (k : Int) L M = subsL k L M := by
  unfold subsX; rw [if_pos (by omega), Int.toNat_natCast]
theorem subs_or {k : Nat} (h1 : 1 ≤ k) (hk : k ≤ 64) (L M : List (Nat × Nat)) : (subsX (k : Int) L M).2 = 0 ∨ (subsX (k : Int) L M).2 = 12 := by
  rw [subs_is h1 hk]
  unfold subsL
  split
  · exact .inr rfl
  · exact subG_or k _ _
theorem subs_gd {k : Nat} (h1 : 1 ≤ k) (hk : k ≤ 64) (L M : List (Nat × Nat)) (hL : Wf L) (hM : Wf M) : (∀ p ∈ (subsX (k : Int) L M).1, Gd k p) ∧ (subsX (k : Int) L M).1.length ≤ 1024 := by
  rw [subs_is h1 hk]
  unfold subsL
  split
  · exact ⟨(fun p hp => by cases hp), Nat.zero_le _⟩
  · exact subG_gd h1 hk M _ hM (res_gd hk L hL) (by omega)
theorem subs_none {k : Nat} (h1 : 1 ≤ k) (hk : k ≤ 64) (L : List (Nat × Nat)) (hl : L.length ≤ 1024) : (subsX (k : Int) L []).2 = 0 := by
  rw [subs_is h1 hk]
  unfold subsL
  have := simpL_le (L.map (resP k))
  rw [List.length_map] at this
  rw [if_neg (by omega)]
  rfl
/-- Nothing is left of a set that lies in the other one. -/
theorem sub_in {k : Nat} (h1 : 1 ≤ k) (hk : k ≤ 64) (L M : List (Nat × Nat)) (hL : Wf L) (hM : Wf M) (h : ∀ x, rstN k L x = true → rstN k M x = true) (he : (subsX (k : Int) L M).2 = 0) : subB (k : Int) L M = true := by
  have : (subsX (k : Int) L M).1 = [] := any_nil_of fun x => by
    rw [any_subs h1 hk L M hL hM x he]
    have := h x
    revert this
    cases rstN k L x <;> cases rstN k M x <;> simp
  unfold subB
  rw [he, this]
  rfl
theorem eq_in {k : Nat} (h1 : 1 ≤ k) (hk : k ≤ 64) (L M : List (Nat × Nat)) (hL : Wf L) (hM : Wf M) (h : ∀ x, rstN k L x = rstN k M x) (he : eqE (k : Int) L M = 0) : eqB (k : Int) L M = true := by
  unfold eqE at he
  unfold eqB
  by_cases h0 : (subsX (k : Int) L M).2 = 0
  · rw [if_neg (by simp [h0])] at he ⊢
    rw [sub_in h1 hk L M hL hM (fun x e => by rw [← h x]; exact e) h0, sub_in h1 hk M L hM hL (fun x e => by rw [h x]; exact e) he]
    rfl
  · rw [if_pos h0] at he; exact absurd he h0
theorem eqE_or {k : Nat} (h1 : 1 ≤ k) (hk : k ≤ 64) (L M : List (Nat × Nat)) : eqE (k : Int) L M = 0 ∨ eqE (k : Int) L M = 12 := by
  unfold eqE
  split
  · exact subs_or h1 hk L M
  · exact subs_or h1 hk M L
/-- What the law on partitions asks where no error arises. -/
theorem part_ok {k : Nat} (h1 : 1 ≤ k) (hk : k ≤ 32) (A B X Y S I U T : List (Nat × Nat)) (hA : Wf A) (hB : Wf B) (la : A.length ≤ 10) (lb : B.length ≤ 8)
    (eX : X = (subsX (k : Int) A []).1) (eY : Y = (subsX (k : Int) B []).1) (eS : S = (subsX (k : Int) A B).1) (gS : (subsX (k : Int) A B).2 = 0)
    (eI : I = (intG Y X []).1) (gI : (intG Y X []).2 = 0) (eU : U = stepL (S ++ I)) (gU : stepE (S ++ I) = 0) (eT : T = (intG Y S []).1) (gT : (intG Y S []).2 = 0) :
    T = [] ∧ (eqE (k : Int) U A = 0 → eqB (k : Int) U A = true) ∧ ((subsX (k : Int) S A).2 = 0 → subB (k : Int) S A = true) ∧
    ((pcL (k : Int) S).2 = 0 → (pcL (k : Int) I).2 = 0 → (pcL (k : Int) A).2 = 0 → (pcL (k : Int) S).1 + (pcL (k : Int) I).1 = (pcL (k : Int) A).1) := by
  have hk' : k ≤ 64 := by omega
  have X0 := subs_none h1 hk' A (by omega)
  have Y0 := subs_none h1 hk' B (by omega)
  have GX := (subs_gd h1 hk' A [] hA wf_nil).1
  have GY := (subs_gd h1 hk' B [] hB wf_nil).1
  have GS := (subs_gd h1 hk' A B hA hB).1
  rw [← eX] at GX; rw [← eY] at GY; rw [← eS] at GS
  have GI := intG_gd hk' Y GY X [] GX (fun p hp => by cases hp)
  rw [← eI] at GI
  have GSI : ∀ p ∈ S ++ I, Gd k p := fun p hp => (List.mem_append.1 hp).elim (GS p) (GI p)
  have GU := stepL_gd (S ++ I) GSI
  rw [← eU] at GU
  have aX : ∀ x, anyN X x = rstN k A x := fun x => by rw [eX, any_subs h1 hk' A [] hA wf_nil x X0, rst_nil]; simp
  have aY : ∀ x, anyN Y x = rstN k B x := fun x => by rw [eY, any_subs h1 hk' B [] hB wf_nil x Y0, rst_nil]; simp
  have aS : ∀ x, anyN S x = (rstN k A x && !rstN k B x) := fun x => by rw [eS, any_subs h1 hk' A B hA hB x gS]
  have aI : ∀ x, anyN I x = (rstN k A x && rstN k B x) := fun x => by
    rw [eI, any_intG Y (gd_wf GY) x X [] (gd_wf GX) wf_nil gI, aX, aY]; rfl
  have aU : ∀ x, anyN U x = rstN k A x := fun x => by
    rw [eU, any_union S I (gd_wf GS) (gd_wf GI) x gU, aS, aI]
    cases rstN k A x <;> cases rstN k B x <;> rfl
  have aT : ∀ x, anyN T x = false := fun x => by
    rw [eT, any_intG Y (gd_wf GY) x S [] (gd_wf GS) wf_nil gT, aS, aY]
    show (false || _) = false
    cases rstN k A x <;> cases rstN k B x <;> rfl
  refine ⟨any_nil_of aT, eq_in h1 hk' U A (gd_wf GU) hA (fun x => by rw [rst_gd hk' U GU, aU]), sub_in h1 hk' S A (gd_wf GS) hA (fun x hx => ?_), fun c1 c2 c3 => ?_⟩
  · rw [rst_gd hk' S GS, aS] at hx
    revert hx
    cases rstN k A x <;> simp
  · rw [pcL_num h1 (by omega) S (gd_wf GS) c1, pcL_num h1 (by omega) I (gd_wf GI) c2, pcL_num h1 (by omega) A hA c3]
    rw [num_congr (g := fun x => rstN k A x && !rstN k B x) (fun x _ => by rw [rst_gd hk' S GS, aS]), num_congr (f := rstN k I) (g := fun x => rstN k A x && rstN k B x) (fun x _ => by rw [rst_gd hk' I GI, aI])]
    rw [← num_or (fun x _ hx => ?_)]
    · refine num_congr fun x _ => ?_
      cases rstN k A x <;> cases rstN k B x <;> rfl
    · revert hx
      cases rstN k A x <;> cases rstN k B x <;> simp
theorem num_not (k : Nat) (f : Nat → Bool) : numN k (fun x => !f x) + numN k f = 2 ^ k := by
  rw [← num_or (fun x _ hx => by revert hx; cases f x <;> simp)]
  rw [num_congr (g := fun _ => true) (fun x _ => by cases f x <;> rfl)]
  unfold numN
  rw [List.countP_eq_length.2 (fun _ _ => rfl), List.length_range]
/-- What the law on complements asks where no error arises. -/
theorem compl_ok {k : Nat} (h1 : 1 ≤ k) (hk : k ≤ 32) (A C X I D : List (Nat × Nat)) (hA : Wf A) (la : A.length ≤ 10)
    (eC : C = (subsX (k : Int) [(0, 0)] A).1) (gC : (subsX (k : Int) [(0, 0)] A).2 = 0) (eX : X = (subsX (k : Int) A []).1)
    (eI : I = (intG X C []).1) (gI : (intG X C []).2 = 0) (eD : D = (subsX (k : Int) [(0, 0)] C).1) (gD : (subsX (k : Int) [(0, 0)] C).2 = 0) :
    I = [] ∧ (eqE (k : Int) D A = 0 → eqB (k : Int) D A = true) ∧ ((pcL (k : Int) C).2 = 0 → (pcL (k : Int) A).2 = 0 → (pcL (k : Int) C).1 + (pcL (k : Int) A).1 = 2 ^ k) := by
  have hk' : k ≤ 64 := by omega
  have X0 := subs_none h1 hk' A (by omega)
  have GX := (subs_gd h1 hk' A [] hA wf_nil).1
  have GC := (subs_gd h1 hk' [(0, 0)] A wf_all hA).1
  rw [← eX] at GX; rw [← eC] at GC
  have GD := (subs_gd h1 hk' [(0, 0)] C wf_all (gd_wf GC)).1
  rw [← eD] at GD
  have aX : ∀ x, anyN X x = rstN k A x := fun x => by rw [eX, any_subs h1 hk' A [] hA wf_nil x X0, rst_nil]; simp
  have aC : ∀ x, anyN C x = !rstN k A x := fun x => by rw [eC, any_compl h1 hk' A hA x gC]
  have aD : ∀ x, anyN D x = rstN k A x := fun x => by rw [eD, any_compl h1 hk' C (gd_wf GC) x gD, rst_gd hk' C GC, aC]; simp
  have aI : ∀ x, anyN I x = false := fun x => by
    rw [eI, any_intG X (gd_wf GX) x C [] (gd_wf GC) wf_nil gI, aC, aX]
    show (false || _) = false
    cases rstN k A x <;> rfl
  refine ⟨any_nil_of aI, eq_in h1 hk' D A (gd_wf GD) hA (fun x => by rw [rst_gd hk' D GD, aD]), fun c1 c2 => ?_⟩
  rw [pcL_num h1 (by omega) C (gd_wf GC) c1, pcL_num h1 (by omega) A hA c2, num_congr (g := fun x => !rstN k A x) (fun x _ => by rw [rst_gd hk' C GC, aC]), num_not]
end Go.Proofs.Yteemhabgliglmaa
