/- Register: duplicate; no condition but sizes. -/
import Derived.Test.YtolifmpnhflegaaRgE
namespace Go.Proofs.Ytolifmpnhflegaa
open Go.RowKit
set_option linter.unusedVariables false
/-- The first k of n rows are those of the list, the others are empty. -/
def up (n k : Nat) (L : List (List Int)) : List (List Int) := (List.range n).map fun j => if j < k then L.getD j [] else []
theorem up_len (n k : Nat) (L : List (List Int)) : (up n k L).length = n := by simp [up]
theorem up_zero (n : Nat) (L : List (List Int)) : up n 0 L = List.replicate n [] := by
  apply List.ext_getElem (by simp [up])
  intro i h1 h2
  simp [up]
theorem up_all (L : List (List Int)) (n : Nat) (h : L.length = n) : up n n L = L := by
  subst h
  apply List.ext_getElem (by simp [up])
  intro i h1 h2
  simp [up, h2]
theorem up_set (n k : Nat) (L : List (List Int)) (h : k < n) : (up n k L).set k (L.getD k []) = up n (k + 1) L := by
  apply List.ext_getElem (by simp [up])
  intro i h1 h2
  rw [List.getElem_set]
  by_cases e : k = i
  · subst e
    simp [up]
  · rw [if_neg e]
    simp [up]
    by_cases q : i < k
    · rw [if_pos q, if_pos (by omega)]
    · rw [if_neg q, if_neg (by omega)]
theorem up_same (n k : Nat) (L : List (List Int)) (h : k < n) (he : L.getD k [] = []) : up n k L = up n (k + 1) L := by
  rw [← up_set n k L h, he]
  apply List.ext_getElem (by simp [up])
  intro i h1 h2
  rw [List.getElem_set]
  by_cases e : k = i
  · subst e
    simp [up]
  · rw [if_neg e]
theorem sz32 : (Try.prog.info? 49).map (·.size) = some 1 := by kernel_rfl
theorem splice_all {α : Type} (Z X : List α) (h : X.length = Z.length) : splice Z 0 X = X := by
  unfold splice
  simp [h]
theorem nu_of {w : World} {base g n c : Nat} {l : List Int} (hb : IsB w g 49 (l.map (Value.int .u32)).toArray) (hn : l.length = n) (hg : base ≤ g) (hm : n ≤ maxLen) : NU w base (.slice (some ⟨g, 0, none⟩) n n) l := by
  subst hn
  exact ⟨by simp, .inr ⟨g, l.length, _, rfl, hg, hb, Nat.le_refl _, hm, by simp, by rw [Nat.mul_one]; exact List.take_of_length_le (by simp)⟩⟩
theorem gb_below_one {a b : World} {g : Nat} (h : Below g a b) (hs : a.heap.size = g + 1) : a.grownBy b (some g) :=
  ⟨h.os, h.tape, h.output, h.size, fun k hk hn => h.block k (by
    have : k ≠ g := fun e => hn (by rw [e])
    omega)⟩
theorem or_own {w : World} {base n : Nat} {V : Value} (h : w.ownsRow base 34 1 V n (List.replicate n (.slice none 0 0))) : OR w base V (List.replicate n []) (List.replicate n nilV) := by
  refine ⟨by simpa [nilV] using h, ?_, ?_, ?_⟩
  · intro x hx
    simp at hx
    have e1 : (List.replicate n nilV).getD x nilV = nilV := by simp [hx]
    have e2 : (List.replicate n ([] : List Int)).getD x [] = [] := by simp [hx]
    rw [e1, e2]
    exact World.ownsRow_nil _ _ _ _
  · intro x y hx hy _ q hq
    simp at hx
    have e1 : (List.replicate n nilV).getD x nilV = nilV := by simp [hx]
    rw [e1] at hq
    simp [nilV, Value.ownBlock] at hq
  · intro l hl
    have := List.eq_of_mem_replicate hl
    subst this
    intro x hx; cases hx
theorem ucopy_any {w : World} {ops : Array Oper} {rest : List Oper} {o : Oper} {a : Act} {Q : Exit → Act → World → Prop} (hgd : o.guard = none) (d s : Operand)
    (ho : o.op = .call { callee := .builtin .copy, args := #[d, s], argTypes := #[34, 34] }) (base g dCap sCap N : Nat) (sp : Option Addr) (hd : a.eval d = .slice (some ⟨g, 0, none⟩) N dCap) (hs : a.eval s = .slice sp N sCap)
    (Z : List Int) (hZ : Z.length = N) (hown : NU w base (.slice (some ⟨g, 0, none⟩) N dCap) Z) (X : List Int) (hM : SU w sp N sCap X)
    (h : ∀ w', NU w' base (.slice (some ⟨g, 0, none⟩) N dCap) X → w.grownBy w' (some g) → wpList Try.prog ops Q rest (a.put o.dst (goInt N)) w') : wpList Try.prog ops Q (o :: rest) a w := by
  have hX := hM.len
  cases sp with
  | none =>
    obtain ⟨rfl, rfl⟩ := hM.nil rfl
    have e1 : X = [] := List.length_eq_zero_iff.1 hX
    have e2 : Z = [] := List.length_eq_zero_iff.1 hZ
    subst e1 e2
    refine wpList_copy_nothing hgd d s 34 34 ho 49 Try.underlying34 sz32 _ _ 0 dCap 0 0 hd hs rfl ?_
    exact h w hown (gb_refl _ _)
  | some ad =>
    subst hX
    rcases hown.2 with ⟨k, _⟩ | ⟨g', cap, cur, k, hbg, hg, hnc, hcm, hcs, htake⟩
    · cases k
    · have k0 := k
      injection k with k1 k2 k3
      injection k1 with k1
      injection k1 with k1
      subst k1 k3
      have hcs : cur.size = dCap := by omega
      have hnc : X.length ≤ dCap := by rw [← hZ]; exact hnc
      refine wpList_copy_own hgd d s 34 34 ho 49 Try.underlying34 sz32 g 0 X.length dCap ad X.length sCap hd hs cur 49 hg (X.map (Value.int .u32)) (by simp) (hM.slr.2.2 ad rfl) (by simp; omega) (ints_one _ _) ?_
      have e := h (w.setRow g (cur.toList.take 0 ++ (X.map (Value.int .u32) ++ cur.toList.drop (0 + (X.map (Value.int .u32)).length))).toArray) ?_ ⟨rfl, rfl, rfl, by simp [World.setRow], fun k hk hn => setRow_other w g k _ (fun e => hn (by rw [e]))⟩
      · simpa using e
      · refine ⟨by simp, .inr ⟨g, dCap, _, rfl, hbg, setRow_heap w g _ _ 49 _ hg, hnc, hcm, ?_, ?_⟩⟩
        · simp [hcs]; omega
        · simp
end Go.Proofs.Ytolifmpnhflegaa
