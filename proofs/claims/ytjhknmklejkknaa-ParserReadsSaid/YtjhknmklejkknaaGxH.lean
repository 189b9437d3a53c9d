/- Several texts in one: PsR, PsZ, PsY. -/
import Derived.Test.YtjhknmklejkknaaPsQ
import Derived.Test.YtjhknmklejkknaaGxG
import Derived.Test.YtjhknmklejkknaaOrT
section
namespace Go.Proofs.Ytjhknmklejkknaa
open Go.RowKit
set_option linter.unusedVariables false
/-- What a run answers: the packet, the states, the error. -/
def pRun (H : List (ByteArray × List Fld)) (M : List Fld) (S : List Pst) (bs : List Int) (e0 : Int) : EL × List Int × Int :=
  if e0 ≠ 0 then (newE H M, [], e0)
  else if (pGo H bs S 12 0 [0] (newE H M) 0).1 ≠ 0 then (newE H M, (pGo H bs S 12 0 [0] (newE H M) 0).2.1, (pGo H bs S 12 0 [0] (newE H M) 0).1)
  else (⟨(pGo H bs S 12 0 [0] (newE H M) 0).2.2.1.V, (pGo H bs S 12 0 [0] (newE H M) 0).2.2.1.F, (pGo H bs S 12 0 [0] (newE H M) 0).2.2.1.T, (restR bs (pGo H bs S 12 0 [0] (newE H M) 0).2.2.2).2⟩, (pGo H bs S 12 0 [0] (newE H M) 0).2.1, 0)
/-- The call returns a packet and states of its own, and an error. -/
def RetPk (L : EL) (st : List Int) (e9 : Int) (w : World) (e : Ending) (w' : World) : Prop := ∃ (X : EX) (Vs : List Value) (E : Value), e = .returned (.tuple #[.agg #[.slice X.va X.vn X.vc, .slice X.fa X.fn X.fc, .slice X.ta X.tn X.tc, .slice X.pa X.pn X.pc], E, .int .i64 e9]) ∧ OE w' w.heap.size X L Vs ∧ NL w' w.heap.size E st ∧ w.grownBy w' none
theorem decl_ok {H : List (ByteArray × List Fld)} {M : List Fld} {S : List Pst} {i : Nat} (h : declE H M S i = 0) : (∀ x ∈ (S.getD i psz).ex, ∃ k : Nat, x = (k : Int) ∧ k < H.length) ∧ (S.getD i psz).ex.length ≤ 4 ∧ (S.getD i psz).cs.length ≤ 8 ∧ ((S.getD i psz).sl = false → (S.getD i psz).cs.length = 0) := by
  unfold declE at h
  split at h
  · cases h
  split at h
  · cases h
  split at h
  · cases h
  split at h
  · cases h
  split at h
  · cases h
  rename_i h1 h2 h3 h4 h5
  refine ⟨fun x hx => ?_, by omega, by omega, fun q => ?_⟩
  · have hb : exOk H.length (S.getD i psz).ex = true := by
      cases q : exOk H.length (S.getD i psz).ex
      · exact absurd (Or.inl q) h4
      · rfl
    unfold exOk at hb
    obtain ⟨a, b⟩ := (isX_iff _ _).1 (List.all_eq_true.1 hb x hx)
    exact ⟨x.toNat, by omega, by omega⟩
  · rcases Nat.eq_zero_or_pos (S.getD i psz).cs.length with z | z
    · exact z
    · exact absurd ⟨q, z⟩ h5
theorem nxB_iff (n i : Nat) (x : Int) : nxB n i x = true ↔ x = -1 ∨ x = -2 ∨ ((i : Int) < x ∧ x < n) := decide_eq_true_iff
theorem next_ok {H : List (ByteArray × List Fld)} {M : List Fld} {S : List Pst} {i : Nat} (h : stOk H M S i) (v : Int) : nxB S.length i (pNext (S.getD i psz).cs (S.getD i psz).df v) = true := by
  unfold pNext
  cases hf : (S.getD i psz).cs.find? (hitB v) with
  | none => exact h.2.2
  | some c =>
    have hm := List.mem_of_find?_eq_some hf
    obtain ⟨k, hk, hc⟩ := List.mem_iff_getElem.1 hm
    have q := h.2.1 k hk
    have e : (S.getD i psz).cs.getD k csz = c := by rw [List.getD_eq_getElem?_getD, List.getElem?_eq_getElem hk, hc]; rfl
    unfold caseE at q
    rw [e] at q
    split at q
    · cases q
    split at q
    · cases q
    split at q
    · cases q
    · rename_i y
      show nxB S.length i c.nx = true
      cases z : nxB S.length i c.nx
      · exact absurd z y
      · rfl
/-- One step of a parse. -/
theorem pGo_step {H : List (ByteArray × List Fld)} {bs : List Int} {S : List Pst} {f i : Nat} {st : List Int} {L : EL} {p : Nat} (R : Int × EL × Nat) (hR : pExs H bs (S.getD i psz).ex L p = R) (x : Int) (hx : pNext (S.getD i psz).cs (S.getD i psz).df (getE R.2.1.V R.2.1.F R.2.1.T (S.getD i psz).h (S.getD i psz).f) = x) :
    pGo H bs S (f + 1) i st L p = if R.1 = 0 then (if x = -2 then (15, st, R.2.1, R.2.2) else if x = -1 then (0, st, R.2.1, R.2.2) else pGo H bs S f x.toNat (st ++ [x]) R.2.1 R.2.2) else (R.1, st, R.2.1, R.2.2) := by
  subst hR hx
  rfl
theorem nl_one {w : World} {base : Nat} (x : Int) (hb : base ≤ w.heap.size) : NL (w.alloc (.cells #[.int .i64 x] 3)) base (.slice (some ⟨w.heap.size, 0, none⟩) 1 1) [x] :=
  ⟨rfl, .inr ⟨_, 1, _, rfl, hb, IsB.new w 3 #[.int .i64 x], Nat.le_refl _, by unfold maxLen; omega, rfl, rfl⟩⟩
theorem put17 {w : World} {b : Nat} {z0 z1 z2 z3 z4 z5 z6 z7 z8 z9 z10 z11 z12 z13 z14 z15 z16 : Value} (h : IsB w b 120 #[z0, z1, z2, z3, z4, z5, z6, z7, z8, z9, z10, z11, z12, z13, z14, z15, z16]) (a0 a1 a2 a3 a4 a5 a6 a7 a8 a9 a10 a11 a12 a13 a14 a15 a16 : Value) : IsB (((((((((((((((((w.setCell ⟨b, 0, none⟩ a0).setCell ⟨b, 1, none⟩ a1).setCell ⟨b, 2, none⟩ a2).setCell ⟨b, 3, none⟩ a3).setCell ⟨b, 4, none⟩ a4).setCell ⟨b, 5, none⟩ a5).setCell ⟨b, 6, none⟩ a6).setCell ⟨b, 7, none⟩ a7).setCell ⟨b, 8, none⟩ a8).setCell ⟨b, 9, none⟩ a9).setCell ⟨b, 10, none⟩ a10).setCell ⟨b, 11, none⟩ a11).setCell ⟨b, 12, none⟩ a12).setCell ⟨b, 13, none⟩ a13).setCell ⟨b, 14, none⟩ a14).setCell ⟨b, 15, none⟩ a15).setCell ⟨b, 16, none⟩ a16) b 120 #[a0, a1, a2, a3, a4, a5, a6, a7, a8, a9, a10, a11, a12, a13, a14, a15, a16] ∧ w.grownBy (((((((((((((((((w.setCell ⟨b, 0, none⟩ a0).setCell ⟨b, 1, none⟩ a1).setCell ⟨b, 2, none⟩ a2).setCell ⟨b, 3, none⟩ a3).setCell ⟨b, 4, none⟩ a4).setCell ⟨b, 5, none⟩ a5).setCell ⟨b, 6, none⟩ a6).setCell ⟨b, 7, none⟩ a7).setCell ⟨b, 8, none⟩ a8).setCell ⟨b, 9, none⟩ a9).setCell ⟨b, 10, none⟩ a10).setCell ⟨b, 11, none⟩ a11).setCell ⟨b, 12, none⟩ a12).setCell ⟨b, 13, none⟩ a13).setCell ⟨b, 14, none⟩ a14).setCell ⟨b, 15, none⟩ a15).setCell ⟨b, 16, none⟩ a16) (some b) := by
  have h0 : IsB (w.setCell ⟨b, 0, none⟩ a0) b 120 #[a0, z1, z2, z3, z4, z5, z6, z7, z8, z9, z10, z11, z12, z13, z14, z15, z16] := h.set 0 a0
  have g0 := gb_set w b 0 a0
  have h1 : IsB ((w.setCell ⟨b, 0, none⟩ a0).setCell ⟨b, 1, none⟩ a1) b 120 #[a0, a1, z2, z3, z4, z5, z6, z7, z8, z9, z10, z11, z12, z13, z14, z15, z16] := h0.set 1 a1
  have g1 := gb_set (w.setCell ⟨b, 0, none⟩ a0) b 1 a1
  have h2 : IsB (((w.setCell ⟨b, 0, none⟩ a0).setCell ⟨b, 1, none⟩ a1).setCell ⟨b, 2, none⟩ a2) b 120 #[a0, a1, a2, z3, z4, z5, z6, z7, z8, z9, z10, z11, z12, z13, z14, z15, z16] := h1.set 2 a2
  have g2 := gb_set ((w.setCell ⟨b, 0, none⟩ a0).setCell ⟨b, 1, none⟩ a1) b 2 a2
  have h3 : IsB ((((w.setCell ⟨b, 0, none⟩ a0).setCell ⟨b, 1, none⟩ a1).setCell ⟨b, 2, none⟩ a2).setCell ⟨b, 3, none⟩ a3) b 120 #[a0, a1, a2, a3, z4, z5, z6, z7, z8, z9, z10, z11, z12, z13, z14, z15, z16] := h2.set 3 a3
  have g3 := gb_set (((w.setCell ⟨b, 0, none⟩ a0).setCell ⟨b, 1, none⟩ a1).setCell ⟨b, 2, none⟩ a2) b 3 a3
  have h4 : IsB (((((w.setCell ⟨b, 0, none⟩ a0).setCell ⟨b, 1, none⟩ a1).setCell ⟨b, 2, none⟩ a2).setCell ⟨b, 3, none⟩ a3).setCell ⟨b, 4, none⟩ a4) b 120 #[a0, a1, a2, a3, a4, z5, z6, z7, z8, z9, z10, z11, z12, z13, z14, z15, z16] := h3.set 4 a4
  have g4 := gb_set ((((w.setCell ⟨b, 0, none⟩ a0).setCell ⟨b, 1, none⟩ a1).setCell ⟨b, 2, none⟩ a2).setCell ⟨b, 3, none⟩ a3) b 4 a4
  have h5 : IsB ((((((w.setCell ⟨b, 0, none⟩ a0).setCell ⟨b, 1, none⟩ a1).setCell ⟨b, 2, none⟩ a2).setCell ⟨b, 3, none⟩ a3).setCell ⟨b, 4, none⟩ a4).setCell ⟨b, 5, none⟩ a5) b 120 #[a0, a1, a2, a3, a4, a5, z6, z7, z8, z9, z10, z11, z12, z13, z14, z15, z16] := h4.set 5 a5
  have g5 := gb_set (((((w.setCell ⟨b, 0, none⟩ a0).setCell ⟨b, 1, none⟩ a1).setCell ⟨b, 2, none⟩ a2).setCell ⟨b, 3, none⟩ a3).setCell ⟨b, 4, none⟩ a4) b 5 a5
  have h6 : IsB (((((((w.setCell ⟨b, 0, none⟩ a0).setCell ⟨b, 1, none⟩ a1).setCell ⟨b, 2, none⟩ a2).setCell ⟨b, 3, none⟩ a3).setCell ⟨b, 4, none⟩ a4).setCell ⟨b, 5, none⟩ a5).setCell ⟨b, 6, none⟩ a6) b 120 #[a0, a1, a2, a3, a4, a5, a6, z7, z8, z9, z10, z11, z12, z13, z14, z15, z16] := h5.set 6 a6
  have g6 := gb_set ((((((w.setCell ⟨b, 0, none⟩ a0).setCell ⟨b, 1, none⟩ a1).setCell ⟨b, 2, none⟩ a2).setCell ⟨b, 3, none⟩ a3).setCell ⟨b, 4, none⟩ a4).setCell ⟨b, 5, none⟩ a5) b 6 a6
  have h7 : IsB ((((((((w.setCell ⟨b, 0, none⟩ a0).setCell ⟨b, 1, none⟩ a1).setCell ⟨b, 2, none⟩ a2).setCell ⟨b, 3, none⟩ a3).setCell ⟨b, 4, none⟩ a4).setCell ⟨b, 5, none⟩ a5).setCell ⟨b, 6, none⟩ a6).setCell ⟨b, 7, none⟩ a7) b 120 #[a0, a1, a2, a3, a4, a5, a6, a7, z8, z9, z10, z11, z12, z13, z14, z15, z16] := h6.set 7 a7
  have g7 := gb_set (((((((w.setCell ⟨b, 0, none⟩ a0).setCell ⟨b, 1, none⟩ a1).setCell ⟨b, 2, none⟩ a2).setCell ⟨b, 3, none⟩ a3).setCell ⟨b, 4, none⟩ a4).setCell ⟨b, 5, none⟩ a5).setCell ⟨b, 6, none⟩ a6) b 7 a7
  have h8 : IsB (((((((((w.setCell ⟨b, 0, none⟩ a0).setCell ⟨b, 1, none⟩ a1).setCell ⟨b, 2, none⟩ a2).setCell ⟨b, 3, none⟩ a3).setCell ⟨b, 4, none⟩ a4).setCell ⟨b, 5, none⟩ a5).setCell ⟨b, 6, none⟩ a6).setCell ⟨b, 7, none⟩ a7).setCell ⟨b, 8, none⟩ a8) b 120 #[a0, a1, a2, a3, a4, a5, a6, a7, a8, z9, z10, z11, z12, z13, z14, z15, z16] := h7.set 8 a8
  have g8 := gb_set ((((((((w.setCell ⟨b, 0, none⟩ a0).setCell ⟨b, 1, none⟩ a1).setCell ⟨b, 2, none⟩ a2).setCell ⟨b, 3, none⟩ a3).setCell ⟨b, 4, none⟩ a4).setCell ⟨b, 5, none⟩ a5).setCell ⟨b, 6, none⟩ a6).setCell ⟨b, 7, none⟩ a7) b 8 a8
  have h9 : IsB ((((((((((w.setCell ⟨b, 0, none⟩ a0).setCell ⟨b, 1, none⟩ a1).setCell ⟨b, 2, none⟩ a2).setCell ⟨b, 3, none⟩ a3).setCell ⟨b, 4, none⟩ a4).setCell ⟨b, 5, none⟩ a5).setCell ⟨b, 6, none⟩ a6).setCell ⟨b, 7, none⟩ a7).setCell ⟨b, 8, none⟩ a8).setCell ⟨b, 9, none⟩ a9) b 120 #[a0, a1, a2, a3, a4, a5, a6, a7, a8, a9, z10, z11, z12, z13, z14, z15, z16] := h8.set 9 a9
  have g9 := gb_set (((((((((w.setCell ⟨b, 0, none⟩ a0).setCell ⟨b, 1, none⟩ a1).setCell ⟨b, 2, none⟩ a2).setCell ⟨b, 3, none⟩ a3).setCell ⟨b, 4, none⟩ a4).setCell ⟨b, 5, none⟩ a5).setCell ⟨b, 6, none⟩ a6).setCell ⟨b, 7, none⟩ a7).setCell ⟨b, 8, none⟩ a8) b 9 a9
  have h10 : IsB (((((((((((w.setCell ⟨b, 0, none⟩ a0).setCell ⟨b, 1, none⟩ a1).setCell ⟨b, 2, none⟩ a2).setCell ⟨b, 3, none⟩ a3).setCell ⟨b, 4, none⟩ a4).setCell ⟨b, 5, none⟩ a5).setCell ⟨b, 6, none⟩ a6).setCell ⟨b, 7, none⟩ a7).setCell ⟨b, 8, none⟩ a8).setCell ⟨b, 9, none⟩ a9).setCell ⟨b, 10, none⟩ a10) b 120 #[a0, a1, a2, a3, a4, a5, a6, a7, a8, a9, a10, z11, z12, z13, z14, z15, z16] := h9.set 10 a10
  have g10 := gb_set ((((((((((w.setCell ⟨b, 0, none⟩ a0).setCell ⟨b, 1, none⟩ a1).setCell ⟨b, 2, none⟩ a2).setCell ⟨b, 3, none⟩ a3).setCell ⟨b, 4, none⟩ a4).setCell ⟨b, 5, none⟩ a5).setCell ⟨b, 6, none⟩ a6).setCell ⟨b, 7, none⟩ a7).setCell ⟨b, 8, none⟩ a8).setCell ⟨b, 9, none⟩ a9) b 10 a10
  have h11 : IsB ((((((((((((w.setCell ⟨b, 0, none⟩ a0).setCell ⟨b, 1, none⟩ a1).setCell ⟨b, 2, none⟩ a2).setCell ⟨b, 3, none⟩ a3).setCell ⟨b, 4, none⟩ a4).setCell ⟨b, 5, none⟩ a5).setCell ⟨b, 6, none⟩ a6).setCell ⟨b, 7, none⟩ a7).setCell ⟨b, 8, none⟩ a8).setCell ⟨b, 9, none⟩ a9).setCell ⟨b, 10, none⟩ a10).setCell ⟨b, 11, none⟩ a11) b 120 #[a0, a1, a2, a3, a4, a5, a6, a7, a8, a9, a10, a11, z12, z13, z14, z15, z16] := h10.set 11 a11
  have g11 := gb_set (((((((((((w.setCell ⟨b, 0, none⟩ a0).setCell ⟨b, 1, none⟩ a1).setCell ⟨b, 2, none⟩ a2).setCell ⟨b, 3, none⟩ a3).setCell ⟨b, 4, none⟩ a4).setCell ⟨b, 5, none⟩ a5).setCell ⟨b, 6, none⟩ a6).setCell ⟨b, 7, none⟩ a7).setCell ⟨b, 8, none⟩ a8).setCell ⟨b, 9, none⟩ a9).setCell ⟨b, 10, none⟩ a10) b 11 a11
  have h12 : IsB (((((((((((((w.setCell ⟨b, 0, none⟩ a0).setCell ⟨b, 1, none⟩ a1).setCell ⟨b, 2, none⟩ a2).setCell ⟨b, 3, none⟩ a3).setCell ⟨b, 4, none⟩ a4).setCell ⟨b, 5, none⟩ a5).setCell ⟨b, 6, none⟩ a6).setCell ⟨b, 7, none⟩ a7).setCell ⟨b, 8, none⟩ a8).setCell ⟨b, 9, none⟩ a9).setCell ⟨b, 10, none⟩ a10).setCell ⟨b, 11, none⟩ a11).setCell ⟨b, 12, none⟩ a12) b 120 #[a0, a1, a2, a3, a4, a5, a6, a7, a8, a9, a10, a11, a12, z13, z14, z15, z16] := h11.set 12 a12
  have g12 := gb_set ((((((((((((w.setCell ⟨b, 0, none⟩ a0).setCell ⟨b, 1, none⟩ a1).setCell ⟨b, 2, none⟩ a2).setCell ⟨b, 3, none⟩ a3).setCell ⟨b, 4, none⟩ a4).setCell ⟨b, 5, none⟩ a5).setCell ⟨b, 6, none⟩ a6).setCell ⟨b, 7, none⟩ a7).setCell ⟨b, 8, none⟩ a8).setCell ⟨b, 9, none⟩ a9).setCell ⟨b, 10, none⟩ a10).setCell ⟨b, 11, none⟩ a11) b 12 a12
  have h13 : IsB ((((((((((((((w.setCell ⟨b, 0, none⟩ a0).setCell ⟨b, 1, none⟩ a1).setCell ⟨b, 2, none⟩ a2).setCell ⟨b, 3, none⟩ a3).setCell ⟨b, 4, none⟩ a4).setCell ⟨b, 5, none⟩ a5).setCell ⟨b, 6, none⟩ a6).setCell ⟨b, 7, none⟩ a7).setCell ⟨b, 8, none⟩ a8).setCell ⟨b, 9, none⟩ a9).setCell ⟨b, 10, none⟩ a10).setCell ⟨b, 11, none⟩ a11).setCell ⟨b, 12, none⟩ a12).setCell ⟨b, 13, none⟩ a13) b 120 #[a0, a1, a2, a3, a4, a5, a6, a7, a8, a9, a10, a11, a12, a13, z14, z15, z16] := h12.set 13 a13
  have g13 := gb_set (((((((((((((w.setCell ⟨b, 0, none⟩ a0).setCell ⟨b, 1, none⟩ a1).setCell ⟨b, 2, none⟩ a2).setCell ⟨b, 3, none⟩ a3).setCell ⟨b, 4, none⟩ a4).setCell ⟨b, 5, none⟩ a5).setCell ⟨b, 6, none⟩ a6).setCell ⟨b, 7, none⟩ a7).setCell ⟨b, 8, none⟩ a8).setCell ⟨b, 9, none⟩ a9).setCell ⟨b, 10, none⟩ a10).setCell ⟨b, 11, none⟩ a11).setCell ⟨b, 12, none⟩ a12) b 13 a13
  have h14 : IsB (((((((((((((((w.setCell ⟨b, 0, none⟩ a0).setCell ⟨b, 1, none⟩ a1).setCell ⟨b, 2, none⟩ a2).setCell ⟨b, 3, none⟩ a3).setCell ⟨b, 4, none⟩ a4).setCell ⟨b, 5, none⟩ a5).setCell ⟨b, 6, none⟩ a6).setCell ⟨b, 7, none⟩ a7).setCell ⟨b, 8, none⟩ a8).setCell ⟨b, 9, none⟩ a9).setCell ⟨b, 10, none⟩ a10).setCell ⟨b, 11, none⟩ a11).setCell ⟨b, 12, none⟩ a12).setCell ⟨b, 13, none⟩ a13).setCell ⟨b, 14, none⟩ a14) b 120 #[a0, a1, a2, a3, a4, a5, a6, a7, a8, a9, a10, a11, a12, a13, a14, z15, z16] := h13.set 14 a14
  have g14 := gb_set ((((((((((((((w.setCell ⟨b, 0, none⟩ a0).setCell ⟨b, 1, none⟩ a1).setCell ⟨b, 2, none⟩ a2).setCell ⟨b, 3, none⟩ a3).setCell ⟨b, 4, none⟩ a4).setCell ⟨b, 5, none⟩ a5).setCell ⟨b, 6, none⟩ a6).setCell ⟨b, 7, none⟩ a7).setCell ⟨b, 8, none⟩ a8).setCell ⟨b, 9, none⟩ a9).setCell ⟨b, 10, none⟩ a10).setCell ⟨b, 11, none⟩ a11).setCell ⟨b, 12, none⟩ a12).setCell ⟨b, 13, none⟩ a13) b 14 a14
  have h15 : IsB ((((((((((((((((w.setCell ⟨b, 0, none⟩ a0).setCell ⟨b, 1, none⟩ a1).setCell ⟨b, 2, none⟩ a2).setCell ⟨b, 3, none⟩ a3).setCell ⟨b, 4, none⟩ a4).setCell ⟨b, 5, none⟩ a5).setCell ⟨b, 6, none⟩ a6).setCell ⟨b, 7, none⟩ a7).setCell ⟨b, 8, none⟩ a8).setCell ⟨b, 9, none⟩ a9).setCell ⟨b, 10, none⟩ a10).setCell ⟨b, 11, none⟩ a11).setCell ⟨b, 12, none⟩ a12).setCell ⟨b, 13, none⟩ a13).setCell ⟨b, 14, none⟩ a14).setCell ⟨b, 15, none⟩ a15) b 120 #[a0, a1, a2, a3, a4, a5, a6, a7, a8, a9, a10, a11, a12, a13, a14, a15, z16] := h14.set 15 a15
  have g15 := gb_set (((((((((((((((w.setCell ⟨b, 0, none⟩ a0).setCell ⟨b, 1, none⟩ a1).setCell ⟨b, 2, none⟩ a2).setCell ⟨b, 3, none⟩ a3).setCell ⟨b, 4, none⟩ a4).setCell ⟨b, 5, none⟩ a5).setCell ⟨b, 6, none⟩ a6).setCell ⟨b, 7, none⟩ a7).setCell ⟨b, 8, none⟩ a8).setCell ⟨b, 9, none⟩ a9).setCell ⟨b, 10, none⟩ a10).setCell ⟨b, 11, none⟩ a11).setCell ⟨b, 12, none⟩ a12).setCell ⟨b, 13, none⟩ a13).setCell ⟨b, 14, none⟩ a14) b 15 a15
  have h16 : IsB (((((((((((((((((w.setCell ⟨b, 0, none⟩ a0).setCell ⟨b, 1, none⟩ a1).setCell ⟨b, 2, none⟩ a2).setCell ⟨b, 3, none⟩ a3).setCell ⟨b, 4, none⟩ a4).setCell ⟨b, 5, none⟩ a5).setCell ⟨b, 6, none⟩ a6).setCell ⟨b, 7, none⟩ a7).setCell ⟨b, 8, none⟩ a8).setCell ⟨b, 9, none⟩ a9).setCell ⟨b, 10, none⟩ a10).setCell ⟨b, 11, none⟩ a11).setCell ⟨b, 12, none⟩ a12).setCell ⟨b, 13, none⟩ a13).setCell ⟨b, 14, none⟩ a14).setCell ⟨b, 15, none⟩ a15).setCell ⟨b, 16, none⟩ a16) b 120 #[a0, a1, a2, a3, a4, a5, a6, a7, a8, a9, a10, a11, a12, a13, a14, a15, a16] := h15.set 16 a16
  have g16 := gb_set ((((((((((((((((w.setCell ⟨b, 0, none⟩ a0).setCell ⟨b, 1, none⟩ a1).setCell ⟨b, 2, none⟩ a2).setCell ⟨b, 3, none⟩ a3).setCell ⟨b, 4, none⟩ a4).setCell ⟨b, 5, none⟩ a5).setCell ⟨b, 6, none⟩ a6).setCell ⟨b, 7, none⟩ a7).setCell ⟨b, 8, none⟩ a8).setCell ⟨b, 9, none⟩ a9).setCell ⟨b, 10, none⟩ a10).setCell ⟨b, 11, none⟩ a11).setCell ⟨b, 12, none⟩ a12).setCell ⟨b, 13, none⟩ a13).setCell ⟨b, 14, none⟩ a14).setCell ⟨b, 15, none⟩ a15) b 16 a16
  exact ⟨h16, (gb_trans (gb_trans (gb_trans (gb_trans (gb_trans (gb_trans (gb_trans (gb_trans (gb_trans (gb_trans (gb_trans (gb_trans (gb_trans (gb_trans (gb_trans (gb_trans g0 g1) g2) g3) g4) g5) g6) g7) g8) g9) g10) g11) g12) g13) g14) g15) g16)⟩
theorem put4 {w : World} {b : Nat} {z0 z1 z2 z3 : Value} (h : IsB w b 42 #[z0, z1, z2, z3]) (a0 a1 a2 a3 : Value) : IsB ((((w.setCell ⟨b, 0, none⟩ a0).setCell ⟨b, 1, none⟩ a1).setCell ⟨b, 2, none⟩ a2).setCell ⟨b, 3, none⟩ a3) b 42 #[a0, a1, a2, a3] ∧ w.grownBy ((((w.setCell ⟨b, 0, none⟩ a0).setCell ⟨b, 1, none⟩ a1).setCell ⟨b, 2, none⟩ a2).setCell ⟨b, 3, none⟩ a3) (some b) := by
  have h0 : IsB (w.setCell ⟨b, 0, none⟩ a0) b 42 #[a0, z1, z2, z3] := h.set 0 a0
  have g0 := gb_set w b 0 a0
  have h1 : IsB ((w.setCell ⟨b, 0, none⟩ a0).setCell ⟨b, 1, none⟩ a1) b 42 #[a0, a1, z2, z3] := h0.set 1 a1
  have g1 := gb_set (w.setCell ⟨b, 0, none⟩ a0) b 1 a1
  have h2 : IsB (((w.setCell ⟨b, 0, none⟩ a0).setCell ⟨b, 1, none⟩ a1).setCell ⟨b, 2, none⟩ a2) b 42 #[a0, a1, a2, z3] := h1.set 2 a2
  have g2 := gb_set ((w.setCell ⟨b, 0, none⟩ a0).setCell ⟨b, 1, none⟩ a1) b 2 a2
  have h3 : IsB ((((w.setCell ⟨b, 0, none⟩ a0).setCell ⟨b, 1, none⟩ a1).setCell ⟨b, 2, none⟩ a2).setCell ⟨b, 3, none⟩ a3) b 42 #[a0, a1, a2, a3] := h2.set 3 a3
  have g3 := gb_set (((w.setCell ⟨b, 0, none⟩ a0).setCell ⟨b, 1, none⟩ a1).setCell ⟨b, 2, none⟩ a2) b 3 a3
  exact ⟨h3, (gb_trans (gb_trans (gb_trans g0 g1) g2) g3)⟩
/-- How many states a machine may still enter. -/
def mLeft (b : Nat) (w : World) : Nat := match w.cell? ⟨b, 15, none⟩ with
  | some (.bool true) => 0
  | _ => match w.cell? ⟨b, 14, none⟩ with
    | some (.slice _ n _) => 1000 - n
    | _ => 1000
theorem mLeft_over {b : Nat} {w : World} (h : w.cell? ⟨b, 15, none⟩ = some (.bool true)) : mLeft b w = 0 := by unfold mLeft; rw [h]
theorem mLeft_is {b : Nat} {w : World} {a : Option Addr} {n c : Nat} (h : w.cell? ⟨b, 15, none⟩ = some (.bool false)) (k : w.cell? ⟨b, 14, none⟩ = some (.slice a n c)) : mLeft b w = 1000 - n := by unfold mLeft; rw [h, k]
end Go.Proofs.Ytjhknmklejkknaa
end
section
namespace Go.Proofs.Ytjhknmklejkknaa
open Go.RowKit
set_option linter.unusedVariables false
theorem inE_zero {e : Int} {b : Bool} {n : Nat} (h : inE e b n = 0) : e = 0 ∧ b = true ∧ n ≤ 512 := by
  unfold inE at h
  split at h
  · cases h
  split at h
  · cases h
  rename_i q1 q2
  refine ⟨?_, ?_, by omega⟩
  · rcases Int.decEq e 0 with x | x
    · exact absurd (Or.inl x) q1
    · exact x
  · cases b
    · exact absurd (Or.inr rfl) q1
    · rfl
end Go.Proofs.Ytjhknmklejkknaa
end
section
namespace Go.Proofs.Ytjhknmklejkknaa
open Go.RowKit
set_option linter.unusedVariables false
/-- The reader is made. -/
def Cr (f : Bool) (v : Value) (r s : Nat) (V : Value) (w2 : World) (bs : List Int) (w : World) : Prop := f = true → v = .pointer (some ⟨r, 0, none⟩) ∧ Rdr w w2.heap.size r s V bs 0 ∧ (bs = [] → V = .slice none 0 0) ∧ w2.heap.size ≤ s
/-- The packet is made. -/
def Ce (f : Bool) (v : Value) (X : EX) (Vs : List Value) (w2 : World) (L : EL) (w : World) : Prop := f = true → v = .agg #[.slice X.va X.vn X.vc, .slice X.fa X.fn X.fc, .slice X.ta X.tn X.tc, .slice X.pa X.pn X.pc] ∧ OE w w2.heap.size X L Vs
/-- The states are made. -/
def Cn (f : Bool) (v : Value) (eg : Nat) (w2 w : World) : Prop := f = true → v = .slice (some ⟨eg, 0, none⟩) 1 1 ∧ NL w w2.heap.size (.slice (some ⟨eg, 0, none⟩) 1 1) [0]
/-- The machine's box is made, and empty. -/
def Cm (f g : Bool) (v : Value) (bm : Nat) (w2 w : World) : Prop := f = true → g = false → v = .pointer (some ⟨bm, 0, none⟩) ∧ w2.heap.size ≤ bm ∧ IsB w bm 120 #[.string { data := #[] }, .slice none 0 0, .slice none 0 0, .slice none 0 0, .slice none 0 0, .slice none 0 0, .slice none 0 0, .slice none 0 0, .slice none 0 0, .pointer none, .slice none 0 0, .slice none 0 0, .slice none 0 0, .slice none 0 0, .slice none 0 0, .bool false, .int .i64 0]
theorem Cr.keep0 {f : Bool} {v : Value} {r s : Nat} {V : Value} {w2 : World} {bs : List Int} {w w' : World} (h : Cr f v r s V w2 bs w) (k : w.grownBy w' none) : Cr f v r s V w2 bs w' := fun e => ⟨(h e).1, (h e).2.1.keep0 k, (h e).2.2⟩
theorem Ce.keep0 {f : Bool} {v : Value} {X : EX} {Vs : List Value} {w2 : World} {L : EL} {w w' : World} (h : Ce f v X Vs w2 L w) (k : w.grownBy w' none) : Ce f v X Vs w2 L w' := fun e => ⟨(h e).1, (h e).2.keep0 k⟩
theorem Cn.keep0 {f : Bool} {v : Value} {eg : Nat} {w2 w w' : World} (h : Cn f v eg w2 w) (k : w.grownBy w' none) : Cn f v eg w2 w' := fun e => ⟨(h e).1, own_keep0 (h e).2 k⟩
theorem Cm.keep0 {f g : Bool} {v : Value} {bm : Nat} {w2 w w' : World} (h : Cm f g v bm w2 w) (k : w.grownBy w' none) : Cm f g v bm w2 w' := fun e e2 => ⟨(h e e2).1, (h e e2).2.1, (h e e2).2.2.keep0 k⟩
def INV4 (w2 : World) (bs : List Int) (L0 : EL) (p0 p1 p2 p3 p4 p5 p6 p7 p8 : Value) (a0 : Act) (l : Array Bool) (a : Act) (w : World) : Prop :=
  ∃ (f2 f4 f5 f6 f7 f8 : Bool) (r s : Nat) (V : Value) (X : EX) (Vs : List Value) (eg bm : Nat) (v2 v4 v5 v6 v7 : Value), l = #[true, true, f2, true, f4, f5, f6, f7, f8] ∧
    a = ((((a0.put (some 19) v2).put (some 21) v4).put (some 22) v5).put (some 23) v6).put (some 8) v7 ∧ w2.grownBy w none ∧ Cr f2 v2 r s V w2 bs w ∧ Ce f4 v4 X Vs w2 L0 w ∧ Cn f5 v5 eg w2 w ∧ Cm f7 f8 v7 bm w2 w ∧
    (f6 = true → f2 = true ∧ f4 = true ∧ f5 = true ∧ v6 = .agg #[p0, p1, p2, p3, p4, p5, p6, p7, p8, .pointer (some ⟨r, 0, none⟩), .slice X.va X.vn X.vc, .slice X.fa X.fn X.fc, .slice X.ta X.tn X.tc, .slice X.pa X.pn X.pc, .slice (some ⟨eg, 0, none⟩) 1 1, .bool false, .int .i64 0]) ∧
    (f8 = true → f6 = true ∧ f7 = true ∧ v7 = .pointer (some ⟨bm, 0, none⟩) ∧ MSt w2 bm r s #[p0, p1, p2, p3, p4, p5, p6, p7, p8, .pointer (some ⟨r, 0, none⟩), .slice X.va X.vn X.vc, .slice X.fa X.fn X.fc, .slice X.ta X.tn X.tc, .slice X.pa X.pn X.pc, .slice (some ⟨eg, 0, none⟩) 1 1, .bool false, .int .i64 0] V bs 0 X L0 Vs (.slice (some ⟨eg, 0, none⟩) 1 1) [0] w)
section
variable {P : Program} {ops : Array Oper} {Q : Exit → Act → World → Prop} {md : Region.Mode} {S : World → Prop}
theorem wp_run4 (w2 : World) (bs : List Int) (L0 : EL) (p0 p1 p2 p3 p4 p5 p6 p7 p8 : Value) (a0 : Act) (w : World)
    (step : ∀ l a w, INV4 w2 bs L0 p0 p1 p2 p3 p4 p5 p6 p7 p8 a0 l a w → ∀ i, i ∈ Region.ready md ops l → wpOp P ops Q i (fun a' w' => S w' ∧ INV4 w2 bs L0 p0 p1 p2 p3 p4 p5 p6 p7 p8 a0 (l.setIfInBounds i true) a' w') a w)
    (fin : ∀ l a w, INV4 w2 bs L0 p0 p1 p2 p3 p4 p5 p6 p7 p8 a0 l a w → Region.ready md ops l = [] → Q .normal a w)
    (g0 : w2.grownBy w none) (h0 : a0 = ((((a0.put (some 19) (a0.tmps.getD 19 undef)).put (some 21) (a0.tmps.getD 21 undef)).put (some 22) (a0.tmps.getD 22 undef)).put (some 23) (a0.tmps.getD 23 undef)).put (some 8) (a0.tmps.getD 8 undef)) :
    wpAnyH P md ops Q S 6 #[true, true, false, true, false, false, false, false, false] a0 w :=
  wpAnyH_inv _ step fin 6 _ _ _ ⟨false, false, false, false, false, false, 0, 0, .slice none 0 0, ⟨none, none, none, none, 0, 0, 0, 0, 0, 0, 0, 0⟩, [], 0, 0, _, _, _, _, _, rfl, h0, g0, (fun e => by cases e), (fun e => by cases e), (fun e => by cases e), (fun e => by cases e), (fun e => by cases e), (fun e => by cases e)⟩ (by decide)
end
end Go.Proofs.Ytjhknmklejkknaa
end
