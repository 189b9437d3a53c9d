/- Deparser: which position and error its list has, and the bits that it emits, as functions of lists; plain facts; no condition. -/
import Derived.Test.YtjhknmklejkknaaGlE
import Derived.Test.YtjhknmklejkknaaEvQ
import Derived.Test.YtjhknmklejkknaaEvJ
import Derived.Test.YtjhknmklejkknaaTpB
namespace Go.Proofs.Ytjhknmklejkknaa
open Go.RowKit
set_option linter.unusedVariables false
/-- The error of element j: it is no header, or an earlier one. -/
def dpX (nh : Nat) (D : List Int) (j : Nat) : Int := if isX (D.getD j 0) nh = true then (if D.getD j 0 ∈ D.take j then 7 else 0) else 8
/-- The position and the error of a list. -/
def DC (nh : Nat) (D : List Int) (a e : Int) : Prop :=
  (8 < D.length ∧ a = -1 ∧ e = 12) ∨ (D.length ≤ 8 ∧ ∃ j, j < D.length ∧ (∀ i, i < j → dpX nh D i = 0) ∧ dpX nh D j ≠ 0 ∧ a = j ∧ e = dpX nh D j) ∨ (D.length ≤ 8 ∧ (∀ i, i < D.length → dpX nh D i = 0) ∧ a = 0 ∧ e = 0)
theorem DC.bad {nh : Nat} {D : List Int} {a e : Int} (h : DC nh D a e) (hl : D.length ≤ 8) {j : Nat} (hj : j < D.length) (b : ∀ i, i < j → dpX nh D i = 0) (x : dpX nh D j ≠ 0) : a = j ∧ e = dpX nh D j := by
  rcases h with q | ⟨_, k, hk, b2, x2, q1, q2⟩ | q
  · omega
  · have : k = j := by
      rcases Nat.lt_trichotomy k j with r | r | r
      · exact absurd (b k r) x2
      · exact r
      · exact absurd (b2 j r) x
    subst this; exact ⟨q1, q2⟩
  · exact absurd (q.2.1 j hj) x
theorem DC.good {nh : Nat} {D : List Int} {a e : Int} (h : DC nh D a e) (hl : D.length ≤ 8) (b : ∀ i, i < D.length → dpX nh D i = 0) : a = 0 ∧ e = 0 := by
  rcases h with q | ⟨_, k, hk, b2, x2, q1, q2⟩ | q
  · omega
  · exact absurd (b k hk) x2
  · exact q.2.2
/-- All is right with the list. -/
def dcOk (nh : Nat) (D : List Int) : Prop := D.length ≤ 8 ∧ ∀ i, i < D.length → dpX nh D i = 0
theorem DC.ok {nh : Nat} {D : List Int} {a e : Int} (h : DC nh D a e) : e = 0 ↔ dcOk nh D := by
  constructor
  · intro he
    rcases h with q | ⟨_, k, hk, b2, x2, q1, q2⟩ | q
    · omega
    · exact absurd (q2.symm.trans he) x2
    · exact ⟨q.1, q.2.1⟩
  · intro ⟨hl, b⟩
    exact (h.good hl b).2
theorem dcOk.isx {nh : Nat} {D : List Int} (h : dcOk nh D) {i : Nat} (hi : i < D.length) : isX (D.getD i 0) nh = true := by
  have := h.2 i hi
  unfold dpX at this
  split at this
  · assumption
  · omega
/-- One header's bits behind those that there are. -/
def emF (H : List (ByteArray × List Fld)) (V : List Bool) (F : List (List Int)) (B : List Bool) (d : Int) : List Bool :=
  if V.getD d.toNat false = true then (wrH (H.getD d.toNat hz).1 (H.getD d.toNat hz).2 (F.getD d.toNat []) B).2 else B
def emL (H : List (ByteArray × List Fld)) (V : List Bool) (F : List (List Int)) (B : List Bool) (D : List Int) : List Bool := D.foldl (emF H V F) B
theorem wrH_le (hs : ByteArray) (L : List Fld) (vals : List Int) (B : List Bool) : (wrH hs L vals B).2.length ≤ B.length + 384 := by
  unfold wrH
  split
  · simp
  · rename_i h0
    split
    · simp
    · rename_i h1
      split
      · rename_i h2
        have := (pack_len (Classical.not_not.1 h0) (Classical.not_not.1 h1) h2).2.2
        simp; omega
      · simp
theorem emF_le (H : List (ByteArray × List Fld)) (V : List Bool) (F : List (List Int)) (B : List Bool) (d : Int) : (emF H V F B d).length ≤ B.length + 384 := by
  unfold emF
  split
  · exact wrH_le _ _ _ _
  · omega
theorem emL_le (H : List (ByteArray × List Fld)) (V : List Bool) (F : List (List Int)) (D : List Int) : ∀ B, (emL H V F B D).length ≤ B.length + 384 * D.length := by
  induction D with
  | nil => intro B; simp [emL]
  | cons d t ih =>
    intro B
    have h1 := emF_le H V F B d
    have h2 := ih (emF H V F B d)
    show (emL H V F (emF H V F B d) t).length ≤ _
    simp only [List.length_cons]
    omega
theorem emL_snoc (H : List (ByteArray × List Fld)) (V : List Bool) (F : List (List Int)) (B : List Bool) (D : List Int) (k : Nat) (h : k < D.length) : emL H V F B (D.take (k + 1)) = emF H V F (emL H V F B (D.take k)) (D.getD k 0) := by
  have e : D.take (k + 1) = D.take k ++ [D.getD k 0] := take_one D 0 k h
  rw [e]; unfold emL; rw [List.foldl_append]; rfl
/-- Every header is valid. -/
def hdsOk (H : List (ByteArray × List Fld)) : Prop := ∀ x ∈ H, chkH x.1 x.2 = 0
/-- The environment is valid. -/
def envOk (H : List (ByteArray × List Fld)) (M : List Fld) (L : EL) : Prop := shP H M L ∧ ftP (dclL H M) (L.T :: L.F) ∧ zrP L
open Classical in
/-- What is emitted. -/
noncomputable def emit (H : List (ByteArray × List Fld)) (M : List Fld) (D : List Int) (L : EL) : List Int :=
  if dcOk H.length D ∧ hdsOk H ∧ envOk H M L then (bytesR (emL H L.V L.F [] D)).2 ++ L.P else []
theorem emit_yes {H : List (ByteArray × List Fld)} {M : List Fld} {D : List Int} {L : EL} (h1 : dcOk H.length D) (h2 : hdsOk H) (h3 : envOk H M L) : emit H M D L = (bytesR (emL H L.V L.F [] D)).2 ++ L.P := by
  unfold emit; rw [if_pos ⟨h1, h2, h3⟩]
theorem chkE_ok {H : List (ByteArray × List Fld)} {M : List Fld} {L : EL} {r : Int} (h : chkE H M L r) : r = 0 ↔ envOk H M L := by
  rcases h with ⟨a, b⟩ | ⟨a, b, c⟩ | ⟨a, b, c, d⟩ | ⟨a, b, c, d⟩
  · exact ⟨fun e => by omega, fun e => absurd e.1 a⟩
  · exact ⟨fun e => by omega, fun e => absurd e.2.1 b⟩
  · exact ⟨fun e => by omega, fun e => absurd e.2.2 c⟩
  · exact ⟨fun _ => ⟨a, b, c⟩, fun _ => d⟩
theorem chkE_ex (H : List (ByteArray × List Fld)) (M : List Fld) (L : EL) : ∃ r, chkE H M L r := by
  by_cases a : shP H M L
  · by_cases b : ftP (dclL H M) (L.T :: L.F)
    · by_cases c : zrP L
      · exact ⟨0, .inr (.inr (.inr ⟨a, b, c, rfl⟩))⟩
      · exact ⟨5, .inr (.inr (.inl ⟨a, b, c, rfl⟩))⟩
    · exact ⟨9, .inr (.inl ⟨a, b, rfl⟩)⟩
  · exact ⟨2, .inl ⟨a, rfl⟩⟩
end Go.Proofs.Ytjhknmklejkknaa
