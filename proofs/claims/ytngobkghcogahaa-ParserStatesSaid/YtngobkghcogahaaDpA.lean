/- Deparser: which position and error its list has, and the bits that it emits, as functions of lists; plain facts; no condition. -/
import Derived.Test.YtngobkghcogahaaGlE
import Derived.Test.YtngobkghcogahaaEvQ
import Derived.Test.YtngobkghcogahaaEvJ
import Derived.Test.YtngobkghcogahaaTpB
namespace Go.Proofs.Ytngobkghcogahaa
open Go.RowKit
set_option linter.unusedVariables false
/-- The error of element j: it is no header, or an earlier one. -/
def dpX (nh : Nat) (D : List Int) (j : Nat) : Int := if isX (D.getD j 0) nh = true then (if D.getD j 0 ∈ D.take j then 7 else 0) else 8
/-- The position and the error of a list. -/
def DC (nh : Nat) (D : List Int) (a e : Int) : Prop :=
  (8 < D.length ∧ a = -1 ∧ e = 12) ∨ (D.length ≤ 8 ∧ ∃ j, j < D.length ∧ (∀ i, i < j → dpX nh D i = 0) ∧ dpX nh D j ≠ 0 ∧ a = j ∧ e = dpX nh D j) ∨ (D.length ≤ 8 ∧ (∀ i, i < D.length → dpX nh D i = 0) ∧ a = 0 ∧ e = 0)
theorem DC.good {nh : Nat} {D : List Int} {a e : Int} (h : DC nh D a e) (hl : D.length ≤ 8) (b : ∀ i, i < D.length → dpX nh D i = 0) : a = 0 ∧ e = 0 := by
  rcases h with q | ⟨_, k, hk, b2, x2, q1, q2⟩ | q
  · omega
  · exact absurd (b k hk) x2
  · exact q.2.2
/-- All is right with the list. -/
def dcOk (nh : Nat) (D : List Int) : Prop := D.length ≤ 8 ∧ ∀ i, i < D.length → dpX nh D i = 0
theorem DC.ok {nh : Nat} {D : List Int} {a e : Int} (h : DC nh D a e) : e = 0 ↔ dcOk nh D := by
  constructor
  · intro he
    rcases h with q | ⟨_, k, hk, b2, x2, q1, q2⟩ | q
    · omega
    · exact absurd (q2.symm.trans he) x2
    · exact ⟨q.1, q.2.1⟩
  · intro ⟨hl, b⟩
    exact (h.good hl b).2
/-- One header's bits behind those that there are. -/
def emF (H : List (ByteArray × List Fld)) (V : List Bool) (F : List (List Int)) (B : List Bool) (d : Int) : List Bool :=
  if V.getD d.toNat false = true then (wrH (H.getD d.toNat hz).1 (H.getD d.toNat hz).2 (F.getD d.toNat []) B).2 else B
def emL (H : List (ByteArray × List Fld)) (V : List Bool) (F : List (List Int)) (B : List Bool) (D : List Int) : List Bool := D.foldl (emF H V F) B
/-- Every header is valid. -/
def hdsOk (H : List (ByteArray × List Fld)) : Prop := ∀ x ∈ H, chkH x.1 x.2 = 0
/-- The environment is valid. -/
def envOk (H : List (ByteArray × List Fld)) (M : List Fld) (L : EL) : Prop := shP H M L ∧ ftP (dclL H M) (L.T :: L.F) ∧ zrP L
open Classical in
/-- What is emitted. -/
noncomputable def emit (H : List (ByteArray × List Fld)) (M : List Fld) (D : List Int) (L : EL) : List Int :=
  if dcOk H.length D ∧ hdsOk H ∧ envOk H M L then (bytesR (emL H L.V L.F [] D)).2 ++ L.P else []
theorem chkE_ok {H : List (ByteArray × List Fld)} {M : List Fld} {L : EL} {r : Int} (h : chkE H M L r) : r = 0 ↔ envOk H M L := by
  rcases h with ⟨a, b⟩ | ⟨a, b, c⟩ | ⟨a, b, c, d⟩ | ⟨a, b, c, d⟩
  · exact ⟨fun e => by omega, fun e => absurd e.1 a⟩
  · exact ⟨fun e => by omega, fun e => absurd e.2.1 b⟩
  · exact ⟨fun e => by omega, fun e => absurd e.2.2 c⟩
  · exact ⟨fun _ => ⟨a, b, c⟩, fun _ => d⟩
theorem chkE_ex (H : List (ByteArray × List Fld)) (M : List Fld) (L : EL) : ∃ r, chkE H M L r := by
  by_cases a : shP H M L
  · by_cases b : ftP (dclL H M) (L.T :: L.F)
    · by_cases c : zrP L
      · exact ⟨0, .inr (.inr (.inr ⟨a, b, c, rfl⟩))⟩
      · exact ⟨5, .inr (.inr (.inl ⟨a, b, c, rfl⟩))⟩
    · exact ⟨9, .inr (.inl ⟨a, b, rfl⟩)⟩
  · exact ⟨2, .inl ⟨a, rfl⟩⟩
end Go.Proofs.Ytngobkghcogahaa
