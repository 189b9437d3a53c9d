/- Parser: which position and error its states have, and what a parse does, as functions of lists; plain facts; no condition. -/
import Derived.Test.YtjhknmklejkknaaHdI
import Derived.Test.YtjhknmklejkknaaEvQ
import Derived.Test.YtjhknmklejkknaaTpB
import Derived.Test.YtjhknmklejkknaaGlE
namespace Go.Proofs.Ytjhknmklejkknaa
open Go.RowKit
set_option linter.unusedVariables false
/-- State i may lead to x. -/
def nxB (n i : Nat) (x : Int) : Bool := decide (x = -1 ∨ x = -2 ∨ ((i : Int) < x ∧ x < n))
def dupB (S : List Pst) (i : Nat) : Bool := (S.take i).any fun x => eqS x.nm (S.getD i psz).nm
def exOk (n : Nat) (ex : List Int) : Bool := ex.all fun x => isX x n
def declE (H : List (ByteArray × List Fld)) (M : List Fld) (S : List Pst) (i : Nat) : Int :=
  if isI (S.getD i psz).nm = false then 6 else if dupB S i = true then 7 else if 4 < (S.getD i psz).ex.length ∨ 8 < (S.getD i psz).cs.length then 12
  else if exOk H.length (S.getD i psz).ex = false ∨ ((S.getD i psz).sl = true ∧ widE H M (S.getD i psz).h (S.getD i psz).f = 0) then 8
  else if (S.getD i psz).sl = false ∧ 0 < (S.getD i psz).cs.length then 11 else 0
def caseE (H : List (ByteArray × List Fld)) (M : List Fld) (S : List Pst) (i j : Nat) : Int :=
  if ¬ (((S.getD i psz).cs.getD j csz).v < 2 ^ (widE H M (S.getD i psz).h (S.getD i psz).f).toNat ∧ ((S.getD i psz).cs.getD j csz).m < 2 ^ (widE H M (S.getD i psz).h (S.getD i psz).f).toNat) then 9
  else if (bits .andNot .u32 ((S.getD i psz).cs.getD j csz).v ((S.getD i psz).cs.getD j csz).m == 0) = false then 5
  else if nxB S.length i ((S.getD i psz).cs.getD j csz).nx = false then 14 else 0
/-- What the transitions of state i give. -/
def TrC (H : List (ByteArray × List Fld)) (M : List Fld) (S : List Pst) (i : Nat) (sub e : Int) : Prop :=
  (∃ j, j < (S.getD i psz).cs.length ∧ (∀ k, k < j → caseE H M S i k = 0) ∧ caseE H M S i j ≠ 0 ∧ sub = j ∧ e = caseE H M S i j) ∨
  ((∀ k, k < (S.getD i psz).cs.length → caseE H M S i k = 0) ∧ nxB S.length i (S.getD i psz).df = false ∧ sub = -1 ∧ e = 14) ∨
  ((∀ k, k < (S.getD i psz).cs.length → caseE H M S i k = 0) ∧ nxB S.length i (S.getD i psz).df = true ∧ sub = 0 ∧ e = 0)
theorem first_not (p : Nat → Prop) [DecidablePred p] (n : Nat) : (∀ k, k < n → p k) ∨ ∃ j, j < n ∧ (∀ k, k < j → p k) ∧ ¬ p j := by
  induction n with
  | zero => exact .inl fun k hk => absurd hk (Nat.not_lt_zero _)
  | succ n ih =>
    rcases ih with q | ⟨j, hj, b, e⟩
    · by_cases e : p n
      · refine .inl fun k hk => ?_
        rcases (show k < n ∨ k = n by omega) with r | rfl
        · exact q k r
        · exact e
      · exact .inr ⟨n, by omega, q, e⟩
    · exact .inr ⟨j, by omega, b, e⟩
theorem trC_ex (H : List (ByteArray × List Fld)) (M : List Fld) (S : List Pst) (i : Nat) : ∃ sub e, TrC H M S i sub e := by
  rcases first_not (fun k => caseE H M S i k = 0) (S.getD i psz).cs.length with q | ⟨j, hj, b, e⟩
  · cases h : nxB S.length i (S.getD i psz).df
    · exact ⟨-1, 14, .inr (.inl ⟨q, h, rfl, rfl⟩)⟩
    · exact ⟨0, 0, .inr (.inr ⟨q, h, rfl, rfl⟩)⟩
  · exact ⟨j, _, .inl ⟨j, hj, b, e, rfl, rfl⟩⟩
theorem TrC.bad {H : List (ByteArray × List Fld)} {M : List Fld} {S : List Pst} {i : Nat} {sub e : Int} (h : TrC H M S i sub e) {j : Nat} (hj : j < (S.getD i psz).cs.length) (b : ∀ k, k < j → caseE H M S i k = 0) (x : caseE H M S i j ≠ 0) : sub = j ∧ e = caseE H M S i j := by
  rcases h with ⟨k, hk, b2, x2, q1, q2⟩ | ⟨b2, _⟩ | ⟨b2, _⟩
  · have : k = j := by
      rcases Nat.lt_trichotomy k j with r | r | r
      · exact absurd (b k r) x2
      · exact r
      · exact absurd (b2 j r) x
    subst this; exact ⟨q1, q2⟩
  · exact absurd (b2 j hj) x
  · exact absurd (b2 j hj) x
theorem TrC.low {H : List (ByteArray × List Fld)} {M : List Fld} {S : List Pst} {i : Nat} {sub e : Int} (h : TrC H M S i sub e) (b : ∀ k, k < (S.getD i psz).cs.length → caseE H M S i k = 0) (x : nxB S.length i (S.getD i psz).df = false) : sub = -1 ∧ e = 14 := by
  rcases h with ⟨k, hk, b2, x2, q1, q2⟩ | ⟨b2, _, q⟩ | ⟨b2, y, _⟩
  · exact absurd (b k hk) x2
  · exact q
  · rw [x] at y; cases y
theorem TrC.good {H : List (ByteArray × List Fld)} {M : List Fld} {S : List Pst} {i : Nat} {sub e : Int} (h : TrC H M S i sub e) (b : ∀ k, k < (S.getD i psz).cs.length → caseE H M S i k = 0) (x : nxB S.length i (S.getD i psz).df = true) : sub = 0 ∧ e = 0 := by
  rcases h with ⟨k, hk, b2, x2, q1, q2⟩ | ⟨b2, y, _⟩ | ⟨b2, _, q⟩
  · exact absurd (b k hk) x2
  · rw [x] at y; cases y
  · exact q
/-- State i is valid. -/
def stOk (H : List (ByteArray × List Fld)) (M : List Fld) (S : List Pst) (i : Nat) : Prop := declE H M S i = 0 ∧ (∀ k, k < (S.getD i psz).cs.length → caseE H M S i k = 0) ∧ nxB S.length i (S.getD i psz).df = true
theorem TrC.ok {H : List (ByteArray × List Fld)} {M : List Fld} {S : List Pst} {i : Nat} {sub e : Int} (h : TrC H M S i sub e) : e = 0 ↔ (∀ k, k < (S.getD i psz).cs.length → caseE H M S i k = 0) ∧ nxB S.length i (S.getD i psz).df = true := by
  constructor
  · intro he
    rcases h with ⟨k, hk, b2, x2, q1, q2⟩ | ⟨b2, y, q1, q2⟩ | ⟨b2, y, _⟩
    · exact absurd (q2.symm.trans he) x2
    · omega
    · exact ⟨b2, y⟩
  · intro ⟨b, x⟩; exact (h.good b x).2
/-- What Check answers. -/
def PkC (H : List (ByteArray × List Fld)) (M : List Fld) (S : List Pst) (a b e : Int) : Prop :=
  (S.length = 0 ∧ a = -1 ∧ b = -1 ∧ e = 8) ∨ (12 < S.length ∧ a = -1 ∧ b = -1 ∧ e = 12) ∨
  (0 < S.length ∧ S.length ≤ 12 ∧ ∃ i, i < S.length ∧ (∀ k, k < i → stOk H M S k) ∧ a = i ∧ e ≠ 0 ∧ ((declE H M S i ≠ 0 ∧ b = -1 ∧ e = declE H M S i) ∨ (declE H M S i = 0 ∧ TrC H M S i b e))) ∨
  (0 < S.length ∧ S.length ≤ 12 ∧ (∀ k, k < S.length → stOk H M S k) ∧ a = 0 ∧ b = 0 ∧ e = 0)
theorem pkC_ex (H : List (ByteArray × List Fld)) (M : List Fld) (S : List Pst) : ∃ a b e, PkC H M S a b e := by
  classical
  by_cases h0 : S.length = 0
  · exact ⟨_, _, _, .inl ⟨h0, rfl, rfl, rfl⟩⟩
  by_cases h1 : 12 < S.length
  · exact ⟨_, _, _, .inr (.inl ⟨h1, rfl, rfl, rfl⟩)⟩
  rcases first_not (fun k => stOk H M S k) S.length with q | ⟨i, hi, b, x⟩
  · exact ⟨_, _, _, .inr (.inr (.inr ⟨by omega, by omega, q, rfl, rfl, rfl⟩))⟩
  · by_cases hd : declE H M S i = 0
    · obtain ⟨sub, e, ht⟩ := trC_ex H M S i
      exact ⟨i, sub, e, .inr (.inr (.inl ⟨by omega, by omega, i, hi, b, rfl, fun he => x ⟨hd, (ht.ok.1 he)⟩, .inr ⟨hd, ht⟩⟩))⟩
    · exact ⟨i, -1, _, .inr (.inr (.inl ⟨by omega, by omega, i, hi, b, rfl, hd, .inl ⟨hd, rfl, rfl⟩⟩))⟩
theorem PkC.zero {H : List (ByteArray × List Fld)} {M : List Fld} {S : List Pst} {a b e : Int} (h : PkC H M S a b e) (h0 : S.length = 0) : a = -1 ∧ b = -1 ∧ e = 8 := by
  rcases h with q | q | q | q
  · exact q.2
  · omega
  · omega
  · omega
theorem PkC.many {H : List (ByteArray × List Fld)} {M : List Fld} {S : List Pst} {a b e : Int} (h : PkC H M S a b e) (h0 : 12 < S.length) : a = -1 ∧ b = -1 ∧ e = 12 := by
  rcases h with q | q | q | q
  · omega
  · exact q.2
  · omega
  · omega
theorem PkC.at_ {H : List (ByteArray × List Fld)} {M : List Fld} {S : List Pst} {a b e : Int} (h : PkC H M S a b e) (h0 : 0 < S.length) (h1 : S.length ≤ 12) {i : Nat} (hi : i < S.length) (bf : ∀ k, k < i → stOk H M S k) (x : ¬ stOk H M S i) :
    a = i ∧ ((declE H M S i ≠ 0 ∧ b = -1 ∧ e = declE H M S i) ∨ (declE H M S i = 0 ∧ TrC H M S i b e)) := by
  rcases h with q | q | ⟨_, _, k, hk, b2, q1, q2, q3⟩ | ⟨_, _, q, _⟩
  · omega
  · omega
  · have : k = i := by
      rcases Nat.lt_trichotomy k i with r | r | r
      · have ok := bf k r
        rcases q3 with ⟨d, _⟩ | ⟨d, t⟩
        · exact absurd ok.1 d
        · exact absurd (t.ok.2 ok.2) q2
      · exact r
      · exact absurd (b2 i r) x
    subst this; exact ⟨q1, q3⟩
  · exact absurd (q i hi) x
theorem PkC.good {H : List (ByteArray × List Fld)} {M : List Fld} {S : List Pst} {a b e : Int} (h : PkC H M S a b e) (h0 : 0 < S.length) (h1 : S.length ≤ 12) (q : ∀ k, k < S.length → stOk H M S k) : a = 0 ∧ b = 0 ∧ e = 0 := by
  rcases h with r | r | ⟨_, _, k, hk, b2, q1, q2, q3⟩ | r
  · omega
  · omega
  · have ok := q k hk
    rcases q3 with ⟨d, _⟩ | ⟨d, t⟩
    · exact absurd ok.1 d
    · exact absurd (t.ok.2 ok.2) q2
  · exact r.2.2.2
/-- All states are valid. -/
def statesOk (H : List (ByteArray × List Fld)) (M : List Fld) (S : List Pst) : Prop := 0 < S.length ∧ S.length ≤ 12 ∧ ∀ k, k < S.length → stOk H M S k
theorem PkC.ok {H : List (ByteArray × List Fld)} {M : List Fld} {S : List Pst} {a b e : Int} (h : PkC H M S a b e) : e = 0 ↔ statesOk H M S := by
  constructor
  · intro he
    rcases h with r | r | ⟨_, _, k, hk, b2, q1, q2, q3⟩ | r
    · omega
    · omega
    · exact absurd he q2
    · exact ⟨r.1, r.2.1, r.2.2.1⟩
  · intro ⟨h0, h1, q⟩; exact (h.good h0 h1 q).2.2
end Go.Proofs.Ytjhknmklejkknaa
