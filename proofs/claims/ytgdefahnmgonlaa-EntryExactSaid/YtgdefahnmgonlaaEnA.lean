/- Entries in memory: what they read as; no condition. -/
import Derived.Test.YtgdefahnmgonlaaTbD
import Derived.Test.YtgdefahnmgonlaaBvO
namespace Go.Proofs.Ytgdefahnmgonlaa
open Go.RowKit
set_option linter.unusedVariables false
structure Km where
  v : Int
  m : Int
def kmz : Km := ⟨0, 0⟩
def CKm (w : World) (b : Addr) (x : Km) : Prop := (w.cell? b = some (.int .u32 x.v) ∧ 0 ≤ x.v ∧ x.v < 4294967296) ∧ (w.cell? ⟨b.block, b.off + 1, none⟩ = some (.int .u32 x.m) ∧ 0 ≤ x.m ∧ x.m < 4294967296)
abbrev SKm (w : World) (a : Option Addr) (n c : Nat) (L : List Km) : Prop := SL 2 kmz CKm w a n c L
theorem CKm.keep {w w2 : World} {b : Addr} {x : Km} (h : CKm w b x) (k : w.grownBy w2 none) : CKm w2 b x := by
  obtain ⟨h0, h1⟩ := h
  exact ⟨⟨k.cell h0.1 (by simp), h0.2⟩, ⟨k.cell h1.1 (by simp), h1.2⟩⟩
theorem SL.keep0SKm {w w2 : World} {a : Option Addr} {n c : Nat} {L : List Km} (h : SKm w a n c L) (k : w.grownBy w2 none) : SKm w2 a n c L := h.keep fun _ _ q => CKm.keep q k
/-- An entry. -/
structure En where
  ks : List Km
  pr : Int
  ac : Int
  ar : List Int
/-- Where it lies. -/
structure EX where
  ka : Option Addr
  (kn kc : Nat)
  ra : Option Addr
  (rn rc : Nat)
structure SE (w : World) (Y : EX) (x : En) : Prop where
  k : SKm w Y.ka Y.kn Y.kc x.ks
  r : SU w Y.ra Y.rn Y.rc x.ar
  p : -9223372036854775808 ≤ x.pr ∧ x.pr ≤ 9223372036854775807
  a : -9223372036854775808 ≤ x.ac ∧ x.ac ≤ 9223372036854775807
theorem SE.keep0 {w w2 : World} {Y : EX} {x : En} (h : SE w Y x) (k : w.grownBy w2 none) : SE w2 Y x := ⟨h.k.keep0SKm k, h.r.keep0 k, h.p, h.a⟩
theorem all_ext {n : Nat} {p q : Nat → Bool} (h : ∀ i, i < n → p i = q i) : (List.range n).all p = (List.range n).all q := by
  rw [Bool.eq_iff_iff, List.all_eq_true, List.all_eq_true]
  constructor
  · intro k i hi; rw [← h i (List.mem_range.1 hi)]; exact k i hi
  · intro k i hi; rw [h i (List.mem_range.1 hi)]; exact k i hi
/-- What Matches answers at one key. -/
def matB (x : Km) (v : Int) : Bool := bits .and .u32 (bits .xor .u32 v x.v) x.m == 0
def matE (ks : List Km) (key : List Int) : Bool := decide (key.length = ks.length) && (List.range ks.length).all fun i => matB (ks.getD i kmz) (key.getD i 0)
theorem mat_len {ks : List Km} {key : List Int} (h : key.length ≠ ks.length) : matE ks key = false := by simp [matE, h]
theorem mat_no {ks : List Km} {key : List Int} {j : Nat} (hj : j < ks.length) (h : matB (ks.getD j kmz) (key.getD j 0) = false) : matE ks key = false := by
  unfold matE
  rw [all_no (p := fun i => matB (ks.getD i kmz) (key.getD i 0)) j hj h]; simp
theorem mat_yes {ks : List Km} {key : List Int} (h : key.length = ks.length) (k : ∀ i, i < ks.length → matB (ks.getD i kmz) (key.getD i 0) = true) : matE ks key = true := by
  unfold matE
  rw [all_yes (p := fun i => matB (ks.getD i kmz) (key.getD i 0)) k]; simp [h]
/-- The rows are equal. -/
def kmB (x y : Km) : Bool := decide (x.v = y.v ∧ x.m = y.m)
def samK (a b : List Km) : Bool := decide (a.length = b.length) && (List.range a.length).all fun i => kmB (a.getD i kmz) (b.getD i kmz)
def samU (a b : List Int) : Bool := decide (a.length = b.length) && (List.range a.length).all fun i => decide (a.getD i 0 = b.getD i 0)
theorem samK_len {a b : List Km} (h : a.length ≠ b.length) : samK a b = false := by simp [samK, h]
theorem samU_len {a b : List Int} (h : a.length ≠ b.length) : samU a b = false := by simp [samU, h]
theorem samK_no {a b : List Km} {j : Nat} (hj : j < a.length) (h : kmB (a.getD j kmz) (b.getD j kmz) = false) : samK a b = false := by
  unfold samK
  rw [all_no (p := fun i => kmB (a.getD i kmz) (b.getD i kmz)) j hj h]; simp
theorem samU_no {a b : List Int} {j : Nat} (hj : j < a.length) (h : decide (a.getD j 0 = b.getD j 0) = false) : samU a b = false := by
  unfold samU
  rw [all_no (p := fun i => decide (a.getD i 0 = b.getD i 0)) j hj h]; simp
theorem samK_yes {a b : List Km} (h : a.length = b.length) (k : ∀ i, i < a.length → kmB (a.getD i kmz) (b.getD i kmz) = true) : samK a b = true := by
  unfold samK
  rw [all_yes (p := fun i => kmB (a.getD i kmz) (b.getD i kmz)) k]; simp [h]
theorem samU_yes {a b : List Int} (h : a.length = b.length) (k : ∀ i, i < a.length → decide (a.getD i 0 = b.getD i 0) = true) : samU a b = true := by
  unfold samU
  rw [all_yes (p := fun i => decide (a.getD i 0 = b.getD i 0)) k]; simp [h]
theorem samK_symm (a b : List Km) : samK a b = samK b a := by
  by_cases h : a.length = b.length
  · unfold samK
    rw [h]
    congr 1
    refine all_ext fun i hi => ?_
    unfold kmB
    rw [decide_eq_decide]
    exact ⟨fun ⟨p, q⟩ => ⟨p.symm, q.symm⟩, fun ⟨p, q⟩ => ⟨p.symm, q.symm⟩⟩
  · rw [samK_len h, samK_len (Ne.symm h)]
theorem samU_symm (a b : List Int) : samU a b = samU b a := by
  by_cases h : a.length = b.length
  · unfold samU
    rw [h]
    congr 1
    refine all_ext fun i hi => ?_
    rw [decide_eq_decide]
    exact ⟨fun p => p.symm, fun p => p.symm⟩
  · rw [samU_len h, samU_len (Ne.symm h)]
theorem samK_refl (a : List Km) : samK a a = true := samK_yes rfl fun i hi => by simp [kmB]
theorem samU_refl (a : List Int) : samU a a = true := samU_yes rfl fun i hi => by simp
/-- What SameKey and Equal answer. -/
def samE (x y : En) : Bool := samK x.ks y.ks && decide (x.pr = y.pr)
def eqE (x y : En) : Bool := samE x y && (decide (x.ac = y.ac) && samU x.ar y.ar)
theorem samE_symm (x y : En) : samE x y = samE y x := by
  unfold samE
  rw [samK_symm, show decide (x.pr = y.pr) = decide (y.pr = x.pr) by rw [decide_eq_decide]; exact ⟨fun p => p.symm, fun p => p.symm⟩]
theorem eqE_symm (x y : En) : eqE x y = eqE y x := by
  unfold eqE
  rw [samE_symm, samU_symm, show decide (x.ac = y.ac) = decide (y.ac = x.ac) by rw [decide_eq_decide]; exact ⟨fun p => p.symm, fun p => p.symm⟩]
theorem samE_refl (x : En) : samE x x = true := by simp [samE, samK_refl]
theorem eqE_refl (x : En) : eqE x x = true := by simp [eqE, samE_refl, samU_refl]
end Go.Proofs.Ytgdefahnmgonlaa
