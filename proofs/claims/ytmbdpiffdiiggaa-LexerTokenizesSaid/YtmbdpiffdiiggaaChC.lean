/- Numbers of four bytes read and appended; records made: the walks; no condition but sizes and the bytes' range. -/
import Derived.Test.YtmbdpiffdiiggaaChB
namespace Go.Proofs.Ytmbdpiffdiiggaa
open Go.RowKit
set_option linter.unusedVariables false

theorem add_add (a : Addr) (i j : Nat) : (a.add i).add j = a.add (i + j) := by
  unfold Addr.add
  by_cases hi : i = 0 <;> by_cases hj : j = 0 <;> simp [hi, hj, Nat.add_assoc]
theorem SlR.len {w : World} {k : IntKind} {a : Option Addr} {n c : Nat} {bs : List Int} (h : SlR w a n c (bs.map (Value.int k))) : bs.length = n := by simpa using h.1
/-- A part of a slice. -/
theorem SlR.cut {w : World} {k : IntKind} {ad : Addr} {n c : Nat} {bs : List Int} (h : SlR w (some ad) n c (bs.map (Value.int k))) (q m : Nat) (hm : q + m ≤ bs.length) (hc : bs.length ≤ c) :
    SlR w (if c = q then some ad else some (ad.add q)) m (c - q) (((bs.drop q).take m).map (Value.int k)) := by
  refine ⟨by simp; omega, ?_, ?_⟩
  · intro e; split at e <;> cases e
  · intro a2 he j u hu
    have hj : j < m := by
      have := (List.getElem?_eq_some_iff.1 hu).1
      simp at this; omega
    rw [if_neg (by omega)] at he
    injection he with he
    subst he
    rw [add_add]
    refine h.2.2 ad rfl (q + j) u ?_
    rw [← hu]
    simp [hj, List.getElem?_drop]
theorem SlR.pre {w : World} {k : IntKind} {ad : Addr} {n c : Nat} {bs : List Int} (h : SlR w (some ad) n c (bs.map (Value.int k))) (m : Nat) (hm : m ≤ bs.length) :
    SlR w (some ad) m c ((bs.take m).map (Value.int k)) := by
  refine ⟨by simp; omega, by simp, ?_⟩
  intro a2 he j u hu
  have hj : j < m := by
    have := (List.getElem?_eq_some_iff.1 hu).1
    simp at this; omega
  refine h.2.2 a2 he j u ?_
  rw [← hu]
  simp [hj]

def be4 (v : Int) : List Int := [v / 16777216 % 256, v / 65536 % 256, v / 256 % 256, v % 256]
def num4 (bs : List Int) (q : Nat) : Int := 16777216 * bs.getD q 0 + 65536 * bs.getD (q + 1) 0 + 256 * bs.getD (q + 2) 0 + bs.getD (q + 3) 0
theorem be4_range (v : Int) : ∀ x ∈ be4 v, 0 ≤ x ∧ x ≤ 255 := by
  intro x hx
  simp [be4] at hx
  omega
theorem num4_range {bs : List Int} (hb : ∀ x ∈ bs, 0 ≤ x ∧ x ≤ 255) (q : Nat) : 0 ≤ num4 bs q ∧ num4 bs q < 4294967296 := by
  have h0 := getD_byte hb q
  have h1 := getD_byte hb (q + 1)
  have h2 := getD_byte hb (q + 2)
  have h3 := getD_byte hb (q + 3)
  unfold num4; omega
def nk (bs : List Int) (q : Nat) : Nat → Int
  | 0 => 0
  | k + 1 => nk bs q k * 256 + bs.getD (q + k) 0
theorem nk_four (bs : List Int) (q : Nat) : nk bs q 4 = num4 bs q := by simp only [nk, num4]; simp only [Nat.add_zero]; omega
theorem nk_range {bs : List Int} (hb : ∀ x ∈ bs, 0 ≤ x ∧ x ≤ 255) (q k : Nat) (hk : k < 4) : 0 ≤ nk bs q k ∧ nk bs q k < 16777216 := by
  have h0 := getD_byte hb (q + 0)
  have h1 := getD_byte hb (q + 1)
  have h2 := getD_byte hb (q + 2)
  rcases (show k = 0 ∨ k = 1 ∨ k = 2 ∨ k = 3 by omega) with rfl | rfl | rfl | rfl <;> simp only [nk] <;> omega

theorem or8 (v x : Int) (h0 : 0 ≤ v) (h1 : v < 16777216) (x0 : 0 ≤ x) (x1 : x ≤ 255) : bits .or .u32 (v * 256) x = v * 256 + x :=
  bits_join .u32 32 (by decide) wraps_u32 8 (v * 256) x (by omega) (by simp) (by simp; omega) x0 (by simp; omega) (by simp; omega)
/-- The call returns bytes of its own. -/
def RetB (base : Nat) (L : List Int) (w0 : World) (e : Ending) (w' : World) : Prop := ∃ V, e = .returned V ∧ BL w' base V L ∧ w0.grownBy w' none
def frm (b : List Int) : List Int := (be4 b.length ++ b) ++ be4 (fnv (be4 b.length ++ b))
theorem app_range {a b : List Int} (ha : ∀ x ∈ a, 0 ≤ x ∧ x ≤ 255) (hb : ∀ x ∈ b, 0 ≤ x ∧ x ≤ 255) : ∀ x ∈ a ++ b, 0 ≤ x ∧ x ≤ 255 := by
  intro x hx
  rcases List.mem_append.1 hx with h | h
  · exact ha x h
  · exact hb x h
theorem hl4 (v : Int) : (be4 v).length = 4 := rfl
end Go.Proofs.Ytmbdpiffdiiggaa
