/- The walks of bitio's writer; no condition but sizes within 60000. -/
import Derived.Test.YtgknooblnpmloaaIoC
import Derived.BigRegion
import Derived.RegionTactic
namespace Go.Proofs.Ytgknooblnpmloaa
open Go.RowKit

/-- Changed are at most blocks from base on that hold bytes or a writer's state; all else below the heap's size stands. -/
structure GT (base : Nat) (w w' : World) : Prop where
  os : w'.os = w.os
  tape : w'.tape = w.tape
  output : w'.output = w.output
  size : w.heap.size ≤ w'.heap.size
  low : ∀ k, k < w.heap.size → k < base → w'.heap[k]? = w.heap[k]?
  kind : ∀ g t cs, IsB w g t cs → t ≠ 5 → t ≠ 90 → IsB w' g t cs
theorem GT.refl (base : Nat) (w : World) : GT base w w := ⟨rfl, rfl, rfl, Nat.le_refl _, fun _ _ _ => rfl, fun _ _ _ h _ _ => h⟩
theorem GT.trans {base : Nat} {a b c : World} (h : GT base a b) (k : GT base b c) : GT base a c :=
  ⟨k.os.trans h.os, k.tape.trans h.tape, k.output.trans h.output, Nat.le_trans h.size k.size, fun i hi hb => (k.low i (Nat.lt_of_lt_of_le hi h.size) hb).trans (h.low i hi hb), fun g t cs hg h1 h2 => k.kind g t cs (h.kind g t cs hg h1 h2) h1 h2⟩
theorem GT.of0 {base : Nat} {w w2 : World} (k : w.grownBy w2 none) : GT base w w2 := ⟨k.os, k.tape, k.output, k.size, fun i hi _ => k.block i hi (by simp), fun _ _ _ hg _ _ => hg.keep0 k⟩
theorem GT.ofRow {base : Nat} {w w2 : World} {g : Nat} {t : TypeId} {cs : Array Value} (k : w.grownBy w2 (some g)) (hg : IsB w g t cs) (ht : t = 5 ∨ t = 90) (hb : base ≤ g) : GT base w w2 :=
  ⟨k.os, k.tape, k.output, k.size, fun i hi hl => k.block i hi (by intro e; injection e with e; omega), fun g2 t2 cs2 h2 n1 n2 => h2.keep k (by
    intro e; injection e with e; subst e
    have e2 : t2 = t := by unfold IsB at hg h2; rw [hg] at h2; simp at h2; exact h2.2.symm
    rcases ht with ht | ht
    · exact n1 (e2.trans ht)
    · exact n2 (e2.trans ht))⟩
theorem GT.ofOwn {base : Nat} {w w2 : World} {size n : Nat} {v : Value} {xs : List Value} (k : w.grownBy w2 v.ownBlock) (hv : w.ownsRow base 5 size v n xs) : GT base w w2 := by
  rcases hv.2 with ⟨rfl, _⟩ | ⟨g, cap, cur, rfl, hg, hh, _⟩
  · exact GT.of0 k
  · exact GT.ofRow (g := g) k (t := 5) (cs := cur) hh (.inl rfl) hg
theorem GT.below {base : Nat} {w w2 : World} (h : GT base w w2) (hb : base ≤ w.heap.size) : Below base w w2 := ⟨h.os, h.tape, h.output, h.size, fun k hk => h.low k (by omega) hk⟩

def bv (L : List Bool) (p : Nat) : Int := if L.getD p false then 1 else 0
def byteAt (L : List Bool) (i : Nat) : Int :=
  bv L (8 * i) * 128 + bv L (8 * i + 1) * 64 + bv L (8 * i + 2) * 32 + bv L (8 * i + 3) * 16 + bv L (8 * i + 4) * 8 + bv L (8 * i + 5) * 4 + bv L (8 * i + 6) * 2 + bv L (8 * i + 7)
/-- The bytes that a list of bits makes, its last one filled with zeros. -/
def packB (L : List Bool) : List Int := (List.range ((L.length + 7) / 8)).map (byteAt L)
theorem bv_range (L : List Bool) (p : Nat) : 0 ≤ bv L p ∧ bv L p ≤ 1 := by unfold bv; split <;> omega
theorem bv_out (L : List Bool) (p : Nat) (h : L.length ≤ p) : bv L p = 0 := by unfold bv; simp [List.getElem?_eq_none h]
theorem bv_old (L : List Bool) (b : Bool) (p : Nat) (h : p ≠ L.length) : bv (L ++ [b]) p = bv L p := by
  unfold bv
  rcases Nat.lt_or_ge p L.length with hl | hl
  · simp [List.getElem?_append_left hl]
  · have : L.length + 1 ≤ p := by omega
    simp [List.getElem?_eq_none hl, List.getElem?_eq_none (show (L ++ [b]).length ≤ p by simpa using this)]
theorem bv_new (L : List Bool) (b : Bool) : bv (L ++ [b]) L.length = if b then 1 else 0 := by unfold bv; simp
theorem byteAt_range (L : List Bool) (i : Nat) : 0 ≤ byteAt L i ∧ byteAt L i ≤ 255 := by
  have h0 := bv_range L (8 * i); have h1 := bv_range L (8 * i + 1); have h2 := bv_range L (8 * i + 2); have h3 := bv_range L (8 * i + 3)
  have h4 := bv_range L (8 * i + 4); have h5 := bv_range L (8 * i + 5); have h6 := bv_range L (8 * i + 6); have h7 := bv_range L (8 * i + 7)
  unfold byteAt; omega
theorem byteAt_old (L : List Bool) (b : Bool) (i : Nat) (h : i ≠ L.length / 8) : byteAt (L ++ [b]) i = byteAt L i := by
  unfold byteAt
  rw [bv_old L b _ (by omega), bv_old L b _ (by omega), bv_old L b _ (by omega), bv_old L b _ (by omega), bv_old L b _ (by omega), bv_old L b _ (by omega), bv_old L b _ (by omega), bv_old L b _ (by omega)]
/-- The new bit joins the byte that it belongs to. -/
theorem byteAt_new (L : List Bool) (b : Bool) : bits .or .u8 (byteAt L (L.length / 8)) ((if b then 1 else 0) * 2 ^ (7 - L.length % 8)) = byteAt (L ++ [b]) (L.length / 8) := by
  have hb : (0 : Int) ≤ (if b then 1 else 0) ∧ (if b then (1 : Int) else 0) ≤ 1 := by cases b <;> simp
  have hn := bv_new L b
  generalize (if b then (1 : Int) else 0) = v at *
  have hj := fun (i : Nat) (x y : Int) => bits_join .u8 8 (by decide) wraps_u8 i x y
  have hr : L.length % 8 < 8 := Nat.mod_lt _ (by decide)
  have hd : 8 * (L.length / 8) + L.length % 8 = L.length := Nat.div_add_mod _ _
  generalize hq : L.length / 8 = q at *
  have h0 := bv_range L (8 * q); have h1 := bv_range L (8 * q + 1); have h2 := bv_range L (8 * q + 2); have h3 := bv_range L (8 * q + 3)
  have h4 := bv_range L (8 * q + 4); have h5 := bv_range L (8 * q + 5); have h6 := bv_range L (8 * q + 6); have h7 := bv_range L (8 * q + 7)
  have cs : L.length % 8 = 0 ∨ L.length % 8 = 1 ∨ L.length % 8 = 2 ∨ L.length % 8 = 3 ∨ L.length % 8 = 4 ∨ L.length % 8 = 5 ∨ L.length % 8 = 6 ∨ L.length % 8 = 7 := by omega
  unfold byteAt
  rcases cs with e | e | e | e | e | e | e | e <;> rw [e] at hd ⊢
  · have z0 := bv_out L (8 * q) (by omega); have z1 := bv_out L (8 * q + 1) (by omega); have z2 := bv_out L (8 * q + 2) (by omega); have z3 := bv_out L (8 * q + 3) (by omega)
    have z4 := bv_out L (8 * q + 4) (by omega); have z5 := bv_out L (8 * q + 5) (by omega); have z6 := bv_out L (8 * q + 6) (by omega); have z7 := bv_out L (8 * q + 7) (by omega)
    rw [show bv (L ++ [b]) (8 * q) = v by rw [show 8 * q = L.length by omega, hn], bv_old L b (8 * q + 1) (by omega), bv_old L b (8 * q + 2) (by omega), bv_old L b (8 * q + 3) (by omega), bv_old L b (8 * q + 4) (by omega), bv_old L b (8 * q + 5) (by omega), bv_old L b (8 * q + 6) (by omega), bv_old L b (8 * q + 7) (by omega)]
    rw [z0, z1, z2, z3, z4, z5, z6, z7]
    rw [hj 8 _ _ (by omega) (by omega) (by omega) (by omega) (by omega) (by omega)]; omega
  · have z1 := bv_out L (8 * q + 1) (by omega); have z2 := bv_out L (8 * q + 2) (by omega); have z3 := bv_out L (8 * q + 3) (by omega); have z4 := bv_out L (8 * q + 4) (by omega); have z5 := bv_out L (8 * q + 5) (by omega); have z6 := bv_out L (8 * q + 6) (by omega); have z7 := bv_out L (8 * q + 7) (by omega)
    rw [bv_old L b (8 * q) (by omega), show bv (L ++ [b]) (8 * q + 1) = v by rw [show 8 * q + 1 = L.length by omega, hn], bv_old L b (8 * q + 2) (by omega), bv_old L b (8 * q + 3) (by omega), bv_old L b (8 * q + 4) (by omega), bv_old L b (8 * q + 5) (by omega), bv_old L b (8 * q + 6) (by omega), bv_old L b (8 * q + 7) (by omega)]
    rw [z1, z2, z3, z4, z5, z6, z7]
    rw [hj 7 _ _ (by omega) (by omega) (by omega) (by omega) (by omega) (by omega)]; omega
  · have z2 := bv_out L (8 * q + 2) (by omega); have z3 := bv_out L (8 * q + 3) (by omega); have z4 := bv_out L (8 * q + 4) (by omega); have z5 := bv_out L (8 * q + 5) (by omega); have z6 := bv_out L (8 * q + 6) (by omega); have z7 := bv_out L (8 * q + 7) (by omega)
    rw [bv_old L b (8 * q) (by omega), bv_old L b (8 * q + 1) (by omega), show bv (L ++ [b]) (8 * q + 2) = v by rw [show 8 * q + 2 = L.length by omega, hn], bv_old L b (8 * q + 3) (by omega), bv_old L b (8 * q + 4) (by omega), bv_old L b (8 * q + 5) (by omega), bv_old L b (8 * q + 6) (by omega), bv_old L b (8 * q + 7) (by omega)]
    rw [z2, z3, z4, z5, z6, z7]
    rw [hj 6 _ _ (by omega) (by omega) (by omega) (by omega) (by omega) (by omega)]; omega
  · have z3 := bv_out L (8 * q + 3) (by omega); have z4 := bv_out L (8 * q + 4) (by omega); have z5 := bv_out L (8 * q + 5) (by omega); have z6 := bv_out L (8 * q + 6) (by omega); have z7 := bv_out L (8 * q + 7) (by omega)
    rw [bv_old L b (8 * q) (by omega), bv_old L b (8 * q + 1) (by omega), bv_old L b (8 * q + 2) (by omega), show bv (L ++ [b]) (8 * q + 3) = v by rw [show 8 * q + 3 = L.length by omega, hn], bv_old L b (8 * q + 4) (by omega), bv_old L b (8 * q + 5) (by omega), bv_old L b (8 * q + 6) (by omega), bv_old L b (8 * q + 7) (by omega)]
    rw [z3, z4, z5, z6, z7]
    rw [hj 5 _ _ (by omega) (by omega) (by omega) (by omega) (by omega) (by omega)]; omega
  · have z4 := bv_out L (8 * q + 4) (by omega); have z5 := bv_out L (8 * q + 5) (by omega); have z6 := bv_out L (8 * q + 6) (by omega); have z7 := bv_out L (8 * q + 7) (by omega)
    rw [bv_old L b (8 * q) (by omega), bv_old L b (8 * q + 1) (by omega), bv_old L b (8 * q + 2) (by omega), bv_old L b (8 * q + 3) (by omega), show bv (L ++ [b]) (8 * q + 4) = v by rw [show 8 * q + 4 = L.length by omega, hn], bv_old L b (8 * q + 5) (by omega), bv_old L b (8 * q + 6) (by omega), bv_old L b (8 * q + 7) (by omega)]
    rw [z4, z5, z6, z7]
    rw [hj 4 _ _ (by omega) (by omega) (by omega) (by omega) (by omega) (by omega)]; omega
  · have z5 := bv_out L (8 * q + 5) (by omega); have z6 := bv_out L (8 * q + 6) (by omega); have z7 := bv_out L (8 * q + 7) (by omega)
    rw [bv_old L b (8 * q) (by omega), bv_old L b (8 * q + 1) (by omega), bv_old L b (8 * q + 2) (by omega), bv_old L b (8 * q + 3) (by omega), bv_old L b (8 * q + 4) (by omega), show bv (L ++ [b]) (8 * q + 5) = v by rw [show 8 * q + 5 = L.length by omega, hn], bv_old L b (8 * q + 6) (by omega), bv_old L b (8 * q + 7) (by omega)]
    rw [z5, z6, z7]
    rw [hj 3 _ _ (by omega) (by omega) (by omega) (by omega) (by omega) (by omega)]; omega
  · have z6 := bv_out L (8 * q + 6) (by omega); have z7 := bv_out L (8 * q + 7) (by omega)
    rw [bv_old L b (8 * q) (by omega), bv_old L b (8 * q + 1) (by omega), bv_old L b (8 * q + 2) (by omega), bv_old L b (8 * q + 3) (by omega), bv_old L b (8 * q + 4) (by omega), bv_old L b (8 * q + 5) (by omega), show bv (L ++ [b]) (8 * q + 6) = v by rw [show 8 * q + 6 = L.length by omega, hn], bv_old L b (8 * q + 7) (by omega)]
    rw [z6, z7]
    rw [hj 2 _ _ (by omega) (by omega) (by omega) (by omega) (by omega) (by omega)]; omega
  · have z7 := bv_out L (8 * q + 7) (by omega)
    rw [bv_old L b (8 * q) (by omega), bv_old L b (8 * q + 1) (by omega), bv_old L b (8 * q + 2) (by omega), bv_old L b (8 * q + 3) (by omega), bv_old L b (8 * q + 4) (by omega), bv_old L b (8 * q + 5) (by omega), bv_old L b (8 * q + 6) (by omega), show bv (L ++ [b]) (8 * q + 7) = v by rw [show 8 * q + 7 = L.length by omega, hn]]
    rw [z7]
    rw [hj 1 _ _ (by omega) (by omega) (by omega) (by omega) (by omega) (by omega)]; omega
end Go.Proofs.Ytgknooblnpmloaa
