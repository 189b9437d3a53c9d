/- The Internet checksum's walks; numbers of four bytes; appending bytes; no condition but sizes and the bytes' range. -/
import Derived.Test.YtmbdpiffdiiggaaChA
namespace Go.Proofs.Ytmbdpiffdiiggaa
open Go.RowKit
set_option linter.unusedVariables false

/-- A slice of bytes that the call owns. -/
def BL (w : World) (base : Nat) (V : Value) (L : List Int) : Prop := w.ownsRow base 5 1 V L.length (L.map (Value.int .u8))
theorem BL.nil (w : World) (base : Nat) : BL w base (.slice none 0 0) [] := World.ownsRow_nil _ _ _ _
theorem BL.keep0 {w w2 : World} {base : Nat} {V : Value} {L : List Int} (h : BL w base V L) (k : w.grownBy w2 none) : BL w2 base V L := own_keep0 h k
theorem BL.shape {w : World} {base : Nat} {V : Value} {L : List Int} (h : BL w base V L) : ∃ a c, V = .slice a L.length c := own_shape h
theorem BL.slr {w : World} {base c : Nat} {a : Option Addr} {L : List Int} (h : BL w base (.slice a L.length c) L) : SlR w a L.length c (L.map (Value.int .u8)) := own_slr h
theorem BL.cap {w : World} {base c : Nat} {a : Option Addr} {L : List Int} (h : BL w base (.slice a L.length c) L) : L.length ≤ c := own_cap h
theorem push_any {w : World} {ops : Array Oper} {rest : List Oper} {o : Oper} {a : Act} {Q : Exit → Act → World → Prop} (hgd : o.guard = none) (s x : Operand)
    (ho : o.op = .call { callee := .builtin .append, args := #[s, x], argTypes := #[35, 35] }) (base : Nat) (V : Value) (L : List Int) (hs : a.eval s = V) (hown : BL w base V L)
    (ad : Option Addr) (m c : Nat) (M : List Int) (hx : a.eval x = .slice ad m c) (hM : SlR w ad m c (M.map (Value.int .u8))) (hlen : L.length + M.length ≤ 1000000) (hbase : base ≤ w.heap.size)
    (h : ∀ V' w', BL w' base V' (L ++ M) → w.grownBy w' V.ownBlock → (V' = .slice none 0 0 ↔ V = .slice none 0 0 ∧ M = []) → wpList Try.prog ops Q rest (a.put o.dst V') w') : wpList Try.prog ops Q (o :: rest) a w := by
  obtain ⟨i0, hi, hz0, hz1, hz2⟩ := info_parts infoU8
  have hl : M.length = m := by simpa using hM.1
  subst hl
  cases ad with
  | none =>
    obtain ⟨h0, rfl⟩ := hM.2.1 rfl
    have hm : M = [] := List.length_eq_zero_iff.1 h0
    subst hm
    refine wpList_append_own_none hgd s x 35 ho base 5 i0 1 Try.underlying35 hi V L.length (L.map (Value.int .u8)) hs hown hx ?_
    refine h V w (by simpa [BL] using hown) ?_ (by simp)
    cases V.ownBlock <;> exact gb_refl _ _
  | some ad =>
    refine wpList_append_own w hgd s x 35 ho base 5 i0 (.int .u8 0) 1 1 Try.underlying35 hi hz0 hz1 hz2 rfl (by decide) V L.length (L.map (Value.int .u8)) hs hown ad M.length c (M.map (Value.int .u8)) hx (by simp) (hM.2.2 ad rfl) (ints_one _ _) (by unfold maxLen; omega) (by omega) hbase ?_
    intro V' w' h1 h2 h3
    refine h V' w' (by simpa [BL] using h1) h2 (h3.trans ?_)
    rw [List.length_eq_zero_iff]
theorem slr_one (w : World) (k : IntKind) (x : Int) (t : TypeId) (g : Nat) (hg : g = w.heap.size) : SlR (w.alloc (.cells #[.int k x] t)) (some ⟨g, 0, none⟩) 1 1 ([x].map (Value.int k)) := by
  subst hg; exact slr_new w k [x] t
/-- What the growth of a call's own row is, to what was there before. -/
theorem gb_own {w w2 : World} {base : Nat} {e : TypeId} {size n : Nat} {v : Value} {xs : List Value} {w0 : World} (h0 : w0.grownBy w none) (hown : w.ownsRow base e size v n xs) (hb : w0.heap.size ≤ base) (k : w.grownBy w2 v.ownBlock) : w0.grownBy w2 none := by
  refine ⟨k.os.trans h0.os, k.tape.trans h0.tape, k.output.trans h0.output, Nat.le_trans h0.size k.size, fun i hi hn => ?_⟩
  refine (k.block i (Nat.lt_of_lt_of_le hi h0.size) ?_).trans (h0.block i hi (by simp))
  intro e1
  have := hown.lt i e1.symm
  omega

def fold16 (s : Int) : Int := if s ≤ 65535 then s else (s - 1) % 65535 + 1
theorem fold16_range (s : Int) (h : 0 ≤ s) : 0 ≤ fold16 s ∧ fold16 s ≤ 65535 := by unfold fold16; split <;> omega
theorem fold16_step (s : Int) (h : 65535 < s) : fold16 (s % 65536 + s / 65536) = fold16 s := by unfold fold16; split <;> split <;> omega
theorem fold16_step2 (s : Int) (h : 65535 < s) : fold16 (s / 65536 + s % 65536) = fold16 s := by rw [Int.add_comm]; exact fold16_step s h
theorem fold16_add (a v : Int) (h : 0 ≤ a) (hv : 0 ≤ v) : fold16 (fold16 a + v) = fold16 (a + v) := by unfold fold16; (repeat' split) <;> omega
theorem fold16_small (a : Int) (h : a ≤ 65535) : fold16 a = a := by unfold fold16; rw [if_pos h]

/-- The sum of the first k bytes, as halves of words. -/
def wsum (bs : List Int) : Nat → Int
  | 0 => 0
  | k + 1 => wsum bs k + if k % 2 = 0 then 256 * bs.getD k 0 else bs.getD k 0
theorem wsum_range {bs : List Int} (hb : ∀ x ∈ bs, 0 ≤ x ∧ x ≤ 255) (k : Nat) : 0 ≤ wsum bs k ∧ wsum bs k ≤ 65280 * k := by
  induction k with
  | zero => exact ⟨Int.le_refl _, by simp [wsum]⟩
  | succ k ih =>
    have := getD_byte hb k
    unfold wsum
    split <;> omega
def inet (bs : List Int) : Int := 65535 - fold16 (wsum bs bs.length)
theorem inet_range {bs : List Int} (hb : ∀ x ∈ bs, 0 ≤ x ∧ x ≤ 255) : 0 ≤ inet bs ∧ inet bs ≤ 65535 := by
  have := fold16_range _ (wsum_range hb bs.length).1
  unfold inet; omega

theorem and16 (s : Int) (h0 : 0 ≤ s) (h1 : s < 4294967296) : bits .and .u32 s 65535 = s % 65536 := by
  have := bits_mask .u32 32 (by decide) wraps_u32 16 (by decide) s h0 (by simpa using h1)
  simpa using this

def sumOf (w : World) (g : Nat) : Nat := match w.cell? ⟨g, 0, none⟩ with
  | some v => (intOf v).toNat
  | none => 0
theorem sumOf_at {w : World} {g : Nat} {t : TypeId} {s : Int} {x : Value} (h : IsB w g t #[.int .u32 s, x]) : sumOf w g = s.toNat := by
  unfold sumOf
  have c0 : w.cell? ⟨g, 0, none⟩ = some (.int .u32 s) := h.cell 0
  rw [c0]; rfl
theorem wsum_next (bs : List Int) (i : Nat) : fold16 (wsum bs (i + 1)) = fold16 (wsum bs i + if decide (i % 2 = 1) then bs.getD i 0 else 256 * bs.getD i 0) := by
  by_cases h : i % 2 = 0
  · simp [wsum, h]
  · have h2 : i % 2 = 1 := by omega
    simp [wsum, h2]
end Go.Proofs.Ytmbdpiffdiiggaa
