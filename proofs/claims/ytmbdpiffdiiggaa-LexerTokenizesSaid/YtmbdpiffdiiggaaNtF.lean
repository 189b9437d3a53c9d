/- Bytes as hexadecimal text: the walks of EncodeHex, nextByte and DecodeHex; no condition but sizes and the bytes' range. -/
import Derived.Test.YtmbdpiffdiiggaaNtE
namespace Go.Proofs.Ytmbdpiffdiiggaa
open Go.RowKit
set_option linter.unusedVariables false

def encL (bs : List Int) : List Int := bs.flatMap fun x => [hexd (x / 16), hexd (x % 16)]
theorem encL_snoc (bs : List Int) (x : Int) : encL (bs ++ [x]) = encL bs ++ [hexd (x / 16), hexd (x % 16)] := by simp [encL]
theorem encL_len (bs : List Int) : (encL bs).length = 2 * bs.length := by
  induction bs with
  | nil => rfl
  | cons x t ih =>
    have e : encL (x :: t) = hexd (x / 16) :: hexd (x % 16) :: encL t := rfl
    rw [e, List.length_cons, List.length_cons, ih, List.length_cons]
    omega
theorem and15 (x : Int) (h0 : 0 ≤ x) (h1 : x ≤ 255) : bits .and .u8 x 15 = x % 16 := by
  have := bits_mask .u8 8 (by decide) wraps_u8 4 (by decide) x h0 (by simp; omega)
  simpa using this

/-- An append onto bytes of the call's own, as a step of a region. -/
theorem step_push {ops : Array Oper} {o : Oper} {a : Act} {w : World} {K : Act → World → Prop} {Q : Exit → Act → World → Prop} {E : Prop} (hgd : o.guard = none) (s x : Operand)
    (ho : o.op = .call { callee := .builtin .append, args := #[s, x], argTypes := #[35, 35] }) (base : Nat) (V : Value) (L : List Int) (hs : a.eval s = V) (hown : BL w base V L)
    (ad : Addr) (m c : Nat) (M : List Int) (hx : a.eval x = .slice (some ad) m c) (hM : SlR w (some ad) m c (M.map (Value.int .u8))) (hlen : L.length + M.length ≤ 1000000) (hbase : base ≤ w.heap.size)
    (h : ∀ V' w', BL w' base V' (L ++ M) → w.grownBy w' V.ownBlock → K (a.put o.dst V') w') : if Region.wanted o (yielded ops a.tmps) = true then Oper.wp Try.prog o a w K Q else E := by
  have hw : Region.wanted o (yielded ops a.tmps) = true := by simp [Region.wanted, hgd]
  rw [if_pos hw]
  obtain ⟨i0, hi, hz0, hz1, hz2⟩ := info_parts infoU8
  have hl : M.length = m := by simpa using hM.1
  subst hl
  refine wp_append_own w s x 35 ho base 5 i0 (.int .u8 0) 1 1 Try.underlying35 hi hz0 hz1 hz2 rfl (by decide) V L.length (L.map (Value.int .u8)) hs hown ad M.length c (M.map (Value.int .u8)) hx (by simp) (hM.2.2 ad rfl) (ints_one _ _) (by unfold maxLen; omega) (by omega) hbase ?_
  intro V' w' h1 h2 h3
  exact h V' w' (by simpa [BL] using h1) h2

end Go.Proofs.Ytmbdpiffdiiggaa
