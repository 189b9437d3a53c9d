/- Tokens in memory, and what Tokenize answers: words; no condition. -/
import Derived.Test.YtmbdpiffdiiggaaLxF
namespace Go.Proofs.Ytmbdpiffdiiggaa
open Go.RowKit
set_option linter.unusedVariables false

/-- A token with its line. -/
structure Tok where
  kind : Int
  text : List Int
  val : Int
  line : Int
def tokC (t : Tok) : List Value := [.int .i64 t.kind, .string (strOf t.text), .int .u32 t.val, .int .i64 t.line]
/-- A slice of tokens that the call owns. -/
def TL (w : World) (base : Nat) (e : TypeId) (V : Value) (M : List Tok) : Prop := w.ownsRow base e 4 V M.length (M.flatMap tokC)
theorem TL.nil (w : World) (base : Nat) (e : TypeId) : TL w base e (.slice none 0 0) [] := World.ownsRow_nil _ _ _ _
theorem TL.keep0 {w w2 : World} {base : Nat} {e : TypeId} {V : Value} {M : List Tok} (h : TL w base e V M) (k : w.grownBy w2 none) : TL w2 base e V M := own_keep0 h k
theorem TL.shape {w : World} {base : Nat} {e : TypeId} {V : Value} {M : List Tok} (h : TL w base e V M) : ∃ a c, V = .slice a M.length c := own_shape h
theorem tokC_len (M : List Tok) : (M.flatMap tokC).length = M.length * 4 := by
  induction M with
  | nil => rfl
  | cons t s ih => rw [List.flatMap_cons, List.length_append, ih]; simp [tokC]; omega
theorem infoTok : (Try.prog.info? 34).map (fun i => (i.zero, i.size, i.bytes)) = some (some (.agg #[.int .i64 0, .string { data := #[] }, .int .u32 0, .int .i64 0]), 4, 40) := by kernel_rfl
theorem infoTok5 : (Try.prog.info? 60).map (fun i => (i.zero, i.size, i.bytes)) = some (some (.agg #[.int .i64 0, .string { data := #[] }, .int .u32 0, .int .i64 0]), 4, 40) := by kernel_rfl
theorem tokC_one (t : Tok) : ∀ u ∈ tokC t, u.oneCell' = true := by
  intro u hu
  simp only [tokC, List.mem_cons, List.not_mem_nil, or_false] at hu
  rcases hu with rfl | rfl | rfl | rfl <;> rfl
theorem pushTok {t e : TypeId} (ht : Try.prog.underlying t = some (.slice e)) (hinf : (Try.prog.info? e).map (fun i => (i.zero, i.size, i.bytes)) = some (some (.agg #[.int .i64 0, .string { data := #[] }, .int .u32 0, .int .i64 0]), 4, 40))
    {w : World} {ops : Array Oper} {rest : List Oper} {o : Oper} {a : Act} {Q : Exit → Act → World → Prop} (hgd : o.guard = none) (s x : Operand)
    (ho : o.op = .call { callee := .builtin .append, args := #[s, x], argTypes := #[t, t] }) (base : Nat) (V : Value) (M : List Tok) (hs : a.eval s = V) (hown : TL w base e V M)
    (ad : Addr) (c : Nat) (T : Tok) (hx : a.eval x = .slice (some ad) 1 c) (hT : ∀ j u, (tokC T)[j]? = some u → w.cell? (ad.add j) = some u) (hlen : M.length ≤ 1000000) (hbase : base ≤ w.heap.size)
    (h : ∀ V' w', TL w' base e V' (M ++ [T]) → w.grownBy w' V.ownBlock → wpList Try.prog ops Q rest (a.put o.dst V') w') : wpList Try.prog ops Q (o :: rest) a w := by
  obtain ⟨i0, hi, hz0, hz1, hz2⟩ := info_parts hinf
  refine wpList_append_own w hgd s x t ho base e i0 _ 4 40 ht hi hz0 hz1 hz2 rfl (by decide) V M.length (M.flatMap tokC) hs hown ad 1 c (tokC T) hx rfl hT (tokC_one T) (by unfold maxLen; omega) (by omega) hbase ?_
  intro V' w' h1 h2 h3
  refine h V' w' ?_ h2
  unfold TL
  rw [List.flatMap_append, List.length_append]
  simpa using h1
theorem four_cell (w : World) (t : TypeId) (g : Nat) (T : Tok) (cs : Array Value) (h : IsB w g t cs) (hc : cs.toList = tokC T) : ∀ j u, (tokC T)[j]? = some u → w.cell? ((⟨g, 0, none⟩ : Addr).add j) = some u := by
  intro j u hj
  have e : ((⟨g, 0, none⟩ : Addr).add j) = ⟨g, j, none⟩ := by unfold Addr.add; split <;> simp_all
  rw [e, h.cell j, ← hj, ← hc]
  simp

/-- What Tokenize answers: the tokens, the line of the error, the error. -/
def tokF : Nat → Int → List Tok → List Int → List Tok × Int × Int
  | 0, _, _, _ => ([], 0, 0)
  | f + 1, line, acc, L =>
    if L.drop (skipK false L) = [] then (acc, 0, 0)
    else if acc.length = 4096 then ([], line + nl (L.take (skipK false L)), 12)
    else if (firstT (L.drop (skipK false L))).err ≠ 0 then ([], line + nl (L.take (skipK false L)), (firstT (L.drop (skipK false L))).err)
    else tokF f (line + nl (L.take (skipK false L))) (acc ++ [⟨(firstT (L.drop (skipK false L))).kind, (firstT (L.drop (skipK false L))).text, (firstT (L.drop (skipK false L))).val, line + nl (L.take (skipK false L))⟩])
      ((L.drop (skipK false L)).drop (firstT (L.drop (skipK false L))).text.length)
def tokR (L : List Int) : List Tok × Int × Int := if 16384 < L.length then ([], 0, 4) else tokF (L.length + 1) 1 [] L

theorem first_ok (R : List Int) (hR : R ≠ []) (h : (firstT R).err = 0) : 1 ≤ (firstT R).text.length ∧ (firstT R).text = R.take (firstT R).text.length := by
  have h1 : 1 ≤ R.length := by cases R with | nil => exact absurd rfl hR | cons _ _ => simp
  have cut : ∀ k, 1 ≤ k → k ≤ R.length → 1 ≤ (R.take k).length ∧ R.take k = R.take (R.take k).length := by
    intro k h1 hk
    rw [List.length_take, Nat.min_eq_left hk]
    exact ⟨h1, rfl⟩
  unfold firstT at h ⊢
  by_cases c1 : isL (R.getD 0 0) = true
  · rw [if_pos c1] at h ⊢
    have p := spanK_pos (p := isW) h1 (by unfold isW; rw [c1]; simp)
    unfold nameT at h ⊢
    split
    · exact cut _ p (spanK_le isW R)
    · rename_i hh; rw [if_neg hh] at h; exact absurd h (by decide)
  · rw [if_neg c1] at h ⊢
    by_cases c2 : isD (R.getD 0 0) = true
    · rw [if_pos c2] at h ⊢
      have p := spanK_pos (p := isA) h1 (by unfold isA; rw [c2]; simp)
      unfold numT at h ⊢
      split
      · exact cut _ p (spanK_le isA R)
      · rename_i hh; rw [if_neg hh] at h
        exfalso
        have : (noTk (numErr (R.take (spanK isA R)))).err = numErr (R.take (spanK isA R)) := rfl
        rw [this] at h
        unfold numErr at h
        (repeat' split at h) <;> exact absurd h (by decide)
    · rw [if_neg c2] at h ⊢
      unfold symT at h ⊢
      split
      · rename_i hh; rw [if_pos hh] at h; exact absurd h (by decide)
      · rename_i hh
        have p : 1 ≤ symK R := by
          rcases Nat.eq_zero_or_pos (symK R) with e | e
          · rw [e] at hh; exact absurd (List.take_zero) hh
          · exact e
        exact cut _ p (symK_le R h1)
/-- A returned list of tokens, with a line and an error. -/
def RetL (e : TypeId) (r : List Tok × Int × Int) (w : World) (en : Ending) (w' : World) : Prop :=
  ∃ V, en = .returned (.tuple #[V, .int .i64 r.2.1, .int .i64 r.2.2]) ∧ TL w' w.heap.size e V r.1 ∧ w.grownBy w' none
def strLen : Value → Nat
  | .string b => b.size
  | _ => 0
end Go.Proofs.Ytmbdpiffdiiggaa
