/- Env: rows of rows, and the joined list of rows at four types; no condition but sizes. -/
import Derived.Test.YtglgjkggjpfahaaGlF
import Derived.Laws.AppendOwnNone
namespace Go.Proofs.Ytglgjkggjpfahaa
open Go.RowKit
set_option linter.unusedVariables false
/-- A slice of slices that reads as a list of lists of cells. -/
structure SX (w : World) (a : Option Addr) (n c : Nat) (LL : List (List Value)) : Prop where
  len : LL.length = n
  nil : a = none → n = 0 ∧ c = 0
  cells : ∀ ad, a = some ad → ∀ j, j < n → ∃ fa fn fc, w.cell? (ad.add j) = some (.slice fa fn fc) ∧ SlR w fa fn fc (LL.getD j [])
theorem SX.keep0 {w w2 : World} {a : Option Addr} {n c : Nat} {LL : List (List Value)} (h : SX w a n c LL) (k : w.grownBy w2 none) : SX w2 a n c LL :=
  ⟨h.len, h.nil, fun ad e j hj => by obtain ⟨fa, fn, fc, h1, h2⟩ := h.cells ad e j hj; exact ⟨fa, fn, fc, k.cell h1 (by simp), h2.keep0 k⟩⟩
theorem SX.some {w : World} {a : Option Addr} {n c : Nat} {LL : List (List Value)} (h : SX w a n c LL) (hn : 0 < n) : ∃ ad, a = some ad := by
  cases a with
  | none => have := (h.nil rfl).1; omega
  | some ad => exact ⟨ad, rfl⟩
theorem flat_take {α : Type} (LL : List (List α)) (k : Nat) (h : k < LL.length) : (LL.take (k + 1)).flatten = (LL.take k).flatten ++ LL.getD k [] := by
  have e : LL.getD k [] = LL[k] := by simp [h]
  rw [e, List.take_succ_eq_append_getElem h, List.flatten_append]
  simp
theorem flat_le {α : Type} (LL : List (List α)) (k : Nat) : (LL.take k).flatten.length ≤ LL.flatten.length := by
  conv => rhs; rw [← List.take_append_drop k LL]
  rw [List.flatten_append, List.length_append]; omega
theorem getD_one {LL : List (List Value)} (h : ∀ l ∈ LL, ∀ u ∈ l, u.oneCell' = true) (k : Nat) : ∀ u ∈ LL.getD k [], u.oneCell' = true := by
  intro u hu
  by_cases hk : k < LL.length
  · rw [List.getD_eq_getElem?_getD, List.getElem?_eq_getElem hk] at hu; exact h _ (List.getElem_mem _) u hu
  · rw [List.getD_eq_getElem?_getD, List.getElem?_eq_none (by omega)] at hu; cases hu
theorem infoBool : (Try.prog.info? 4).map (fun i => (i.zero, i.size, i.bytes)) = some (some (.bool false), 1, 1) := by kernel_rfl
theorem gb_lows {w A C : World} {r : Option Nat} (h : w.grownBy A none) (g : A.grownBy C r) (hr : ∀ k, r = some k → w.heap.size ≤ k) : w.grownBy C none :=
  ⟨g.os.trans h.os, g.tape.trans h.tape, g.output.trans h.output, Nat.le_trans h.size g.size, fun i hi _ => by
    rw [g.block i (Nat.lt_of_lt_of_le hi h.size) (fun e => by have := hr i e.symm; omega)]
    exact h.block i hi (by simp)⟩
/-- The call returns a row of its own and makes memory at most. -/
def RetX (e0 : TypeId) (M : List Value) (w : World) (e : Ending) (w' : World) : Prop := ∃ V, e = .returned V ∧ w'.ownsRow w.heap.size e0 1 V M.length M ∧ w.grownBy w' none
theorem infoU8b : (Try.prog.info? 5).map (fun i => (i.zero, i.size, i.bytes)) = some (some (.int .u8 0), 1, 1) := by kernel_rfl

theorem xpushU {w : World} {ops : Array Oper} {rest : List Oper} {o : Oper} {a : Act} {Q : Exit → Act → World → Prop} (hgd : o.guard = none) (s x : Operand)
    (ho : o.op = .call { callee := .builtin .append, args := #[s, x], argTypes := #[40, 40] }) (base : Nat) (V : Value) (L : List Value) (hs : a.eval s = V) (hown : w.ownsRow base 58 1 V L.length L)
    (ad : Option Addr) (m c : Nat) (M : List Value) (hx : a.eval x = .slice ad m c) (hM : SlR w ad m c M) (h1 : ∀ u ∈ M, u.oneCell' = true) (hlen : L.length + M.length ≤ 1000000) (hbase : base ≤ w.heap.size)
    (h : ∀ V' w', w'.ownsRow base 58 1 V' (L ++ M).length (L ++ M) → w.grownBy w' V.ownBlock → wpList Try.prog ops Q rest (a.put o.dst V') w') : wpList Try.prog ops Q (o :: rest) a w := by
  obtain ⟨i0, hi, hz0, hz1, hz2⟩ := info_parts infoU32
  have hl : M.length = m := hM.1
  subst hl
  cases ad with
  | none =>
    obtain ⟨h0, rfl⟩ := hM.2.1 rfl
    have hm : M = [] := List.length_eq_zero_iff.1 h0
    subst hm
    refine wpList_append_own_none hgd s x 40 ho base 58 i0 1 Try.underlying40 hi V L.length L hs hown hx ?_
    refine h V w (by simpa using hown) ?_
    cases V.ownBlock <;> exact gb_refl _ _
  | some ad =>
    refine wpList_append_own w hgd s x 40 ho base 58 i0 (.int .u32 0) 1 4 Try.underlying40 hi hz0 hz1 hz2 rfl (by decide) V L.length L hs hown ad M.length c M hx (by simp) (hM.2.2 ad rfl) h1 (by unfold maxLen; omega) (by omega) hbase ?_
    intro V' w' h1 h2 h3
    exact h V' w' (by simpa using h1) h2
theorem xpushB {w : World} {ops : Array Oper} {rest : List Oper} {o : Oper} {a : Act} {Q : Exit → Act → World → Prop} (hgd : o.guard = none) (s x : Operand)
    (ho : o.op = .call { callee := .builtin .append, args := #[s, x], argTypes := #[38, 38] }) (base : Nat) (V : Value) (L : List Value) (hs : a.eval s = V) (hown : w.ownsRow base 4 1 V L.length L)
    (ad : Option Addr) (m c : Nat) (M : List Value) (hx : a.eval x = .slice ad m c) (hM : SlR w ad m c M) (h1 : ∀ u ∈ M, u.oneCell' = true) (hlen : L.length + M.length ≤ 1000000) (hbase : base ≤ w.heap.size)
    (h : ∀ V' w', w'.ownsRow base 4 1 V' (L ++ M).length (L ++ M) → w.grownBy w' V.ownBlock → wpList Try.prog ops Q rest (a.put o.dst V') w') : wpList Try.prog ops Q (o :: rest) a w := by
  obtain ⟨i0, hi, hz0, hz1, hz2⟩ := info_parts infoBool
  have hl : M.length = m := hM.1
  subst hl
  cases ad with
  | none =>
    obtain ⟨h0, rfl⟩ := hM.2.1 rfl
    have hm : M = [] := List.length_eq_zero_iff.1 h0
    subst hm
    refine wpList_append_own_none hgd s x 38 ho base 4 i0 1 Try.underlying38 hi V L.length L hs hown hx ?_
    refine h V w (by simpa using hown) ?_
    cases V.ownBlock <;> exact gb_refl _ _
  | some ad =>
    refine wpList_append_own w hgd s x 38 ho base 4 i0 (.bool false) 1 1 Try.underlying38 hi hz0 hz1 hz2 rfl (by decide) V L.length L hs hown ad M.length c M hx (by simp) (hM.2.2 ad rfl) h1 (by unfold maxLen; omega) (by omega) hbase ?_
    intro V' w' h1 h2 h3
    exact h V' w' (by simpa using h1) h2
theorem xpushY {w : World} {ops : Array Oper} {rest : List Oper} {o : Oper} {a : Act} {Q : Exit → Act → World → Prop} (hgd : o.guard = none) (s x : Operand)
    (ho : o.op = .call { callee := .builtin .append, args := #[s, x], argTypes := #[37, 37] }) (base : Nat) (V : Value) (L : List Value) (hs : a.eval s = V) (hown : w.ownsRow base 5 1 V L.length L)
    (ad : Option Addr) (m c : Nat) (M : List Value) (hx : a.eval x = .slice ad m c) (hM : SlR w ad m c M) (h1 : ∀ u ∈ M, u.oneCell' = true) (hlen : L.length + M.length ≤ 1000000) (hbase : base ≤ w.heap.size)
    (h : ∀ V' w', w'.ownsRow base 5 1 V' (L ++ M).length (L ++ M) → w.grownBy w' V.ownBlock → wpList Try.prog ops Q rest (a.put o.dst V') w') : wpList Try.prog ops Q (o :: rest) a w := by
  obtain ⟨i0, hi, hz0, hz1, hz2⟩ := info_parts infoU8b
  have hl : M.length = m := hM.1
  subst hl
  cases ad with
  | none =>
    obtain ⟨h0, rfl⟩ := hM.2.1 rfl
    have hm : M = [] := List.length_eq_zero_iff.1 h0
    subst hm
    refine wpList_append_own_none hgd s x 37 ho base 5 i0 1 Try.underlying37 hi V L.length L hs hown hx ?_
    refine h V w (by simpa using hown) ?_
    cases V.ownBlock <;> exact gb_refl _ _
  | some ad =>
    refine wpList_append_own w hgd s x 37 ho base 5 i0 (.int .u8 0) 1 1 Try.underlying37 hi hz0 hz1 hz2 rfl (by decide) V L.length L hs hown ad M.length c M hx (by simp) (hM.2.2 ad rfl) h1 (by unfold maxLen; omega) (by omega) hbase ?_
    intro V' w' h1 h2 h3
    exact h V' w' (by simpa using h1) h2
theorem xpushR {w : World} {ops : Array Oper} {rest : List Oper} {o : Oper} {a : Act} {Q : Exit → Act → World → Prop} (hgd : o.guard = none) (s x : Operand)
    (ho : o.op = .call { callee := .builtin .append, args := #[s, x], argTypes := #[39, 39] }) (base : Nat) (V : Value) (L : List Value) (hs : a.eval s = V) (hown : w.ownsRow base 40 1 V L.length L)
    (ad : Option Addr) (m c : Nat) (M : List Value) (hx : a.eval x = .slice ad m c) (hM : SlR w ad m c M) (h1 : ∀ u ∈ M, u.oneCell' = true) (hlen : L.length + M.length ≤ 5864062014635) (hbase : base ≤ w.heap.size)
    (h : ∀ V' w', w'.ownsRow base 40 1 V' (L ++ M).length (L ++ M) → w.grownBy w' V.ownBlock → wpList Try.prog ops Q rest (a.put o.dst V') w') : wpList Try.prog ops Q (o :: rest) a w := by
  obtain ⟨i0, hi, hz0, hz1, hz2⟩ := info_parts infoRow
  have hl : M.length = m := hM.1
  subst hl
  cases ad with
  | none =>
    obtain ⟨h0, rfl⟩ := hM.2.1 rfl
    have hm : M = [] := List.length_eq_zero_iff.1 h0
    subst hm
    refine wpList_append_own_none hgd s x 39 ho base 40 i0 1 Try.underlying39 hi V L.length L hs hown hx ?_
    refine h V w (by simpa using hown) ?_
    cases V.ownBlock <;> exact gb_refl _ _
  | some ad =>
    refine wpList_append_own w hgd s x 39 ho base 40 i0 (.slice none 0 0) 1 24 Try.underlying39 hi hz0 hz1 hz2 rfl (by decide) V L.length L hs hown ad M.length c M hx (by simp) (hM.2.2 ad rfl) h1 (by unfold maxLen; omega) (by omega) hbase ?_
    intro V' w' h1 h2 h3
    exact h V' w' (by simpa using h1) h2
set_option maxRecDepth 100000 in
set_option maxHeartbeats 2000000 in
theorem jnR_any (w : World) (a : Option Addr) (n c : Nat) (LL : List (List Value)) (h : SX w a n c LL) (h1 : ∀ l ∈ LL, ∀ u ∈ l, u.oneCell' = true) (hn : n ≤ 100000) (hl : LL.flatten.length ≤ 5864062014635) :
    Calls Try.prog 143 #[.slice a n c] w (RetX 40 LL.flatten w) := by
  obtain ⟨i0, hi, hz0, hz1, hz2⟩ := info_parts infoRow
  have HI := Lib.hid hi
  have HH := Lib.hid h
  have H1 := Lib.hid h1
  have HN := Lib.hid hl
  have LE := Lib.hid (fun k => flat_le LL k)
  clear h h1 hi hl
  go_enter Try.func143, Try.ntmps143
  go_wp2
  go_loopw [3, 11] (fun s i wr => ∃ k : Nat, k ≤ n ∧ s = .int .i64 (((LL.take k).flatten.length : Nat) : Int) ∧ i = .int .i64 k ∧ wr = w) (fun _ i _ => n - (intOf i).toNat)
  case atStart => exact ⟨0, Nat.zero_le _, by simp, by first | rfl | trivial, by first | rfl | trivial⟩
  case round =>
    obtain ⟨k, hk, rfl, rfl, rfl⟩ := hrel
    by_cases hlt : k < n
    · obtain ⟨ad, rfl⟩ := HH.out.some (by omega)
      obtain ⟨fa, fn, fc, c1, sl⟩ := HH.out.cells ad rfl k hlt
      have i1 : (k : Int) < n := by omega
      have i0' : (0 : Int) ≤ (k : Int) := by omega
      have e1 := flat_take LL k (by rw [HH.out.len]; exact hlt)
      have e2 : (LL.take (k + 1)).flatten.length = (LL.take k).flatten.length + fn := by rw [e1, List.length_append, sl.1]
      have LK := LE.out (k + 1)
      have HN' := HN.out
      have hw1 : IntKind.i64.wrap ((((LL.take k).flatten.length : Nat) : Int) + (fn : Int)) = (((LL.take (k + 1)).flatten.length : Nat) : Int) := by rw [IntKind.wrap_i64]; omega
      have hw2 : IntKind.i64.wrap ((k : Int) + 1) = ((k + 1 : Nat) : Int) := by rw [IntKind.wrap_i64]; omega
      clear e1 e2 LK HN' sl
      generalize (LL.take k).flatten.length = s0 at *
      obtain ⟨s1, hs1⟩ : ∃ s1, s1 = (LL.take (k + 1)).flatten.length := ⟨_, rfl⟩
      rw [← hs1] at hw1
      have HS1 := Lib.hid hs1
      clear hs1
      go_wp2
      go_roundw
      case rel => exact ⟨k + 1, by omega, by first | (rw [← HS1.out]) | rfl, by first | rfl | (congr 1), trivial⟩
      case measure => simp [intOf]; omega
    · have i1 : ¬ (k : Int) < n := by omega
      obtain rfl : k = n := by omega
      have ET := Lib.hid (show (LL.take k).flatten = LL.flatten by rw [List.take_of_length_le (by rw [HH.out.len]; exact Nat.le_refl _)])
      rw [ET.out]
      obtain ⟨t, ht⟩ : ∃ t : Nat, t = LL.flatten.length := ⟨_, rfl⟩
      rw [← ht]
      have HT := Lib.hid ht
      have ht2 : t ≤ 5864062014635 := by rw [ht]; exact HN.out
      clear ht
      go_wp2_with (at_make; refine wpList_make_own _ rfl _ _ 39 rfl wr.heap.size 40 i0 (.slice none 0 0) 1 Try.underlying39 HI.out hz0 hz1 .i64 .i64 (t : Int) t rfl rfl rfl (by rw [hz2]; omega) (by unfold maxLen; omega) (Nat.le_refl _) ?_; intro w1 hown hgrow)
      have O1 := Lib.hid (show w1.ownsRow wr.heap.size 40 1 (.slice (some ⟨wr.heap.size, 0, none⟩) 0 t) ([] : List Value).length [] from hown)
      have G1 := Lib.hid hgrow
      clear hown hgrow hz0 hz1 hz2
      generalize wr = wA at *
      obtain ⟨V0, hV0⟩ : ∃ V0, V0 = (Value.slice (some ⟨wA.heap.size, 0, none⟩) 0 t) := ⟨_, rfl⟩
      rw [← hV0] at O1 ⊢
      clear hV0
      go_loopw [6, 24] (fun v i w2 => ∃ j : Nat, j ≤ k ∧ i = .int .i64 j ∧ w2.ownsRow wA.heap.size 40 1 v (LL.take j).flatten.length (LL.take j).flatten ∧ wA.grownBy w2 none) (fun _ i _ => k - (intOf i).toNat)
      case atStart => exact ⟨0, Nat.zero_le _, rfl, by simpa using O1.out, G1.out⟩
      case round =>
        obtain ⟨j, hj, rfl, ho, hg⟩ := hrel
        have HO := Lib.hid ho
        have HG := Lib.hid hg
        clear ho hg O1 G1
        by_cases hlt2 : j < k
        · obtain ⟨ad, rfl⟩ := HH.out.some (by omega)
          obtain ⟨fa, fn, fc, c1, sl⟩ := (HH.out.keep0 HG.out).cells ad rfl j hlt2
          have SL := Lib.hid sl
          have i1 : (j : Int) < k := by omega
          have i0' : (0 : Int) ≤ (j : Int) := by omega
          have EQ := Lib.hid (flat_take LL j (by rw [HH.out.len]; exact hlt2))
          have LK := Lib.hid (show (LL.take j).flatten.length + (LL.getD j []).length ≤ 5864062014635 by have := LE.out (j + 1); have := HN.out; rw [EQ.out, List.length_append] at *; omega)
          have hw2 : IntKind.i64.wrap ((j : Int) + 1) = ((j + 1 : Nat) : Int) := by rw [IntKind.wrap_i64]; omega
          have SZ := Lib.hid HG.out.size
          clear sl
          go_wp2_with (at_builtin; refine xpushR rfl _ _ rfl wA.heap.size _ (LL.take j).flatten rfl HO.out fa fn fc (LL.getD j []) rfl SL.out (getD_one H1.out j) LK.out SZ.out ?_; intro V' w3 ho3 hg3)
          have O3 := Lib.hid ho3
          have G3 := Lib.hid (gb_lows HG.out hg3 fun g e => (World.ownsRow.lt HO.out g e).1)
          clear ho3 hg3
          go_roundw
          case rel => exact ⟨j + 1, by omega, by first | rfl | (congr 1), by rw [EQ.out]; exact O3.out, G3.out⟩
          case measure => simp [intOf]; omega
        · have i1 : ¬ (j : Int) < k := by omega
          obtain rfl : j = k := by omega
          go_wp2
          go_ret
          exact ⟨_, rfl, by rw [← ET.out]; exact HO.out, HG.out⟩
end Go.Proofs.Ytglgjkggjpfahaa
