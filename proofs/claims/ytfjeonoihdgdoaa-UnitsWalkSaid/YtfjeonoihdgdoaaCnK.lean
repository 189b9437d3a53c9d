/- Control: a copy of a condition, in memory of its own; no condition but that it is short. -/
import Derived.Test.YtfjeonoihdgdoaaCnI
namespace Go.Proofs.Ytfjeonoihdgdoaa
open Go.RowKit
set_option linter.unusedVariables false
/-- What holds wherever the blocks laid between w and w' stand as they stood. -/
def Rob (w w' : World) (P : World → Prop) : Prop := ∀ w2, (∀ k, w.heap.size ≤ k → k < w'.heap.size → w2.heap[k]? = w'.heap[k]?) → P w2
theorem Rob.here {w w' : World} {P : World → Prop} (h : Rob w w' P) : P w' := h w' (fun _ _ _ => rfl)
theorem own_rob {w' w2 : World} {base : Nat} {e : TypeId} {size n : Nat} {v : Value} {xs : List Value} (h : w'.ownsRow base e size v n xs) (k : ∀ k, base ≤ k → k < w'.heap.size → w2.heap[k]? = w'.heap[k]?) : w2.ownsRow base e size v n xs := by
  refine ⟨h.1, ?_⟩
  rcases h.2 with q | ⟨g, cap, cur, h1, h2, h3, h4⟩
  · exact .inl q
  · exact .inr ⟨g, cap, cur, h1, h2, (k g h2 (Array.getElem?_eq_some_iff.1 h3).1).trans h3, h4⟩
/-- The cells of an expression's node. -/
def ncel (x : Nd) : List Value := [.int .i64 x.1, .int .i64 x.2.1, .int .i64 x.2.2]
def NDL (w : World) (base : Nat) (V : Value) (N : List Nd) : Prop := w.ownsRow base 51 3 V N.length (N.flatMap ncel)
theorem infoND : (Try.prog.info? 51).map (fun i => (i.zero, i.size, i.bytes)) = some (some (.agg #[.int .i64 0, .int .i64 0, .int .i64 0]), 3, 24) := by kernel_rfl
theorem ncels_one (M : List Nd) : ∀ u ∈ M.flatMap ncel, u.oneCell' = true := by
  intro u hu
  obtain ⟨x, _, hx⟩ := List.mem_flatMap.1 hu
  simp only [ncel, List.mem_cons, List.not_mem_nil, or_false] at hx
  rcases hx with rfl | rfl | rfl <;> rfl
theorem ncel_len (M : List Nd) : (M.flatMap ncel).length = M.length * 3 := by
  induction M with
  | nil => rfl
  | cons p M ih => rw [List.flatMap_cons, List.length_append, ih]; simp [ncel]; omega
theorem flat3 (M : List Nd) : ∀ (i r : Nat), i < M.length → r < 3 → (M.flatMap ncel)[i * 3 + r]? = (ncel (M.getD i nz))[r]? := by
  induction M with
  | nil => intro i r h; cases h
  | cons p M ih =>
    intro i r h hr
    rw [List.flatMap_cons]
    cases i with
    | zero =>
      rw [Nat.zero_mul, Nat.zero_add, List.getElem?_append_left (by simpa [ncel] using hr)]
      rfl
    | succ i =>
      rw [List.getElem?_append_right (by simp [ncel]; omega)]
      have e : (i + 1) * 3 + r - (ncel p).length = i * 3 + r := by simp [ncel]; omega
      rw [e, ih i r (by simpa using h) hr]
      rfl
theorem add_nr (ad : Addr) (k r : Nat) (hr : 0 < r) : (⟨(ad.add k).block, (ad.add k).off + r, none⟩ : Addr) = ad.add (k + r) := by
  rw [← Addr.add_add]
  generalize ad.add k = q
  show _ = q.add r
  unfold Addr.add
  rw [if_neg (by omega)]
theorem sn_flat {w : World} {ad : Addr} {n c : Nat} {N : List Nd} (h : SN w (some ad) n c N) : ∀ j u, (N.flatMap ncel)[j]? = some u → w.cell? (ad.add j) = some u := by
  intro j u hu
  have hj : j < N.length * 3 := by rw [← ncel_len]; exact (List.getElem?_eq_some_iff.1 hu).1
  have hi : j / 3 < N.length := by omega
  have hr : j % 3 < 3 := Nat.mod_lt _ (by decide)
  have e : j / 3 * 3 + j % 3 = j := by omega
  have f := flat3 N (j / 3) (j % 3) hi hr
  rw [e, hu] at f
  obtain ⟨c0, c1, c2⟩ := h.cells ad rfl (j / 3) (by rw [← h.len]; exact hi)
  rw [add_nr _ _ 1 (by decide)] at c1
  rw [add_nr _ _ 2 (by decide)] at c2
  generalize N.getD (j / 3) nz = x at *
  rcases (show j % 3 = 0 ∨ j % 3 = 1 ∨ j % 3 = 2 by omega) with q | q | q
  · rw [q] at f; rw [show j = j / 3 * 3 by omega, c0]; exact f.symm
  · rw [q] at f; rw [show j = j / 3 * 3 + 1 by omega, c1]; exact f.symm
  · rw [q] at f; rw [show j = j / 3 * 3 + 2 by omega, c2]; exact f.symm
theorem NDL.sn {w : World} {base c n : Nat} {a : Option Addr} {N : List Nd} (h : NDL w base (.slice a n c) N) (hl : n = N.length) (hr : ∀ x ∈ N, -9223372036854775808 ≤ x.2.1 ∧ x.2.1 ≤ 9223372036854775807) : SN w a n c N := by
  subst hl
  have cp := own_cap h
  refine ⟨rfl, ?_, cp, fun ad e j hj => ?_, hr⟩
  · intro e
    subst e
    rcases h.2 with ⟨h', _⟩ | ⟨g', cap', cur, h', _⟩
    · injection h' with _ h1 h2
      exact ⟨h1, h2⟩
    · injection h' with h' _ _
      cases h'
  · obtain ⟨g, cx, hv⟩ := own_head h (by omega)
    injection hv with hv _ hc
    subst hc
    rw [e] at hv
    injection hv with hv
    subst hv e
    rw [addr0c]
    have z : ∀ r, r < 3 → w.cell? ⟨g, j * 3 + r, none⟩ = (ncel (N.getD j nz))[r]? := fun r hr => (h.cellAt (j * 3 + r) (by omega)).trans (flat3 N j r hj hr)
    exact ⟨(z 0 (by decide)).trans rfl, (z 1 (by decide)).trans rfl, (z 2 (by decide)).trans rfl⟩
theorem ndpush_any {w : World} {ops : Array Oper} {rest : List Oper} {o : Oper} {a : Act} {Q : Exit → Act → World → Prop} (hgd : o.guard = none) (s x : Operand)
    (ho : o.op = .call { callee := .builtin .append, args := #[s, x], argTypes := #[32, 32] }) (base : Nat) (V : Value) (L : List Nd) (hs : a.eval s = V) (hown : NDL w base V L)
    (ad : Addr) (m c : Nat) (M : List Nd) (hx : a.eval x = .slice (some ad) m c) (hM : SN w (some ad) m c M) (hlen : L.length + M.length ≤ 2000000) (hbase : base ≤ w.heap.size)
    (h : ∀ V' w', NDL w' base V' (L ++ M) → w.grownBy w' V.ownBlock → wpList Try.prog ops Q rest (a.put o.dst V') w') : wpList Try.prog ops Q (o :: rest) a w := by
  obtain ⟨i0, hi, hz0, hz1, hz2⟩ := info_parts infoND
  have hl : M.length = m := hM.len
  subst hl
  refine wpList_append_own w hgd s x 32 ho base 51 i0 _ 3 24 Try.underlying32 hi hz0 hz1 hz2 rfl (by decide) V L.length (L.flatMap ncel) hs hown ad M.length c (M.flatMap ncel) hx (ncel_len M) (sn_flat hM) (ncels_one M) (by unfold maxLen; omega) (by omega) hbase ?_
  intro V' w' h1 h2 h3
  exact h V' w' (by unfold NDL; rw [List.length_append, List.flatMap_append]; exact h1) h2
/-- A copy of nodes in memory of its own. -/
def RetCl (N : List Nd) (w : World) (e : Ending) (w' : World) : Prop := ∃ (a : Option Addr) (n c : Nat), e = .returned (.slice a n c) ∧ Rob w w' (fun w2 => SN w2 a n c N) ∧ w.grownBy w' none
set_option maxRecDepth 100000 in
set_option maxHeartbeats 4000000 in
theorem nclone_any (w : World) (a : Option Addr) (n c : Nat) (N : List Nd) (h : SN w a n c N) (hn : n ≤ 100000) : Calls Try.prog 77 #[.slice a n c] w (RetCl N w) := by
  have RN := Lib.hid h.rng
  cases a with
  | none =>
    obtain ⟨h0, rfl⟩ := h.nil rfl
    subst h0
    have hL : N = [] := List.length_eq_zero_iff.1 h.len
    subst hL
    clear h
    have q22 : ∀ w, Sem.run Try.prog (binOp .eql 32 (.slice none (0 : Nat) (0 : Nat)) (.slice none 0 0)) w = .ok (.bool true) w := fun w => Lib.run_eql_slice_nil w _ _ none (0 : Nat) (0 : Nat) 0 0 Try.underlying32
    go_enter Try.func77, Try.ntmps77
    go_wp2
    go_ret
    exact ⟨none, 0, 0, rfl, fun w2 _ => ⟨rfl, fun _ => ⟨rfl, rfl⟩, Nat.le_refl _, (fun ad e => by cases e), (fun x hx => by cases hx)⟩, gb_refl _ _⟩
  | some ad =>
    have HH := Lib.hid h
    have HL := Lib.hid h.len
    clear h
    have q22 : ∀ w, Sem.run Try.prog (binOp .eql 32 (.slice (some ad) n c) (.slice none 0 0)) w = .ok (.bool false) w := fun w => Lib.run_eql_slice_nil w _ _ (some ad) n c 0 0 Try.underlying32
    have OW := Lib.hid (show NDL (w.alloc (.cells #[] 51)) w.heap.size (.slice (some ⟨w.heap.size, 0, none⟩) 0 0) [] from World.ownsRow_made w #[] 0 (Nat.le_refl _) (Nat.zero_le _) rfl)
    have HA := Lib.hid (HH.out.keep0 (gb_alloc w (.cells #[] 51) none))
    go_enter Try.func77, Try.ntmps77
    go_wp2_with (at_builtin; refine ndpush_any rfl _ _ rfl w.heap.size _ [] rfl OW.out ad n c N rfl HA.out (by have := HL.out; simp; omega) (by rw [sz_al]; omega) ?_)
    intro V1 w1 o1 g1
    have O1 := Lib.hid o1
    have G1 := Lib.hid (gb_own (gb_alloc w _ none) OW.out (Nat.le_refl _) g1)
    clear o1 g1
    obtain ⟨a1, c1, hv⟩ := own_shape O1.out
    subst hv
    go_wp2
    go_ret
    exact ⟨a1, _, c1, rfl, fun w2 k => NDL.sn (own_rob O1.out k) rfl RN.out, G1.out⟩
end Go.Proofs.Ytfjeonoihdgdoaa
