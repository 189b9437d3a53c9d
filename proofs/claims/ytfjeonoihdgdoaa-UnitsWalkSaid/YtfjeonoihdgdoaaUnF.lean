/- Units: copies of guards and of conditions in rows of their own; guarded; no condition but the lists' sizes. -/
import Derived.Test.YtfjeonoihdgdoaaUnE
import Derived.Test.YtfjeonoihdgdoaaCnK
namespace Go.Proofs.Ytfjeonoihdgdoaa
open Go.RowKit
set_option linter.unusedVariables false
def gcel (x : Gd) : List Value := [.int .i64 x.1, .bool x.2]
/-- A row of guards of the call's own. -/
def GL (w : World) (base : Nat) (V : Value) (G : List Gd) : Prop := w.ownsRow base 80 2 V G.length (G.flatMap gcel)
theorem infoGd : (Try.prog.info? 80).map (fun i => (i.zero, i.size, i.bytes)) = some (some (.agg #[.int .i64 0, .bool false]), 2, 16) := by kernel_rfl
theorem gcels_one (M : List Gd) : ∀ u ∈ M.flatMap gcel, u.oneCell' = true := by
  intro u hu
  obtain ⟨x, _, hx⟩ := List.mem_flatMap.1 hu
  simp only [gcel, List.mem_cons, List.not_mem_nil, or_false] at hx
  rcases hx with rfl | rfl <;> rfl
theorem gcel_len (M : List Gd) : (M.flatMap gcel).length = M.length * 2 := by
  induction M with
  | nil => rfl
  | cons p M ih => rw [List.flatMap_cons, List.length_append, ih]; simp [gcel]; omega
theorem flat2g (M : List Gd) : ∀ (i r : Nat), i < M.length → r < 2 → (M.flatMap gcel)[i * 2 + r]? = (gcel (M.getD i (0, false)))[r]? := by
  induction M with
  | nil => intro i r h; cases h
  | cons p M ih =>
    intro i r h hr
    rw [List.flatMap_cons]
    cases i with
    | zero =>
      rw [Nat.zero_mul, Nat.zero_add, List.getElem?_append_left (by simpa [gcel] using hr)]
      rfl
    | succ i =>
      rw [List.getElem?_append_right (by simp [gcel]; omega)]
      have e : (i + 1) * 2 + r - (gcel p).length = i * 2 + r := by simp [gcel]; omega
      rw [e, ih i r (by simpa using h) hr]
      rfl
theorem sg_flat {w : World} {ad : Addr} {n c : Nat} {G : List Gd} (h : SGd w ⟨some ad, n, c⟩ G) : ∀ j u, (G.flatMap gcel)[j]? = some u → w.cell? (ad.add j) = some u := by
  intro j u hu
  have hj : j < G.length * 2 := by rw [← gcel_len]; exact (List.getElem?_eq_some_iff.1 hu).1
  have hi : j / 2 < G.length := by omega
  have hr : j % 2 < 2 := Nat.mod_lt _ (by decide)
  have e : j / 2 * 2 + j % 2 = j := by omega
  have f := flat2g G (j / 2) (j % 2) hi hr
  rw [e, hu] at f
  obtain ⟨c0, c1⟩ := h.cells ad rfl (j / 2) (by rw [← h.len]; exact hi)
  rw [add_nr _ _ 1 (by decide)] at c1
  generalize G.getD (j / 2) (0, false) = x at *
  rcases (show j % 2 = 0 ∨ j % 2 = 1 by omega) with q | q
  · rw [q] at f; rw [show j = j / 2 * 2 by omega, c0]; exact f.symm
  · rw [q] at f; rw [show j = j / 2 * 2 + 1 by omega, c1]; exact f.symm
theorem GL.sg {w : World} {base c n : Nat} {a : Option Addr} {G : List Gd} (h : GL w base (.slice a n c) G) (hl : n = G.length) (hr : ∀ x ∈ G, -9223372036854775808 ≤ x.1 ∧ x.1 ≤ 9223372036854775807) : SGd w ⟨a, n, c⟩ G := by
  subst hl
  have cp := own_cap h
  refine ⟨rfl, ?_, cp, fun ad e j hj => ?_, hr⟩
  · intro e
    dsimp only at e
    subst e
    rcases h.2 with ⟨h', _⟩ | ⟨g', cap', cur, h', _⟩
    · injection h' with _ h1 h2
      exact ⟨h1, h2⟩
    · injection h' with h' _ _
      cases h'
  · dsimp only at e hj
    obtain ⟨g, cx, hv⟩ := own_head h (by omega)
    injection hv with hv _ hc
    subst hc
    rw [e] at hv
    injection hv with hv
    subst hv e
    rw [addr0c]
    have z : ∀ r, r < 2 → w.cell? ⟨g, j * 2 + r, none⟩ = (gcel (G.getD j (0, false)))[r]? := fun r hr => (h.cellAt (j * 2 + r) (by omega)).trans (flat2g G j r hj hr)
    exact ⟨(z 0 (by decide)).trans rfl, (z 1 (by decide)).trans rfl⟩
theorem gdpush_any {w : World} {ops : Array Oper} {rest : List Oper} {o : Oper} {a : Act} {Q : Exit → Act → World → Prop} (hgd : o.guard = none) (s x : Operand)
    (ho : o.op = .call { callee := .builtin .append, args := #[s, x], argTypes := #[76, 76] }) (base : Nat) (V : Value) (L : List Gd) (hs : a.eval s = V) (hown : GL w base V L)
    (ad : Addr) (m c : Nat) (M : List Gd) (hx : a.eval x = .slice (some ad) m c) (hM : SGd w ⟨some ad, m, c⟩ M) (hlen : L.length + M.length ≤ 2000000) (hbase : base ≤ w.heap.size)
    (h : ∀ V' w', GL w' base V' (L ++ M) → w.grownBy w' V.ownBlock → wpList Try.prog ops Q rest (a.put o.dst V') w') : wpList Try.prog ops Q (o :: rest) a w := by
  obtain ⟨i0, hi, hz0, hz1, hz2⟩ := info_parts infoGd
  have hl : M.length = m := hM.len
  subst hl
  refine wpList_append_own w hgd s x 76 ho base 80 i0 _ 2 16 Try.underlying76 hi hz0 hz1 hz2 rfl (by decide) V L.length (L.flatMap gcel) hs hown ad M.length c (M.flatMap gcel) hx (gcel_len M) (sg_flat hM) (gcels_one M) (by unfold maxLen; omega) (by omega) hbase ?_
  intro V' w' h1 h2 h3
  exact h V' w' (by unfold GL; rw [List.length_append, List.flatMap_append]; exact h1) h2
/-- The call returns a row of its own. -/
def RetRow (P : World → Value → Prop) (w : World) (e : Ending) (w' : World) : Prop := ∃ (a : Option Addr) (n c : Nat), e = .returned (.slice a n c) ∧ P w' (.slice a n c) ∧ w.grownBy w' none
set_option maxRecDepth 100000 in
set_option maxHeartbeats 4000000 in
theorem gclone_any (w : World) (s : Sl) (G : List Gd) (h : SGd w s G) (hn : s.n ≤ 100000) : Calls Try.prog 79 #[.slice s.a s.n s.c] w (RetRow (fun w' V => GL w' w.heap.size V G) w) := by
  obtain ⟨a, n, c⟩ := s
  dsimp only at hn ⊢
  cases a with
  | none =>
    obtain ⟨h0, h1⟩ := h.nil rfl
    dsimp only at h0 h1
    subst h0 h1
    have hL : G = [] := List.length_eq_zero_iff.1 h.len
    subst hL
    clear h
    have q22 : ∀ w, Sem.run Try.prog (binOp .eql 76 (.slice none (0 : Nat) (0 : Nat)) (.slice none 0 0)) w = .ok (.bool true) w := fun w => Lib.run_eql_slice_nil w _ _ none (0 : Nat) (0 : Nat) 0 0 Try.underlying76
    go_enter Try.func79, Try.ntmps79
    go_wp2
    go_ret
    exact ⟨none, 0, 0, rfl, World.ownsRow_nil _ _ _ _, gb_refl _ _⟩
  | some ad =>
    have HH := Lib.hid h
    have HL := Lib.hid h.len
    clear h
    have q22 : ∀ w, Sem.run Try.prog (binOp .eql 76 (.slice (some ad) n c) (.slice none 0 0)) w = .ok (.bool false) w := fun w => Lib.run_eql_slice_nil w _ _ (some ad) n c 0 0 Try.underlying76
    have OW := Lib.hid (show GL (w.alloc (.cells #[] 80)) w.heap.size (.slice (some ⟨w.heap.size, 0, none⟩) 0 0) [] from World.ownsRow_made w #[] 0 (Nat.le_refl _) (Nat.zero_le _) rfl)
    have HA := Lib.hid (HH.out.keep0 (gb_alloc w (.cells #[] 80) none))
    go_enter Try.func79, Try.ntmps79
    go_wp2_with (at_builtin; refine gdpush_any rfl _ _ rfl w.heap.size _ [] rfl OW.out ad n c G rfl HA.out (by have := HL.out; dsimp only at this; simp; omega) (by rw [sz_al]; omega) ?_)
    intro V1 w1 o1 g1
    have O1 := Lib.hid (show GL w1 w.heap.size V1 G from o1)
    have G1 := Lib.hid (gb_own (gb_alloc w _ none) OW.out (Nat.le_refl _) g1)
    clear o1 g1
    obtain ⟨a1, c1, hv⟩ := own_shape O1.out
    subst hv
    go_wp2
    go_ret
    exact ⟨a1, _, c1, rfl, O1.out, G1.out⟩
set_option maxRecDepth 100000 in
set_option maxHeartbeats 4000000 in
theorem nclone2_any (w : World) (s : Sl) (N : List Nd) (h : SN w s.a s.n s.c N) (hn : s.n ≤ 100000) : Calls Try.prog 77 #[.slice s.a s.n s.c] w (RetRow (fun w' V => NDL w' w.heap.size V N) w) := by
  obtain ⟨a, n, c⟩ := s
  dsimp only at hn h ⊢
  cases a with
  | none =>
    obtain ⟨h0, h1⟩ := h.nil rfl
    subst h0 h1
    have hL : N = [] := List.length_eq_zero_iff.1 h.len
    subst hL
    clear h
    have q22 : ∀ w, Sem.run Try.prog (binOp .eql 32 (.slice none (0 : Nat) (0 : Nat)) (.slice none 0 0)) w = .ok (.bool true) w := fun w => Lib.run_eql_slice_nil w _ _ none (0 : Nat) (0 : Nat) 0 0 Try.underlying32
    go_enter Try.func77, Try.ntmps77
    go_wp2
    go_ret
    exact ⟨none, 0, 0, rfl, World.ownsRow_nil _ _ _ _, gb_refl _ _⟩
  | some ad =>
    have HH := Lib.hid h
    have HL := Lib.hid h.len
    clear h
    have q22 : ∀ w, Sem.run Try.prog (binOp .eql 32 (.slice (some ad) n c) (.slice none 0 0)) w = .ok (.bool false) w := fun w => Lib.run_eql_slice_nil w _ _ (some ad) n c 0 0 Try.underlying32
    have OW := Lib.hid (show NDL (w.alloc (.cells #[] 51)) w.heap.size (.slice (some ⟨w.heap.size, 0, none⟩) 0 0) [] from World.ownsRow_made w #[] 0 (Nat.le_refl _) (Nat.zero_le _) rfl)
    have HA := Lib.hid (HH.out.keep0 (gb_alloc w (.cells #[] 51) none))
    go_enter Try.func77, Try.ntmps77
    go_wp2_with (at_builtin; refine ndpush_any rfl _ _ rfl w.heap.size _ [] rfl OW.out ad n c N rfl HA.out (by have := HL.out; simp; omega) (by rw [sz_al]; omega) ?_)
    intro V1 w1 o1 g1
    have O1 := Lib.hid (show NDL w1 w.heap.size V1 N from o1)
    have G1 := Lib.hid (gb_own (gb_alloc w _ none) OW.out (Nat.le_refl _) g1)
    clear o1 g1
    obtain ⟨a1, c1, hv⟩ := own_shape O1.out
    subst hv
    go_wp2
    go_ret
    exact ⟨a1, _, c1, rfl, O1.out, G1.out⟩
theorem sg_one (w : World) (t : TypeId) (u : Int) (x : Bool) (n : Nat) (hn : n = w.heap.size) (hu : -9223372036854775808 ≤ u ∧ u ≤ 9223372036854775807) : SGd (w.alloc (.cells #[.int .i64 u, .bool x] t)) ⟨some ⟨n, 0, none⟩, 1, 1⟩ [(u, x)] := by
  subst hn
  refine ⟨rfl, (fun e => by cases e), Nat.le_refl _, fun ad e j hj => ?_, fun y hy => ?_⟩
  · injection e with e
    subst e
    dsimp only at hj
    have hj0 : j = 0 := by omega
    subst hj0
    rw [addr0c]
    exact ⟨(IsB.new w t _).cell 0, (IsB.new w t _).cell 1⟩
  · rw [List.mem_singleton] at hy
    subst hy
    exact hu
set_option maxRecDepth 100000 in
set_option maxHeartbeats 4000000 in
theorem guarded_any (w : World) (s : Sl) (G : List Gd) (h : SGd w s G) (hn : s.n ≤ 100000) (u : Nat) (x : Bool) (hu : u ≤ 1000000) : Calls Try.prog 57 #[.slice s.a s.n s.c, .int .i64 u, .bool x] w (RetRow (fun w' V => GL w' w.heap.size V (G ++ [((u : Int), x)])) w) := by
  have GC := Lib.hid (gclone_any w s G h hn)
  have HL := Lib.hid (show G.length ≤ 100000 by rw [h.len]; exact hn)
  clear h
  go_enter Try.func57, Try.ntmps57
  go_wp2_with (first
    | (go_at_call 79; refine GC.out.mono ?_; clear GC; rintro e w1 ⟨a1, n1, c1, rfl, o1, g1⟩; have O1 := Lib.hid o1; have G1 := Lib.hid g1; clear o1 g1)
    | (at_builtin; refine gdpush_any rfl _ _ rfl w.heap.size _ G rfl (own_keep0 O1.out (gb_alloc w1 _ none)) _ _ _ [((u : Int), x)] rfl (sg_one _ _ _ _ _ rfl (by omega)) (by have := HL.out; simp; omega) (by have := G1.out.size; rw [sz_al]; omega) ?_))
  intro V2 w2 o2 g2
  have O2 := Lib.hid o2
  have G2 := Lib.hid (gb_own (gb_trans G1.out (gb_alloc w1 _ none)) (own_keep0 O1.out (gb_alloc w1 _ none)) (Nat.le_refl _) g2)
  clear o2 g2
  obtain ⟨a2, c2, hv⟩ := own_shape O2.out
  subst hv
  go_wp2
  go_ret
  exact ⟨a2, _, c2, rfl, O2.out, G2.out⟩
end Go.Proofs.Ytfjeonoihdgdoaa
