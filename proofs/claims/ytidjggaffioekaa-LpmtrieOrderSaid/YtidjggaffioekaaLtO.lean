/- The reference's tries: New, Insert, Delete, Match. -/
import Derived.Test.YtidjggaffioekaaLtN
import Derived.Laws.AppendOwnNone
namespace Go.Proofs.Ytidjggaffioekaa
open Go.RowKit
set_option linter.unusedVariables false

theorem pushI {w : World} {ops : Array Oper} {rest : List Oper} {o : Oper} {a : Act} {Q : Exit → Act → World → Prop} (hgd : o.guard = none) (s x : Operand)
    (ho : o.op = .call { callee := .builtin .append, args := #[s, x], argTypes := #[28, 28] }) (base : Nat) (V : Value) (wi : Nat) (M : List Ent) (hs : a.eval s = V) (hown : RI w base V wi M)
    (ad : Option Addr) (m c : Nat) (L : List Ent) (hx : a.eval x = .slice ad m c) (hL : S3 (itI wi) w ad m c L) (hlen : M.length + L.length ≤ 1000000) (hbase : base ≤ w.heap.size)
    (h : ∀ V' w', RI w' base V' wi (M ++ L) → w.grownBy w' V.ownBlock → wpList Try.prog ops Q rest (a.put o.dst V') w') : wpList Try.prog ops Q (o :: rest) a w := by
  obtain ⟨i0, hi, hz0, hz1, hz2⟩ := info_parts infoIT
  have hl := hL.1
  subst hl
  cases ad with
  | none =>
    obtain ⟨h0, rfl⟩ := hL.2.1 rfl
    have hm : L = [] := List.length_eq_zero_iff.1 h0
    subst hm
    refine wpList_append_own_none hgd s x 28 ho base 72 i0 3 Try.underlying28 hi V M.length (M.flatMap (itI wi)) hs hown hx ?_
    refine h V w (by simpa using hown) ?_
    cases V.ownBlock <;> exact gb_refl _ _
  | some ad =>
    refine wpList_append_own w hgd s x 28 ho base 72 i0 _ 3 24 Try.underlying28 hi hz0 hz1 hz2 rfl (by decide) V M.length (M.flatMap (itI wi)) hs hown ad L.length c (L.flatMap (itI wi)) hx (it_len (itI_3 wi) L) (hL.2.2 ad rfl) (itI_ones wi L) (by unfold maxLen; omega) (by omega) hbase ?_
    intro V' w' h1 h2 h3
    refine h V' w' ?_ h2
    unfold RI
    rw [List.flatMap_append, List.length_append]
    exact h1
/-- A trie of the reference, and a number. -/
def RetR (wi : Nat) (L : List Ent) (k : Value) (w : World) (e : Ending) (w' : World) : Prop := ∃ a n c, e = .returned (.tuple #[.agg #[.int .i64 wi, .slice a n c], k]) ∧ n = L.length ∧ RI w' 0 (.slice a n c) wi L ∧ w.grownBy w' none
set_option maxRecDepth 100000 in
set_option maxHeartbeats 4000000 in
theorem rnew_bad (w : World) (n : Int) (h : ¬ (1 ≤ n ∧ n ≤ 32)) : Calls Try.prog 10 #[.int .i64 n] w (RetV (.tuple #[.agg #[.int .i64 0, .slice none 0 0], .int .i64 10]) w) := by
  by_cases h1 : n < 1
  · clear h
    go_enter Try.func10, Try.ntmps10
    go_wp2
    (try simp only [Exit.inBlock, Exit.then])
    refine bodyPost_ret (v := .tuple #[.agg #[.int .i64 0, .slice none 0 0], .int .i64 10]) (by rw [results_cell_tmp rfl]; go_simp; try rfl) rfl ⟨rfl, by first | exact gb_alloc _ _ _ | exact gb_put (gb_put (gb_alloc _ _ _) (Nat.le_refl _)) (Nat.le_refl _)⟩
  · have h2 : 32 < n := by omega
    clear h
    go_enter Try.func10, Try.ntmps10
    go_wp2
    (try simp only [Exit.inBlock, Exit.then])
    refine bodyPost_ret (v := .tuple #[.agg #[.int .i64 0, .slice none 0 0], .int .i64 10]) (by rw [results_cell_tmp rfl]; go_simp; try rfl) rfl ⟨rfl, by first | exact gb_alloc _ _ _ | exact gb_put (gb_put (gb_alloc _ _ _) (Nat.le_refl _)) (Nat.le_refl _)⟩
set_option maxRecDepth 100000 in
set_option maxHeartbeats 4000000 in
theorem rnew_good (w : World) (n : Int) (h : 1 ≤ n ∧ n ≤ 32) : Calls Try.prog 10 #[.int .i64 n] w (RetV (.tuple #[.agg #[.int .i64 n, .slice none 0 0], .int .i64 0]) w) := by
  have h1 : ¬ n < 1 := by omega
  have h2 : ¬ 32 < n := by omega
  clear h
  go_enter Try.func10, Try.ntmps10
  go_wp2
  (try simp only [Exit.inBlock, Exit.then])
  refine bodyPost_ret (v := .tuple #[.agg #[.int .i64 n, .slice none 0 0], .int .i64 0]) (by rw [results_cell_tmp rfl]; go_simp; try rfl) rfl ⟨rfl, by first | exact gb_alloc _ _ _ | exact gb_put (gb_put (gb_alloc _ _ _) (Nat.le_refl _)) (Nat.le_refl _)⟩
set_option maxRecDepth 100000 in
set_option maxHeartbeats 4000000 in
theorem rmatch_any (w : World) (wi : Nat) (a : Option Addr) (n c : Nat) (e : Ent) (h2 : wi ≤ 32) (he : e.1.length ≤ wi) : Calls Try.prog 26 #[.agg #[.int .i64 wi, .slice a n c], .agg #[.int .u32 (E wi e.1), .int .i64 e.1.length, .int .i64 e.2]] w (RetV (.agg #[.int .u32 (E wi e.1), .int .u32 ((maskN e.1.length wi : Nat) : Int)]) w) := by
  have MK := Lib.hid (fun W => rmask_any W e.1.length wi he h2)
  obtain ⟨mk, hmk⟩ : ∃ mk, mk = ((maskN e.1.length wi : Nat) : Int) := ⟨_, rfl⟩
  rw [← hmk] at MK ⊢
  unfold RetV at MK
  generalize E wi e.1 = ev at *
  generalize e.1.length = el at *
  generalize e.2 = ex at *
  clear he h2 hmk
  have B10 := ((IsB.new w 30 #[.int .i64 wi, .slice a n c]).alloc (.cells #[.int .u32 ev, .int .i64 el, .int .i64 ex] 72)).alloc (.cells #[.int .u32 0, .int .u32 0] 45)
  have B20 := (IsB.new (w.alloc (.cells #[.int .i64 wi, .slice a n c] 30)) 72 #[.int .u32 ev, .int .i64 el, .int .i64 ex]).alloc (.cells #[.int .u32 0, .int .u32 0] 45)
  have B30 := IsB.new ((w.alloc (.cells #[.int .i64 wi, .slice a n c] 30)).alloc (.cells #[.int .u32 ev, .int .i64 el, .int .i64 ex] 72)) 45 #[.int .u32 0, .int .u32 0]
  rw [sz_al] at B20
  rw [sz_al, sz_al] at B30
  have B1 := Lib.hid B10
  have B2 := Lib.hid B20
  have B3 := Lib.hid B30
  have G3 := Lib.hid (gb_trans (gb_trans (gb_alloc w (.cells #[.int .i64 wi, .slice a n c] 30) none) (gb_alloc _ (.cells #[.int .u32 ev, .int .i64 el, .int .i64 ex] 72) none)) (gb_alloc _ (.cells #[.int .u32 0, .int .u32 0] 45) none))
  clear B10 B20 B30
  go_enter Try.func26, Try.ntmps26
  go_upto_region 1 with fail
  generalize ((w.alloc (.cells #[.int .i64 wi, .slice a n c] 30)).alloc (.cells #[.int .u32 ev, .int .i64 el, .int .i64 ex] 72)).alloc (.cells #[.int .u32 0, .int .u32 0] 45) = w3 at *
  obtain ⟨z1, hz1⟩ : ∃ x, x = w.heap.size := ⟨_, rfl⟩
  obtain ⟨z2, hz2⟩ : ∃ x, x = w.heap.size + 1 := ⟨_, rfl⟩
  obtain ⟨z3, hz3⟩ : ∃ x, x = w.heap.size + 1 + 1 := ⟨_, rfl⟩
  have Z3 := Lib.hid (show w.heap.size ≤ z3 by omega)
  rw [← hz3] at B3 ⊢
  rw [← hz2] at B2 ⊢
  rw [← hz1] at B1 ⊢
  clear hz1 hz2 hz3
  have hF0 : (fun w' : World => w'.cell? ⟨z2, 0, none⟩ = some (.int .u32 ev) ∧ w'.cell? ⟨z2, 1, none⟩ = some (.int .i64 el) ∧ w'.cell? ⟨z1, 0, none⟩ = some (.int .i64 wi)) w3.drew := ⟨(B2.out.keep0 (gb_drew _ none)).cell 0, (B2.out.keep0 (gb_drew _ none)).cell 1, (B1.out.keep0 (gb_drew _ none)).cell 0⟩
  refine wp_region_S (fun w' : World => w'.cell? ⟨z2, 0, none⟩ = some (.int .u32 ev) ∧ w'.cell? ⟨z2, 1, none⟩ = some (.int .i64 el) ∧ w'.cell? ⟨z1, 0, none⟩ = some (.int .i64 wi)) 8 (by kernel_rfl) ?_
  refine wpAnyS_pure (i := 0) (v := ?v1) rfl (by kernel_rfl) (by kernel_rfl) (by kernel_rfl) (by decide) (fun _ _ _ h => h) (Or.inl ⟨by rfl, ?hy1⟩) (Or.inr (by assumption)) ?rest1
  case hy1 => (intro wz hSw; (try dsimp only at hSw); first | (go_simp; done) | (go_simp; with_reducible rfl))
  try simp only [Act.put, List.getElem_toArray, List.getElem_cons_zero, List.setIfInBounds_toArray, List.set_cons_zero, List.set_cons_succ]
  refine wpAnyS_load 7 (i := 1) (v := ?v2) rfl (by kernel_rfl) (by kernel_rfl) (by kernel_rfl) (by kernel_rfl) (fun _ _ _ h => h) (Or.inl ⟨by rfl, ?hy2⟩) (by assumption) ?rest2
  case hy2 => (intro wz hSw; (try dsimp only at hSw); first | (go_simp; done) | (go_simp; with_reducible rfl))
  try simp only [Act.put, List.getElem_toArray, List.getElem_cons_succ, List.getElem_cons_zero, List.setIfInBounds_toArray, List.set_cons_zero, List.set_cons_succ]
  refine wpAnyS_pure (i := 2) (v := ?v3) rfl (by kernel_rfl) (by kernel_rfl) (by kernel_rfl) (by decide) (fun _ _ _ h => h) (Or.inl ⟨by rfl, ?hy3⟩) (Or.inr (by assumption)) ?rest3
  case hy3 => (intro wz hSw; (try dsimp only at hSw); first | (go_simp; done) | (go_simp; with_reducible rfl))
  try simp only [Act.put, List.getElem_toArray, List.getElem_cons_succ, List.getElem_cons_zero, List.setIfInBounds_toArray, List.set_cons_zero, List.set_cons_succ]
  refine wpAnyS_load 6 (i := 3) (v := ?v4) rfl (by kernel_rfl) (by kernel_rfl) (by kernel_rfl) (by kernel_rfl) (fun _ _ _ h => h) (Or.inl ⟨by rfl, ?hy4⟩) (by assumption) ?rest4
  case hy4 => (intro wz hSw; (try dsimp only at hSw); first | (go_simp; done) | (go_simp; with_reducible rfl))
  try simp only [Act.put, List.getElem_toArray, List.getElem_cons_succ, List.getElem_cons_zero, List.setIfInBounds_toArray, List.set_cons_zero, List.set_cons_succ]
  refine wpAnyS_pure (i := 4) (v := ?v5) rfl (by kernel_rfl) (by kernel_rfl) (by kernel_rfl) (by decide) (fun _ _ _ h => h) (Or.inl ⟨by rfl, ?hy5⟩) (Or.inr (by assumption)) ?rest5
  case hy5 => (intro wz hSw; (try dsimp only at hSw); first | (go_simp; done) | (go_simp; with_reducible rfl))
  try simp only [Act.put, List.getElem_toArray, List.getElem_cons_succ, List.getElem_cons_zero, List.setIfInBounds_toArray, List.set_cons_zero, List.set_cons_succ]
  refine wpAnyS_load 6 (i := 5) (v := ?v6) rfl (by kernel_rfl) (by kernel_rfl) (by kernel_rfl) (by kernel_rfl) (fun _ _ _ h => h) (Or.inl ⟨by rfl, ?hy6⟩) (by assumption) ?rest6
  case hy6 => (intro wz hSw; (try dsimp only at hSw); first | (go_simp; done) | (go_simp; with_reducible rfl))
  try simp only [Act.put, List.getElem_toArray, List.getElem_cons_succ, List.getElem_cons_zero, List.setIfInBounds_toArray, List.set_cons_zero, List.set_cons_succ]
  refine wpAnyS_one (i := 6) (o := _) (by kernel_rfl) rfl (fun K hK => ?_)
  go_simp
  (with_reducible refine (MK.out _).mono ?_)
  rintro e jw1 ⟨rfl, g⟩
  have GJ := Lib.hid (gb_trans (gb_drew w3 none) g)
  have B4 := Lib.hid (B3.out.keep0 GJ.out)
  have r0 := B4.out.cell 0
  have r1 := B4.out.cell 1
  have f0 := B4.out.free 0
  have f1 := B4.out.free 1
  dsimp at r0 r1
  clear g
  clear hF0
  have hF1 : (fun w' : World => w'.cell? ⟨z2, 0, none⟩ = some (.int .u32 ev) ∧ w'.cell? ⟨z2, 1, none⟩ = some (.int .i64 el) ∧ w'.cell? ⟨z1, 0, none⟩ = some (.int .i64 wi)) jw1 := ⟨(B2.out.keep0 GJ.out).cell 0, (B2.out.keep0 GJ.out).cell 1, (B1.out.keep0 GJ.out).cell 0⟩
  try dsimp only
  refine hK.out _ _ (Or.inr hF1) (fun _ => ?_)
  clear hK K
  try simp only [Act.put, List.getElem_toArray, List.getElem_cons_succ, List.getElem_cons_zero, List.setIfInBounds_toArray, List.set_cons_zero, List.set_cons_succ]
  refine wpAnyS_pure (i := 7) (v := ?v7) rfl (by kernel_rfl) (by kernel_rfl) (by kernel_rfl) (by decide) (fun _ _ _ h => h) (Or.inl ⟨by rfl, ?hy7⟩) (Or.inr (by assumption)) ?rest7
  case hy7 => (intro wz hSw; (try dsimp only at hSw); first | (go_simp; done) | (go_simp; with_reducible rfl))
  try simp only [Act.put, List.getElem_toArray, List.getElem_cons_succ, List.getElem_cons_zero, List.setIfInBounds_toArray, List.set_cons_zero, List.set_cons_succ]
  refine wpAnyS_one (i := 8) (o := _) (by kernel_rfl) rfl (fun K hK => ?_)
  go_simp
  refine hK.out _ _ (Or.inl (by kernel_rfl)) (fun _ => ?_)
  clear hK K
  try simp only [Act.put, List.getElem_toArray, List.getElem_cons_succ, List.getElem_cons_zero, List.setIfInBounds_toArray, List.set_cons_zero, List.set_cons_succ]
  refine wpAnyS_done (by kernel_rfl) ?_ _
  clear hF1
  go_wp2
  (try simp only [Exit.inBlock, Exit.then])
  refine bodyPost_ret (v := .agg #[.int .u32 ev, .int .u32 mk]) (by rw [results_cell1 rfl]; go_simp; try rfl) rfl ⟨rfl, gb_put (gb_put (gb_trans G3.out GJ.out) Z3.out) Z3.out⟩
theorem RI.low {w : World} {base wi : Nat} {V : Value} {L : List Ent} (h : RI w base V wi L) : RI w 0 V wi L := own_low h (Nat.zero_le _)
theorem own_kept {w : World} {base wi : Nat} {V : Value} {L : List Ent} {b i : Nat} {t : TypeId} {cs : Array Value} {u : Value} (h : RI w base V wi L) (hb : IsB w b t cs) (hn : 72 ≠ t) : RI (w.setCell ⟨b, i, none⟩ u) base V wi L :=
  World.ownsRow.kept h (gb_set _ _ _ _) (.inr (own_ne h hb hn))
set_option maxRecDepth 100000 in
set_option maxHeartbeats 4000000 in
theorem rdel_no (w : World) (v wi : Nat) (m : Int) (a : Option Addr) (n c : Nat) (L : List Ent) (h : RI w 0 (.slice a n c) wi L) (hn : n = L.length) (hf : ∀ W, w.grownBy W none → ∃ k : Int, k < 0 ∧ Calls Try.prog 31 #[.agg #[.int .i64 wi, .slice a n c], .int .u32 v, .int .i64 m] W (RetV (.int .i64 k) W)) : Calls Try.prog 23 #[.agg #[.int .i64 wi, .slice a n c], .int .u32 v, .int .i64 m] w (RetR wi L (.bool false) w) := by
  have B10 := (IsB.new w 30 #[.int .i64 wi, .slice a n c]).alloc (.cells #[.int .i64 0, .slice none 0 0] 30)
  have B20 := IsB.new (w.alloc (.cells #[.int .i64 wi, .slice a n c] 30)) 30 #[.int .i64 0, .slice none 0 0]
  rw [sz_al] at B20
  have B1 := Lib.hid B10
  have B2 := Lib.hid B20
  have G2 := Lib.hid (gb_trans (gb_alloc w (.cells #[.int .i64 wi, .slice a n c] 30) none) (gb_alloc _ (.cells #[.int .i64 0, .slice none 0 0] 30) none))
  clear B10 B20
  have HH := Lib.hid (fun (W : World) (k : w.grownBy W none) => h.keep0 k)
  have HF := Lib.hid hf
  have HN := Lib.hid hn
  clear h hf hn
  unfold RetR
  go_enter Try.func23, Try.ntmps23
  go_upto_region 1 with fail
  generalize (w.alloc (.cells #[.int .i64 wi, .slice a n c] 30)).alloc (.cells #[.int .i64 0, .slice none 0 0] 30) = w2 at *
  obtain ⟨z1, hz1⟩ : ∃ x, x = w.heap.size := ⟨_, rfl⟩
  obtain ⟨z2, hz2⟩ : ∃ x, x = w.heap.size + 1 := ⟨_, rfl⟩
  have Z1 := Lib.hid (show w.heap.size ≤ z1 by omega)
  have Z2 := Lib.hid (show w.heap.size ≤ z2 by omega)
  have Z12 := Lib.hid (show z1 ≠ z2 by omega)
  rw [← hz2] at B2 ⊢
  rw [← hz1] at B1 ⊢
  clear hz1 hz2
  have b0 := B1.out.cell 0
  have b1 := B1.out.cell 1
  dsimp at b0 b1
  obtain ⟨k, hk, hc⟩ := HF.out _ G2.out
  have CC := Lib.hid hc
  clear hc
  go_wp2_with fail
  refine CC.out.mono ?_
  rintro e w3 ⟨rfl, g⟩
  have G3 := Lib.hid (gb_trans G2.out g)
  have C1 := Lib.hid (B1.out.keep0 g)
  have C2 := Lib.hid (B2.out.keep0 g)
  clear g b0 b1
  have c0 := C1.out.cell 0
  have c1 := C1.out.cell 1
  have c2 := C2.out.cell 0
  have c3 := C2.out.cell 1
  dsimp at c0 c1 c2 c3
  have f0 := C2.out.free 0
  have f1 := C2.out.free 1
  go_wp2
  (try simp only [Exit.inBlock, Exit.then])
  refine bodyPost_ret (v := .tuple #[.agg #[.int .i64 wi, .slice a n c], .bool false]) (by rw [results_cell_tmp rfl]; go_simp; try rfl) rfl ⟨a, n, c, rfl, HN.out, ?_, gb_put (gb_put G3.out Z2.out) Z2.out⟩
  exact own_kept (own_kept (HH.out _ G3.out) C2.out (by decide)) (C2.out.set 0 _) (by decide)
end Go.Proofs.Ytidjggaffioekaa
