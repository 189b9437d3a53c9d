/- Control: a node is copied, its branches given; no condition but that its condition is short. -/
import Derived.Test.YtfjeonoihdgdoaaCnK
import Derived.Test.YtfjeonoihdgdoaaOrS
namespace Go.Proofs.Ytfjeonoihdgdoaa
open Go.RowKit
set_option linter.unusedVariables false
/-- The same flow, wherever it lies. -/
def CT.eqv : CT → CT → Prop
  | .nil, .nil => True
  | .cons k t _ N _ th _ el r, .cons k2 t2 _ N2 _ th2 _ el2 r2 => k = k2 ∧ t = t2 ∧ N = N2 ∧ th.eqv th2 ∧ el.eqv el2 ∧ r.eqv r2
  | _, _ => False
/-- The same node, wherever it lies. -/
structure EqN (x y : CV) : Prop where
  k : x.k = y.k
  t : x.t = y.t
  N : x.N = y.N
  th : x.th.eqv y.th
  el : x.el.eqv y.el
theorem CT.eqv_refl (T : CT) : T.eqv T := by
  induction T with
  | nil => trivial
  | cons k t c N s th u el r i1 i2 i3 => exact ⟨rfl, rfl, rfl, i1, i2, i3⟩
theorem EqN.refl (x : CV) : EqN x x := ⟨rfl, rfl, rfl, CT.eqv_refl _, CT.eqv_refl _⟩
def CT.ofL : List CV → CT
  | [] => .nil
  | x :: l => x.ct (CT.ofL l)
theorem CT.ofL_len (M : List CV) : (CT.ofL M).len = M.length := by
  induction M with
  | nil => rfl
  | cons x M ih => show (CT.ofL M).len + 1 = _; rw [ih]; rfl
theorem eqv_ofL : ∀ (T : CT) (M : List CV), M.length = T.len → (∀ j x, j < T.len → T.drop j = x.ct (T.drop (j + 1)) → EqN x (M.getD j cz)) → T.eqv (CT.ofL M)
  | .nil, [], _, _ => trivial
  | .nil, y :: M, h, _ => by simp [CT.len] at h
  | .cons k t c N s th u el r, [], h, _ => by simp [CT.len] at h
  | .cons k t c N s th u el r, y :: M, h, hx => by
    have h0 := hx 0 ⟨k, t, c, N, s, th, u, el⟩ (Nat.succ_pos _) (by show (CT.cons k t c N s th u el r) = CV.ct _ (r.drop 0); rw [CT.drop_zero]; rfl)
    have hr := eqv_ofL r M (by simpa [CT.len] using h) (fun j x hj hd => by
      have q := hx (j + 1) x (by show j + 1 < r.len + 1; omega) hd
      simpa using q)
    exact ⟨h0.k, h0.t, h0.N, h0.th, h0.el, hr⟩
/-- A copy of a flow in memory of its own. -/
def RetCT (T : CT) (w : World) (e : Ending) (w' : World) : Prop := ∃ (s : Sl) (T2 : CT), e = .returned (.slice s.a s.n s.c) ∧ T.eqv T2 ∧ Rob w w' (fun w2 => ST w2 s T2) ∧ w.grownBy w' none
def RetCV (x : CV) (w : World) (e : Ending) (w' : World) : Prop := ∃ (y : CV), e = .returned (.agg y.cs) ∧ EqN x y ∧ Rob w w' (fun w2 => VM w2 y) ∧ w.grownBy w' none
theorem Rob.sub {w w' a b : World} {P : World → Prop} (h : Rob a b P) (h1 : w.heap.size ≤ a.heap.size) (h2 : b.heap.size ≤ w'.heap.size) (hs : ∀ k, a.heap.size ≤ k → k < b.heap.size → w'.heap[k]? = b.heap[k]?) : Rob w w' P :=
  fun w2 k => h w2 (fun i i1 i2 => (k i (by omega) (by omega)).trans (hs i i1 i2))
/-- No condition is long. -/
def Cnd (T : CT) : Prop := ∀ x ∈ T.pre, x.N.length ≤ 1000
theorem cnd_at {T : CT} {x : CV} {j : Nat} (hc : Cnd T) (h : T.drop j = x.ct (T.drop (j + 1))) : x.N.length ≤ 1000 ∧ Cnd x.th ∧ Cnd x.el := by
  have hp : ∀ (T : CT) (j : Nat), ∀ y ∈ (T.drop j).pre, y ∈ T.pre := by
    intro T
    induction T with
    | nil => intro j y hy; rw [CT.drop_nil] at hy; exact hy
    | cons k t c N s th u el r i1 i2 i3 =>
      intro j y hy
      cases j with
      | zero => exact hy
      | succ j => exact List.mem_cons_of_mem _ (List.mem_append_right _ (List.mem_append_right _ (i3 j y hy)))
  have q := hp T j
  rw [pre_at h] at q
  exact ⟨hc x (q x (List.mem_cons_self ..)), fun y hy => hc y (q y (List.mem_cons_of_mem _ (List.mem_append_left _ hy))), fun y hy => hc y (q y (List.mem_cons_of_mem _ (List.mem_append_right _ (List.mem_append_left _ hy))))⟩
set_option maxRecDepth 100000 in
set_option maxHeartbeats 16000000 in
theorem cnode_of (m : Nat) (IH0 : ∀ (T : CT) (s : Sl) (w : World), T.cnt < m → T.cnt ≤ 1000000 → Cnd T → ST w s T → Calls Try.prog 78 #[.slice s.a s.n s.c] w (RetCT T w))
    (w : World) (x : CV) (h1 : x.th.cnt < m ∧ x.th.cnt ≤ 1000000 ∧ Cnd x.th) (h2 : x.el.cnt < m ∧ x.el.cnt ≤ 1000000 ∧ Cnd x.el) (hc : x.N.length ≤ 1000) (hx : VM w x) :
    Calls Try.prog 50 #[.agg #[.int .i64 x.k, .int .i64 x.t, .slice x.c.a x.c.n x.c.c, .slice x.s.a x.s.n x.s.c, .slice x.u.a x.u.n x.u.c]] w (RetCV x w) := by
  have NC := Lib.hid (fun (w2 : World) (g : w.grownBy w2 none) => nclone_any w2 x.c.a x.c.n x.c.c x.N (hx.c.keep0 g) (by rw [← hx.c.len]; omega))
  have I1 := Lib.hid (fun (w2 : World) (g : w.grownBy w2 none) => IH0 x.th x.s w2 h1.1 h1.2.1 h1.2.2 (hx.s.keep0 g))
  have I2 := Lib.hid (fun (w2 : World) (g : w.grownBy w2 none) => IH0 x.el x.u w2 h2.1 h2.2.1 h2.2.2 (hx.u.keep0 g))
  unfold RetCl at NC
  unfold RetCT at I1 I2
  clear IH0 h1 h2 hc hx
  have B1 := (IsB.new w 63 #[.int .i64 x.k, .int .i64 x.t, .slice x.c.a x.c.n x.c.c, .slice x.s.a x.s.n x.s.c, .slice x.u.a x.u.n x.u.c]).alloc (.cells #[.int .i64 0, .int .i64 0, .slice none 0 0, .slice none 0 0, .slice none 0 0] 63)
  have B2 := IsB.new (w.alloc (.cells #[.int .i64 x.k, .int .i64 x.t, .slice x.c.a x.c.n x.c.c, .slice x.s.a x.s.n x.s.c, .slice x.u.a x.u.n x.u.c] 63)) 63 #[.int .i64 0, .int .i64 0, .slice none 0 0, .slice none 0 0, .slice none 0 0]
  have G2 := Lib.hid (gb_trans (gb_alloc w (.cells #[.int .i64 x.k, .int .i64 x.t, .slice x.c.a x.c.n x.c.c, .slice x.s.a x.s.n x.s.c, .slice x.u.a x.u.n x.u.c] 63) none) (gb_alloc _ (.cells #[.int .i64 0, .int .i64 0, .slice none 0 0, .slice none 0 0, .slice none 0 0] 63) none))
  have S2 : ((w.alloc (.cells #[.int .i64 x.k, .int .i64 x.t, .slice x.c.a x.c.n x.c.c, .slice x.s.a x.s.n x.s.c, .slice x.u.a x.u.n x.u.c] 63)).alloc (.cells #[.int .i64 0, .int .i64 0, .slice none 0 0, .slice none 0 0, .slice none 0 0] 63)).heap.size = w.heap.size + 1 + 1 := by rw [sz_al, sz_al]
  rw [sz_al] at B2
  replace B1 := Lib.hid B1
  replace B2 := Lib.hid B2
  go_enter Try.func50, Try.ntmps50
  go_upto_region 1 with fail
  generalize (w.alloc (.cells #[.int .i64 x.k, .int .i64 x.t, .slice x.c.a x.c.n x.c.c, .slice x.s.a x.s.n x.s.c, .slice x.u.a x.u.n x.u.c] 63)).alloc (.cells #[.int .i64 0, .int .i64 0, .slice none 0 0, .slice none 0 0, .slice none 0 0] 63) = w2 at *
  obtain ⟨b, hb⟩ : ∃ b, b = w.heap.size := ⟨_, rfl⟩
  have HB := Lib.hid hb
  rw [← hb] at B1 B2 S2 ⊢
  have SS := Lib.hid S2
  clear hb S2
  have hF0 : (fun w' : World => w'.cell? ⟨b, 2, none⟩ = some (.slice x.c.a x.c.n x.c.c) ∧ w'.cell? ⟨b, 3, none⟩ = some (.slice x.s.a x.s.n x.s.c) ∧ w'.cell? ⟨b, 4, none⟩ = some (.slice x.u.a x.u.n x.u.c)) w2.drew := ⟨(B1.out.keep0 (gb_drew _ none)).cell 2, (B1.out.keep0 (gb_drew _ none)).cell 3, (B1.out.keep0 (gb_drew _ none)).cell 4⟩
  refine wp_region_S (fun w' : World => w'.cell? ⟨b, 2, none⟩ = some (.slice x.c.a x.c.n x.c.c) ∧ w'.cell? ⟨b, 3, none⟩ = some (.slice x.s.a x.s.n x.s.c) ∧ w'.cell? ⟨b, 4, none⟩ = some (.slice x.u.a x.u.n x.u.c)) 10 (by kernel_rfl) ?_
  refine wpAnyS_pure (i := 0) (v := ?v9001) rfl (by kernel_rfl) (by kernel_rfl) (by kernel_rfl) (by decide) (fun _ _ _ h => h) (Or.inl ⟨by rfl, ?hy9001⟩) (Or.inr (by assumption)) ?rest9001
  case hy9001 => (intro wz hSw; (try dsimp only at hSw); first | (go_simp; done) | (go_simp; with_reducible rfl))
  try simp only [Act.put, List.getElem_toArray, List.getElem_cons_zero, List.setIfInBounds_toArray, List.set_cons_zero, List.set_cons_succ]
  refine wpAnyS_pure (i := 3) (v := ?v9002) rfl (by kernel_rfl) (by kernel_rfl) (by kernel_rfl) (by decide) (fun _ _ _ h => h) (Or.inl ⟨by rfl, ?hy9002⟩) (Or.inr (by assumption)) ?rest9002
  case hy9002 => (intro wz hSw; (try dsimp only at hSw); first | (go_simp; done) | (go_simp; with_reducible rfl))
  try simp only [Act.put, List.getElem_toArray, List.getElem_cons_succ, List.getElem_cons_zero, List.setIfInBounds_toArray, List.set_cons_zero, List.set_cons_succ]
  refine wpAnyS_pure (i := 6) (v := ?v9003) rfl (by kernel_rfl) (by kernel_rfl) (by kernel_rfl) (by decide) (fun _ _ _ h => h) (Or.inl ⟨by rfl, ?hy9003⟩) (Or.inr (by assumption)) ?rest9003
  case hy9003 => (intro wz hSw; (try dsimp only at hSw); first | (go_simp; done) | (go_simp; with_reducible rfl))
  try simp only [Act.put, List.getElem_toArray, List.getElem_cons_succ, List.getElem_cons_zero, List.setIfInBounds_toArray, List.set_cons_zero, List.set_cons_succ]
  refine wpAnyS_load0 (i := 1) (v := ?v9004) rfl (by kernel_rfl) (by kernel_rfl) (by kernel_rfl) (by kernel_rfl) (fun _ _ _ h => h) (Or.inl ⟨by rfl, ?hy9004⟩) (by assumption) ?rest9004
  case hy9004 => (intro wz hSw; (try dsimp only at hSw); first | (go_simp; done) | (go_simp; with_reducible rfl))
  try simp only [Act.put, List.getElem_toArray, List.getElem_cons_succ, List.getElem_cons_zero, List.setIfInBounds_toArray, List.set_cons_zero, List.set_cons_succ]
  refine wpAnyS_load0 (i := 4) (v := ?v9005) rfl (by kernel_rfl) (by kernel_rfl) (by kernel_rfl) (by kernel_rfl) (fun _ _ _ h => h) (Or.inl ⟨by rfl, ?hy9005⟩) (by assumption) ?rest9005
  case hy9005 => (intro wz hSw; (try dsimp only at hSw); first | (go_simp; done) | (go_simp; with_reducible rfl))
  try simp only [Act.put, List.getElem_toArray, List.getElem_cons_succ, List.getElem_cons_zero, List.setIfInBounds_toArray, List.set_cons_zero, List.set_cons_succ]
  refine wpAnyS_load0 (i := 7) (v := ?v9006) rfl (by kernel_rfl) (by kernel_rfl) (by kernel_rfl) (by kernel_rfl) (fun _ _ _ h => h) (Or.inl ⟨by rfl, ?hy9006⟩) (by assumption) ?rest9006
  case hy9006 => (intro wz hSw; (try dsimp only at hSw); first | (go_simp; done) | (go_simp; with_reducible rfl))
  try simp only [Act.put, List.getElem_toArray, List.getElem_cons_succ, List.getElem_cons_zero, List.setIfInBounds_toArray, List.set_cons_zero, List.set_cons_succ]
  refine wpAnyS_one (i := 2) (o := _) (by kernel_rfl) rfl (fun K hK => ?_)
  go_simp
  (with_reducible refine (NC.out _ (gb_trans G2.out (gb_drew _ none))).mono ?_)
  rintro e jw1 ⟨a1, n1, c1, rfl, r1, g⟩
  have RO1 := Lib.hid r1
  have GA := Lib.hid g
  clear r1 g
  clear hF0
  have hF1 : (fun w' : World => w'.cell? ⟨b, 2, none⟩ = some (.slice x.c.a x.c.n x.c.c) ∧ w'.cell? ⟨b, 3, none⟩ = some (.slice x.s.a x.s.n x.s.c) ∧ w'.cell? ⟨b, 4, none⟩ = some (.slice x.u.a x.u.n x.u.c)) jw1 := ⟨(B1.out.keep0 (gb_trans (gb_drew _ none) GA.out)).cell 2, (B1.out.keep0 (gb_trans (gb_drew _ none) GA.out)).cell 3, (B1.out.keep0 (gb_trans (gb_drew _ none) GA.out)).cell 4⟩
  try dsimp only
  refine hK.out _ _ (Or.inr hF1) (fun _ => ?_)
  clear hK K
  try simp only [Act.put, List.getElem_toArray, List.getElem_cons_succ, List.getElem_cons_zero, List.setIfInBounds_toArray, List.set_cons_zero, List.set_cons_succ]
  refine wpAnyS_pure (i := 9) (v := ?v9007) rfl (by kernel_rfl) (by kernel_rfl) (by kernel_rfl) (by decide) (fun _ _ _ h => h) (Or.inl ⟨by rfl, ?hy9007⟩) (Or.inr (by assumption)) ?rest9007
  case hy9007 => (intro wz hSw; (try dsimp only at hSw); first | (go_simp; done) | (go_simp; with_reducible rfl))
  try simp only [Act.put, List.getElem_toArray, List.getElem_cons_succ, List.getElem_cons_zero, List.setIfInBounds_toArray, List.set_cons_zero, List.set_cons_succ]
  refine wpAnyS_one (i := 5) (o := _) (by kernel_rfl) rfl (fun K hK => ?_)
  go_simp
  (with_reducible refine (I1.out _ (gb_trans G2.out (gb_trans (gb_drew _ none) GA.out))).mono ?_)
  rintro e jw2 ⟨s1, T1, rfl, q1, r1, g⟩
  have RO2 := Lib.hid r1
  have EQ1 := Lib.hid q1
  have GB := Lib.hid g
  clear r1 g q1
  clear hF1
  have hF2 : (fun w' : World => w'.cell? ⟨b, 2, none⟩ = some (.slice x.c.a x.c.n x.c.c) ∧ w'.cell? ⟨b, 3, none⟩ = some (.slice x.s.a x.s.n x.s.c) ∧ w'.cell? ⟨b, 4, none⟩ = some (.slice x.u.a x.u.n x.u.c)) jw2 := ⟨(B1.out.keep0 (gb_trans (gb_drew _ none) (gb_trans GA.out GB.out))).cell 2, (B1.out.keep0 (gb_trans (gb_drew _ none) (gb_trans GA.out GB.out))).cell 3, (B1.out.keep0 (gb_trans (gb_drew _ none) (gb_trans GA.out GB.out))).cell 4⟩
  try dsimp only
  refine hK.out _ _ (Or.inr hF2) (fun _ => ?_)
  clear hK K
  try simp only [Act.put, List.getElem_toArray, List.getElem_cons_succ, List.getElem_cons_zero, List.setIfInBounds_toArray, List.set_cons_zero, List.set_cons_succ]
  refine wpAnyS_one (i := 8) (o := _) (by kernel_rfl) rfl (fun K hK => ?_)
  go_simp
  (with_reducible refine (I2.out _ (gb_trans G2.out (gb_trans (gb_drew _ none) (gb_trans GA.out GB.out)))).mono ?_)
  rintro e jw3 ⟨s2, T2, rfl, q1, r1, g⟩
  have RO3 := Lib.hid r1
  have EQ2 := Lib.hid q1
  have GC := Lib.hid g
  clear r1 g q1
  have f2 := (B1.out.keep0 (gb_trans (gb_drew _ none) (gb_trans GA.out (gb_trans GB.out GC.out)))).free 2
  have f3 := (B1.out.keep0 (gb_trans (gb_drew _ none) (gb_trans GA.out (gb_trans GB.out GC.out)))).free 3
  have f4 := (B1.out.keep0 (gb_trans (gb_drew _ none) (gb_trans GA.out (gb_trans GB.out GC.out)))).free 4
  have p2 := (B1.out.keep0 (gb_trans (gb_drew _ none) (gb_trans GA.out (gb_trans GB.out GC.out)))).cell 2
  have p3 := (B1.out.keep0 (gb_trans (gb_drew _ none) (gb_trans GA.out (gb_trans GB.out GC.out)))).cell 3
  have p4 := (B1.out.keep0 (gb_trans (gb_drew _ none) (gb_trans GA.out (gb_trans GB.out GC.out)))).cell 4
  clear hF2
  have hF3 : (fun w' : World => w'.cell? ⟨b, 2, none⟩ = some (.slice x.c.a x.c.n x.c.c) ∧ w'.cell? ⟨b, 3, none⟩ = some (.slice x.s.a x.s.n x.s.c) ∧ w'.cell? ⟨b, 4, none⟩ = some (.slice x.u.a x.u.n x.u.c)) jw3 := ⟨(B1.out.keep0 (gb_trans (gb_drew _ none) (gb_trans GA.out (gb_trans GB.out GC.out)))).cell 2, (B1.out.keep0 (gb_trans (gb_drew _ none) (gb_trans GA.out (gb_trans GB.out GC.out)))).cell 3, (B1.out.keep0 (gb_trans (gb_drew _ none) (gb_trans GA.out (gb_trans GB.out GC.out)))).cell 4⟩
  try dsimp only
  refine hK.out _ _ (Or.inr hF3) (fun _ => ?_)
  clear hK K
  try simp only [Act.put, List.getElem_toArray, List.getElem_cons_succ, List.getElem_cons_zero, List.setIfInBounds_toArray, List.set_cons_zero, List.set_cons_succ]
  refine wpAnyS_one (i := 10) (o := _) (by kernel_rfl) rfl (fun K hK => ?_)
  go_simp
  refine hK.out _ _ (Or.inl (by kernel_rfl)) (fun _ => ?_)
  clear hK K
  try simp only [Act.put, List.getElem_toArray, List.getElem_cons_succ, List.getElem_cons_zero, List.setIfInBounds_toArray, List.set_cons_zero, List.set_cons_succ]
  refine wpAnyS_one (i := 11) (o := _) (by kernel_rfl) rfl (fun K hK => ?_)
  go_simp
  refine hK.out _ _ (Or.inl (by kernel_rfl)) (fun _ => ?_)
  clear hK K
  try simp only [Act.put, List.getElem_toArray, List.getElem_cons_succ, List.getElem_cons_zero, List.setIfInBounds_toArray, List.set_cons_zero, List.set_cons_succ]
  refine wpAnyS_one (i := 12) (o := _) (by kernel_rfl) rfl (fun K hK => ?_)
  go_simp
  refine hK.out _ _ (Or.inl (by kernel_rfl)) (fun _ => ?_)
  clear hK K
  try simp only [Act.put, List.getElem_toArray, List.getElem_cons_succ, List.getElem_cons_zero, List.setIfInBounds_toArray, List.set_cons_zero, List.set_cons_succ]
  refine wpAnyS_one (i := 13) (o := _) (by kernel_rfl) rfl (fun K hK => ?_)
  go_simp
  refine hK.out _ _ (Or.inl (by kernel_rfl)) (fun _ => ?_)
  clear hK K
  try simp only [Act.put, List.getElem_toArray, List.getElem_cons_succ, List.getElem_cons_zero, List.setIfInBounds_toArray, List.set_cons_zero, List.set_cons_succ]
  refine wpAnyS_one (i := 14) (o := _) (by kernel_rfl) rfl (fun K hK => ?_)
  go_simp
  refine hK.out _ _ (Or.inl (by kernel_rfl)) (fun _ => ?_)
  clear hK K
  try simp only [Act.put, List.getElem_toArray, List.getElem_cons_succ, List.getElem_cons_zero, List.setIfInBounds_toArray, List.set_cons_zero, List.set_cons_succ]
  refine wpAnyS_done (by kernel_rfl) ?_ _
  clear hF3
  have GZ := Lib.hid (gb_trans G2.out (gb_trans (gb_drew _ none) (gb_trans GA.out (gb_trans GB.out GC.out))))
  have BX1 := Lib.hid (B1.out.keep0 (gb_trans (gb_drew _ none) (gb_trans GA.out (gb_trans GB.out GC.out))))
  have BX2 := Lib.hid (B2.out.keep0 (gb_trans (gb_drew _ none) (gb_trans GA.out (gb_trans GB.out GC.out))))
  have x0 := BX1.out.cell 0
  have x1 := BX1.out.cell 1
  have y0 := BX2.out.cell 0
  have y1 := BX2.out.cell 1
  have y2 := BX2.out.cell 2
  have y3 := BX2.out.cell 3
  have y4 := BX2.out.cell 4
  dsimp at x0 x1 y0 y1 y2 y3 y4
  have g0 := BX2.out.free 0
  have g1 := BX2.out.free 1
  have g2 := BX2.out.free 2
  have g3 := BX2.out.free 3
  have g4 := BX2.out.free 4
  go_wp2
  (try simp only [Exit.inBlock, Exit.then])
  have YM := Lib.hid (show Rob w (((((((jw3.setCell ⟨b, 2, none⟩ (.slice a1 n1 c1)).setCell ⟨b, 3, none⟩ (.slice s1.a s1.n s1.c)).setCell ⟨b, 4, none⟩ (.slice s2.a s2.n s2.c)).setCell ⟨b + 1, 0, none⟩ (.int .i64 x.k)).setCell ⟨b + 1, 1, none⟩ (.int .i64 x.t)).setCell ⟨b + 1, 2, none⟩ (.slice a1 n1 c1)).setCell ⟨b + 1, 3, none⟩ (.slice s1.a s1.n s1.c) |>.setCell ⟨b + 1, 4, none⟩ (.slice s2.a s2.n s2.c)) (fun w2 => VM w2 ⟨x.k, x.t, ⟨a1, n1, c1⟩, x.N, s1, T1, s2, T2⟩) by
    have far : ∀ k, w.heap.size + 2 ≤ k → ((((((((jw3.setCell ⟨b, 2, none⟩ (.slice a1 n1 c1)).setCell ⟨b, 3, none⟩ (.slice s1.a s1.n s1.c)).setCell ⟨b, 4, none⟩ (.slice s2.a s2.n s2.c)).setCell ⟨b + 1, 0, none⟩ (.int .i64 x.k)).setCell ⟨b + 1, 1, none⟩ (.int .i64 x.t)).setCell ⟨b + 1, 2, none⟩ (.slice a1 n1 c1)).setCell ⟨b + 1, 3, none⟩ (.slice s1.a s1.n s1.c)).setCell ⟨b + 1, 4, none⟩ (.slice s2.a s2.n s2.c)).heap[k]? = jw3.heap[k]? := by
      intro k hk
      have hb := HB.out
      iterate 8 rw [Below.heap_setCell _ _ _ _ (by dsimp only; omega)]
    have hsz : ((((((((jw3.setCell ⟨b, 2, none⟩ (.slice a1 n1 c1)).setCell ⟨b, 3, none⟩ (.slice s1.a s1.n s1.c)).setCell ⟨b, 4, none⟩ (.slice s2.a s2.n s2.c)).setCell ⟨b + 1, 0, none⟩ (.int .i64 x.k)).setCell ⟨b + 1, 1, none⟩ (.int .i64 x.t)).setCell ⟨b + 1, 2, none⟩ (.slice a1 n1 c1)).setCell ⟨b + 1, 3, none⟩ (.slice s1.a s1.n s1.c)).setCell ⟨b + 1, 4, none⟩ (.slice s2.a s2.n s2.c)).heap.size = jw3.heap.size := by simp [World.setCell]
    intro w9 k
    have hd : w2.drew.heap.size = w.heap.size + 1 + 1 := by show w2.heap.size = _; rw [SS.out, HB.out]
    have z1 := GA.out.size
    have z2 := GB.out.size
    have z3 := GC.out.size
    have kk : ∀ i, w.heap.size + 2 ≤ i → i < jw3.heap.size → w9.heap[i]? = jw3.heap[i]? := fun i h1 h2 => (k i (by omega) (by rw [hsz]; exact h2)).trans (far i h1)
    refine ⟨RO1.out w9 (fun i h1 h2 => ?_), RO2.out w9 (fun i h1 h2 => ?_), RO3.out w9 (fun i h1 h2 => kk i (by omega) h2)⟩
    · rw [kk i (by omega) (by omega), GC.out.block i (by omega) (by simp), GB.out.block i h2 (by simp)]
    · rw [kk i (by omega) (by omega), GC.out.block i h2 (by simp)])
  refine bodyPost_ret (v := .agg #[.int .i64 x.k, .int .i64 x.t, .slice a1 n1 c1, .slice s1.a s1.n s1.c, .slice s2.a s2.n s2.c]) (by rw [results_cell1 rfl]; go_simp) rfl ⟨⟨x.k, x.t, ⟨a1, n1, c1⟩, x.N, s1, T1, s2, T2⟩, rfl, ⟨rfl, rfl, rfl, EQ1.out, EQ2.out⟩, YM.out, ?_⟩
  have hb1 : w.heap.size ≤ b := by rw [HB.out]; exact Nat.le_refl _
  have hb2 : w.heap.size ≤ b + 1 := by omega
  exact gb_put (gb_put (gb_put (gb_put (gb_put (gb_put (gb_put (gb_put GZ.out hb1) hb1) hb1) hb2) hb2) hb2) hb2) hb2
end Go.Proofs.Ytfjeonoihdgdoaa
