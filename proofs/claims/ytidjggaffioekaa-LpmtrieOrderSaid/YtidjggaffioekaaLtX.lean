/- Tries: an act on both sides. -/
import Derived.Test.YtidjggaffioekaaLtW
import Derived.Deep.QuietTactic
import Derived.BigQuiet
namespace Go.Proofs.Ytidjggaffioekaa
open Go.RowKit
set_option linter.unusedVariables false

theorem LS.not_bs {W w : World} {q s wi : Nat} {T : Tr} (h : LS W q s wi T w) {g : Nat} {t : TypeId} {cs : Array Value} (hb : IsB w g t cs) (h1 : t ≠ 66) (h2 : t ≠ 82) : ¬ Bs s T g := by
  rintro (e | e)
  · exact IsB.ne hb h.sv h1 e
  · obtain ⟨cs2, k⟩ := h.tn.blk g e
    exact IsB.ne hb k h2 rfl
theorem LS.far {W w : World} {q s wi : Nat} {T : Tr} (h : LS W q s wi T w) {g i : Nat} {t : TypeId} {cs : Array Value} {u : Value} (hb : IsB w g t cs) (h0 : t ≠ 61) (h1 : t ≠ 66) (h2 : t ≠ 82) (hg : W.heap.size ≤ g) : LS W q s wi T (w.setCell ⟨g, i, none⟩ u) :=
  ⟨h.qv.set_far (IsB.ne h.qv hb (Ne.symm h0)) i u, h.sv.set_far (IsB.ne h.sv hb (Ne.symm h1)) i u, h.tn.far (fun m => h.not_bs hb h1 h2 (.inr m)), h.nd, h.ok, h.w1, h.w2, gb_put h.grown hg, h.lowq, h.lows, h.lowb⟩
theorem Fx.far {B : Nat → Prop} {a b : World} {g i : Nat} {u : Value} (h : Fx B a b) (hg : a.heap.size ≤ g) : Fx B a (b.setCell ⟨g, i, none⟩ u) :=
  ⟨h.os, h.tape, h.output, Nat.le_trans h.size (gb_set b g i u).size, fun k hk hn => ((gb_set b g i u).block k (Nat.lt_of_lt_of_le hk h.size) (fun e => by injection e with e; omega)).trans (h.block k hk hn)⟩
theorem RI.fx {W w w2 : World} {q s wi base : Nat} {T : Tr} {V : Value} {L : List Ent} (r : RI w base V wi L) (f : Fx (Bs s T) w w2) (h : LS W q s wi T w) : RI w2 base V wi L := by
  refine ⟨r.1, ?_⟩
  rcases r.2 with k | ⟨g, cap, cur, h1, h2, h3, h4⟩
  · exact .inl k
  · exact .inr ⟨g, cap, cur, h1, h2, f.isb (show IsB w g 72 cur from h3) (h.not_bs (show IsB w g 72 cur from h3) (by decide) (by decide)), h4⟩
/-- What an act leaves: a trie, and the reference's list of what it holds. -/
def RetAct (W : World) (q s wi : Nat) (T : Tr) (w : World) (e : Ending) (w' : World) : Prop := ∃ T' a n c, e = .returned (.tuple #[.agg #[.int .i64 wi, .slice a n c], .bool true]) ∧ n = (ents T').length ∧ RI w' 0 (.slice a n c) wi (ents T') ∧ LS W q s wi T' w' ∧ Fx (Bs s T) w w' ∧ (ents T').length ≤ (ents T).length + 1 ∧ (blks T').length ≤ (blks T).length + 2
set_option maxRecDepth 100000 in
set_option maxHeartbeats 4000000 in
theorem step_ins (W w : World) (q s wi v : Nat) (T : Tr) (d m x : Int) (a : Option Addr) (n c : Nat) (h : LS W q s wi T w) (hv : v < 4294967296) (hN : (ents T).length ≤ 1000) (r : RI w 0 (.slice a n c) wi (ents T)) (hn : n = (ents T).length) (hd : d = 0) : Calls Try.prog 11 #[.pointer (some ⟨q, 0, none⟩), .agg #[.int .i64 wi, .slice a n c], .agg #[.int .i64 d, .int .u32 v, .int .i64 m, .int .i64 x]] w (RetAct W q s wi T w) := by
  obtain ⟨k, L, hL, ir, ip⟩ := ins_both W w q s wi v T m x a n c h hv hN r hn
  have IR := Lib.hid ir
  have IP := Lib.hid ip
  have HL := Lib.hid hL
  have SE : (k == k) = true := by simp
  have GW := Lib.hid h.grown
  have LD1 := Lib.hid h
  have B1 := ((IsB.new w 30 #[.int .i64 wi, .slice a n c]).alloc (.cells #[.int .i64 d, .int .u32 v, .int .i64 m, .int .i64 x] 37)).alloc (.cells #[.int .i64 0, .slice none 0 0] 30)
  have B2 := (IsB.new (w.alloc (.cells #[.int .i64 wi, .slice a n c] 30)) 37 #[.int .i64 d, .int .u32 v, .int .i64 m, .int .i64 x]).alloc (.cells #[.int .i64 0, .slice none 0 0] 30)
  have B3 := IsB.new ((w.alloc (.cells #[.int .i64 wi, .slice a n c] 30)).alloc (.cells #[.int .i64 d, .int .u32 v, .int .i64 m, .int .i64 x] 37)) 30 #[.int .i64 0, .slice none 0 0]
  rw [sz_al] at B2
  rw [sz_al, sz_al] at B3
  replace B1 := Lib.hid B1
  replace B2 := Lib.hid B2
  replace B3 := Lib.hid B3
  have G3 := Lib.hid (gb_trans (gb_trans (gb_alloc w (.cells #[.int .i64 wi, .slice a n c] 30) none) (gb_alloc _ (.cells #[.int .i64 d, .int .u32 v, .int .i64 m, .int .i64 x] 37) none)) (gb_alloc _ (.cells #[.int .i64 0, .slice none 0 0] 30) none))
  clear h hN r hn ir ip hL
  have D0 : (d == 0) = true := by simp [hd]
  clear hd
  unfold RetAct
  go_enter Try.func11, Try.ntmps11
  go_upto_region 1 with fail
  generalize ((w.alloc (.cells #[.int .i64 wi, .slice a n c] 30)).alloc (.cells #[.int .i64 d, .int .u32 v, .int .i64 m, .int .i64 x] 37)).alloc (.cells #[.int .i64 0, .slice none 0 0] 30) = w3 at *
  obtain ⟨z1, hz1⟩ : ∃ x, x = w.heap.size := ⟨_, rfl⟩
  obtain ⟨z2, hz2⟩ : ∃ x, x = w.heap.size + 1 := ⟨_, rfl⟩
  obtain ⟨z3, hz3⟩ : ∃ x, x = w.heap.size + 1 + 1 := ⟨_, rfl⟩
  have Z3 := Lib.hid (show w.heap.size ≤ z3 by omega)
  rw [← hz3] at B3 ⊢
  rw [← hz2] at B2 ⊢
  rw [← hz1] at B1 ⊢
  have L3 := Lib.hid (show z3 < w3.heap.size from B3.out.lt)
  clear hz1 hz2 hz3
  have b0 := B1.out.cell 0
  have b1 := B1.out.cell 1
  have d0 := B2.out.cell 0
  have d1 := B2.out.cell 1
  have d2 := B2.out.cell 2
  have d3 := B2.out.cell 3
  dsimp at b0 b1 d0 d1 d2 d3
  go_wp2_with fail
  refine (IR.out _ G3.out).mono ?_
  rintro e w4 ⟨a4, n4, c4, rfl, hn4, r4, g⟩
  have N4 := Lib.hid hn4
  have G5 := Lib.hid (gb_trans (gb_trans G3.out g) (gb_alloc w4 (.cells #[.int .i64 wi, .slice a4 n4 c4] 30) none))
  have B8 := Lib.hid (IsB.new w4 30 #[.int .i64 wi, .slice a4 n4 c4])
  have C2 := Lib.hid (B2.out.keep0 (gb_trans g (gb_alloc w4 (.cells #[.int .i64 wi, .slice a4 n4 c4] 30) none)))
  have C3 := Lib.hid (B3.out.keep0 (gb_trans g (gb_alloc w4 (.cells #[.int .i64 wi, .slice a4 n4 c4] 30) none)))
  have R4 := Lib.hid (r4.keep0 (gb_alloc w4 (.cells #[.int .i64 wi, .slice a4 n4 c4] 30) none))
  have Z83 := Lib.hid (show w4.heap.size ≠ z3 by have := L3.out; have := g.size; omega)
  have Z23 := Lib.hid (IsB.ne B2.out B3.out (by decide))
  clear hn4 r4 g b0 b1 d0 d1 d2 d3 IR
  go_upto_region 4 with fail
  generalize w4.alloc (.cells #[.int .i64 wi, .slice a4 n4 c4] 30) = w5 at *
  obtain ⟨z8, hz8⟩ : ∃ z, z = w4.heap.size := ⟨_, rfl⟩
  rw [← hz8] at B8 Z83 ⊢
  clear hz8
  have LD0 := Lib.hid (LD1.out.keep0 (gb_trans G5.out (gb_drew w5 none)))
  have hS0 : (fun w' : World => w'.cell? ⟨z8, 0, none⟩ = some (.int .i64 wi) ∧ w'.cell? ⟨z8, 1, none⟩ = some (.slice a4 n4 c4) ∧ w'.cell? ⟨z2, 1, none⟩ = some (.int .u32 v) ∧ w'.cell? ⟨z2, 2, none⟩ = some (.int .i64 m) ∧ w'.cell? ⟨z2, 3, none⟩ = some (.int .i64 x)) w5.drew := ⟨(B8.out.keep0 (gb_drew w5 none)).cell 0, (B8.out.keep0 (gb_drew w5 none)).cell 1, (C2.out.keep0 (gb_drew w5 none)).cell 1, (C2.out.keep0 (gb_drew w5 none)).cell 2, (C2.out.keep0 (gb_drew w5 none)).cell 3⟩
  refine wp_region_held_drew (S := (fun w' : World => w'.cell? ⟨z8, 0, none⟩ = some (.int .i64 wi) ∧ w'.cell? ⟨z8, 1, none⟩ = some (.slice a4 n4 c4) ∧ w'.cell? ⟨z2, 1, none⟩ = some (.int .u32 v) ∧ w'.cell? ⟨z2, 2, none⟩ = some (.int .i64 m) ∧ w'.cell? ⟨z2, 3, none⟩ = some (.int .i64 x))) (by kernel_rfl) hS0 (fun hH0 => ?_)
  clear hS0
  refine wpAnyH_take (i := 0) (v := ?v8) rfl (by kernel_rfl) (by kernel_rfl) (by kernel_rfl) (fun _ _ _ h => h) (Or.inl ⟨by rfl, ?hy8⟩) (by assumption) ?rest8
  case hy8 => (intro wz hSw; (try dsimp only at hSw); first | (go_simp; done) | (go_simp; with_reducible rfl))
  try simp only [Act.put, List.getElem_toArray, List.getElem_cons_zero, List.setIfInBounds_toArray, List.set_cons_zero, List.set_cons_succ]
  refine wpAnyH_take (i := 1) (v := ?v9) rfl (by kernel_rfl) (by kernel_rfl) (by kernel_rfl) (fun _ _ _ h => h) (Or.inl ⟨by rfl, ?hy9⟩) (by assumption) ?rest9
  case hy9 => (intro wz hSw; (try dsimp only at hSw); first | (go_simp; done) | (go_simp; with_reducible rfl))
  try simp only [Act.put, List.getElem_toArray, List.getElem_cons_succ, List.getElem_cons_zero, List.setIfInBounds_toArray, List.set_cons_zero, List.set_cons_succ]
  refine wpAnyH_take (i := 2) (v := ?v10) rfl (by kernel_rfl) (by kernel_rfl) (by kernel_rfl) (fun _ _ _ h => h) (Or.inl ⟨by rfl, ?hy10⟩) (by assumption) ?rest10
  case hy10 => (intro wz hSw; (try dsimp only at hSw); first | (go_simp; done) | (go_simp; with_reducible rfl))
  try simp only [Act.put, List.getElem_toArray, List.getElem_cons_succ, List.getElem_cons_zero, List.setIfInBounds_toArray, List.set_cons_zero, List.set_cons_succ]
  refine wpAnyH_take (i := 3) (v := ?v11) rfl (by kernel_rfl) (by kernel_rfl) (by kernel_rfl) (fun _ _ _ h => h) (Or.inl ⟨by rfl, ?hy11⟩) (by assumption) ?rest11
  case hy11 => (intro wz hSw; (try dsimp only at hSw); first | (go_simp; done) | (go_simp; with_reducible rfl))
  try simp only [Act.put, List.getElem_toArray, List.getElem_cons_succ, List.getElem_cons_zero, List.setIfInBounds_toArray, List.set_cons_zero, List.set_cons_succ]
  refine wpAnyH_take (i := 4) (v := ?v12) rfl (by kernel_rfl) (by kernel_rfl) (by kernel_rfl) (fun _ _ _ h => h) (Or.inl ⟨by rfl, ?hy12⟩) (by assumption) ?rest12
  case hy12 => (intro wz hSw; (try dsimp only at hSw); first | (go_simp; done) | (go_simp; with_reducible rfl))
  try simp only [Act.put, List.getElem_toArray, List.getElem_cons_succ, List.getElem_cons_zero, List.setIfInBounds_toArray, List.set_cons_zero, List.set_cons_succ]
  refine wpAnyH_take (i := 5) (v := ?v13) rfl (by kernel_rfl) (by kernel_rfl) (by kernel_rfl) (fun _ _ _ h => h) (Or.inl ⟨by rfl, ?hy13⟩) (by assumption) ?rest13
  case hy13 => (intro wz hSw; (try dsimp only at hSw); first | (go_simp; done) | (go_simp; with_reducible rfl))
  try simp only [Act.put, List.getElem_toArray, List.getElem_cons_succ, List.getElem_cons_zero, List.setIfInBounds_toArray, List.set_cons_zero, List.set_cons_succ]
  refine wpAnyH_take (i := 6) (v := ?v14) rfl (by kernel_rfl) (by kernel_rfl) (by kernel_rfl) (fun _ _ _ h => h) (Or.inl ⟨by rfl, ?hy14⟩) (by assumption) ?rest14
  case hy14 => (intro wz hSw; (try dsimp only at hSw); first | (go_simp; done) | (go_simp; with_reducible rfl))
  try simp only [Act.put, List.getElem_toArray, List.getElem_cons_succ, List.getElem_cons_zero, List.setIfInBounds_toArray, List.set_cons_zero, List.set_cons_succ]
  refine wpAnyH_take (i := 7) (v := ?v15) rfl (by kernel_rfl) (by kernel_rfl) (by kernel_rfl) (fun _ _ _ h => h) (Or.inl ⟨by rfl, ?hy15⟩) (by assumption) ?rest15
  case hy15 => (intro wz hSw; (try dsimp only at hSw); first | (go_simp; done) | (go_simp; with_reducible rfl))
  try simp only [Act.put, List.getElem_toArray, List.getElem_cons_succ, List.getElem_cons_zero, List.setIfInBounds_toArray, List.set_cons_zero, List.set_cons_succ]
  refine wpAnyH_take (i := 9) (v := ?v16) rfl (by kernel_rfl) (by kernel_rfl) (by kernel_rfl) (fun _ _ _ h => h) (Or.inl ⟨by rfl, ?hy16⟩) (by assumption) ?rest16
  case hy16 => (intro wz hSw; (try dsimp only at hSw); first | (go_simp; done) | (go_simp; with_reducible rfl))
  try simp only [Act.put, List.getElem_toArray, List.getElem_cons_succ, List.getElem_cons_zero, List.setIfInBounds_toArray, List.set_cons_zero, List.set_cons_succ]
  refine wpAnyH_ready (rs := [8]) (by kernel_rfl) (by simp) ?_
  refine AllReadyH.cons (o := _) rfl (fun K hK => ?_) AllReadyH.nil
  go_simp
  (with_reducible refine (IP.out _ (gb_trans G5.out (gb_drew w5 none))).mono ?_)
  rintro e w6 hj
  obtain ⟨T', rfl, eT, lb, ls, fx⟩ := hj
  have LD := LD0.out
  have e8 := fx.isb (B8.out.keep0 (gb_drew w5 none)) (LD.not_bs (B8.out.keep0 (gb_drew w5 none)) (by decide) (by decide))
  have e2 := fx.isb (C2.out.keep0 (gb_drew w5 none)) (LD.not_bs (C2.out.keep0 (gb_drew w5 none)) (by decide) (by decide))
  have e3 := fx.isb (C3.out.keep0 (gb_drew w5 none)) (LD.not_bs (C3.out.keep0 (gb_drew w5 none)) (by decide) (by decide))
  have R6 := Lib.hid ((R4.out.keep0 (gb_drew w5 none)).fx fx LD)
  have S6 := Lib.hid ls
  have F6 := Lib.hid (Fx.trans (Fx.of (B := Bs s T) (gb_trans G5.out (gb_drew w5 none))) fx)
  have ET := Lib.hid eT
  have LB := Lib.hid lb
  have E8 := Lib.hid e8
  have E2 := Lib.hid e2
  have E3 := Lib.hid e3
  have y0 := e3.cell 0
  have y1 := e3.cell 1
  have f0 := e3.free 0
  have f1 := e3.free 1
  dsimp at y0 y1
  try dsimp only
  refine hK.out _ _ ⟨e8.cell 0, e8.cell 1, e2.cell 1, e2.cell 2, e2.cell 3⟩ (fun hH1 => ?_)
  clear hK K hH0
  try simp only [Act.put, List.getElem_toArray, List.getElem_cons_succ, List.getElem_cons_zero, List.setIfInBounds_toArray, List.set_cons_zero, List.set_cons_succ]
  refine wpAnyH_take (i := 10) (v := ?v17) rfl (by kernel_rfl) (by kernel_rfl) (by kernel_rfl) (fun _ _ _ h => h) (Or.inl ⟨by rfl, ?hy17⟩) (by assumption) ?rest17
  case hy17 => (intro wz hSw; (try dsimp only at hSw); first | (go_simp; done) | (go_simp; with_reducible rfl))
  try simp only [Act.put, List.getElem_toArray, List.getElem_cons_succ, List.getElem_cons_zero, List.setIfInBounds_toArray, List.set_cons_zero, List.set_cons_succ]
  refine wpAnyH_ready (rs := [11]) (by kernel_rfl) (by simp) ?_
  refine AllReadyH.cons (o := _) rfl (fun K hK => ?_) AllReadyH.nil
  go_simp
  refine hK.out _ _ ⟨(((E8.out.set_far Z83.out 0 _).set_far Z83.out 1 _)).cell 0, (((E8.out.set_far Z83.out 0 _).set_far Z83.out 1 _)).cell 1, (((E2.out.set_far Z23.out 0 _).set_far Z23.out 1 _)).cell 1, (((E2.out.set_far Z23.out 0 _).set_far Z23.out 1 _)).cell 2, (((E2.out.set_far Z23.out 0 _).set_far Z23.out 1 _)).cell 3⟩ (fun hH2 => ?_)
  clear hK K hH1
  try simp only [Act.put, List.getElem_toArray, List.getElem_cons_succ, List.getElem_cons_zero, List.setIfInBounds_toArray, List.set_cons_zero, List.set_cons_succ]
  refine wpAnyH_take (i := 12) (v := ?v18) rfl (by kernel_rfl) (by kernel_rfl) (by kernel_rfl) (fun _ _ _ h => h) (Or.inl ⟨by rfl, ?hy18⟩) (by assumption) ?rest18
  case hy18 => (intro wz hSw; (try dsimp only at hSw); first | (go_simp; done) | (go_simp; with_reducible rfl))
  try simp only [Act.put, List.getElem_toArray, List.getElem_cons_succ, List.getElem_cons_zero, List.setIfInBounds_toArray, List.set_cons_zero, List.set_cons_succ]
  refine wpAnyH_done (by kernel_rfl) ?_ _
  clear hH2
  go_wp2
  (try simp only [Exit.inBlock, Exit.then])
  refine bodyPost_ret (v := .tuple #[.agg #[.int .i64 wi, .slice a4 n4 c4], .bool true]) (by rw [results_cell_tmp rfl]; go_simp; try rfl) rfl ⟨T', a4, n4, c4, rfl, by rw [ET.out]; exact N4.out, ?_, ?_, ?_, by rw [ET.out]; exact HL.out, LB.out⟩
  · rw [ET.out]; exact own_kept (own_kept R6.out E3.out (by decide)) (E3.out.set 0 _) (by decide)
  · exact (S6.out.far E3.out (by decide) (by decide) (by decide) (Nat.le_trans GW.out.size Z3.out)).far (E3.out.set 0 _) (by decide) (by decide) (by decide) (Nat.le_trans GW.out.size Z3.out)
  · exact (F6.out.far Z3.out).far Z3.out
set_option maxRecDepth 100000 in
set_option maxHeartbeats 4000000 in
theorem step_del (W w : World) (q s wi v : Nat) (T : Tr) (d m x : Int) (a : Option Addr) (n c : Nat) (h : LS W q s wi T w) (hv : v < 4294967296) (hN : (ents T).length ≤ 1000) (r : RI w 0 (.slice a n c) wi (ents T)) (hn : n = (ents T).length) (hd : d = 1) : Calls Try.prog 11 #[.pointer (some ⟨q, 0, none⟩), .agg #[.int .i64 wi, .slice a n c], .agg #[.int .i64 d, .int .u32 v, .int .i64 m, .int .i64 x]] w (RetAct W q s wi T w) := by
  obtain ⟨k, L, hL, ir, ip⟩ := del_both W w q s wi v T m a n c h hv hN r hn
  have IR := Lib.hid ir
  have IP := Lib.hid ip
  have HL := Lib.hid hL
  have SE : (k == k) = true := by simp
  have GW := Lib.hid h.grown
  have LD1 := Lib.hid h
  have B1 := ((IsB.new w 30 #[.int .i64 wi, .slice a n c]).alloc (.cells #[.int .i64 d, .int .u32 v, .int .i64 m, .int .i64 x] 37)).alloc (.cells #[.int .i64 0, .slice none 0 0] 30)
  have B2 := (IsB.new (w.alloc (.cells #[.int .i64 wi, .slice a n c] 30)) 37 #[.int .i64 d, .int .u32 v, .int .i64 m, .int .i64 x]).alloc (.cells #[.int .i64 0, .slice none 0 0] 30)
  have B3 := IsB.new ((w.alloc (.cells #[.int .i64 wi, .slice a n c] 30)).alloc (.cells #[.int .i64 d, .int .u32 v, .int .i64 m, .int .i64 x] 37)) 30 #[.int .i64 0, .slice none 0 0]
  rw [sz_al] at B2
  rw [sz_al, sz_al] at B3
  replace B1 := Lib.hid B1
  replace B2 := Lib.hid B2
  replace B3 := Lib.hid B3
  have G3 := Lib.hid (gb_trans (gb_trans (gb_alloc w (.cells #[.int .i64 wi, .slice a n c] 30) none) (gb_alloc _ (.cells #[.int .i64 d, .int .u32 v, .int .i64 m, .int .i64 x] 37) none)) (gb_alloc _ (.cells #[.int .i64 0, .slice none 0 0] 30) none))
  clear h hN r hn ir ip hL
  have D0 : (d == 0) = false := by rw [hd]; rfl
  have D1 : (d == 1) = true := by simp [hd]
  clear hd
  unfold RetAct
  go_enter Try.func11, Try.ntmps11
  go_upto_region 1 with fail
  generalize ((w.alloc (.cells #[.int .i64 wi, .slice a n c] 30)).alloc (.cells #[.int .i64 d, .int .u32 v, .int .i64 m, .int .i64 x] 37)).alloc (.cells #[.int .i64 0, .slice none 0 0] 30) = w3 at *
  obtain ⟨z1, hz1⟩ : ∃ x, x = w.heap.size := ⟨_, rfl⟩
  obtain ⟨z2, hz2⟩ : ∃ x, x = w.heap.size + 1 := ⟨_, rfl⟩
  obtain ⟨z3, hz3⟩ : ∃ x, x = w.heap.size + 1 + 1 := ⟨_, rfl⟩
  have Z3 := Lib.hid (show w.heap.size ≤ z3 by omega)
  rw [← hz3] at B3 ⊢
  rw [← hz2] at B2 ⊢
  rw [← hz1] at B1 ⊢
  have L3 := Lib.hid (show z3 < w3.heap.size from B3.out.lt)
  clear hz1 hz2 hz3
  have b0 := B1.out.cell 0
  have b1 := B1.out.cell 1
  have d0 := B2.out.cell 0
  have d1 := B2.out.cell 1
  have d2 := B2.out.cell 2
  have d3 := B2.out.cell 3
  dsimp at b0 b1 d0 d1 d2 d3
  go_wp2_with fail
  refine (IR.out _ G3.out).mono ?_
  rintro e w4 ⟨a4, n4, c4, rfl, hn4, r4, g⟩
  have N4 := Lib.hid hn4
  have G5 := Lib.hid (gb_trans (gb_trans G3.out g) (gb_alloc w4 (.cells #[.int .i64 wi, .slice a4 n4 c4] 30) none))
  have B8 := Lib.hid (IsB.new w4 30 #[.int .i64 wi, .slice a4 n4 c4])
  have C2 := Lib.hid (B2.out.keep0 (gb_trans g (gb_alloc w4 (.cells #[.int .i64 wi, .slice a4 n4 c4] 30) none)))
  have C3 := Lib.hid (B3.out.keep0 (gb_trans g (gb_alloc w4 (.cells #[.int .i64 wi, .slice a4 n4 c4] 30) none)))
  have R4 := Lib.hid (r4.keep0 (gb_alloc w4 (.cells #[.int .i64 wi, .slice a4 n4 c4] 30) none))
  have Z83 := Lib.hid (show w4.heap.size ≠ z3 by have := L3.out; have := g.size; omega)
  have Z23 := Lib.hid (IsB.ne B2.out B3.out (by decide))
  clear hn4 r4 g b0 b1 d0 d1 d2 d3 IR
  go_upto_region 7 with fail
  generalize w4.alloc (.cells #[.int .i64 wi, .slice a4 n4 c4] 30) = w5 at *
  obtain ⟨z8, hz8⟩ : ∃ z, z = w4.heap.size := ⟨_, rfl⟩
  rw [← hz8] at B8 Z83 ⊢
  clear hz8
  have LD0 := Lib.hid (LD1.out.keep0 (gb_trans G5.out (gb_drew w5 none)))
  have hS0 : (fun w' : World => w'.cell? ⟨z8, 0, none⟩ = some (.int .i64 wi) ∧ w'.cell? ⟨z8, 1, none⟩ = some (.slice a4 n4 c4) ∧ w'.cell? ⟨z2, 1, none⟩ = some (.int .u32 v) ∧ w'.cell? ⟨z2, 2, none⟩ = some (.int .i64 m)) w5.drew := ⟨(B8.out.keep0 (gb_drew w5 none)).cell 0, (B8.out.keep0 (gb_drew w5 none)).cell 1, (C2.out.keep0 (gb_drew w5 none)).cell 1, (C2.out.keep0 (gb_drew w5 none)).cell 2⟩
  refine wp_region_held_drew (S := (fun w' : World => w'.cell? ⟨z8, 0, none⟩ = some (.int .i64 wi) ∧ w'.cell? ⟨z8, 1, none⟩ = some (.slice a4 n4 c4) ∧ w'.cell? ⟨z2, 1, none⟩ = some (.int .u32 v) ∧ w'.cell? ⟨z2, 2, none⟩ = some (.int .i64 m))) (by kernel_rfl) hS0 (fun hH0 => ?_)
  clear hS0
  refine wpAnyH_take (i := 0) (v := ?v19) rfl (by kernel_rfl) (by kernel_rfl) (by kernel_rfl) (fun _ _ _ h => h) (Or.inl ⟨by rfl, ?hy19⟩) (by assumption) ?rest19
  case hy19 => (intro wz hSw; (try dsimp only at hSw); first | (go_simp; done) | (go_simp; with_reducible rfl))
  try simp only [Act.put, List.getElem_toArray, List.getElem_cons_zero, List.setIfInBounds_toArray, List.set_cons_zero, List.set_cons_succ]
  refine wpAnyH_take (i := 1) (v := ?v20) rfl (by kernel_rfl) (by kernel_rfl) (by kernel_rfl) (fun _ _ _ h => h) (Or.inl ⟨by rfl, ?hy20⟩) (by assumption) ?rest20
  case hy20 => (intro wz hSw; (try dsimp only at hSw); first | (go_simp; done) | (go_simp; with_reducible rfl))
  try simp only [Act.put, List.getElem_toArray, List.getElem_cons_succ, List.getElem_cons_zero, List.setIfInBounds_toArray, List.set_cons_zero, List.set_cons_succ]
  refine wpAnyH_take (i := 2) (v := ?v21) rfl (by kernel_rfl) (by kernel_rfl) (by kernel_rfl) (fun _ _ _ h => h) (Or.inl ⟨by rfl, ?hy21⟩) (by assumption) ?rest21
  case hy21 => (intro wz hSw; (try dsimp only at hSw); first | (go_simp; done) | (go_simp; with_reducible rfl))
  try simp only [Act.put, List.getElem_toArray, List.getElem_cons_succ, List.getElem_cons_zero, List.setIfInBounds_toArray, List.set_cons_zero, List.set_cons_succ]
  refine wpAnyH_take (i := 3) (v := ?v22) rfl (by kernel_rfl) (by kernel_rfl) (by kernel_rfl) (fun _ _ _ h => h) (Or.inl ⟨by rfl, ?hy22⟩) (by assumption) ?rest22
  case hy22 => (intro wz hSw; (try dsimp only at hSw); first | (go_simp; done) | (go_simp; with_reducible rfl))
  try simp only [Act.put, List.getElem_toArray, List.getElem_cons_succ, List.getElem_cons_zero, List.setIfInBounds_toArray, List.set_cons_zero, List.set_cons_succ]
  refine wpAnyH_take (i := 4) (v := ?v23) rfl (by kernel_rfl) (by kernel_rfl) (by kernel_rfl) (fun _ _ _ h => h) (Or.inl ⟨by rfl, ?hy23⟩) (by assumption) ?rest23
  case hy23 => (intro wz hSw; (try dsimp only at hSw); first | (go_simp; done) | (go_simp; with_reducible rfl))
  try simp only [Act.put, List.getElem_toArray, List.getElem_cons_succ, List.getElem_cons_zero, List.setIfInBounds_toArray, List.set_cons_zero, List.set_cons_succ]
  refine wpAnyH_take (i := 5) (v := ?v24) rfl (by kernel_rfl) (by kernel_rfl) (by kernel_rfl) (fun _ _ _ h => h) (Or.inl ⟨by rfl, ?hy24⟩) (by assumption) ?rest24
  case hy24 => (intro wz hSw; (try dsimp only at hSw); first | (go_simp; done) | (go_simp; with_reducible rfl))
  try simp only [Act.put, List.getElem_toArray, List.getElem_cons_succ, List.getElem_cons_zero, List.setIfInBounds_toArray, List.set_cons_zero, List.set_cons_succ]
  refine wpAnyH_take (i := 7) (v := ?v25) rfl (by kernel_rfl) (by kernel_rfl) (by kernel_rfl) (fun _ _ _ h => h) (Or.inl ⟨by rfl, ?hy25⟩) (by assumption) ?rest25
  case hy25 => (intro wz hSw; (try dsimp only at hSw); first | (go_simp; done) | (go_simp; with_reducible rfl))
  try simp only [Act.put, List.getElem_toArray, List.getElem_cons_succ, List.getElem_cons_zero, List.setIfInBounds_toArray, List.set_cons_zero, List.set_cons_succ]
  refine wpAnyH_ready (rs := [6]) (by kernel_rfl) (by simp) ?_
  refine AllReadyH.cons (o := _) rfl (fun K hK => ?_) AllReadyH.nil
  go_simp
  (with_reducible refine (IP.out _ (gb_trans G5.out (gb_drew w5 none))).mono ?_)
  rintro e w6 hj
  obtain ⟨T', rfl, eT, lb, ls, fx⟩ := hj
  have LD := LD0.out
  have e8 := fx.isb (B8.out.keep0 (gb_drew w5 none)) (LD.not_bs (B8.out.keep0 (gb_drew w5 none)) (by decide) (by decide))
  have e2 := fx.isb (C2.out.keep0 (gb_drew w5 none)) (LD.not_bs (C2.out.keep0 (gb_drew w5 none)) (by decide) (by decide))
  have e3 := fx.isb (C3.out.keep0 (gb_drew w5 none)) (LD.not_bs (C3.out.keep0 (gb_drew w5 none)) (by decide) (by decide))
  have R6 := Lib.hid ((R4.out.keep0 (gb_drew w5 none)).fx fx LD)
  have S6 := Lib.hid ls
  have F6 := Lib.hid (Fx.trans (Fx.of (B := Bs s T) (gb_trans G5.out (gb_drew w5 none))) fx)
  have ET := Lib.hid eT
  have LB := Lib.hid lb
  have E8 := Lib.hid e8
  have E2 := Lib.hid e2
  have E3 := Lib.hid e3
  have y0 := e3.cell 0
  have y1 := e3.cell 1
  have f0 := e3.free 0
  have f1 := e3.free 1
  dsimp at y0 y1
  try dsimp only
  refine hK.out _ _ ⟨e8.cell 0, e8.cell 1, e2.cell 1, e2.cell 2⟩ (fun hH1 => ?_)
  clear hK K hH0
  try simp only [Act.put, List.getElem_toArray, List.getElem_cons_succ, List.getElem_cons_zero, List.setIfInBounds_toArray, List.set_cons_zero, List.set_cons_succ]
  refine wpAnyH_take (i := 8) (v := ?v26) rfl (by kernel_rfl) (by kernel_rfl) (by kernel_rfl) (fun _ _ _ h => h) (Or.inl ⟨by rfl, ?hy26⟩) (by assumption) ?rest26
  case hy26 => (intro wz hSw; (try dsimp only at hSw); first | (go_simp; done) | (go_simp; with_reducible rfl))
  try simp only [Act.put, List.getElem_toArray, List.getElem_cons_succ, List.getElem_cons_zero, List.setIfInBounds_toArray, List.set_cons_zero, List.set_cons_succ]
  refine wpAnyH_ready (rs := [9]) (by kernel_rfl) (by simp) ?_
  refine AllReadyH.cons (o := _) rfl (fun K hK => ?_) AllReadyH.nil
  go_simp
  refine hK.out _ _ ⟨(((E8.out.set_far Z83.out 0 _).set_far Z83.out 1 _)).cell 0, (((E8.out.set_far Z83.out 0 _).set_far Z83.out 1 _)).cell 1, (((E2.out.set_far Z23.out 0 _).set_far Z23.out 1 _)).cell 1, (((E2.out.set_far Z23.out 0 _).set_far Z23.out 1 _)).cell 2⟩ (fun hH2 => ?_)
  clear hK K hH1
  try simp only [Act.put, List.getElem_toArray, List.getElem_cons_succ, List.getElem_cons_zero, List.setIfInBounds_toArray, List.set_cons_zero, List.set_cons_succ]
  refine wpAnyH_take (i := 10) (v := ?v27) rfl (by kernel_rfl) (by kernel_rfl) (by kernel_rfl) (fun _ _ _ h => h) (Or.inl ⟨by rfl, ?hy27⟩) (by assumption) ?rest27
  case hy27 => (intro wz hSw; (try dsimp only at hSw); first | (go_simp; done) | (go_simp; with_reducible rfl))
  try simp only [Act.put, List.getElem_toArray, List.getElem_cons_succ, List.getElem_cons_zero, List.setIfInBounds_toArray, List.set_cons_zero, List.set_cons_succ]
  refine wpAnyH_done (by kernel_rfl) ?_ _
  clear hH2
  go_wp2
  (try simp only [Exit.inBlock, Exit.then])
  refine bodyPost_ret (v := .tuple #[.agg #[.int .i64 wi, .slice a4 n4 c4], .bool true]) (by rw [results_cell_tmp rfl]; go_simp; try rfl) rfl ⟨T', a4, n4, c4, rfl, by rw [ET.out]; exact N4.out, ?_, ?_, ?_, by rw [ET.out]; exact HL.out, LB.out⟩
  · rw [ET.out]; exact own_kept (own_kept R6.out E3.out (by decide)) (E3.out.set 0 _) (by decide)
  · exact (S6.out.far E3.out (by decide) (by decide) (by decide) (Nat.le_trans GW.out.size Z3.out)).far (E3.out.set 0 _) (by decide) (by decide) (by decide) (Nat.le_trans GW.out.size Z3.out)
  · exact (F6.out.far Z3.out).far Z3.out
set_option maxRecDepth 100000 in
set_option maxHeartbeats 4000000 in
theorem step_get (W w : World) (q s wi v : Nat) (T : Tr) (d m x : Int) (a : Option Addr) (n c : Nat) (h : LS W q s wi T w) (hv : v < 4294967296) (hN : (ents T).length ≤ 1000) (r : RI w 0 (.slice a n c) wi (ents T)) (hn : n = (ents T).length) (hd : d = 2) : Calls Try.prog 11 #[.pointer (some ⟨q, 0, none⟩), .agg #[.int .i64 wi, .slice a n c], .agg #[.int .i64 d, .int .u32 v, .int .i64 m, .int .i64 x]] w (RetAct W q s wi T w) := by
  obtain ⟨y, b, ir, ip⟩ := get_both W w q s wi v T m a n c h hv hN r hn
  have IR := Lib.hid ir
  have IP := Lib.hid ip
  have LD1 := Lib.hid h
  have R1 := Lib.hid r
  have HN := Lib.hid hn
  have SY : (y == y) = true := by simp
  have SB : (b == b) = true := by simp
  have GW := Lib.hid h.grown
  have B1 := ((IsB.new w 30 #[.int .i64 wi, .slice a n c]).alloc (.cells #[.int .i64 d, .int .u32 v, .int .i64 m, .int .i64 x] 37)).alloc (.cells #[.int .i64 0, .slice none 0 0] 30)
  have B2 := (IsB.new (w.alloc (.cells #[.int .i64 wi, .slice a n c] 30)) 37 #[.int .i64 d, .int .u32 v, .int .i64 m, .int .i64 x]).alloc (.cells #[.int .i64 0, .slice none 0 0] 30)
  have B3 := IsB.new ((w.alloc (.cells #[.int .i64 wi, .slice a n c] 30)).alloc (.cells #[.int .i64 d, .int .u32 v, .int .i64 m, .int .i64 x] 37)) 30 #[.int .i64 0, .slice none 0 0]
  rw [sz_al] at B2
  rw [sz_al, sz_al] at B3
  replace B1 := Lib.hid B1
  replace B2 := Lib.hid B2
  replace B3 := Lib.hid B3
  have G3 := Lib.hid (gb_trans (gb_trans (gb_alloc w (.cells #[.int .i64 wi, .slice a n c] 30) none) (gb_alloc _ (.cells #[.int .i64 d, .int .u32 v, .int .i64 m, .int .i64 x] 37) none)) (gb_alloc _ (.cells #[.int .i64 0, .slice none 0 0] 30) none))
  clear h hN r hn ir ip
  have D0 : (d == 0) = false := by rw [hd]; rfl
  have D1 : (d == 1) = false := by rw [hd]; rfl
  have D2 : (d == 2) = true := by simp [hd]
  clear hd
  unfold RetAct
  go_enter Try.func11, Try.ntmps11
  go_upto_region 1 with fail
  generalize ((w.alloc (.cells #[.int .i64 wi, .slice a n c] 30)).alloc (.cells #[.int .i64 d, .int .u32 v, .int .i64 m, .int .i64 x] 37)).alloc (.cells #[.int .i64 0, .slice none 0 0] 30) = w3 at *
  obtain ⟨z1, hz1⟩ : ∃ x, x = w.heap.size := ⟨_, rfl⟩
  obtain ⟨z2, hz2⟩ : ∃ x, x = w.heap.size + 1 := ⟨_, rfl⟩
  obtain ⟨z3, hz3⟩ : ∃ x, x = w.heap.size + 1 + 1 := ⟨_, rfl⟩
  have Z3 := Lib.hid (show w.heap.size ≤ z3 by omega)
  rw [← hz3] at B3 ⊢
  rw [← hz2] at B2 ⊢
  rw [← hz1] at B1 ⊢
  have L3 := Lib.hid (show z3 < w3.heap.size from B3.out.lt)
  clear hz1 hz2 hz3
  have b0 := B1.out.cell 0
  have b1 := B1.out.cell 1
  have d0 := B2.out.cell 0
  have d1 := B2.out.cell 1
  have d2 := B2.out.cell 2
  have d3 := B2.out.cell 3
  dsimp at b0 b1 d0 d1 d2 d3
  go_wp2_with fail
  refine (IR.out _ G3.out).mono ?_
  rintro e w4 ⟨rfl, g⟩
  have G4 := Lib.hid (gb_trans G3.out g)
  have C1 := Lib.hid (B1.out.keep0 g)
  have C2 := Lib.hid (B2.out.keep0 g)
  have C3 := Lib.hid (B3.out.keep0 g)
  clear g b0 b1 d0 d1 d2 d3 IR B1 B2 B3
  have b0 := C1.out.cell 0
  have b1 := C1.out.cell 1
  have d0 := C2.out.cell 0
  have d1 := C2.out.cell 1
  have d2 := C2.out.cell 2
  dsimp at b0 b1 d0 d1 d2
  go_wp2_with fail
  refine (IP.out _ G4.out).mono ?_
  rintro e w5 ⟨rfl, g⟩
  have G5 := Lib.hid (gb_trans G4.out g)
  have B1 := Lib.hid (C1.out.keep0 g)
  have B3 := Lib.hid (C3.out.keep0 g)
  clear g b0 b1 d0 d1 d2 IP
  have b0 := B1.out.cell 0
  have b1 := B1.out.cell 1
  have y0 := B3.out.cell 0
  have y1 := B3.out.cell 1
  have f0 := B3.out.free 0
  have f1 := B3.out.free 1
  dsimp at b0 b1 y0 y1
  go_wp2
  (try simp only [Exit.inBlock, Exit.then])
  refine bodyPost_ret (v := .tuple #[.agg #[.int .i64 wi, .slice a n c], .bool true]) (by rw [results_cell_tmp rfl]; go_simp; try rfl) rfl ⟨T, a, n, c, rfl, HN.out, ?_, ?_, ?_, Nat.le_succ _, Nat.le_add_right _ _⟩
  · exact own_kept (own_kept (R1.out.keep0 G5.out) B3.out (by decide)) (B3.out.set 0 _) (by decide)
  · exact ((LD1.out.keep0 G5.out).far B3.out (by decide) (by decide) (by decide) (Nat.le_trans GW.out.size Z3.out)).far (B3.out.set 0 _) (by decide) (by decide) (by decide) (Nat.le_trans GW.out.size Z3.out)
  · exact ((Fx.of G5.out).far Z3.out).far Z3.out
set_option maxRecDepth 100000 in
set_option maxHeartbeats 4000000 in
theorem step_look (W w : World) (q s wi v : Nat) (T : Tr) (d m x : Int) (a : Option Addr) (n c : Nat) (h : LS W q s wi T w) (hv : v < 4294967296) (hN : (ents T).length ≤ 1000) (r : RI w 0 (.slice a n c) wi (ents T)) (hn : n = (ents T).length) (h0 : d ≠ 0) (h1 : d ≠ 1) (h2 : d ≠ 2) : Calls Try.prog 11 #[.pointer (some ⟨q, 0, none⟩), .agg #[.int .i64 wi, .slice a n c], .agg #[.int .i64 d, .int .u32 v, .int .i64 m, .int .i64 x]] w (RetAct W q s wi T w) := by
  obtain ⟨y, k, b, ir, ip⟩ := look_both W w q s wi v T  a n c h hv hN r hn
  have IR := Lib.hid ir
  have IP := Lib.hid ip
  have LD1 := Lib.hid h
  have R1 := Lib.hid r
  have HN := Lib.hid hn
  have SY : (y == y) = true := by simp
  have SB : (b == b) = true := by simp
  have SK : (k == k) = true := by simp
  have GW := Lib.hid h.grown
  have B1 := ((IsB.new w 30 #[.int .i64 wi, .slice a n c]).alloc (.cells #[.int .i64 d, .int .u32 v, .int .i64 m, .int .i64 x] 37)).alloc (.cells #[.int .i64 0, .slice none 0 0] 30)
  have B2 := (IsB.new (w.alloc (.cells #[.int .i64 wi, .slice a n c] 30)) 37 #[.int .i64 d, .int .u32 v, .int .i64 m, .int .i64 x]).alloc (.cells #[.int .i64 0, .slice none 0 0] 30)
  have B3 := IsB.new ((w.alloc (.cells #[.int .i64 wi, .slice a n c] 30)).alloc (.cells #[.int .i64 d, .int .u32 v, .int .i64 m, .int .i64 x] 37)) 30 #[.int .i64 0, .slice none 0 0]
  rw [sz_al] at B2
  rw [sz_al, sz_al] at B3
  replace B1 := Lib.hid B1
  replace B2 := Lib.hid B2
  replace B3 := Lib.hid B3
  have G3 := Lib.hid (gb_trans (gb_trans (gb_alloc w (.cells #[.int .i64 wi, .slice a n c] 30) none) (gb_alloc _ (.cells #[.int .i64 d, .int .u32 v, .int .i64 m, .int .i64 x] 37) none)) (gb_alloc _ (.cells #[.int .i64 0, .slice none 0 0] 30) none))
  clear h hN r hn ir ip
  have D0 : (d == 0) = false := by rw [beq_eq_false_iff_ne]; exact h0
  have D1 : (d == 1) = false := by rw [beq_eq_false_iff_ne]; exact h1
  have D2 : (d == 2) = false := by rw [beq_eq_false_iff_ne]; exact h2
  clear h0 h1 h2
  unfold RetAct
  go_enter Try.func11, Try.ntmps11
  go_upto_region 1 with fail
  generalize ((w.alloc (.cells #[.int .i64 wi, .slice a n c] 30)).alloc (.cells #[.int .i64 d, .int .u32 v, .int .i64 m, .int .i64 x] 37)).alloc (.cells #[.int .i64 0, .slice none 0 0] 30) = w3 at *
  obtain ⟨z1, hz1⟩ : ∃ x, x = w.heap.size := ⟨_, rfl⟩
  obtain ⟨z2, hz2⟩ : ∃ x, x = w.heap.size + 1 := ⟨_, rfl⟩
  obtain ⟨z3, hz3⟩ : ∃ x, x = w.heap.size + 1 + 1 := ⟨_, rfl⟩
  have Z3 := Lib.hid (show w.heap.size ≤ z3 by omega)
  rw [← hz3] at B3 ⊢
  rw [← hz2] at B2 ⊢
  rw [← hz1] at B1 ⊢
  have L3 := Lib.hid (show z3 < w3.heap.size from B3.out.lt)
  clear hz1 hz2 hz3
  have b0 := B1.out.cell 0
  have b1 := B1.out.cell 1
  have d0 := B2.out.cell 0
  have d1 := B2.out.cell 1
  have d2 := B2.out.cell 2
  have d3 := B2.out.cell 3
  dsimp at b0 b1 d0 d1 d2 d3
  go_wp2_with fail
  refine (IR.out _ G3.out).mono ?_
  rintro e w4 ⟨rfl, g⟩
  have G4 := Lib.hid (gb_trans G3.out g)
  have C1 := Lib.hid (B1.out.keep0 g)
  have C2 := Lib.hid (B2.out.keep0 g)
  have C3 := Lib.hid (B3.out.keep0 g)
  clear g b0 b1 d0 d1 d2 d3 IR B1 B2 B3
  have b0 := C1.out.cell 0
  have b1 := C1.out.cell 1
  have d0 := C2.out.cell 0
  have d1 := C2.out.cell 1
  have d2 := C2.out.cell 2
  dsimp at b0 b1 d0 d1 d2
  go_wp2_with fail
  refine (IP.out _ G4.out).mono ?_
  rintro e w5 ⟨rfl, g⟩
  have G5 := Lib.hid (gb_trans G4.out g)
  have B1 := Lib.hid (C1.out.keep0 g)
  have B3 := Lib.hid (C3.out.keep0 g)
  clear g b0 b1 d0 d1 d2 IP
  have b0 := B1.out.cell 0
  have b1 := B1.out.cell 1
  have y0 := B3.out.cell 0
  have y1 := B3.out.cell 1
  have f0 := B3.out.free 0
  have f1 := B3.out.free 1
  dsimp at b0 b1 y0 y1
  go_wp2
  (try simp only [Exit.inBlock, Exit.then])
  refine bodyPost_ret (v := .tuple #[.agg #[.int .i64 wi, .slice a n c], .bool true]) (by rw [results_cell_tmp rfl]; go_simp; try rfl) rfl ⟨T, a, n, c, rfl, HN.out, ?_, ?_, ?_, Nat.le_succ _, Nat.le_add_right _ _⟩
  · exact own_kept (own_kept (R1.out.keep0 G5.out) B3.out (by decide)) (B3.out.set 0 _) (by decide)
  · exact ((LD1.out.keep0 G5.out).far B3.out (by decide) (by decide) (by decide) (Nat.le_trans GW.out.size Z3.out)).far (B3.out.set 0 _) (by decide) (by decide) (by decide) (Nat.le_trans GW.out.size Z3.out)
  · exact ((Fx.of G5.out).far Z3.out).far Z3.out
/-- An act on both sides. -/
theorem step_any (W w : World) (q s wi v : Nat) (T : Tr) (d m x : Int) (a : Option Addr) (n c : Nat) (h : LS W q s wi T w) (hv : v < 4294967296) (hN : (ents T).length ≤ 1000) (r : RI w 0 (.slice a n c) wi (ents T)) (hn : n = (ents T).length) : Calls Try.prog 11 #[.pointer (some ⟨q, 0, none⟩), .agg #[.int .i64 wi, .slice a n c], .agg #[.int .i64 d, .int .u32 v, .int .i64 m, .int .i64 x]] w (RetAct W q s wi T w) := by
  by_cases h0 : d = 0
  · exact step_ins W w q s wi v T d m x a n c h hv hN r hn h0
  · by_cases h1 : d = 1
    · exact step_del W w q s wi v T d m x a n c h hv hN r hn h1
    · by_cases h2 : d = 2
      · exact step_get W w q s wi v T d m x a n c h hv hN r hn h2
      · exact step_look W w q s wi v T d m x a n c h hv hN r hn h0 h1 h2
end Go.Proofs.Ytidjggaffioekaa
