/- Control: the reference's Tables and Node; no condition but that the tree lies in memory and is not large. -/
import Derived.Test.YtdbjeihbfooipaaCnH
import Derived.Test.YtdbjeihbfooipaaCnI
namespace Go.Proofs.Ytdbjeihbfooipaa
open Go.RowKit
set_option linter.unusedVariables false
/-- A slice that reads as a list of nodes. -/
structure C5 (w : World) (a : Option Addr) (n c : Nat) (M : List CV) : Prop where
  len : M.length = n
  nil : a = none → n = 0 ∧ c = 0
  cap : n ≤ c
  cells : ∀ ad, a = some ad → ∀ j, j < n → w.cell? (ad.add (j * 5)) = some (.int .i64 (M.getD j cz).k) ∧ w.cell? ⟨(ad.add (j * 5)).block, (ad.add (j * 5)).off + 1, none⟩ = some (.int .i64 (M.getD j cz).t) ∧ w.cell? ⟨(ad.add (j * 5)).block, (ad.add (j * 5)).off + 2, none⟩ = some (.slice (M.getD j cz).c.a (M.getD j cz).c.n (M.getD j cz).c.c) ∧
    w.cell? ⟨(ad.add (j * 5)).block, (ad.add (j * 5)).off + 3, none⟩ = some (.slice (M.getD j cz).s.a (M.getD j cz).s.n (M.getD j cz).s.c) ∧ w.cell? ⟨(ad.add (j * 5)).block, (ad.add (j * 5)).off + 4, none⟩ = some (.slice (M.getD j cz).u.a (M.getD j cz).u.n (M.getD j cz).u.c)
theorem C5.keep0 {w w2 : World} {a : Option Addr} {n c : Nat} {M : List CV} (h : C5 w a n c M) (k : w.grownBy w2 none) : C5 w2 a n c M :=
  ⟨h.len, h.nil, h.cap, fun ad e j hj => ⟨k.cell (h.cells ad e j hj).1 (by simp), k.cell (h.cells ad e j hj).2.1 (by simp), k.cell (h.cells ad e j hj).2.2.1 (by simp), k.cell (h.cells ad e j hj).2.2.2.1 (by simp), k.cell (h.cells ad e j hj).2.2.2.2 (by simp)⟩⟩
theorem C5.some {w : World} {a : Option Addr} {n c : Nat} {M : List CV} (h : C5 w a n c M) (hn : 0 < n) : ∃ ad, a = some ad := by
  cases a with
  | none => have := (h.nil rfl).1; omega
  | some ad => exact ⟨ad, rfl⟩
theorem CNL.c5 {w : World} {base c n : Nat} {a : Option Addr} {M : List CV} (h : CNL w base (.slice a n c) M) (hl : n = M.length) : C5 w a n c M := by
  subst hl
  have cp := own_cap h
  refine ⟨rfl, ?_, cp, fun ad e j hj => ?_⟩
  · intro e
    subst e
    rcases h.2 with ⟨h', _⟩ | ⟨g', cap', cur, h', _⟩
    · injection h' with _ h1 h2
      exact ⟨h1, h2⟩
    · injection h' with h' _ _
      cases h'
  · obtain ⟨g, cx, hv⟩ := own_head h (by omega)
    injection hv with hv _ hc
    subst hc
    rw [e] at hv
    injection hv with hv
    subst hv e
    rw [addr0c]
    have z : ∀ r, r < 5 → w.cell? ⟨g, j * 5 + r, none⟩ = (cel (M.getD j cz))[r]? := fun r hr => (h.cellAt (j * 5 + r) (by omega)).trans (flat5 M j r hj hr)
    exact ⟨(z 0 (by decide)).trans rfl, (z 1 (by decide)).trans rfl, (z 2 (by decide)).trans rfl, (z 3 (by decide)).trans rfl, (z 4 (by decide)).trans rfl⟩
set_option maxRecDepth 100000 in
set_option maxHeartbeats 4000000 in
theorem applies_any (w : World) (x : CV) : Calls Try.prog 78 #[.agg #[.int .i64 x.k, .int .i64 x.t, .slice x.c.a x.c.n x.c.c, .slice x.s.a x.s.n x.s.c, .slice x.u.a x.u.n x.u.c]] w (RetV (.bool (appl x)) w) := by
  have G1 := Lib.hid (gb_alloc w (.cells #[.int .i64 x.k, .int .i64 x.t, .slice x.c.a x.c.n x.c.c, .slice x.s.a x.s.n x.s.c, .slice x.u.a x.u.n x.u.c] 67) none)
  obtain ⟨xk, xt, ⟨ca, cn, cc⟩, N, ⟨ta, tn, tc⟩, th, ⟨ea, en, ec⟩, el⟩ := x
  dsimp only at *
  by_cases h1 : xk = 1
  · subst h1
    go_enter Try.func78, Try.ntmps78
    go_wp2
    go_ret
    exact ⟨rfl, G1.out⟩
  have e1 : (xk == 1) = false := by rw [beq_eq_false_iff_ne]; exact h1
  have q1 : decide (xk = 1) = false := decide_eq_false h1
  by_cases h3 : xk = 3
  · subst h3
    go_enter Try.func78, Try.ntmps78
    go_wp2
    go_ret
    exact ⟨rfl, G1.out⟩
  have e3 : (xk == 3) = false := by rw [beq_eq_false_iff_ne]; exact h3
  have q3 : decide (xk = 3) = false := decide_eq_false h3
  have AP := Lib.hid (show appl ⟨xk, xt, ⟨ca, cn, cc⟩, N, ⟨ta, tn, tc⟩, th, ⟨ea, en, ec⟩, el⟩ = false by unfold appl; dsimp only; rw [e1, e3]; rfl)
  go_enter Try.func78, Try.ntmps78
  go_wp2
  go_ret
  exact ⟨by rw [AP.out] <;> rfl, G1.out⟩
theorem take_pre (L : List CV) (j : Nat) (h : j < L.length) : L.take (j + 1) = L.take j ++ [L.getD j cz] := by
  rw [List.take_add_one]; simp [h]
set_option maxRecDepth 100000 in
set_option maxHeartbeats 8000000 in
theorem rtables_any (w : World) (s : Sl) (T : CT) (hS : ST w s T) (hc : T.cnt ≤ 1000000) : Calls Try.prog 38 #[.slice s.a s.n s.c] w (RetNL (tabL T.pre) w) := by
  have PR := Lib.hid (rpre_any w s T hS hc)
  have PC := Lib.hid (show T.pre.length ≤ 1000000 from hc)
  unfold RetCN at PR
  generalize T.pre = L at *
  clear hS hc
  go_enter Try.func38, Try.ntmps38
  go_upto_region 2 with (go_at_call 75; refine PR.out.mono ?_; clear PR; rintro e w1 ⟨la, lc, rfl, lo, g1⟩; have LO := Lib.hid (lo.c5 rfl); have G1 := Lib.hid g1; have lcap := (lo.c5 rfl).cap; clear lo g1)
  obtain ⟨n, hn⟩ : ∃ n, n = L.length := ⟨_, rfl⟩
  rw [← hn] at LO lcap PC ⊢
  have LN := Lib.hid hn.symm
  clear hn
  have nb : n ≤ 1000000 := PC.out
  go_wp2
  go_loopw [4, 5] (fun s4 s5 wr => ∃ (j : Nat), s5 = .int .i64 (j : Int) ∧ j ≤ n ∧ NL wr w1.heap.size s4 (tabL (L.take j)) ∧ w1.grownBy wr none) (fun _ s5 _ => n - (intOf s5).toNat)
  case atStart => exact ⟨0, rfl, Nat.zero_le _, NL.nil _ _, gb_refl _ _⟩
  case round =>
    obtain ⟨j, rfl, hj, ho, hgr⟩ := hrel
    obtain ⟨va, vc, rfl⟩ := ho.shape
    have HO := Lib.hid ho
    have GR := Lib.hid hgr
    have TL := Lib.hid (show (tabL (L.take j)).length ≤ j by have := tabL_len (L.take j); rw [List.length_take] at this; omega)
    clear ho hgr
    by_cases hlt : j < n
    · have i1 : (j : Int) < n := by omega
      have i0 : (0 : Int) ≤ (j : Int) := by omega
      obtain ⟨ad, rfl⟩ := LO.out.some (by omega)
      have TP := Lib.hid (take_pre L j (by rw [LN.out]; exact hlt))
      have GC := Lib.hid (fun (w2 : World) (g : w1.grownBy w2 none) => (LO.out.keep0 g).cells ad rfl j hlt)
      obtain ⟨x, hx⟩ : ∃ x, x = L.getD j cz := ⟨_, rfl⟩
      rw [← hx] at GC TP
      clear hx
      obtain ⟨c0, c1, c2, c3, c4⟩ := GC.out _ GR.out
      have AP := Lib.hid (fun w => applies_any w x)
      unfold RetV at AP
      generalize hm : (tabL (L.take j)).length = mm at *
      cases hap : appl x with
      | true =>
        have YES := Lib.hid (show tabL (L.take (j + 1)) = tabL (L.take j) ++ [x.t] by rw [TP.out, tabL_yes _ _ hap])
        rw [hap] at AP
        clear hap
        go_upto_region 7 with (go_at_call 78; refine (AP.out _).mono ?_; clear AP; rintro e w5 ⟨rfl, g5⟩; have G5 := Lib.hid (gb_trans GR.out g5); have O5 := Lib.hid (HO.out.keep0 g5); clear g5 c0 c1 c2 c3 c4)
        obtain ⟨d0, d1, d2, d3, d4⟩ := GC.out _ G5.out
        have SO := Lib.hid (slr_one w5 .i64 x.t 3 w5.heap.size rfl)
        have GA := Lib.hid (gb_alloc w5 (.cells #[.int .i64 x.t] 3) none)
        have GW := Lib.hid (gb_trans G5.out GA.out)
        have ML := Lib.hid (show (tabL (L.take j)).length + 1 ≤ 1000000 by rw [hm]; have := TL.out; omega)
        clear d0 d2 d3 d4 hm
        go_wp2_with (at_builtin; refine npush_any rfl _ _ rfl w1.heap.size _ (tabL (L.take j)) rfl (O5.out.keep0 GA.out) _ _ _ [x.t] rfl SO.out (by have := ML.out; simp; omega) (by exact GW.out.size) ?_; intro V7 w7 o7 g7; have O7 := Lib.hid o7; have G7 := Lib.hid (gb_own GW.out (O5.out.keep0 GA.out) (Nat.le_refl _) g7); clear o7 g7)
        go_roundw
        case rel => exact ⟨j + 1, by go_num, by omega, by rw [YES.out]; exact O7.out, G7.out⟩
        case measure => simp [intOf]; omega
      | false =>
        have NO := Lib.hid (show tabL (L.take (j + 1)) = tabL (L.take j) by rw [TP.out, tabL_no _ _ hap])
        rw [hap] at AP
        clear hap
        go_wp2_with (go_at_call 78; refine (AP.out _).mono ?_; clear AP; rintro e w5 ⟨rfl, g5⟩; have G5 := Lib.hid (gb_trans GR.out g5); have O5 := Lib.hid (HO.out.keep0 g5); clear g5 c0 c1 c2 c3 c4)
        go_roundw
        case rel => exact ⟨j + 1, by go_num, by omega, by rw [NO.out]; exact O5.out, G5.out⟩
        case measure => simp [intOf]; omega
    · have hje : j = n := by omega
      have i1 : ¬ (j : Int) < n := by omega
      subst hje
      have FI := Lib.hid (show tabL (L.take j) = tabL L by rw [List.take_of_length_le (by rw [LN.out]; omega)])
      go_wp2
      go_ret
      exact ⟨va, vc, by rw [← FI.out] <;> rfl, by rw [← FI.out]; exact World.ownsRow.mono HO.out G1.out.size, gb_trans G1.out GR.out⟩
/-- The node at a place in the preorder. -/
def nodA (L : List CV) (i : Int) : Option CV := if 0 ≤ i ∧ i < (L.length : Int) then some (L.getD i.toNat cz) else none
/-- A copy of the node's cells, and whether there is one. -/
def RetNd (r : Option CV) (w : World) (e : Ending) (w' : World) : Prop := e = .returned (.tuple #[.agg (r.getD cz).cs, .bool r.isSome]) ∧ w.grownBy w' none
set_option maxRecDepth 100000 in
set_option maxHeartbeats 8000000 in
theorem rnode_any (w : World) (s : Sl) (T : CT) (hS : ST w s T) (hc : T.cnt ≤ 1000000) (i : Int) : Calls Try.prog 31 #[.slice s.a s.n s.c, .int .i64 i] w (RetNd (nodA T.pre i) w) := by
  have PR := Lib.hid (fun (w2 : World) (g : w.grownBy w2 none) => rpre_any w2 s T (hS.keep0 g) hc)
  have PC := Lib.hid (show T.pre.length ≤ 1000000 from hc)
  unfold RetCN at PR
  generalize T.pre = L at *
  clear hS hc
  have GA := Lib.hid (gb_alloc w (.cells #[.int .i64 0, .int .i64 0, .slice none 0 0, .slice none 0 0, .slice none 0 0] 67) none)
  have BA := Lib.hid (IsB.new w 67 #[.int .i64 0, .int .i64 0, .slice none 0 0, .slice none 0 0, .slice none 0 0])
  go_enter Try.func31, Try.ntmps31
  go_upto_region 2 with (go_at_call 75; refine (PR.out _ GA.out).mono ?_; clear PR; rintro e w1 ⟨la, lc, rfl, lo, g1⟩; have LO := Lib.hid (lo.c5 rfl); have G1 := Lib.hid (gb_trans GA.out g1); have B1 := Lib.hid (BA.out.keep0 g1); have lcap := (lo.c5 rfl).cap; clear lo g1 GA BA)
  obtain ⟨n, hn⟩ : ∃ n, n = L.length := ⟨_, rfl⟩
  rw [← hn] at LO lcap PC ⊢
  have LN := Lib.hid hn.symm
  clear hn
  obtain ⟨b, hb⟩ : ∃ b, b = w.heap.size := ⟨_, rfl⟩
  have HB := Lib.hid hb
  rw [← hb] at B1 ⊢
  clear hb
  have f0 := B1.out.free 0
  have f1 := B1.out.free 1
  have f2 := B1.out.free 2
  have f3 := B1.out.free 3
  have f4 := B1.out.free 4
  have b0 := B1.out.cell 0
  have b1 := B1.out.cell 1
  have b2 := B1.out.cell 2
  have b3 := B1.out.cell 3
  have b4 := B1.out.cell 4
  dsimp at b0 b1 b2 b3 b4
  have GE := Lib.hid (fun (v0 v1 v2 v3 v4 : Value) => (gb_put (gb_put (gb_put (gb_put (gb_put G1.out (show w.heap.size ≤ b by rw [HB.out]; exact Nat.le_refl _)) (show w.heap.size ≤ b by rw [HB.out]; exact Nat.le_refl _)) (show w.heap.size ≤ b by rw [HB.out]; exact Nat.le_refl _)) (show w.heap.size ≤ b by rw [HB.out]; exact Nat.le_refl _)) (show w.heap.size ≤ b by rw [HB.out]; exact Nat.le_refl _) : w.grownBy (((((w1.setCell ⟨b, 0, none⟩ v0).setCell ⟨b, 1, none⟩ v1).setCell ⟨b, 2, none⟩ v2).setCell ⟨b, 3, none⟩ v3).setCell ⟨b, 4, none⟩ v4) none))
  by_cases h0 : i < 0
  · have NO := Lib.hid (show nodA L i = none by unfold nodA; rw [if_neg (by omega)])
    go_wp2
    (try simp only [Exit.inBlock, Exit.then])
    refine bodyPost_ret (v := .tuple #[.agg #[.int .i64 0, .int .i64 0, .slice none 0 0, .slice none 0 0, .slice none 0 0], .bool false]) (by rw [results_cell_tmp rfl]; go_simp) rfl ⟨by rw [NO.out] <;> rfl, GE.out _ _ _ _ _⟩
  · by_cases h1 : (n : Int) ≤ i
    · have NO := Lib.hid (show nodA L i = none by unfold nodA; rw [if_neg (by rw [LN.out]; omega)])
      go_wp2
      (try simp only [Exit.inBlock, Exit.then])
      refine bodyPost_ret (v := .tuple #[.agg #[.int .i64 0, .int .i64 0, .slice none 0 0, .slice none 0 0, .slice none 0 0], .bool false]) (by rw [results_cell_tmp rfl]; go_simp) rfl ⟨by rw [NO.out] <;> rfl, GE.out _ _ _ _ _⟩
    · obtain ⟨j, rfl⟩ : ∃ j : Nat, i = (j : Int) := ⟨i.toNat, by omega⟩
      have hlt : j < n := by omega
      have YES := Lib.hid (show nodA L (j : Int) = some (L.getD j cz) by unfold nodA; rw [if_pos (by rw [LN.out]; omega), Int.toNat_natCast])
      obtain ⟨ad, rfl⟩ := LO.out.some (by omega)
      obtain ⟨c0, c1, c2, c3, c4⟩ := LO.out.cells ad rfl j hlt
      generalize L.getD j cz = x at *
      have i1 : (j : Int) < n := by omega
      go_wp2
      (try simp only [Exit.inBlock, Exit.then])
      refine bodyPost_ret (v := .tuple #[.agg x.cs, .bool true]) (by rw [results_cell_tmp rfl]; go_simp) rfl ⟨by rw [YES.out] <;> rfl, GE.out _ _ _ _ _⟩
end Go.Proofs.Ytdbjeihbfooipaa
