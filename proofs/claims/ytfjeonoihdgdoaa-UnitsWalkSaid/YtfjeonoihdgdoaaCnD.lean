/- Control: whether a flow has more nodes than a limit; no condition but that the tree lies in memory and is not large. -/
import Derived.Test.YtfjeonoihdgdoaaCnC
namespace Go.Proofs.Ytfjeonoihdgdoaa
open Go.RowKit Go.Shelf
set_option linter.unusedVariables false
attribute [local go_sem] Oper.semAt_some

/-- Blocks from z on below b are turned. -/
def TOB (z b : Nat) (k : Nat) (_ : TypeId) : Prop := z ≤ k ∧ k < b
set_option maxRecDepth 100000 in
set_option maxHeartbeats 4000000 in
theorem more_any (w : World) (s : Sl) (T : CT) (hS : ST w s T) (hc : T.cnt ≤ 1000000) (m : Nat) (hm : m ≤ 1000) : Calls Try.prog 73 #[.slice s.a s.n s.c, .int .i64 (m : Int)] w (RetV (.bool (decide (m < T.cnt))) w) := by
  have HS := Lib.hid hS
  have HC := Lib.hid hc
  have HM := Lib.hid hm
  clear hS hc hm
  refine (callsIn_wide (n := 5)).1 ?_
  refine callsIn_of_wp_marks Try.func73 rfl trivial ?_ rfl
  simp only [Try.ntmps73, List.size_toArray, List.length_cons, List.length_nil, Nat.reduceAdd, Nat.reduceSub, Array.replicate_succ, Array.replicate_zero, List.push_toArray, List.append_toArray, List.nil_append, List.cons_append]
  gi_wp2_with ((first | refine ⟨trivial, wd _, ?_⟩ | refine ⟨trivial, ?_⟩); gi_at_call 49; refine (callsIn_wide.2 (preo_any _ _ _ _)).mono ?_; rintro e w4 ⟨rfl, rfl⟩)
  obtain ⟨w1, hw1⟩ : ∃ w1, w1 = w.alloc (.cells #[.int .i64 (m : Int)] 3) := ⟨_, rfl⟩
  obtain ⟨w2, hw2⟩ : ∃ w2, w2 = w1.alloc (.cells #[.bool false] 4) := ⟨_, rfl⟩
  obtain ⟨w3, hw3⟩ : ∃ w3, w3 = w2.alloc (.cells #[.int .i64 0] 3) := ⟨_, rfl⟩
  obtain ⟨w5, hw5⟩ : ∃ w5, w5 = w3.alloc (.cells #[.slice s.a s.n s.c] 28) := ⟨_, rfl⟩
  have S1 : w1.heap.size = w.heap.size + 1 := by rw [hw1, sz_al]
  have S2 : w2.heap.size = w.heap.size + 1 + 1 := by rw [hw2, sz_al, S1]
  have S3 : w3.heap.size = w.heap.size + 1 + 1 + 1 := by rw [hw3, sz_al, S2]
  have S5 : w5.heap.size = w.heap.size + 1 + 1 + 1 + 1 := by rw [hw5, sz_al, S3]
  have A1 := IsB.new w 3 #[.int .i64 (m : Int)]
  have A2 := IsB.new w1 4 #[.bool false]
  have A3 := IsB.new w2 3 #[.int .i64 0]
  have A5 := IsB.new w3 28 #[.slice s.a s.n s.c]
  rw [S1] at A2
  rw [S2] at A3
  rw [S3] at A5
  have G1 := gb_alloc w (.cells #[.int .i64 (m : Int)] 3) none
  have G2 := gb_alloc w1 (.cells #[.bool false] 4) none
  have G3 := gb_alloc w2 (.cells #[.int .i64 0] 3) none
  have G5 := gb_alloc w3 (.cells #[.slice s.a s.n s.c] 28) none
  rw [← hw1] at A1 G1 ⊢
  rw [← hw2] at A2 G2 ⊢
  rw [← hw3] at A3 G3 ⊢
  rw [← hw5] at A5 G5 ⊢
  have L1 := Lib.hid (A1.keep0 (gb_trans (gb_trans G2 G3) G5))
  have L2 := Lib.hid (A2.keep0 (gb_trans G3 G5))
  have L3 := Lib.hid (A3.keep0 G5)
  have L5 := Lib.hid A5
  have GG := Lib.hid (gb_trans (gb_trans G1 G2) (gb_trans G3 G5))
  have SS := Lib.hid S5
  clear hw1 hw2 hw3 hw5 S1 S2 S3 S5 A1 A2 A3 A5 G1 G2 G3 G5
  obtain ⟨z, hz⟩ : ∃ z, z = w.heap.size := ⟨_, rfl⟩
  have HZ := Lib.hid hz
  rw [← hz] at L1 L2 L3 L5 SS ⊢
  clear hz
  refine wpIn_rangeX rfl (by omega) (gf := 75) (lb := #[.pointer (some ⟨z + 1 + 1 + 1, 0, none⟩)]) rfl trivial (enters_of Try.func75 (by kernel_rfl) rfl) (encs := enC) (TC := TOB z (z + 1 + 1 + 1)) (TI := TZ) (xs := T.pre)
    (fun W2 gW hsz => preo_seq w W2 _ (TOB z (z + 1 + 1 + 1)) (fun k t h e => by have e := e.1; have := HZ.out; omega) (fun k h e => by have e := e.2; have := SS.out; omega) s T HC.out HS.out (Kc.of_gb (gb_trans GG.out gW)) (z + 1 + 1 + 1) (L5.out.keep0 gW)) (fun _ => rfl)
    (fun pre w6 => IsB w6 z 3 #[.int .i64 (m : Int)] ∧ IsB w6 (z + 1) 4 #[.bool false] ∧ IsB w6 (z + 1 + 1) 3 #[.int .i64 (pre.length : Int)] ∧ w.grownBy w6 none ∧ pre.length ≤ m)
    (fun c pre w6 => c = .ret ∧ m < T.cnt ∧ IsB w6 (z + 1) 4 #[.bool true] ∧ w.grownBy w6 none)
    (fun t A C h k => ⟨k.isb h.1 kiz, k.isb h.2.1 kiz, k.isb h.2.2.1 kiz, k.from_ h.2.2.2.1 (fun i o hi => kiz_low (by have := SS.out; have := HZ.out; omega) hi), h.2.2.2.2⟩)
    (fun c t A C h k => ⟨h.1, h.2.1, k.isb h.2.2.1 kiz, k.from_ h.2.2.2 (fun i o hi => kiz_low (by have := SS.out; have := HZ.out; omega) hi)⟩)
    ⟨L1.out, L2.out, L3.out, GG.out, Nat.zero_le _⟩ ?round ?done ?stop
  case round =>
    rintro l2 pre x W5 hp ⟨v1, v2, v3, g5, lm⟩
    dsimp only [enC]
    gi_wp2
    refine ⟨gb_refl _ _, fun W6 k6 kk6 => ?_⟩
    have V1 := Lib.hid (kk6.isb v1 kiz)
    have V2 := Lib.hid (kk6.isb v2 kiz)
    have V3 := Lib.hid (kk6.isb v3 kiz)
    have G6 := Lib.hid (kk6.from_ g5 (fun i o hi => kiz_low (by have := SS.out; have := HZ.out; omega) hi))
    have PC := Lib.hid (show pre.length + 1 ≤ T.cnt by have h := hp.length_le; unfold CT.cnt; simp at h; omega)
    have PL := Lib.hid (show pre.length ≤ m from lm)
    have c3 : W6.cell? ⟨z + 1 + 1, 0, none⟩ = some (.int .i64 (pre.length : Int)) := V3.out.cell 0
    have f3 := V3.out.free 0
    have hwj : wrap64 ((pre.length : Int) + 1) = (pre.length : Int) + 1 := by have := PL.out; have := HM.out; rw [IntWalk.wrap64_in _ (by omega)]
    clear v1 v2 v3 g5 k6 kk6 hp lm
    have c1 : W6.cell? ⟨z, 0, none⟩ = some (.int .i64 (m : Int)) := V1.out.cell 0
    have c2 : W6.cell? ⟨z + 1, 0, none⟩ = some (.bool false) := V2.out.cell 0
    have f2 := V2.out.free 0
    have U3 := Lib.hid (show IsB (W6.setCell ⟨z + 1 + 1, 0, none⟩ (.int .i64 ((pre.length : Int) + 1))) (z + 1 + 1) 3 #[.int .i64 ((pre.length : Int) + 1)] from V3.out.set 0 _)
    have U1 := Lib.hid (V1.out.set_far (g2 := z + 1 + 1) (by omega) 0 (.int .i64 ((pre.length : Int) + 1)))
    have U2 := Lib.hid (V2.out.set_far (g2 := z + 1 + 1) (by omega) 0 (.int .i64 ((pre.length : Int) + 1)))
    have G7 := Lib.hid (show w.grownBy (W6.setCell ⟨z + 1 + 1, 0, none⟩ (.int .i64 ((pre.length : Int) + 1))) none from gb_put G6.out (show w.heap.size ≤ z + 1 + 1 by rw [HZ.out]; omega))
    have K7 := Lib.hid (show Kt (KB (TOB z (z + 1 + 1 + 1)) w5.heap.size) W6 (W6.setCell ⟨z + 1 + 1, 0, none⟩ (.int .i64 ((pre.length : Int) + 1))) from Kt.of_row (gb_set _ _ _ _) (fun o h => by rw [show W6.heap[z + 1 + 1]? = _ from V3.out] at h; cases h; exact ⟨by omega, by omega⟩))
    by_cases hlt : m < pre.length + 1
    · have i1 : (m : Int) < (pre.length : Int) + 1 := by omega
      gi_wp2
      refine ⟨K7.out.trans (Kt.of_row (gb_set _ (z + 1) 0 _) (fun o h => by rw [show (W6.setCell ⟨z + 1 + 1, 0, none⟩ (.int .i64 ((pre.length : Int) + 1))).heap[z + 1]? = _ from U2.out] at h; cases h; exact ⟨by omega, by omega⟩)), rfl, by have := PC.out; omega, U2.out.set 0 _, gb_put G7.out (by rw [HZ.out]; omega)⟩
    · have i1 : ¬ (m : Int) < (pre.length : Int) + 1 := by omega
      gi_wp2
      refine ⟨K7.out, U1.out, U2.out, ?_, G7.out, by simp; omega⟩
      rw [show (((pre ++ [x]).length : Nat) : Int) = (pre.length : Int) + 1 by simp]
      exact U3.out
  case done =>
    rintro D w6 hD ⟨v1, v2, v3, g5, lm⟩ hK
    have c2 := v2.cell 0
    have f2 := v2.free 0
    dsimp at c2
    gi_wp2
    refine ⟨by simp, .inl ⟨_, _, rfl, run_takeDeferred (show (w6.setCell ⟨z + 1, 0, none⟩ (.bool false)).heap[D]? = _ from (Below.heap_setCell _ _ _ _ (by have := SS.out; show D ≠ z + 1; omega)).trans hK), ?_⟩⟩
    have k : Kt (KI TZ w5.heap.size) (w6.setCell ⟨z + 1, 0, none⟩ (.bool false)) ((w6.setCell ⟨z + 1, 0, none⟩ (.bool false)).putObj D (.deferred none)) := Kt.put _ fun o h => by rw [show (w6.setCell ⟨z + 1, 0, none⟩ (.bool false)).heap[D]? = _ from (Below.heap_setCell _ _ _ _ (by have := SS.out; show D ≠ z + 1; omega)).trans hK] at h; cases h; exact ⟨hD, trivial⟩
    have q := (k.isb (v2.set 0 (.bool false)) kiz).cell 0
    (try dsimp at q)
    refine ⟨.bool false, by rw [results_cell1 rfl]; go_simp, ?_, k.from_ (gb_put g5 (by rw [HZ.out]; omega)) (fun i o hi => kiz_low (by have := SS.out; have := HZ.out; omega) hi)⟩
    rw [decide_eq_false (by unfold CT.cnt; omega)]
  case stop =>
    rintro D c pre w6 hD hp ⟨rfl, hl, v2, g5⟩ hK
    gi_wp2
    refine ⟨by simp, .inl ⟨_, _, rfl, run_takeDeferred hK, ?_⟩⟩
    have k : Kt (KI TZ w5.heap.size) w6 (w6.putObj D (.deferred none)) := Kt.put _ fun o h => by rw [hK] at h; cases h; exact ⟨hD, trivial⟩
    have q := (k.isb v2 kiz).cell 0
    (try dsimp at q)
    refine ⟨.bool true, by rw [results_cell1 rfl]; go_simp, ?_, k.from_ g5 (fun i o hi => kiz_low (by have := SS.out; have := HZ.out; omega) hi)⟩
    rw [decide_eq_true hl]
end Go.Proofs.Ytfjeonoihdgdoaa
