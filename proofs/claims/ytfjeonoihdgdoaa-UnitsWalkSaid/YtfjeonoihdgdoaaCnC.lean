/- Control: Count and hasMore of the program; no condition but that the tree lies in memory and is not large. -/
import Derived.Test.YtfjeonoihdgdoaaCnB
namespace Go.Proofs.Ytfjeonoihdgdoaa
open Go.RowKit Go.Shelf
set_option linter.unusedVariables false
attribute [local go_sem] Oper.semAt_some

theorem Kt.row {own : Nat → Obj → Prop} {w w2 : World} {base : Nat} {e : TypeId} {size n : Nat} {v : Value} {xs : List Value} (k : Kt own w w2) (h : w.ownsRow base e size v n xs) (hn : ∀ g cs, base ≤ g → ¬ own g (.cells cs e (0, 0))) : w2.ownsRow base e size v n xs := by
  refine ⟨h.1, ?_⟩
  rcases h.2 with q | ⟨g, cap, cur, h1, h2, h3, h4⟩
  · exact .inl q
  · exact .inr ⟨g, cap, cur, h1, h2, k.same _ _ h3 (hn _ _ h2), h4⟩
theorem Kt.from_ {own : Nat → Obj → Prop} {w A C : World} (h : w.grownBy A none) (k : Kt own A C) (hn : ∀ i o, i < w.heap.size → ¬ own i o) : w.grownBy C none :=
  ⟨k.os.trans h.os, k.tape.trans h.tape, k.output.trans h.output, Nat.le_trans h.size k.size, fun i hi _ => by
    have hi2 : i < A.heap.size := Nat.lt_of_lt_of_le hi h.size
    have e := k.same i A.heap[i] (Array.getElem?_eq_getElem hi2) (hn _ _ hi)
    rw [e, ← Array.getElem?_eq_getElem hi2]
    exact h.block i hi (by simp)⟩
theorem gb_lows {w A C : World} {r : Option Nat} (h : w.grownBy A none) (g : A.grownBy C r) (hr : ∀ k, r = some k → w.heap.size ≤ k) : w.grownBy C none :=
  ⟨g.os.trans h.os, g.tape.trans h.tape, g.output.trans h.output, Nat.le_trans h.size g.size, fun i hi _ => by
    rw [g.block i (Nat.lt_of_lt_of_le hi h.size) (fun e => by have := hr i e.symm; omega)]
    exact h.block i hi (by simp)⟩
theorem kiz {B k : Nat} {cs : Array Value} {t : TypeId} {m : Nat × Nat} (h : KI TZ B k (.cells cs t m)) : False := h.2
theorem kiz_low {b i n : Nat} {o : Obj} (hb : n ≤ b) (hi : i < n) (h : KI TZ b i o) : False := by have := h.1; omega
/-- One block is turned. -/
def TO1 (z : Nat) (k : Nat) (_ : TypeId) : Prop := k = z
theorem isb_gb {w W : World} {g : Nat} {t : TypeId} {cs : Array Value} (h : IsB w g t cs) (k : w.grownBy W none) : IsB W g t cs := h.keep0 k
set_option maxRecDepth 100000 in
set_option maxHeartbeats 4000000 in
theorem count_any (w : World) (s : Sl) (T : CT) (hS : ST w s T) (hc : T.cnt ≤ 1000000) : Calls Try.prog 21 #[.slice s.a s.n s.c] w (RetV (.int .i64 (T.cnt : Int)) w) := by
  have HS := Lib.hid hS
  have HC := Lib.hid hc
  clear hS hc
  refine (callsIn_wide (n := 5)).1 ?_
  refine callsIn_of_wp_marks Try.func21 rfl trivial ?_ rfl
  simp only [Try.ntmps21, List.size_toArray, List.length_cons, List.length_nil, Nat.reduceAdd, Nat.reduceSub, Array.replicate_succ, Array.replicate_zero, List.push_toArray, List.append_toArray, List.nil_append, List.cons_append]
  gi_wp2_with ((first | refine ⟨trivial, wd _, ?_⟩ | refine ⟨trivial, ?_⟩); gi_at_call 49; refine (callsIn_wide.2 (preo_any _ _ _ _)).mono ?_; rintro e w4 ⟨rfl, rfl⟩)
  have G1 := Lib.hid (gb_alloc w (.cells #[.int .i64 0] 3) none)
  have N1 := Lib.hid (IsB.new w 3 #[.int .i64 0])
  obtain ⟨w1, hw1⟩ : ∃ w1, w1 = w.alloc (.cells #[.int .i64 0] 3) := ⟨_, rfl⟩
  have S1 : w1.heap.size = w.heap.size + 1 := by rw [hw1]; exact sz_al _ _
  have A2 := Lib.hid (IsB.new w1 28 #[.slice s.a s.n s.c])
  have G2 := Lib.hid (gb_alloc w1 (.cells #[.slice s.a s.n s.c] 28) none)
  rw [← hw1] at G1 N1 ⊢
  rw [S1] at A2
  obtain ⟨w2, hw2⟩ : ∃ w2, w2 = w1.alloc (.cells #[.slice s.a s.n s.c] 28) := ⟨_, rfl⟩
  have S2 : w2.heap.size = w.heap.size + 1 + 1 := by rw [hw2, sz_al, S1]
  rw [← hw2] at A2 G2 ⊢
  have N2 := Lib.hid (N1.out.keep0 G2.out)
  have GG := Lib.hid (gb_trans G1.out G2.out)
  have SS := Lib.hid S2
  clear hw1 hw2 S1 S2 G1 N1 G2
  obtain ⟨z, hz⟩ : ∃ z, z = w.heap.size := ⟨_, rfl⟩
  have HZ := Lib.hid hz
  rw [← hz] at A2 N2 SS ⊢
  clear hz
  refine wpIn_rangeX rfl (by omega) (gf := 75) (lb := #[.pointer (some ⟨z + 1, 0, none⟩)]) rfl trivial (enters_of Try.func75 (by kernel_rfl) rfl) (encs := enC) (TC := TO1 z) (TI := TZ) (xs := T.pre)
    (fun W2 gW hsz => preo_seq w W2 _ (TO1 z) (fun k t h e => by have e : k = z := e; have := HZ.out; omega) (fun k h e => by have e : k = z := e; have := SS.out; omega) s T HC.out HS.out (Kc.of_gb (gb_trans GG.out gW)) (z + 1) (A2.out.keep0 gW)) (fun _ => rfl)
    (fun pre w5 => IsB w5 z 3 #[.int .i64 (pre.length : Int)] ∧ w.grownBy w5 none ∧ z < w5.heap.size)
    (fun c pre w5 => False)
    (fun t A C h k => ⟨k.isb h.1 kiz, k.from_ h.2.1 (fun i o hi => kiz_low (by have := SS.out; have := HZ.out; omega) hi), Nat.lt_of_lt_of_le h.2.2 k.size⟩)
    (fun c t A C h k => h)
    ⟨N2.out, GG.out, by have := SS.out; omega⟩ ?round ?done ?stop
  case round =>
    rintro l2 pre x W5 hp ⟨v5, g5, lt5⟩
    dsimp only [enC]
    gi_wp2
    refine ⟨gb_refl _ _, fun W6 k6 kk6 => ?_⟩
    have V6 := Lib.hid (kk6.isb v5 kiz)
    have G6 := Lib.hid (kk6.from_ g5 (fun i o hi => kiz_low (by have := SS.out; have := HZ.out; omega) hi))
    have PL := Lib.hid (show pre.length + 1 ≤ 1000000 by have h := hp.length_le; have := HC.out; unfold CT.cnt at this; simp at h; omega)
    have c6 : W6.cell? ⟨z, 0, none⟩ = some (.int .i64 (pre.length : Int)) := V6.out.cell 0
    have f6 := V6.out.free 0
    have hwj : wrap64 ((pre.length : Int) + 1) = ((pre.length + 1 : Nat) : Int) := by have := PL.out; rw [IntWalk.wrap64_in _ (by omega)]; omega
    have LT6 := Lib.hid (Nat.lt_of_lt_of_le lt5 kk6.size)
    clear v5 g5 k6 kk6 hp
    gi_wp2
    refine ⟨Kt.of_row (gb_set _ _ _ _) (fun o h => by rw [show W6.heap[z]? = _ from V6.out] at h; cases h; exact rfl), ?_, gb_put G6.out (by rw [HZ.out]; omega), ?_⟩
    · have q := V6.out.set 0 (.int .i64 ((pre.length : Int) + 1))
      rw [show (((pre ++ [x]).length : Nat) : Int) = (pre.length : Int) + 1 by simp]
      exact q
    · simpa [World.setCell] using LT6.out
  case done =>
    rintro D w5 hD ⟨v5, g5, lt5⟩ hK
    have c5 := v5.cell 0
    dsimp at c5
    gi_wp2
    refine ⟨by simp, .inl ⟨_, _, rfl, run_takeDeferred hK, ?_⟩⟩
    have k : Kt (KI TZ w2.heap.size) w5 (w5.putObj D (.deferred none)) := Kt.put _ fun o h => by rw [hK] at h; cases h; exact ⟨hD, trivial⟩
    exact ⟨_, results_tmp rfl _ _ _, rfl, k.from_ g5 (fun i o hi => kiz_low (by have := SS.out; have := HZ.out; omega) hi)⟩
  case stop =>
    rintro D c pre w5 hD hp h
    exact h.elim
end Go.Proofs.Ytfjeonoihdgdoaa
