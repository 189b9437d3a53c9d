/- The heap's pop: the walk. -/
import Derived.Test.YtaikpjnegopelaaDgK
namespace Go.Proofs.Ytaikpjnegopelaa
open Go.RowKit
set_option linter.unusedVariables false

theorem NL.pre {w : World} {base b n c : Nat} {H : List Int} (h : NL w base (.slice (some ⟨b, 0, none⟩) n c) H) (hn : n = H.length) (m : Nat) (hm : m ≤ n) : NL w base (.slice (some ⟨b, 0, none⟩) m c) (H.take m) := by
  subst hn
  unfold NL at h ⊢
  have hl : (H.take m).length = m := by simp; omega
  rw [hl]
  rcases h.2 with ⟨h1, _⟩ | ⟨g, cap, cur, h1, h2, h3, h4, h5, h6, h7⟩
  · injection h1 with h1; cases h1
  · cases h1
    refine ⟨by simp; omega, Or.inr ⟨b, c, cur, rfl, h2, h3, by omega, h5, h6, ?_⟩⟩
    rw [Nat.mul_one] at h7 ⊢
    rw [List.map_take, ← h7, List.take_take, Nat.min_eq_left hm]
/-- A heap in memory: the variable that holds it, and its row; beside them the world only grew. -/
structure HQ (W : World) (hb base : Nat) (V : Value) (H : List Int) (w : World) : Prop where
  var : IsB w hb 45 #[V]
  row : NL w base V H
  grown : W.grownBy w none
  lowv : W.heap.size ≤ hb
  lowr : W.heap.size ≤ base
/-- Behind the call no block but hb and r has changed. -/
structure Fr (w w2 : World) (hb : Nat) (r : Option Nat) : Prop where
  os : w2.os = w.os
  tape : w2.tape = w.tape
  output : w2.output = w.output
  size : w.heap.size ≤ w2.heap.size
  block : ∀ i, i < w.heap.size → i ≠ hb → r ≠ some i → w2.heap[i]? = w.heap[i]?
theorem Fr.refl (w : World) (hb : Nat) (r : Option Nat) : Fr w w hb r := ⟨rfl, rfl, rfl, Nat.le_refl _, fun _ _ _ _ => rfl⟩
theorem Fr.step {w w1 w2 : World} {hb : Nat} {r row : Option Nat} (h : Fr w w1 hb r) (k : w1.grownBy w2 row) (hq : ∀ q, row = some q → q = hb ∨ r = some q ∨ w.heap.size ≤ q) : Fr w w2 hb r := by
  refine ⟨k.os.trans h.os, k.tape.trans h.tape, k.output.trans h.output, Nat.le_trans h.size k.size, fun i hi h1 h2 => ?_⟩
  rw [k.block i (Nat.lt_of_lt_of_le hi h.size) (fun e => ?_)]
  · exact h.block i hi h1 h2
  · rcases hq i e.symm with q | q | q
    · exact h1 q
    · exact h2 q
    · omega
def popL (H : List Int) : List Int := sinkF (H.length - 1) 0 ((H.set 0 (H.getD (H.length - 1) 0)).take (H.length - 1))
set_option maxRecDepth 100000 in
set_option maxHeartbeats 1000000 in
theorem pop_any (W w : World) (hb base : Nat) (V : Value) (H : List Int) (h : HQ W hb base V H w) (h1 : 1 ≤ H.length) (hn : H.length ≤ 100000) :
    Calls Try.prog 40 #[.pointer (some ⟨hb, 0, none⟩)] w fun e w' => e = .returned (.int .i64 (H.getD 0 0)) ∧ ∃ V', HQ W hb base V' (popL H) w' ∧ V'.ownBlock = V.ownBlock ∧ Fr w w' hb V.ownBlock := by
  obtain ⟨b, c, rfl⟩ := h.row.headn (n := H.length) rfl (by omega)
  have HH := Lib.hid h
  have cv : w.cell? ⟨hb, 0, none⟩ = some (.slice (some ⟨b, 0, none⟩) H.length c) := h.var.cell 0
  have fv := h.var.free 0
  obtain ⟨m, hm⟩ : ∃ m, H.length = m + 1 := ⟨H.length - 1, by omega⟩
  have hsub : (H.length : Int) - 1 = (m : Int) := by omega
  have c0 := h.row.at_ rfl 0 (by omega)
  have cm := h.row.at_ rfl m (by omega)
  have f0 := h.row.free rfl 0
  obtain ⟨cs, hbk⟩ := own_blk h.row
  have hne : hb ≠ b := IsB.ne h.var hbk (by decide)
  have hne2 : b ≠ hb := fun e => hne e.symm
  have hlowb : base ≤ b := (World.ownsRow.lt h.row b rfl).1
  have P1 := Lib.hid (h.row.put rfl 0 (H.getD m 0))
  have P2 := Lib.hid (P1.out.pre (by simp) m (by omega))
  have E1 := Lib.hid (show (H.set 0 (H.getD m 0)).take m = (H.set 0 (H.getD (H.length - 1) 0)).take (H.length - 1) by rw [hm, Nat.add_sub_cancel])
  have E2 := Lib.hid (show popL H = sinkF m 0 ((H.set 0 (H.getD m 0)).take m) by unfold popL; rw [hm, Nat.add_sub_cancel])
  have HSK := Lib.hid (sink_any _ base b m c _ P2.out (by simp; omega) (by omega))
  have hcap : H.length ≤ c := own_cap h.row
  have imc : (m : Int) ≤ c := by omega
  have imc2 : m ≤ c := by omega
  have imn : (m : Int) ≤ H.length := by omega
  have iml : m < H.length := by omega
  have HM := Lib.hid hm
  have NB := Lib.hid hbk
  obtain ⟨x, hx⟩ : ∃ x, x = H.getD 0 0 := ⟨_, rfl⟩
  obtain ⟨y, hy⟩ : ∃ y, y = H.getD m 0 := ⟨_, rfl⟩
  rw [← hx] at c0 ⊢
  rw [← hy] at cm HSK P1 P2 E2
  clear h hm hx hy hbk
  go_enter Try.func40, Try.ntmps40
  go_wp2_with fail
  refine HSK.out.mono ?_
  rintro e w4 ⟨rfl, o4, g4⟩
  have V4 := Lib.hid ((HH.out.var.set_far hne 0 (.int .i64 y)).keep g4 (by intro e; injection e with e; exact hne e))
  have cv4 : w4.cell? ⟨hb, 0, none⟩ = some (.slice (some ⟨b, 0, none⟩) H.length c) := V4.out.cell 0
  have fv4 := V4.out.free 0
  have F4 := Lib.hid (((Fr.refl w hb (some b)).step (gb_set w b 0 (.int .i64 y)) (by intro q e; injection e with e; exact .inr (.inl (by rw [e])))).step g4 (by intro q e; injection e with e; exact .inr (.inl (by rw [e]))))
  have O4 := Lib.hid o4
  have G4 := Lib.hid (show W.grownBy w4 none from gb_new (gb_trans (gb_any (gb_put HH.out.grown (Nat.le_trans HH.out.lowr hlowb))) g4) (Nat.le_trans HH.out.lowr hlowb))
  have lv := HH.out.lowv
  have lr := HH.out.lowr
  clear o4 g4 HSK P1 P2 cv fv c0 cm f0
  go_wp2
  go_ret
  refine ⟨rfl, .slice (some ⟨b, 0, none⟩) m c, ⟨V4.out.set 0 _, ?_, gb_put G4.out lv, lv, lr⟩, rfl, F4.out.step (gb_set _ _ _ _) (by intro q e; injection e with e; exact .inl e.symm)⟩
  rw [E2.out]
  exact World.ownsRow.kept O4.out (gb_set _ _ _ _) (Or.inr (by intro e; injection e with e; exact hne2 e))
end Go.Proofs.Ytaikpjnegopelaa
