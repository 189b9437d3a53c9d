/- The walk of patchbayref02's Bytes; no condition but sizes. -/
import Derived.Test.YtgknooblnpmloaaIoRd
import Derived.OwnWalk
namespace Go.Proofs.Ytgknooblnpmloaa
open Go.RowKit
set_option linter.unusedVariables false

def accL (L : List Bool) (p : Nat) : Nat → Int
  | 0 => 0
  | k + 1 => 2 * accL L p k + bv L (p + k)
theorem accL_range (L : List Bool) (p k : Nat) : 0 ≤ accL L p k ∧ accL L p k < 2 ^ k := by
  induction k with
  | zero => simp [accL]
  | succ k ih =>
    have hb := bv_range L (p + k)
    rw [accL, Int.pow_succ]
    omega
theorem accL_byte (L : List Bool) (j : Nat) : accL L (8 * j) 8 = byteAt L j := by
  simp only [accL, byteAt, Nat.add_zero]
  omega
/-- The bytes as they stand when i bits have been written. -/
def outB (L : List Bool) (i : Nat) : List Int := (List.range (L.length / 8)).map fun j => accL L (8 * j) (min 8 (i - 8 * j))
theorem outB_len (L : List Bool) (i : Nat) : (outB L i).length = L.length / 8 := by simp [outB]
theorem outB_zero (L : List Bool) : outB L 0 = List.replicate (L.length / 8) 0 := by
  apply List.ext_getElem (by simp [outB])
  intro j h1 h2
  simp [outB, accL]
theorem outB_done (L : List Bool) (h : L.length % 8 = 0) : outB L L.length = packB L := by
  unfold outB packB
  rw [show (L.length + 7) / 8 = L.length / 8 by omega]
  apply List.map_congr_left
  intro j hj
  have := List.mem_range.1 hj
  rw [show min 8 (L.length - 8 * j) = 8 by omega, accL_byte]
theorem outB_at (L : List Bool) (i : Nat) (h : i < L.length) (h8 : L.length % 8 = 0) : (outB L i).getD (i / 8) 0 = accL L (8 * (i / 8)) (i % 8) := by
  have hj : i / 8 < L.length / 8 := by omega
  rw [List.getD_eq_getElem?_getD]
  simp only [outB, List.getElem?_map, List.getElem?_range hj, Option.map_some, Option.getD_some]
  rw [show min 8 (i - 8 * (i / 8)) = i % 8 by omega]
theorem outB_step (L : List Bool) (i : Nat) (h : i < L.length) (h8 : L.length % 8 = 0) : outB L (i + 1) = (outB L i).set (i / 8) (2 * accL L (8 * (i / 8)) (i % 8) + bv L i) := by
  apply List.ext_getElem (by simp [outB])
  intro j h1 h2
  rw [List.getElem_set]
  simp only [outB, List.getElem_map, List.getElem_range]
  by_cases e : i / 8 = j
  · subst e
    rw [if_pos rfl, show min 8 (i + 1 - 8 * (i / 8)) = i % 8 + 1 by omega, accL, show 8 * (i / 8) + i % 8 = i by omega]
  · rw [if_neg e]
    congr 1
    omega
theorem made_zero (z : Value) (n : Nat) : (madeCells #[z] n).toList = List.replicate n z := by
  apply List.ext_getElem (by simp [madeCells])
  intro j h1 h2
  simp [madeCells, Nat.mod_one]

theorem own_cell2 {w : World} {base : Nat} {e : TypeId} {k : IntKind} {g c n : Nat} {bs : List Int} (h : w.ownsRow base e 1 (.slice (some ⟨g, 0, none⟩) n c) n (bs.map (Value.int k))) (hl : bs.length = n) (j : Nat) (hj : j < n) : w.cell? ⟨g, j, none⟩ = some (.int k (bs.getD j 0)) := by
  subst hl; exact own_cell h j hj
theorem own_cellB {w : World} {base g c : Nat} {L : List Bool} (h : BRow w base (.slice (some ⟨g, 0, none⟩) L.length c) L) (j : Nat) (hj : j < L.length) : w.cell? ⟨g, j, none⟩ = some (.bool (L.getD j false)) := by
  rw [World.ownsRow.cellAt h j (by omega)]
  simp [hj]
theorem outV_step (L : List Bool) (i : Nat) (h : i < L.length) (h8 : L.length % 8 = 0) (b : Int) (hb : bv L i = b) : (outB L (i + 1)).map (Value.int .u8) = ((outB L i).map (Value.int .u8)).set (i / 8) (.int .u8 (2 * accL L (8 * (i / 8)) (i % 8) + b)) := by
  rw [outB_step L i h h8, List.map_set, hb]

theorem rbytes_odd (w : World) (a : Option Addr) (c : Nat) (L : List Bool) (hm : ¬ L.length % 8 = 0) :
    Calls Try.prog 32 #[.agg #[.slice a L.length c]] w (RetE 10 [] w) := by
  have hq : ((L.length : Int) % 8 != 0) = true := by rw [bne_iff_ne]; omega
  go_enter Try.func32, Try.ntmps32
  go_wp2
  go_ret2
  exact ⟨_, rfl, gb_alloc _ _ _, World.ownsRow_nil _ _ _ _⟩
set_option maxRecDepth 100000 in
set_option maxHeartbeats 1000000 in
theorem rbytes_even (w : World) (base : Nat) (a : Option Addr) (c : Nat) (L : List Bool) (h : BRow w base (.slice a L.length c) L) (hn : L.length ≤ 60000) (hm : L.length % 8 = 0) :
    Calls Try.prog 32 #[.agg #[.slice a L.length c]] w (RetE 0 (packB L) w) := by
  obtain ⟨i0, hi, hz0, hz1, hz2⟩ := info_parts infoU8
  have hq : ((L.length : Int) % 8 != 0) = false := by rw [bne_eq_false_iff_eq]; omega
  obtain ⟨Q, hQ⟩ : ∃ Q, Q = L.length / 8 := ⟨_, rfl⟩
  have hQ1 : (L.length : Int) / 8 = (Q : Int) := by omega
  have HQ := Lib.hid hQ
  have HI := Lib.hid hi
  have H := Lib.hid h
  have HM := Lib.hid hm
  have nb1 := Lib.hid (IsB.new w 57 #[.slice a L.length c])
  have hsz : (w.alloc (.cells #[.slice a L.length c] 57)).heap.size = w.heap.size + 1 := by simp
  have HSZ := Lib.hid hsz
  have d0 : (w.alloc (.cells #[.slice a L.length c] 57)).cell? ⟨w.heap.size, 0, none⟩ = some (.slice a L.length c) := nb1.out.cell 0
  clear hi h hm hsz hQ
  go_enter Try.func32, Try.ntmps32
  go_wp2_with (at_make; refine wpList_make_full _ rfl _ _ 33 rfl w.heap.size 5 i0 (.int .u8 0) 1 Try.underlying33 HI.out hz0 hz1 .i64 .i64 _ _ Q rfl rfl ?c1 ?c2 ?c3 ?c4 ?c5 ?_)
  case c1 => first | rfl | omega
  case c2 => first | rfl | omega
  case c3 => rw [hz2]; have := HQ.out; omega
  case c4 => have := HQ.out; unfold maxLen; omega
  case c5 => simp
  intro w2 hown hg
  have N1 := Lib.hid (nb1.out.keep0 hg)
  have GG := Lib.hid (show w.grownBy w2 none from gb_trans (gb_alloc _ _ _) hg)
  have HB := Lib.hid (show BRow w2 base (.slice a L.length c) L from own_keep0 H.out GG.out)
  have OW := Lib.hid (show w2.ownsRow w.heap.size 5 1 (.slice (some ⟨w.heap.size + 1, 0, none⟩) Q Q) Q ((outB L 0).map (Value.int .u8)) by
    rw [outB_zero, List.map_replicate, ← HQ.out]
    rw [← made_zero]
    first | exact hown | simpa using hown)
  clear hown hg nb1 d0 H hq
  go_wp2_with fail
  go_loopw [5] (fun i wr => ∃ k : Nat, k ≤ L.length ∧ i = .int .i64 k ∧ wr.ownsRow w.heap.size 5 1 (.slice (some ⟨w.heap.size + 1, 0, none⟩) Q Q) Q ((outB L k).map (Value.int .u8)) ∧ BRow wr base (.slice a L.length c) L ∧ IsB wr w.heap.size 57 #[.slice a L.length c] ∧ w.grownBy wr none) (fun i _ => L.length - (intOf i).toNat)
  case atStart => exact ⟨0, Nat.zero_le _, rfl, OW.out, HB.out, N1.out, GG.out⟩
  case round =>
    obtain ⟨k, hk, rfl, q1, q2, q3, q4⟩ := hrel
    clear OW HB N1 GG
    have OW := Lib.hid q1
    have HB := Lib.hid q2
    have N1 := Lib.hid q3
    have GG := Lib.hid q4
    clear q1 q2 q3 q4
    have d0 : wr.cell? ⟨w.heap.size, 0, none⟩ = some (.slice a L.length c) := N1.out.cell 0
    by_cases hlt : k < L.length
    · have hkk : (k : Int) < L.length := by omega
      have hkq : (k : Int) / 8 < Q := by have := HQ.out; have := HM.out; omega
      obtain ⟨gl, cl, hle⟩ := own_head HB.out (by omega)
      injection hle with hle1 _ hle2
      subst hle1; subst hle2
      have hc := own_cell2 OW.out (by rw [outB_len]; exact HQ.out.symm) (k / 8) (by have := HQ.out; have := HM.out; omega)
      rw [outB_at L k hlt HM.out] at hc
      have hb := own_cellB HB.out k hlt
      have f1 := OW.out.frozenAt (k / 8)
      have hst := fun b hb => outV_step L k hlt HM.out b hb
      have hr := accL_range L (8 * (k / 8)) (k % 8)
      have hpm := pow_mono (k % 8) 7 (by omega)
      obtain ⟨cs, hblk⟩ := own_blk OW.out
      generalize accL L (8 * (k / 8)) (k % 8) = x at *
      have hx : 0 ≤ x ∧ x < 128 := by simp at hpm; omega
      have wx : 2 * x % 256 = 2 * x := by omega
      have wy : (2 * x + 1) % 256 = 2 * x + 1 := by omega
      have ST := Lib.hid hst
      clear hst hr hpm
      have r1 := (OW.out.stored (k / 8) (.int .u8 (2 * x))).1
      have g1 := gb_set wr (w.heap.size + 1) (k / 8) (.int .u8 (2 * x))
      have HB1 := Lib.hid (show BRow (wr.setCell ⟨w.heap.size + 1, k / 8, none⟩ (.int .u8 (2 * x))) base _ L from own_keepS HB.out g1 hblk (by decide))
      have N11 := Lib.hid (N1.out.keepS g1 hblk (by decide))
      have G1 := Lib.hid (gb_set1 (i := k / 8) (u := .int .u8 (2 * x)) GG.out (show w.heap.size ≤ w.heap.size + 1 by omega))
      have hb2 := own_cellB HB1.out k hlt
      have d1 : (wr.setCell ⟨w.heap.size + 1, k / 8, none⟩ (.int .u8 (2 * x))).cell? ⟨w.heap.size, 0, none⟩ = some (.slice (some ⟨gl, 0, none⟩) L.length c) := N11.out.cell 0
      have hlo := outB_len L k
      have hc1 : (wr.setCell ⟨w.heap.size + 1, k / 8, none⟩ (.int .u8 (2 * x))).cell? ⟨w.heap.size + 1, k / 8, none⟩ = some (.int .u8 (2 * x)) := by
        rw [r1.cellAt (k / 8) (by have := HQ.out; have := HM.out; omega)]
        rw [List.getElem?_set_self (by rw [List.length_map, hlo, ← HQ.out]; have := HQ.out; have := HM.out; omega)]
      have f2 := r1.frozenAt (k / 8)
      obtain ⟨cs1, hblk1⟩ := own_blk r1
      have R1 := Lib.hid r1
      have BL1 := Lib.hid hblk1
      clear r1 g1 hblk hblk1 hlo
      cases hbit : L.getD k false with
      | false =>
        rw [hbit] at hb hb2
        have e1 := ST.out 0 (by unfold bv; rw [hbit]; rfl)
        have R2 := Lib.hid (show (wr.setCell ⟨w.heap.size + 1, k / 8, none⟩ (.int .u8 (2 * x))).ownsRow w.heap.size 5 1 (.slice (some ⟨w.heap.size + 1, 0, none⟩) Q Q) Q ((outB L (k + 1)).map (Value.int .u8)) by
          rw [e1, Int.add_zero]
          exact R1.out)
        clear e1
        go_wp2
        go_roundw
        case rel => exact ⟨k + 1, by omega, by go_num, R2.out, HB1.out, N11.out, G1.out⟩
        case measure => simp [intOf]; omega
      | true =>
        rw [hbit] at hb hb2
        have e1 := ST.out 1 (by unfold bv; rw [hbit]; rfl)
        have R2 := Lib.hid (show ((wr.setCell ⟨w.heap.size + 1, k / 8, none⟩ (.int .u8 (2 * x))).setCell ⟨w.heap.size + 1, k / 8, none⟩ (.int .u8 (2 * x + 1))).ownsRow w.heap.size 5 1 (.slice (some ⟨w.heap.size + 1, 0, none⟩) Q Q) Q ((outB L (k + 1)).map (Value.int .u8)) by
          rw [e1]
          have k2 := (R1.out.stored (k / 8) (.int .u8 (2 * x + 1))).1
          rw [List.set_set] at k2
          exact k2)
        have HB2 := Lib.hid (show BRow ((wr.setCell ⟨w.heap.size + 1, k / 8, none⟩ (.int .u8 (2 * x))).setCell ⟨w.heap.size + 1, k / 8, none⟩ (.int .u8 (2 * x + 1))) base _ L from own_keepS HB1.out (gb_set _ _ _ _) BL1.out (by decide))
        have N12 := Lib.hid (N11.out.keepS (gb_set _ (w.heap.size + 1) (k / 8) (.int .u8 (2 * x + 1))) BL1.out (by decide))
        have G2 := Lib.hid (gb_set1 (i := k / 8) (u := .int .u8 (2 * x + 1)) G1.out (show w.heap.size ≤ w.heap.size + 1 by omega))
        clear e1
        go_wp2
        go_roundw
        case rel => exact ⟨k + 1, by omega, by go_num, R2.out, HB2.out, N12.out, G2.out⟩
        case measure => simp [intOf]; omega
    · have hkk : ¬ (k : Int) < L.length := by omega
      have e : k = L.length := by omega
      have FIN := Lib.hid (show wr.ownsRow w.heap.size 5 1 (.slice (some ⟨w.heap.size + 1, 0, none⟩) Q Q) Q ((packB L).map (Value.int .u8)) by
        rw [← outB_done L HM.out, ← e]; exact OW.out)
      have LEN := Lib.hid (show (packB L).length = Q by rw [packB_len, HQ.out]; have := HM.out; omega)
      go_wp2
      go_ret2
      refine ⟨_, rfl, GG.out, ?_⟩
      rw [LEN.out]
      exact FIN.out
end Go.Proofs.Ytgknooblnpmloaa
