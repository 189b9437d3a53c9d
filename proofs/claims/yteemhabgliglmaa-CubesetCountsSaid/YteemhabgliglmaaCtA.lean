/- Cubeset: Simplify, settled. -/
import Derived.Test.YteemhabgliglmaaCsZ
namespace Go.Proofs.Yteemhabgliglmaa
open Go.RowKit
set_option linter.unusedVariables false
set_option maxRecDepth 100000 in
set_option maxHeartbeats 4000000 in
theorem settled_any (w : World) (a : Option Addr) (n c : Nat) (L : List (Nat × Nat)) (h : SC w a n c L) (hn : n ≤ 100000) : Calls Try.prog 36 #[.slice a n c] w (RetCE (stepL L) (stepE L) w) := by
  have SI := Lib.hid (simplified_any w a n c L h hn 1024 (by decide))
  clear h
  go_enter Try.func36, Try.ntmps36
  go_wp2_with fail
  refine SI.out.mono ?_
  rintro e w1 ⟨⟨hl, V, rfl, o1⟩ | ⟨hl, rfl⟩, g1⟩
  · have O1 := Lib.hid o1
    have G1 := Lib.hid g1
    have HL := Lib.hid hl
    obtain ⟨b, d, hV⟩ := o1.shape
    clear o1 g1 hl
    subst hV
    go_wp2
    go_ret2
    refine ⟨_, by unfold stepE; rw [if_neg (by have := HL.out; omega)] <;> rfl, ?_, G1.out⟩
    unfold stepL
    rw [if_neg (by have := HL.out; omega)]
    exact O1.out
  · have G1 := Lib.hid g1
    have HL := Lib.hid hl
    clear g1 hl
    go_wp2
    go_ret2
    refine ⟨_, by unfold stepE; rw [if_pos HL.out] <;> rfl, ?_, G1.out⟩
    unfold stepL
    rw [if_pos HL.out]
    exact CLs.nil _ _
set_option maxRecDepth 100000 in
set_option maxHeartbeats 4000000 in
theorem simplify_any (w : World) (a : Option Addr) (n c : Nat) (L : List (Nat × Nat)) (h : SC w a n c L) (hn : n ≤ 50000) : Calls Try.prog 16 #[.slice a n c] w (RetC (simpL L) w) := by
  have SI := Lib.hid (simplified_any w a n c L h (by omega) n hn)
  have LE := Lib.hid (show (simpL L).length ≤ n by rw [← h.len]; exact keptT_len L L.length)
  clear h
  go_enter Try.func16, Try.ntmps16
  go_wp2_with fail
  refine SI.out.mono ?_
  rintro e w1 ⟨⟨hl, V, rfl, o1⟩ | ⟨hl, rfl⟩, g1⟩
  · have O1 := Lib.hid o1
    have G1 := Lib.hid g1
    obtain ⟨b, d, hV⟩ := o1.shape
    clear o1 g1 hl
    subst hV
    go_wp2
    go_ret
    exact ⟨_, rfl, O1.out, G1.out⟩
  · have := LE.out
    omega
/-- append of made cells onto nil. -/
theorem run_append_made (w : World) (ty : TypeId) (N : Nat) (h0 : 0 < N) (hN : N ≤ 100000) : ∃ c, N ≤ c ∧ c ≤ maxLen ∧ (Builtin.append_ #[22, 3] ty #[.slice none 0 0, .int .i64 (N : Int)]).run Try.prog w =
    .ok (.slice (some ⟨w.heap.size, 0, none⟩) N c) (w.drew.alloc (.cells (Builtin.zeroCells #[.int .u64 0, .int .u64 0] N ++ Builtin.zeroCells #[.int .u64 0, .int .u64 0] (c - N)) 49)) := by
  obtain ⟨i0, hi, hz0, hz1, hz2⟩ := info_parts infoCube
  refine ⟨grownCap w N 0 49, grownCap_ge w N 0 _, grownCap_le_maxLen w N 0 _ (by unfold maxLen; omega), ?_⟩
  have hw : IntKind.i64.wrap (N : Int) = N := wraps_i64 _ (by omega) (by omega)
  have hn : N ≠ 0 := by omega
  have h63' : ¬ (9223372036854775807 < (N : Int)) := by omega
  have h48' : ¬ (281474976710656 < Builtin.nextslicecap N 0 * 16) := by rw [nextslicecap_zero h0]; omega
  have h48 : ¬ (281474976710656 < (N : Int) * 16) := by omega
  have hneg : ¬ ((N : Int) < 0) := by omega
  simp [Builtin.append_, run_underlying Try.underlying22, run_underlying Try.underlying3, sizeOf, typeInfo, zeroValue, hi, hz0, hz1, hz2, Builtin.lenOf, hn, h63', h48', h48, hneg, hw, asInt, asIntOf, Question.forced, run_firstCells_none, newRow, grownCap, Value.cells]
  intro h; omega
theorem wpList_append_made {w : World} {ops : Array Oper} {rest : List Oper} {o : Oper} {a : Act} {Q : Exit → Act → World → Prop} (hgd : o.guard = none) (s x : Operand)
    (ho : o.op = .call { callee := .builtin .append, args := #[s, x], argTypes := #[22, 3] }) (N : Nat) (h0 : 0 < N) (hN : N ≤ 100000) (hs : a.eval s = .slice none 0 0) (hx : a.eval x = .int .i64 (N : Int))
    (h : ∀ c w', N ≤ c → w'.ownsRow w.heap.size 49 2 (.slice (some ⟨w.heap.size, 0, none⟩) 0 c) 0 [] → w.grownBy w' none → wpList Try.prog ops Q rest (a.put o.dst (.slice (some ⟨w.heap.size, 0, none⟩) N c)) w') : wpList Try.prog ops Q (o :: rest) a w := by
  refine wpList_plain hgd fun K hK => ?_
  obtain ⟨c, h1, h2, hr⟩ := run_append_made w o.type N h0 hN
  unfold Oper.wp execOp
  simp only [ho, resolve, invoke, builtin, Sem.run_bind, Sem.run_pure, Result.andThen_ok, List.map_toArray, List.map_cons, List.map_nil, hs, hx, hr]
  refine hK _ _ (h c _ h1 ⟨by simp, .inr ⟨w.heap.size, c, _, rfl, Nat.le_refl _, heap_alloc_new w.drew _, by omega, h2, ?_, by simp⟩⟩ (gb_trans (gb_drew w none) (gb_alloc _ _ none)))
  simp only [Array.size_append, size_zeroCells]
  show N * 2 + (c - N) * 2 = c * 2
  omega
set_option maxRecDepth 100000 in
set_option maxHeartbeats 4000000 in
theorem grow_any (w : World) (N : Nat) (hN : N ≤ 100000) : Calls Try.prog 56 #[.slice none 0 0, .int .i64 (N : Int)] w (RetC [] w) := by
  go_enter Try.func56, Try.ntmps56
  by_cases h0 : 0 < N
  · have n0 : ¬ ((N : Int) < 0) := by omega
    have n1 : (0 : Int) < (N : Int) := by omega
    go_wp2_with (refine wpList_append_made rfl _ _ rfl N h0 hN rfl (by first | rfl | simp) ?_)
    intro c w2 hc hown hg
    have O := Lib.hid hown
    have G := Lib.hid hg
    clear hown hg
    go_wp2
    go_ret
    exact ⟨_, rfl, O.out, G.out⟩
  · have hz : N = 0 := by omega
    subst hz
    go_wp2
    go_ret
    exact ⟨_, rfl, CLs.nil _ _, gb_refl _ _⟩
/-- The first j of two. -/
def pick3 (x y z : Nat) (j : Nat) : Nat := if j = 0 then x else if j = 1 then y else z
set_option maxRecDepth 100000 in
set_option maxHeartbeats 4000000 in
theorem concat_any (w : World) (g : Nat) (a b : Option Addr) (n c m d : Nat) (L M : List (Nat × Nat)) (h : SC w a n c L) (k : SC w b m d M) (hb : IsB w g 22 #[.slice a n c, .slice b m d]) (hn : n ≤ 40000) (hm : m ≤ 40000) : Calls Try.prog 37 #[.slice (some ⟨g, 0, none⟩) 2 2] w (RetC (L ++ M) w) := by
  have HH := Lib.hid h
  have KK := Lib.hid k
  have HB := Lib.hid hb
  have GR := Lib.hid (fun w N h => grow_any w N h)
  clear h k hb
  go_enter Try.func37, Try.ntmps37
  go_wp2
  go_loopw [3, 5, 11] (fun s3 s5 s11 wr => ∃ j : Nat, j ≤ 2 ∧ s11 = .int .i64 j ∧ s3 = .int .i64 (pick3 0 n (n + m) j : Nat) ∧ w.grownBy wr none) (fun _ _ s11 _ => 2 - (intOf s11).toNat)
  case atStart => exact ⟨0, Nat.zero_le _, rfl, rfl, gb_refl _ _⟩
  case round =>
    obtain ⟨j, hj, rfl, rfl, hg⟩ := hrel
    have HG := Lib.hid hg
    clear hg
    have c0 := (HB.out.keep0 HG.out).cell 0
    have c1 := (HB.out.keep0 HG.out).cell 1
    simp at c0 c1
    rcases (show j = 0 ∨ j = 1 ∨ j = 2 by omega) with rfl | rfl | rfl
    · have e : pick3 0 n (n + m) 0 = 0 := rfl
      rw [e]
      rw [show ((0 : Nat) : Int) = 0 from rfl]
      have n0 : ¬ ((n : Int) < 0) := by omega
      clear c1 e
      go_wp2
      go_roundw
      case rel => exact ⟨1, by omega, rfl, rfl, HG.out⟩
      case measure => simp [intOf]
    · have e : pick3 0 n (n + m) 1 = n := rfl
      rw [e]
      rw [show ((1 : Nat) : Int) = 1 from rfl]
      have n0 : ¬ ((n : Int) + m < 0) := by omega
      clear c0 e
      go_wp2
      go_roundw
      case rel => exact ⟨2, by omega, rfl, by show _ = Value.int .i64 ((n + m : Nat) : Int); rw [Int.natCast_add], HG.out⟩
      case measure => simp [intOf]
    · have e : pick3 0 n (n + m) 2 = n + m := rfl
      rw [e]
      rw [show ((2 : Nat) : Int) = 2 from rfl]
      have GW := Lib.hid (GR.out wr (n + m) (by omega))
      unfold RetC at GW
      clear e c0 c1
      generalize n + m = N at *
      go_wp2_with fail
      refine GW.out.mono ?_
      rintro e w1 ⟨V, rfl, o1, g1⟩
      have O1 := Lib.hid (own_low (base2 := w.heap.size) o1 HG.out.size)
      have G1 := Lib.hid (gb_trans HG.out g1)
      obtain ⟨ga, gc, hV⟩ := o1.shape
      clear o1 g1 GW
      subst hV
      go_wp2
      go_loopw [6, 8, 27] (fun s6 s8 s27 wr => ∃ (j : Nat) (R : List (Nat × Nat)), j ≤ 2 ∧ s27 = .int .i64 j ∧ R = (if j = 0 then [] else if j = 1 then L else L ++ M) ∧ CLs wr w.heap.size s6 R ∧ w.grownBy wr none) (fun _ _ s27 _ => 2 - (intOf s27).toNat)
      case atStart => exact ⟨0, [], Nat.zero_le _, rfl, rfl, O1.out, G1.out⟩
      case round =>
        obtain ⟨j, R, hj, rfl, hR, hO, hg⟩ := hrel
        obtain ⟨ra, rc, rfl⟩ := hO.shape
        have HO := Lib.hid hO
        have HG2 := Lib.hid hg
        have HRR := Lib.hid hR
        clear hO hg hR
        have c0 := (HB.out.keep0 HG2.out).cell 0
        have c1 := (HB.out.keep0 HG2.out).cell 1
        simp at c0 c1
        have H2 := Lib.hid (HH.out.keep0 HG2.out)
        have K2 := Lib.hid (KK.out.keep0 HG2.out)
        rcases (show j = 0 ∨ j = 1 ∨ j = 2 by omega) with rfl | rfl | rfl
        · have hR : R = [] := HRR.out
          clear HRR
          subst hR
          rw [show ((0 : Nat) : Int) = 0 from rfl]
          clear c1
          go_wp2_with (at_builtin; refine pushAll rfl _ _ rfl w.heap.size _ [] rfl HO.out a n c L rfl H2.out (by have := H2.out.len; simp; omega) HG2.out.size ?_)
          intro V9 w9 o9 g9
          have O9 := Lib.hid (show CLs w9 w.heap.size V9 L from o9)
          have G9 := Lib.hid (gb_own HG2.out HO.out (Nat.le_refl _) g9)
          clear o9 g9 c0
          go_wp2
          go_roundw
          case rel => exact ⟨1, _, by omega, rfl, rfl, O9.out, G9.out⟩
          case measure => simp [intOf]
        · have hR : R = L := HRR.out
          clear HRR
          subst hR
          rw [show ((1 : Nat) : Int) = 1 from rfl]
          clear c0
          go_wp2_with (at_builtin; refine pushAll rfl _ _ rfl w.heap.size _ R rfl HO.out b m d M rfl K2.out (by have := H2.out.len; have := K2.out.len; omega) HG2.out.size ?_)
          intro V9 w9 o9 g9
          have O9 := Lib.hid o9
          have G9 := Lib.hid (gb_own HG2.out HO.out (Nat.le_refl _) g9)
          clear o9 g9 c1
          go_wp2
          go_roundw
          case rel => exact ⟨2, _, by omega, rfl, rfl, O9.out, G9.out⟩
          case measure => simp [intOf]
        · have HR := Lib.hid (show R = L ++ M from HRR.out)
          clear HRR c0 c1
          rw [show ((2 : Nat) : Int) = 2 from rfl]
          go_wp2
          go_ret
          exact ⟨_, rfl, by rw [← HR.out]; exact HO.out, HG2.out⟩
set_option maxRecDepth 100000 in
set_option maxHeartbeats 4000000 in
theorem union_any (w : World) (a b : Option Addr) (n c m d : Nat) (L M : List (Nat × Nat)) (h : SC w a n c L) (k : SC w b m d M) (hn : n ≤ 40000) (hm : m ≤ 40000) : Calls Try.prog 13 #[.slice a n c, .slice b m d] w (RetCE (stepL (L ++ M)) (stepE (L ++ M)) w) := by
  obtain ⟨W, hW⟩ : ∃ W, W = w.alloc (.cells #[.slice a n c, .slice b m d] 22) := ⟨_, rfl⟩
  have GW := Lib.hid (show w.grownBy W none by rw [hW]; exact gb_alloc w _ none)
  have CO := Lib.hid (concat_any W w.heap.size a b n c m d L M (h.keep0 GW.out) (k.keep0 GW.out) (by rw [hW]; exact IsB.new w _ _) hn hm)
  have WF := Lib.hid (show ∀ p ∈ L ++ M, B64 p.1 ∧ B64 p.2 from fun p hp => by
    rcases List.mem_append.1 hp with q | q
    · exact h.wf p q
    · exact k.wf p q)
  have LN := Lib.hid (show (L ++ M).length ≤ 100000 by rw [List.length_append, h.len, k.len]; omega)
  clear h k
  generalize L ++ M = R at *
  go_enter Try.func13, Try.ntmps13
  go_wp2_with fail
  rw [← hW]
  clear hW
  unfold RetC at CO
  refine CO.out.mono ?_
  rintro e w1 ⟨V, rfl, o1, g1⟩
  obtain ⟨ra, rc, rfl⟩ := o1.shape
  have S1 := Lib.hid (sc_own o1 WF.out)
  have G1 := Lib.hid (gb_trans GW.out g1)
  clear o1 g1
  go_wp2_with fail
  have SA := settled_any w1 ra R.length rc R S1.out LN.out
  unfold RetCE at SA
  refine SA.mono ?_
  rintro e w2 ⟨V2, rfl, o2, g2⟩
  obtain ⟨sa, sc, hV⟩ := o2.shape
  have O2 := Lib.hid (own_low (base2 := w.heap.size) o2 G1.out.size)
  have G2 := Lib.hid (gb_trans G1.out g2)
  clear o2 g2 SA
  subst hV
  go_wp2
  go_ret2
  exact ⟨_, rfl, O2.out, G2.out⟩
end Go.Proofs.Yteemhabgliglmaa
