/- Expr: the reference's AddInt, Headers, End; no condition but that lists are short. -/
import Derived.Test.YtcicjodpkbcigaaGreatExWo
import Derived.Test.YtcicjodpkbcigaaGreatExV
import Derived.Test.YtcicjodpkbcigaaGreatSqA
import Derived.BigQuiet
namespace Go.Proofs.YtcicjodpkbcigaaGreat
open Go.RowKit
set_option linter.unusedVariables false
/-- A row of numbers of the call's own is returned. -/
def RetNX (L : List Int) (w : World) (e : Ending) (w' : World) : Prop := ∃ a c, e = .returned (.slice a L.length c) ∧ NL w' w.heap.size (.slice a L.length c) L ∧ w.grownBy w' none
theorem drop_one (L : List Int) (i : Nat) (h : i < L.length) : L.drop i = L.getD i 0 :: L.drop (i + 1) := by
  rw [List.drop_eq_getElem_cons h, List.getD_eq_getElem?_getD, List.getElem?_eq_getElem h]; rfl
def aI (x : Int) (L : List Int) : List Int := addA (fun a b : Int => a < b) x L
theorem aI_nil (x : Int) : aI x [] = [x] := rfl
theorem aI_lt (x y : Int) (l : List Int) (h : y < x) : aI x (y :: l) = y :: aI x l := by unfold aI; rw [addA, if_pos h]
theorem aI_eq (y : Int) (l : List Int) : aI y (y :: l) = y :: l := by unfold aI; rw [addA, if_neg (by omega), if_pos rfl]
theorem aI_gt (x y : Int) (l : List Int) (h : x < y) : aI x (y :: l) = x :: y :: l := by unfold aI; rw [addA, if_neg (by omega), if_neg (by omega)]
/-- What is still to come. -/
def rst (pl : Bool) (x : Int) (L : List Int) : List Int := if pl = true then L else aI x L
set_option maxRecDepth 100000 in
set_option maxHeartbeats 8000000 in
theorem raddint_any (w : World) (a : Option Addr) (n c : Nat) (L : List Int) (hL : SlR w a n c (L.map (Value.int .i64))) (hn : n ≤ 1000) (x : Int) :
    Calls Tryz.prog 32 #[.slice a n c, .int .i64 x] w (RetNX (aI x L) w) := by
  have HL := Lib.hid hL
  have LN := Lib.hid (show L.length = n by simpa using hL.1)
  clear hL
  obtain ⟨R, hR⟩ : ∃ R, R = aI x L := ⟨_, rfl⟩
  have HR := Lib.hid (show R = [] ++ rst false x (L.drop 0) by rw [hR]; rfl)
  rw [← hR]
  clear hR
  go_enter Tryz.func32, Tryz.ntmps32
  go_wp2
  go_loopw [5, 6, 7] (fun s5 s6 s7 wr => ∃ (i m : Nat) (pl : Bool) (out : List Int) (b : Option Addr) (d : Nat), i ≤ n ∧ s7 = .int .i64 i ∧ s6 = .bool pl ∧ s5 = .slice b m d ∧ out.length = m ∧ m ≤ 2 * i ∧ NL wr w.heap.size (.slice b m d) out ∧ R = out ++ rst pl x (L.drop i) ∧ w.grownBy wr none) (fun _ _ s7 _ => n - (intOf s7).toNat)
  case atStart => exact ⟨0, 0, false, [], none, 0, Nat.zero_le _, rfl, rfl, rfl, rfl, Nat.le_refl _, NL.nil _ _, HR.out, gb_refl _ _⟩
  case round =>
    obtain ⟨i, m, pl, out, b, d, hi, rfl, rfl, rfl, hm, hm2, ho, hr, hg⟩ := hrel
    have OM := Lib.hid hm
    have O := Lib.hid ho
    have RR := Lib.hid hr
    have G := Lib.hid hg
    clear hm ho hr hg HR
    by_cases hlt : i < n
    · have i1 : (i : Int) < n := by omega
      have i0 : (0 : Int) ≤ (i : Int) := by omega
      have hw : IntKind.i64.wrap ((i : Int) + 1) = ((i + 1 : Nat) : Int) := by rw [IntKind.wrap_i64]; omega
      obtain ⟨ad, rfl⟩ : ∃ ad, a = some ad := by
        cases a with
        | none => have := (HL.out.2.1 rfl).1; omega
        | some ad => exact ⟨ad, rfl⟩
      have c0 : wr.cell? (ad.add i) = some (.int .i64 (L.getD i 0)) := G.out.cell (HL.out.2.2 ad rfl i (.int .i64 (L.getD i 0)) (by simp [LN.out, hlt])) (by simp)
      have DR := Lib.hid (drop_one L i (by rw [LN.out]; exact hlt))
      have YC := Lib.hid (show (L.map (Value.int .i64))[i]? = some (.int .i64 (L.getD i 0)) by simp [LN.out, hlt])
      generalize L.getD i 0 = y at *
      have SY := Lib.hid (slr_one wr .i64 y 3 _ rfl)
      have GA := Lib.hid (gb_alloc wr (.cells #[.int .i64 y] 3) none)
      cases pl with
      | true =>
        have RN := Lib.hid (show R = (out ++ [y]) ++ rst true x (L.drop (i + 1)) by rw [RR.out, DR.out]; simp [rst])
        go_wp2_with (at_builtin; refine npush_any rfl _ _ rfl w.heap.size (.slice b m d) out rfl (O.out.keep0 GA.out) _ _ _ [y] rfl SY.out (by have := OM.out; simp; omega) (Nat.le_trans G.out.size GA.out.size) ?_; intro V8 w8 o8 g8; have O8 := Lib.hid o8; have G8 := Lib.hid (gb_own (gb_trans G.out GA.out) (O.out.keep0 GA.out) (Nat.le_refl _) g8); clear o8 g8)
        obtain ⟨a8, c8, h8⟩ := O8.out.shape
        rw [show (out ++ [y]).length = m + 1 by simp [OM.out]] at h8
        subst h8
        go_roundw
        case rel => exact ⟨i + 1, m + 1, true, out ++ [y], a8, c8, by omega, by go_num, rfl, rfl, by simp [OM.out], by omega, O8.out, RN.out, G8.out⟩
        case measure => simp [intOf]; omega
      | false =>
        rcases (show y < x ∨ y = x ∨ x < y by omega) with h | h | h
        · have RN := Lib.hid (show R = (out ++ [y]) ++ rst false x (L.drop (i + 1)) by rw [RR.out, DR.out]; simp [rst, aI_lt x y _ h])
          have q0 : ¬ x ≤ y := by omega
          clear h
          go_wp2_with (at_builtin; refine npush_any rfl _ _ rfl w.heap.size (.slice b m d) out rfl (O.out.keep0 GA.out) _ _ _ [y] rfl SY.out (by have := OM.out; simp; omega) (Nat.le_trans G.out.size GA.out.size) ?_; intro V8 w8 o8 g8; have O8 := Lib.hid o8; have G8 := Lib.hid (gb_own (gb_trans G.out GA.out) (O.out.keep0 GA.out) (Nat.le_refl _) g8); clear o8 g8)
          obtain ⟨a8, c8, h8⟩ := O8.out.shape
          rw [show (out ++ [y]).length = m + 1 by simp [OM.out]] at h8
          subst h8
          go_roundw
          case rel => exact ⟨i + 1, m + 1, false, out ++ [y], a8, c8, by omega, by go_num, rfl, rfl, by simp [OM.out], by omega, O8.out, RN.out, G8.out⟩
          case measure => simp [intOf]; omega
        · subst h
          have RN := Lib.hid (show R = (out ++ [y]) ++ rst true y (L.drop (i + 1)) by rw [RR.out, DR.out]; simp [rst, aI_eq])
          have q0 : y ≤ y := Int.le_refl _
          go_wp2_with (at_builtin; refine npush_any rfl _ _ rfl w.heap.size (.slice b m d) out rfl (O.out.keep0 GA.out) _ _ _ [y] rfl SY.out (by have := OM.out; simp; omega) (Nat.le_trans G.out.size GA.out.size) ?_; intro V8 w8 o8 g8; have O8 := Lib.hid o8; have G8 := Lib.hid (gb_own (gb_trans G.out GA.out) (O.out.keep0 GA.out) (Nat.le_refl _) g8); clear o8 g8)
          obtain ⟨a8, c8, h8⟩ := O8.out.shape
          rw [show (out ++ [y]).length = m + 1 by simp [OM.out]] at h8
          subst h8
          go_roundw
          case rel => exact ⟨i + 1, m + 1, true, out ++ [y], a8, c8, by omega, by go_num, rfl, rfl, by simp [OM.out], by omega, O8.out, RN.out, G8.out⟩
          case measure => simp [intOf]; omega
        · have RN := Lib.hid (show R = (out ++ [x] ++ [y]) ++ rst true x (L.drop (i + 1)) by rw [RR.out, DR.out]; simp [rst, aI_gt x y _ h])
          have q0 : x ≤ y := by omega
          have q1 : (y != x) = true := by rw [bne_iff_ne]; omega
          have q2 : ¬ y = x := by omega
          clear h
          have SX := Lib.hid (slr_one wr .i64 x 3 _ rfl)
          have GX := Lib.hid (gb_alloc wr (.cells #[.int .i64 x] 3) none)
          go_upto_region 10 with (at_builtin; refine npush_any rfl _ _ rfl w.heap.size (.slice b m d) out rfl (O.out.keep0 GX.out) _ _ _ [x] rfl SX.out (by have := OM.out; simp; omega) (Nat.le_trans G.out.size GX.out.size) ?_; intro V7 w7 o7 g7; have O7 := Lib.hid o7; have G7 := Lib.hid (gb_own (gb_trans G.out GX.out) (O.out.keep0 GX.out) (Nat.le_refl _) g7); clear o7 g7; have c0 := G7.out.cell (HL.out.2.2 ad rfl i _ YC.out) (by simp))
          obtain ⟨a7, c7, h7⟩ := O7.out.shape
          rw [show (out ++ [x]).length = m + 1 by simp [OM.out]] at h7
          subst h7
          have S7 := Lib.hid (slr_one w7 .i64 y 3 _ rfl)
          have GY := Lib.hid (gb_alloc w7 (.cells #[.int .i64 y] 3) none)
          go_wp2_with (at_builtin; refine npush_any rfl _ _ rfl w.heap.size (.slice a7 (m + 1) c7) (out ++ [x]) rfl (O7.out.keep0 GY.out) _ _ _ [y] rfl S7.out (by have := OM.out; simp; omega) (Nat.le_trans G7.out.size GY.out.size) ?_; intro V8 w8 o8 g8; have O8 := Lib.hid o8; have G8 := Lib.hid (gb_own (gb_trans G7.out GY.out) (O7.out.keep0 GY.out) (Nat.le_refl _) g8); clear o8 g8)
          obtain ⟨a8, c8, h8⟩ := O8.out.shape
          rw [show (out ++ [x] ++ [y]).length = m + 2 by simp [OM.out]] at h8
          subst h8
          go_roundw
          case rel => exact ⟨i + 1, m + 2, true, out ++ [x] ++ [y], a8, c8, by omega, by go_num, rfl, rfl, by simp [OM.out], by omega, O8.out, RN.out, G8.out⟩
          case measure => simp [intOf]; omega
    · have i1 : ¬ (i : Int) < n := by omega
      have DN := Lib.hid (show L.drop i = [] from List.drop_of_length_le (by rw [LN.out]; omega))
      cases pl with
      | true =>
        have RN := Lib.hid (show R = out by rw [RR.out, DN.out]; simp [rst])
        go_wp2
        go_ret
        exact ⟨b, d, by rw [RN.out, OM.out] <;> rfl, by rw [RN.out, OM.out]; exact O.out, G.out⟩
      | false =>
        have RN := Lib.hid (show R = out ++ [x] by rw [RR.out, DN.out]; simp [rst, aI_nil])
        have SX := Lib.hid (slr_one wr .i64 x 3 _ rfl)
        have GX := Lib.hid (gb_alloc wr (.cells #[.int .i64 x] 3) none)
        go_wp2_with (at_builtin; refine npush_any rfl _ _ rfl w.heap.size (.slice b m d) out rfl (O.out.keep0 GX.out) _ _ _ [x] rfl SX.out (by have := OM.out; simp; omega) (Nat.le_trans G.out.size GX.out.size) ?_; intro V8 w8 o8 g8; have O8 := Lib.hid o8; have G8 := Lib.hid (gb_own (gb_trans G.out GX.out) (O.out.keep0 GX.out) (Nat.le_refl _) g8); clear o8 g8)
        obtain ⟨a8, c8, h8⟩ := O8.out.shape
        go_ret
        exact ⟨a8, c8, by rw [RN.out, h8] <;> rfl, by rw [RN.out, ← h8]; exact O8.out, G8.out⟩
end Go.Proofs.YtcicjodpkbcigaaGreat
