/- Cubeset: intersections. -/
import Derived.Test.YteemhabgliglmaaCsP
namespace Go.Proofs.Yteemhabgliglmaa
open Go.RowKit
set_option linter.unusedVariables false
set_option maxRecDepth 100000 in
set_option maxHeartbeats 4000000 in
theorem ints_any (w : World) (v m : Nat) (a : Option Addr) (n c : Nat) (L : List (Nat × Nat)) (h : SC w a n c L) (hn : n ≤ 10000) (hv : B64 v) (hm : B64 m) : Calls Try.prog 41 #[.agg #[.int .u64 v, .int .u64 m], .slice a n c] w (fun e w' => ∃ V, e = .returned V ∧ CLs w' w.heap.size V (rowI (v, m) L) ∧ w.grownBy w' none) := by
  obtain ⟨W, hW⟩ : ∃ W, W = w.alloc (.cells #[.int .u64 v, .int .u64 m] 49) := ⟨_, rfl⟩
  have HH := Lib.hid (show SC W a n c L by rw [hW]; exact h.keep0 (gb_alloc w _ none))
  have BW := Lib.hid (show IsB W w.heap.size 49 #[.int .u64 v, .int .u64 m] by rw [hW]; exact IsB.new w _ _)
  have GW := Lib.hid (show w.grownBy W none by rw [hW]; exact gb_alloc w _ none)
  have HL := Lib.hid h.len
  have HV := Lib.hid hv
  have HM := Lib.hid hm
  clear h hv hm
  go_enter Try.func41, Try.ntmps41
  go_wp2
  rw [← hW]
  clear hW
  go_loopw [5, 12] (fun o s wr => ∃ (j : Nat) (V : List (Nat × Nat)), j ≤ n ∧ s = .int .i64 j ∧ V = rowI (v, m) (L.take j) ∧ CLs wr W.heap.size o V ∧ W.grownBy wr none) (fun _ s _ => n - (intOf s).toNat)
  case atStart => exact ⟨0, [], Nat.zero_le _, rfl, rfl, CLs.nil _ _, gb_refl _ _⟩
  case round =>
    obtain ⟨j, V, hj, rfl, hV, ho, hg⟩ := hrel
    obtain ⟨va, vc, rfl⟩ := ho.shape
    have hvl : V.length ≤ 10000 := by
      rw [hV]
      have := rowI_len (v, m) (L.take j)
      rw [List.length_take] at this
      omega
    have HVV := Lib.hid hV
    have HO := Lib.hid ho
    have HG := Lib.hid hg
    clear hV ho hg
    by_cases hlt : j < n
    · obtain ⟨ad, rfl⟩ := HH.out.some (by omega)
      have i1 : (j : Int) < n := by omega
      have i0 : (0 : Int) ≤ (j : Int) := by omega
      obtain ⟨d0, d1⟩ := (HH.out.keep0 HG.out).cells ad rfl j hlt
      have G0 := gb_trans HG.out (gb_alloc wr (.cells #[.int .u64 (L.getD j (0, 0)).1, .int .u64 (L.getD j (0, 0)).2] 49) none)
      have c0 := (BW.out.keep0 G0).cell 0
      have c1 := (BW.out.keep0 G0).cell 1
      obtain ⟨b0, b1⟩ := HH.out.wfAt j hlt
      have SN := Lib.hid (rowI_snoc (v, m) L j (by rw [HL.out]; exact hlt))
      obtain ⟨q, hq⟩ : ∃ q, q = L.getD j (0, 0) := ⟨_, rfl⟩
      rw [← hq] at c0 c1 d0 d1 b0 b1 SN G0
      obtain ⟨qv, qm⟩ := q
      have IN := Lib.hid (fun w => int_any w v m qv qm HV.out HM.out b0 b1)
      unfold RetI at IN
      have SN2 := Lib.hid (show interN (v, m) (qv, qm) = if meetN v m qv qm = true then [(intV v m qv qm, intM v m qv qm)] else [] from rfl)
      generalize intV v m qv qm = iv at *
      generalize intM v m qv qm = im at *
      have HG0 := Lib.hid G0
      clear hq b0 b1 G0
      simp only [List.getElem?_toArray, List.getElem?_cons_zero, List.getElem?_cons_succ] at c0 c1
      cases hmt : meetN v m qv qm
      · rw [hmt] at IN
        have V2 := Lib.hid (show V = rowI (v, m) (L.take (j + 1)) by rw [SN.out, SN2.out, hmt, ← HVV.out]; simp)
        clear hmt SN SN2
        go_wp2_with fail
        refine (IN.out _).mono ?_
        rintro e w3 ⟨rfl, g3⟩
        have G3 := Lib.hid (gb_trans (gb_trans (gb_alloc wr _ none) g3) (gb_alloc w3 (.cells #[.int .u64 iv, .int .u64 im] 49) none))
        clear g3 c0 c1 d0 d1
        go_wp2
        go_roundw
        case rel => exact ⟨j + 1, V, by omega, by go_num, V2.out, HO.out.keep0 G3.out, gb_trans HG.out G3.out⟩
        case measure => simp [intOf]; omega
      · rw [hmt] at IN
        have V2 := Lib.hid (show V ++ [(iv, im)] = rowI (v, m) (L.take (j + 1)) by rw [SN.out, SN2.out, hmt, ← HVV.out]; rfl)
        clear hmt SN SN2
        go_wp2_with fail
        refine (IN.out _).mono ?_
        rintro e w3 ⟨rfl, g3⟩
        have G3 := Lib.hid (gb_trans (gb_trans (gb_trans (gb_alloc wr _ none) g3) (gb_alloc w3 (.cells #[.int .u64 iv, .int .u64 im] 49) none)) (gb_alloc _ (.cells #[.int .u64 iv, .int .u64 im] 49) none))
        have HG3 := Lib.hid (gb_trans HG.out G3.out)
        have O3 := Lib.hid (HO.out.keep0 G3.out)
        clear g3 c0 c1 d0 d1
        go_wp2_with (at_builtin; refine pushCube rfl _ _ rfl W.heap.size _ V rfl O3.out _ _ (iv, im) rfl (two_cell _ _ _ _ _ (isb_two _ _ _ _) rfl) (by omega) HG3.out.size ?_)
        intro V9 w9 o9 g9
        have O9 := Lib.hid o9
        have G9 := Lib.hid (gb_own HG3.out O3.out (Nat.le_refl _) g9)
        clear o9 g9
        go_wp2
        go_roundw
        case rel => exact ⟨j + 1, _, by omega, by go_num, V2.out, O9.out, G9.out⟩
        case measure => simp [intOf]; omega
    · have hje : j = n := by omega
      have R2 := Lib.hid (show V = rowI (v, m) L by rw [HVV.out, List.take_of_length_le (by rw [HL.out]; omega)])
      subst hje
      go_wp2
      go_ret
      exact ⟨_, rfl, by rw [← R2.out]; exact own_low HO.out GW.out.size, gb_trans GW.out HG.out⟩
end Go.Proofs.Yteemhabgliglmaa
