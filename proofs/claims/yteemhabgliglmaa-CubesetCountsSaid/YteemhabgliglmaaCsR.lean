/- Cubeset: without. -/
import Derived.Test.YteemhabgliglmaaCsQ
import Derived.Test.YteemhabgliglmaaTeM
namespace Go.Proofs.Yteemhabgliglmaa
open Go.RowKit
set_option linter.unusedVariables false
set_option maxRecDepth 100000 in
set_option maxHeartbeats 4000000 in
theorem wx_any (w : World) (v m xv xm : Nat) (g : Nat) (hc : w.cell? ⟨g, 0, none⟩ = some (.int .u64 xv)) (hc1 : w.cell? ⟨g, 1, none⟩ = some (.int .u64 xm)) (hv : B64 v) (hm : B64 m) (hx : B64 xv) (hy : B64 xm) : Calls Try.prog 64 #[.agg #[.int .u64 v, .int .u64 m], .pointer (some ⟨g, 0, none⟩)] w (RetV (.bool (meetN v m xv xm)) w) := by
  have IN := Lib.hid (fun w => int_any w v m xv xm hv hm hx hy)
  unfold RetI at IN
  have G0 := gb_alloc w (.cells #[.int .u64 v, .int .u64 m] 49) none
  have c0 := G0.cell hc (by simp)
  have c1 := G0.cell hc1 (by simp)
  have HG0 := Lib.hid G0
  generalize meetN v m xv xm = mt at *
  clear G0 hc hc1
  go_enter Try.func64, Try.ntmps64
  go_wp2_with fail
  refine (IN.out _).mono ?_
  rintro e w3 ⟨rfl, g3⟩
  have G3 := Lib.hid (gb_trans (gb_trans HG0.out g3) (gb_alloc w3 (.cells #[.int .u64 (intV v m xv xm), .int .u64 (intM v m xv xm)] 49) none))
  clear g3 c0 c1
  go_wp2
  go_ret
  exact ⟨rfl, G3.out⟩
def wPart (k : Nat) (x p : Nat × Nat) : List (Nat × Nat) := if meetN p.1 p.2 x.1 x.2 = true then subL p.1 p.2 x.1 x.2 (k : Int) else [p]
/-- What without leaves of a list. -/
def wRow (k : Nat) (x : Nat × Nat) (L : List (Nat × Nat)) : List (Nat × Nat) := L.flatMap (wPart k x)
def wCut (k : Nat) (x p : Nat × Nat) : Bool := meetN p.1 p.2 x.1 x.2 && decide (0 < (subL p.1 p.2 x.1 x.2 (k : Int)).length)
/-- It leaves a part of one. -/
def wSplit (k : Nat) (x : Nat × Nat) (L : List (Nat × Nat)) : Bool := L.any (wCut k x)
theorem wPart_len (k : Nat) (x p : Nat × Nat) : (wPart k x p).length ≤ 64 := by
  unfold wPart; split
  · exact subL_len _ _ _ _ _
  · simp
theorem wRow_len (k : Nat) (x : Nat × Nat) (L : List (Nat × Nat)) : (wRow k x L).length ≤ 64 * L.length := by
  unfold wRow
  induction L with
  | nil => simp
  | cons p s ih => rw [List.flatMap_cons, List.length_append, List.length_cons]; have := wPart_len k x p; omega
theorem wRow_snoc (k : Nat) (x : Nat × Nat) (L : List (Nat × Nat)) (j : Nat) (h : j < L.length) : wRow k x (L.take (j + 1)) = wRow k x (L.take j) ++ wPart k x (L.getD j (0, 0)) := by
  unfold wRow
  rw [take_one L (0, 0) j h, List.flatMap_append]
  simp
theorem wSplit_snoc (k : Nat) (x : Nat × Nat) (L : List (Nat × Nat)) (j : Nat) (h : j < L.length) : wSplit k x (L.take (j + 1)) = (wSplit k x (L.take j) || wCut k x (L.getD j (0, 0))) := by
  unfold wSplit
  rw [take_one L (0, 0) j h, List.any_append]
  simp
def meetX (x p : Nat × Nat) : Bool := meetN p.1 p.2 x.1 x.2
def RetW (w : World) (k : Nat) (x : Nat × Nat) (a : Option Addr) (n c : Nat) (L : List (Nat × Nat)) (e : Ending) (w' : World) : Prop :=
  ∃ V sp, e = .returned (.tuple #[V, .bool sp]) ∧ ((L.any (meetX x) = false ∧ V = .slice a n c ∧ sp = false) ∨ (L.any (meetX x) = true ∧ sp = wSplit k x L ∧ CLs w' w.heap.size V (wRow k x L))) ∧ w.grownBy w' none
set_option maxRecDepth 100000 in
set_option maxHeartbeats 8000000 in
theorem wo_any (w : World) (xv xm k : Nat) (a : Option Addr) (n c : Nat) (L : List (Nat × Nat)) (h : SC w a n c L) (hn : n ≤ 10000) (hv : B64 xv) (hm : B64 xm) (k1 : 1 ≤ k) (k2 : k ≤ 64) : Calls Try.prog 44 #[.slice a n c, .agg #[.int .u64 xv, .int .u64 xm], .int .i64 k] w (RetW w k (xv, xm) a n c L) := by
  obtain ⟨W, hW⟩ : ∃ W, W = w.alloc (.cells #[.int .u64 xv, .int .u64 xm] 49) := ⟨_, rfl⟩
  have h2 : SC W a n c L := by rw [hW]; exact h.keep0 (gb_alloc w _ none)
  have HH := Lib.hid h2
  have bw : IsB W w.heap.size 49 #[.int .u64 xv, .int .u64 xm] := by rw [hW]; exact IsB.new w _ _
  have BW := Lib.hid bw
  have GW := Lib.hid (show w.grownBy W none by rw [hW]; exact gb_alloc w _ none)
  have HL := Lib.hid h.len
  have K1 := Lib.hid k1
  have K2 := Lib.hid k2
  have HXW := Lib.hid (show B64 (xv, xm).1 ∧ B64 (xv, xm).2 from ⟨hv, hm⟩)
  have WX := Lib.hid (fun v m W2 (b0 : B64 v) (b1 : B64 m) (g : W.grownBy W2 none) => wx_any W2 v m xv xm w.heap.size ((bw.keep0 g).cell 0) ((bw.keep0 g).cell 1) b0 b1 hv hm)
  have CF := Lib.hid (cf_any W a n c L h2 (by omega) 64 #[.pointer (some ⟨w.heap.size, 0, none⟩)] (meetX (xv, xm)) (fun args w => by rfl) (fun v m W2 b0 b1 g => WX.out v m W2 b0 b1 g))
  have SU := Lib.hid (fun w v m (b0 : B64 v) (b1 : B64 m) => psub_any w v m xv xm (k : Int) b0 b1 hv hm)
  clear h h2 bw hv hm k1 k2
  go_enter Try.func44, Try.ntmps44
  go_wp2_with fail
  rw [← hW]
  clear hW
  refine CF.out.mono ?_
  rintro e w1 ⟨rfl, g1⟩
  have G1 := Lib.hid g1
  clear g1
  cases hany : L.any (meetX (xv, xm))
  · have HA := Lib.hid hany
    clear hany
    go_wp2
    go_ret2
    exact ⟨_, _, rfl, .inl ⟨HA.out, rfl, rfl⟩, gb_trans GW.out G1.out⟩
  · have HA := Lib.hid hany
    clear hany
    go_wp2
    go_loopw [6, 7, 20] (fun o o7 s wr => ∃ (j : Nat) (V : List (Nat × Nat)) (sp : Bool), j ≤ n ∧ s = .int .i64 j ∧ o7 = .bool sp ∧ sp = wSplit k (xv, xm) (L.take j) ∧ V = wRow k (xv, xm) (L.take j) ∧ CLs wr W.heap.size o V ∧ W.grownBy wr none) (fun _ _ s _ => n - (intOf s).toNat)
    case atStart => exact ⟨0, [], false, Nat.zero_le _, rfl, rfl, rfl, rfl, CLs.nil _ _, G1.out⟩
    case round =>
      obtain ⟨j, V, sp, hj, rfl, rfl, hsp, hV, ho, hg⟩ := hrel
      obtain ⟨va, vc, rfl⟩ := ho.shape
      have hvl : V.length ≤ 640000 := by
        rw [hV]
        have := wRow_len k (xv, xm) (L.take j)
        rw [List.length_take] at this
        omega
      have HSP := Lib.hid hsp
      have HVV := Lib.hid hV
      have HO := Lib.hid ho
      have HG := Lib.hid hg
      clear hsp hV ho hg
      by_cases hlt : j < n
      · obtain ⟨ad, rfl⟩ := HH.out.some (by omega)
        have i1 : (j : Int) < n := by omega
        have i0 : (0 : Int) ≤ (j : Int) := by omega
        obtain ⟨d0, d1⟩ := (HH.out.keep0 HG.out).cells ad rfl j hlt
        obtain ⟨b0, b1⟩ := HH.out.wfAt j hlt
        have SN := Lib.hid (wRow_snoc k (xv, xm) L j (by rw [HL.out]; exact hlt))
        have SS := Lib.hid (wSplit_snoc k (xv, xm) L j (by rw [HL.out]; exact hlt))
        obtain ⟨q, hq⟩ : ∃ q, q = L.getD j (0, 0) := ⟨_, rfl⟩
        rw [← hq] at d0 d1 b0 b1 SN SS
        obtain ⟨qv, qm⟩ := q
        have HG0 := Lib.hid (gb_trans HG.out (gb_alloc wr (.cells #[.int .u64 qv, .int .u64 qm] 49) none))
        have WC := Lib.hid (WX.out qv qm _ b0 b1 HG0.out)
        unfold RetV at WC
        have SB := Lib.hid (fun w => SU.out w qv qm b0 b1)
        unfold RetC at SB
        have P1 := Lib.hid (show wPart k (xv, xm) (qv, qm) = if meetN qv qm xv xm = true then subL qv qm xv xm (k : Int) else [(qv, qm)] from rfl)
        have P2 := Lib.hid (show wCut k (xv, xm) (qv, qm) = (meetN qv qm xv xm && decide (0 < (subL qv qm xv xm (k : Int)).length)) from rfl)
        have WFD := Lib.hid (show ∀ x ∈ subL qv qm xv xm (k : Int), B64 x.1 ∧ B64 x.2 from fun x hx => rowS_wf k K1.out K2.out (xv, xm) [(qv, qm)] HXW.out (by simp only [List.mem_singleton]; rintro p rfl; exact ⟨b0, b1⟩) x (by simpa [rowS] using hx))
        have hsl := subL_len qv qm xv xm (k : Int)
        generalize subL qv qm xv xm (k : Int) = D at *
        have QB := Lib.hid (show IsB (wr.alloc (.cells #[.int .u64 qv, .int .u64 qm] 49)) wr.heap.size 49 #[.int .u64 qv, .int .u64 qm] from IsB.new wr _ _)
        have HB0 := Lib.hid b0
        have HB1 := Lib.hid b1
        clear hq b0 b1
        cases hmt : meetN qv qm xv xm
        · rw [hmt] at WC
          have V2 := Lib.hid (show V ++ [(qv, qm)] = wRow k (xv, xm) (L.take (j + 1)) by rw [SN.out, P1.out, hmt, ← HVV.out]; rfl)
          have S2 := Lib.hid (show sp = wSplit k (xv, xm) (L.take (j + 1)) by rw [SS.out, P2.out, hmt, ← HSP.out]; simp)
          clear hmt SN SS P1 P2
          go_wp2_with fail
          refine WC.out.mono ?_
          rintro e w3 ⟨rfl, g3⟩
          have e0 := (QB.out.keep0 g3).cell 0
          have e1 := (QB.out.keep0 g3).cell 1
          simp only [List.getElem?_toArray, List.getElem?_cons_zero, List.getElem?_cons_succ] at e0 e1
          have HG3 := Lib.hid (gb_trans HG0.out (gb_trans g3 (gb_alloc w3 (.cells #[.int .u64 qv, .int .u64 qm] 49) none)))
          have O3 := Lib.hid (HO.out.keep0 (gb_trans (gb_alloc wr _ none) (gb_trans g3 (gb_alloc w3 (.cells #[.int .u64 qv, .int .u64 qm] 49) none))))
          clear g3 d0 d1
          go_wp2_with (at_builtin; refine pushCube rfl _ _ rfl W.heap.size _ V rfl O3.out _ _ (qv, qm) rfl (two_cell _ _ _ _ _ (IsB.new _ _ _) rfl) (by omega) HG3.out.size ?_)
          intro V9 w9 o9 g9
          have O9 := Lib.hid o9
          have G9 := Lib.hid (gb_own HG3.out O3.out (Nat.le_refl _) g9)
          clear o9 g9 e0 e1
          go_wp2
          go_roundw
          case rel => exact ⟨j + 1, _, sp, by omega, by go_num, rfl, S2.out, V2.out, O9.out, G9.out⟩
          case measure => simp [intOf]; omega
        · rw [hmt] at WC
          have V2 := Lib.hid (show V ++ D = wRow k (xv, xm) (L.take (j + 1)) by rw [SN.out, P1.out, hmt, ← HVV.out]; rfl)
          have S2 := Lib.hid (show (sp || decide (0 < D.length)) = wSplit k (xv, xm) (L.take (j + 1)) by rw [SS.out, P2.out, hmt, ← HSP.out]; simp)
          clear hmt SN SS P1 P2
          go_wp2_with fail
          refine WC.out.mono ?_
          rintro e w3 ⟨rfl, g3⟩
          have e0 := (QB.out.keep0 g3).cell 0
          have e1 := (QB.out.keep0 g3).cell 1
          have HG3 := Lib.hid (gb_trans HG0.out g3)
          have f0 := (BW.out.keep0 HG3.out).cell 0
          have f1 := (BW.out.keep0 HG3.out).cell 1
          simp only [List.getElem?_toArray, List.getElem?_cons_zero, List.getElem?_cons_succ] at e0 e1 f0 f1
          have O3 := Lib.hid (HO.out.keep0 (gb_trans (gb_alloc wr _ none) g3))
          clear g3 d0 d1
          go_wp2_with fail
          refine (SB.out _).mono ?_
          rintro e w4 ⟨VD, rfl, od, gd⟩
          obtain ⟨sa, sc, rfl⟩ := od.shape
          have SD := Lib.hid (sc_own od WFD.out)
          have HG4 := Lib.hid (gb_trans HG3.out gd)
          have O4 := Lib.hid (O3.out.keep0 gd)
          clear od gd e0 e1 f0 f1
          go_wp2_with (at_builtin; refine pushAll rfl _ _ rfl W.heap.size _ V rfl O4.out sa _ sc D rfl SD.out (by omega) HG4.out.size ?_)
          intro V9 w9 o9 g9
          have O9 := Lib.hid o9
          have G9 := Lib.hid (gb_own HG4.out O4.out (Nat.le_refl _) g9)
          clear o9 g9
          cases hsq : sp
          · rw [hsq] at S2
            clear hsq
            by_cases hd : 0 < D.length
            · have i4 : (0 : Int) < D.length := by omega
              rw [decide_eq_true hd] at S2
              go_wp2
              go_roundw
              case rel => exact ⟨j + 1, _, true, by omega, by go_num, rfl, S2.out, V2.out, O9.out, G9.out⟩
              case measure => simp [intOf]; omega
            · have i4 : ¬ (0 : Int) < D.length := by omega
              rw [decide_eq_false hd] at S2
              go_wp2
              go_roundw
              case rel => exact ⟨j + 1, _, false, by omega, by go_num, rfl, S2.out, V2.out, O9.out, G9.out⟩
              case measure => simp [intOf]; omega
          · rw [hsq] at S2
            clear hsq
            go_wp2
            go_roundw
            case rel => exact ⟨j + 1, _, true, by omega, by go_num, rfl, S2.out, V2.out, O9.out, G9.out⟩
            case measure => simp [intOf]; omega
      · have hje : j = n := by omega
        have R2 := Lib.hid (show V = wRow k (xv, xm) L by rw [HVV.out, List.take_of_length_le (by rw [HL.out]; omega)])
        have R3 := Lib.hid (show sp = wSplit k (xv, xm) L by rw [HSP.out, List.take_of_length_le (by rw [HL.out]; omega)])
        subst hje
        go_wp2
        go_ret2
        exact ⟨_, _, rfl, .inr ⟨HA.out, R3.out, by rw [← R2.out]; exact own_low HO.out GW.out.size⟩, gb_trans GW.out HG.out⟩
end Go.Proofs.Yteemhabgliglmaa
