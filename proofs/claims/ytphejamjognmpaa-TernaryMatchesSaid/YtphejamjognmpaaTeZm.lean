/- Ternary: the walk of TernaryMatches. -/
import Derived.Test.YtphejamjognmpaaTeY
import Derived.Test.YtphejamjognmpaaTeL
import Derived.Deep.RegionHeld3
namespace Go.Proofs.Ytphejamjognmpaa
open Go.RowKit
set_option linter.unusedVariables false

theorem args_cells {w : World} {g : Nat} {t : TypeId} {a b c d e f : Value} (h : IsB w g t #[a, b, c, d, e, f]) : w.cell? ⟨g, 0, none⟩ = some a ∧ w.cell? ⟨g, 1, none⟩ = some b ∧ w.cell? ⟨g, 2, none⟩ = some c ∧ w.cell? ⟨g, 3, none⟩ = some d ∧ w.cell? ⟨g, 4, none⟩ = some e ∧ w.cell? ⟨g, 5, none⟩ = some f := ⟨h.cell 0, h.cell 1, h.cell 2, h.cell 3, h.cell 4, h.cell 5⟩
set_option maxRecDepth 100000 in
set_option maxHeartbeats 20000000 in
theorem matches_walk (a b c d n : Nat) (x : Int) (W : World) (ha : B64 a) (hb : B64 b) (hc : B64 c) (hd : B64 d) (hn : B64 n) (hx : (Lit.int .i64 x).wf = true) : Calls Try.prog 3 #[.agg #[.int .u64 a, .int .u64 b, .int .u64 c, .int .u64 d, .int .u64 n, .int .i64 x]] W (HoldsT W) := by
  have IN := Lib.hid (fun w => int_any w a b c d ha hb hc hd)
  have RN := Lib.hid (fun w => rint_any w a b c d ha hb hc hd)
  have FM := Lib.hid (fun w => fmt_any w a b x ha hb)
  have RF := Lib.hid (fun w => rfmt_any w a b x ha hb)
  have CK := Lib.hid (fun w => chk_any w a b x ha hb)
  have RK := Lib.hid (fun w => rchk_any w a b x ha hb)
  have CN := Lib.hid (fun w => contains_any w a b n ha hb hn)
  have RC := Lib.hid (fun w => rcontains_any w a b n ha hb hn)
  have SU := Lib.hid (fun w => subset_any w a b c d ha hb hc hd)
  have RU := Lib.hid (fun w => rsubset_any w a b c d ha hb hc hd)
  have SB := Lib.hid (fun w => psub_any w a b c d x ha hb hc hd)
  have RB := Lib.hid (fun w => rsub_any w a b c d x ha hb hc hd)
  have FR := Lib.hid (fun w => free_any w a b x ha hb)
  have RR := Lib.hid (fun w => rfree_any w a b x ha hb)
  have MI := Lib.hid (fun w => min_any w a b ha hb)
  have RM := Lib.hid (fun w => rmin_any w a b ha hb)
  have LL := Lib.hid (subL_len a b c d x)
  unfold RetI at IN RN
  unfold RetF at FM RF
  unfold RetV at CK RK CN RC SU RU FR RR MI RM
  generalize intV a b c d = v at *
  generalize intM a b c d = m at *
  generalize meetN a b c d = mt at *
  generalize strOf (fmtS a b x) = s at *
  generalize chkN a b x = er at *
  generalize hasN a b n = hs at *
  generalize subN a b c d = sb at *
  generalize subL a b c d x = D at *
  generalize freeN b x = fr at *
  generalize minN a b = mn at *
  have e1 : ((v : Int) == v) = true := by rw [beq_iff_eq]
  have e2 : ((m : Int) == m) = true := by rw [beq_iff_eq]
  have e3 : (er == er) = true := by rw [beq_iff_eq]
  have e4 : (s.toList == s.toList) = true := by rw [beq_iff_eq]
  have e5 : (fr == fr) = true := by rw [beq_iff_eq]
  have e6 : ((mn : Int) == mn) = true := by rw [beq_iff_eq]
  have e7 : (mt == mt) = true := by rw [beq_iff_eq]
  have e8 : (hs == hs) = true := by rw [beq_iff_eq]
  have e9 : (sb == sb) = true := by rw [beq_iff_eq]
  have HA := Lib.hid (IsB.new W 26 #[.int .u64 a, .int .u64 b, .int .u64 c, .int .u64 d, .int .u64 n, .int .i64 x])
  have G := Lib.hid (gb_alloc W (.cells #[.int .u64 a, .int .u64 b, .int .u64 c, .int .u64 d, .int .u64 n, .int .i64 x] 26) none)
  clear ha hb hc hd hn hx
  go_enter Try.func3, Try.ntmps3
  go_wp2_with fail
  generalize W.alloc (.cells #[.int .u64 a, .int .u64 b, .int .u64 c, .int .u64 d, .int .u64 n, .int .i64 x] 26) = w0 at *
  refine (IN.out _).mono ?_
  rintro e w1 ⟨rfl, g1⟩
  have HA := Lib.hid ((HA.out.keep0 g1).alloc (.cells #[.int .u64 v, .int .u64 m] 24))
  have HC := Lib.hid (IsB.new w1 24 #[.int .u64 v, .int .u64 m])
  have G := Lib.hid (gb_trans G.out (gb_trans g1 (gb_alloc w1 (.cells #[.int .u64 v, .int .u64 m] 24) none)))
  obtain ⟨a1, a2, a3, a4, a5, a6⟩ := args_cells HA.out
  clear g1
  go_wp2_with fail
  generalize w1.alloc (.cells #[.int .u64 v, .int .u64 m] 24) = w2 at *
  generalize w1.heap.size = pc at *
  refine (RN.out _).mono ?_
  rintro e w3 ⟨rfl, g3⟩
  have HA := Lib.hid ((HA.out.keep0 g3).alloc (.cells #[.int .u64 v, .int .u64 m] 24))
  have HC := Lib.hid ((HC.out.keep0 g3).alloc (.cells #[.int .u64 v, .int .u64 m] 24))
  have HD := Lib.hid (IsB.new w3 24 #[.int .u64 v, .int .u64 m])
  have G := Lib.hid (gb_trans G.out (gb_trans g3 (gb_alloc w3 (.cells #[.int .u64 v, .int .u64 m] 24) none)))
  clear g3 a1 a2 a3 a4 a5 a6
  obtain ⟨a1, a2, a3, a4, a5, a6⟩ := args_cells HA.out
  go_wp2_with fail
  generalize w3.alloc (.cells #[.int .u64 v, .int .u64 m] 24) = w4 at *
  generalize w3.heap.size = pd at *
  refine (FM.out _).mono ?_
  rintro e w5 ⟨rfl, g5⟩
  have HA := Lib.hid (HA.out.keep0 g5)
  have HC := Lib.hid (HC.out.keep0 g5)
  have HD := Lib.hid (HD.out.keep0 g5)
  have G := Lib.hid (gb_trans G.out g5)
  clear g5 a1 a2 a3 a4 a5 a6
  obtain ⟨a1, a2, a3, a4, a5, a6⟩ := args_cells HA.out
  go_wp2_with fail
  refine (RF.out _).mono ?_
  rintro e w6 ⟨rfl, g6⟩
  have HA := Lib.hid (HA.out.keep0 g6)
  have HC := Lib.hid (HC.out.keep0 g6)
  have HD := Lib.hid (HD.out.keep0 g6)
  have G := Lib.hid (gb_trans G.out g6)
  clear g6 a1 a2 a3 a4 a5 a6
  go_upto_region 5 with fail
  have KS := Lib.hid (fun (w' : World) (q : w6.grownBy w' none) => (⟨(HA.out.keep0 q).cell 0, (HA.out.keep0 q).cell 1, (HA.out.keep0 q).cell 2, (HA.out.keep0 q).cell 3, (HA.out.keep0 q).cell 4, (HA.out.keep0 q).cell 5, (HC.out.keep0 q).cell 0, (HC.out.keep0 q).cell 1, (HD.out.keep0 q).cell 0, (HD.out.keep0 q).cell 1, q⟩ : (fun w' => w'.cell? ⟨W.heap.size, 0, none⟩ = some (.int .u64 (a : Int)) ∧ w'.cell? ⟨W.heap.size, 1, none⟩ = some (.int .u64 (b : Int)) ∧ w'.cell? ⟨W.heap.size, 2, none⟩ = some (.int .u64 (c : Int)) ∧ w'.cell? ⟨W.heap.size, 3, none⟩ = some (.int .u64 (d : Int)) ∧ w'.cell? ⟨W.heap.size, 4, none⟩ = some (.int .u64 (n : Int)) ∧ w'.cell? ⟨W.heap.size, 5, none⟩ = some (.int .i64 (x : Int)) ∧ w'.cell? ⟨pc, 0, none⟩ = some (.int .u64 (v : Int)) ∧ w'.cell? ⟨pc, 1, none⟩ = some (.int .u64 (m : Int)) ∧ w'.cell? ⟨pd, 0, none⟩ = some (.int .u64 (v : Int)) ∧ w'.cell? ⟨pd, 1, none⟩ = some (.int .u64 (m : Int)) ∧ w6.grownBy w' none) w'))
  go_region_held3 (fun w' => w'.cell? ⟨W.heap.size, 0, none⟩ = some (.int .u64 (a : Int)) ∧ w'.cell? ⟨W.heap.size, 1, none⟩ = some (.int .u64 (b : Int)) ∧ w'.cell? ⟨W.heap.size, 2, none⟩ = some (.int .u64 (c : Int)) ∧ w'.cell? ⟨W.heap.size, 3, none⟩ = some (.int .u64 (d : Int)) ∧ w'.cell? ⟨W.heap.size, 4, none⟩ = some (.int .u64 (n : Int)) ∧ w'.cell? ⟨W.heap.size, 5, none⟩ = some (.int .i64 (x : Int)) ∧ w'.cell? ⟨pc, 0, none⟩ = some (.int .u64 (v : Int)) ∧ w'.cell? ⟨pc, 1, none⟩ = some (.int .u64 (m : Int)) ∧ w'.cell? ⟨pd, 0, none⟩ = some (.int .u64 (v : Int)) ∧ w'.cell? ⟨pd, 1, none⟩ = some (.int .u64 (m : Int)) ∧ w6.grownBy w' none)
    (first
      | assumption
      | exact KS.out _ (by repeat' first
                                | assumption
                                | exact (And.right (And.right (And.right (And.right (And.right (And.right (And.right (And.right (And.right (And.right (by assumption)))))))))))
                                | exact World.grownBy.refl _ _
                                | exact gb_drew _ _
                                | refine gb_trans ?_ (gb_drew _ _)
                                | refine gb_trans ?_ (by assumption)))
    (first
      | (go_at_call 12; refine (CK.out _).mono ?_; rintro e w' ⟨rfl, g⟩)
      | (go_at_call 13; refine (RK.out _).mono ?_; rintro e w' ⟨rfl, g⟩)
      | (go_at_call 14; refine (CN.out _).mono ?_; rintro e w' ⟨rfl, g⟩)
      | (go_at_call 15; refine (RC.out _).mono ?_; rintro e w' ⟨rfl, g⟩))
  have gS : w6.grownBy w' none := (And.right (And.right (And.right (And.right (And.right (And.right (And.right (And.right (And.right (And.right (by assumption)))))))))))
  have HA := Lib.hid (HA.out.keep0 gS)
  have G := Lib.hid (gb_trans G.out gS)
  clear gS KS HC HD
  go_upto_region 7 with fail
  generalize w' = w7 at *
  have KT := Lib.hid (fun (w' : World) (q : w7.grownBy w' none) => (⟨(HA.out.keep0 q).cell 0, (HA.out.keep0 q).cell 1, (HA.out.keep0 q).cell 2, (HA.out.keep0 q).cell 3, (HA.out.keep0 q).cell 4, (HA.out.keep0 q).cell 5, q⟩ : (fun w' => w'.cell? ⟨W.heap.size, 0, none⟩ = some (.int .u64 (a : Int)) ∧ w'.cell? ⟨W.heap.size, 1, none⟩ = some (.int .u64 (b : Int)) ∧ w'.cell? ⟨W.heap.size, 2, none⟩ = some (.int .u64 (c : Int)) ∧ w'.cell? ⟨W.heap.size, 3, none⟩ = some (.int .u64 (d : Int)) ∧ w'.cell? ⟨W.heap.size, 4, none⟩ = some (.int .u64 (n : Int)) ∧ w'.cell? ⟨W.heap.size, 5, none⟩ = some (.int .i64 (x : Int)) ∧ w7.grownBy w' none) w'))
  go_region_held3 (fun w' => w'.cell? ⟨W.heap.size, 0, none⟩ = some (.int .u64 (a : Int)) ∧ w'.cell? ⟨W.heap.size, 1, none⟩ = some (.int .u64 (b : Int)) ∧ w'.cell? ⟨W.heap.size, 2, none⟩ = some (.int .u64 (c : Int)) ∧ w'.cell? ⟨W.heap.size, 3, none⟩ = some (.int .u64 (d : Int)) ∧ w'.cell? ⟨W.heap.size, 4, none⟩ = some (.int .u64 (n : Int)) ∧ w'.cell? ⟨W.heap.size, 5, none⟩ = some (.int .i64 (x : Int)) ∧ w7.grownBy w' none)
    (first
      | assumption
      | exact KT.out _ (by repeat' first
                                | assumption
                                | exact (And.right (And.right (And.right (And.right (And.right (And.right (by assumption)))))))
                                | exact World.grownBy.refl _ _
                                | exact gb_drew _ _
                                | refine gb_trans ?_ (gb_drew _ _)
                                | refine gb_trans ?_ (by assumption)))
    (first
      | (go_at_call 16; refine (SU.out _).mono ?_; rintro e w' ⟨rfl, g⟩)
      | (go_at_call 17; refine (RU.out _).mono ?_; rintro e w' ⟨rfl, g⟩)
      | (go_at_call 19; refine (SB.out _).mono ?_; rintro e w' ⟨V1, rfl, o1, g⟩; have HO1 := Lib.hid o1; clear o1)
      | (go_at_call 20; refine (RB.out _).mono ?_; rintro e w' ⟨V2, rfl, o2, g⟩; have HO1 := Lib.hid (HO1.out.keep0 g); have HO2 := Lib.hid o2; clear o2)
      | (go_at_call 18; refine (eqc_any _ _ _ _ _ _ _ HO1.out HO2.out (by have := LL.out; omega) (by have := LL.out; omega)).mono ?_; unfold RetV; rw [decide_eq_true rfl]; rintro e w' ⟨rfl, g⟩)
      | (go_at_call 21; refine (FR.out _).mono ?_; rintro e w' ⟨rfl, g⟩)
      | (go_at_call 22; refine (RR.out _).mono ?_; rintro e w' ⟨rfl, g⟩)
      | (go_at_call 23; refine (MI.out _).mono ?_; rintro e w' ⟨rfl, g⟩)
      | (go_at_call 24; refine (RM.out _).mono ?_; rintro e w' ⟨rfl, g⟩)
      | (go_at_call 25; refine (awake_any _).mono ?_; rintro e w' ⟨rfl, g⟩))
  have gS : w7.grownBy w' none := (And.right (And.right (And.right (And.right (And.right (And.right (by assumption)))))))
  go_wp2
  go_ret
  exact ⟨rfl, below_of (gb_trans G.out gS)⟩
end Go.Proofs.Ytphejamjognmpaa
