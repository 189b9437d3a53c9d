/- Cubeset: the law Queries. -/
import Derived.Test.YtnilcpmnjlcpnaaCtJ
import Derived.Test.YtnilcpmnjlcpnaaCsL
namespace Go.Proofs.Ytnilcpmnjlcpnaa
open Go.RowKit
set_option linter.unusedVariables false
set_option maxRecDepth 100000 in
set_option maxHeartbeats 20000000 in
theorem queries_walk (w : World) (a b : Option Addr) (n c m d : Nat) (x y : Int) (L M : List (Nat × Nat)) (h : SC w a n c L) (g : SC w b m d M) : Calls Try.prog 4 #[.slice a n c, .slice b m d, .agg #[.int .i64 x, .int .i64 y]] w (RetV (.bool true) w) := by
  have HA := Lib.hid h
  have HB := Lib.hid g
  have WK := Lib.hid (fun w => works_any w)
  unfold RetV at WK
  have SM := Lib.hid (fun w => small_any w a b n c m d)
  unfold RetS at SM
  obtain ⟨yn, ey⟩ : ∃ yn : Nat, IntKind.u64.wrap y = (yn : Int) := ⟨(IntKind.u64.wrap y).toNat, by rw [IntKind.wrap_u64]; omega⟩
  have HY := Lib.hid (show B64 yn by rw [IntKind.wrap_u64] at ey; unfold B64; omega)
  have c0 := (IsB.new w 32 #[.int .i64 x, .int .i64 y])
  have BX := Lib.hid c0
  have G0 := Lib.hid (gb_alloc w (.cells #[.int .i64 x, .int .i64 y] 32) none)
  clear h g c0
  obtain ⟨w0, hw0⟩ : ∃ w0, w0 = w.alloc (.cells #[.int .i64 x, .int .i64 y] 32) := ⟨_, rfl⟩
  rw [← hw0] at BX G0
  have k0 := BX.out.cell 0
  have k1 := BX.out.cell 1
  simp at k0 k1
  go_enter Try.func4, Try.ntmps4
  by_cases hsm : n ≤ 10 ∧ m ≤ 8
  case neg =>
    rw [show (decide (n ≤ 10) && decide (m ≤ 8)) = false by
      by_cases h1 : n ≤ 10
      · rw [decide_eq_false (show ¬ m ≤ 8 from fun h2 => hsm ⟨h1, h2⟩), Bool.and_false]
      · rw [decide_eq_false h1, Bool.false_and]] at SM
    clear hsm
    go_upto_region 1 with fail
    rw [← hw0]
    clear hw0
    go_wp2_with fail
    refine (SM.out _).mono ?_
    rintro e w1 ⟨rfl, rfl⟩
    go_wp2_with fail
    refine (WK.out _).mono ?_
    rintro e w2 ⟨rfl, g2⟩
    have G2 := gb_trans G0.out g2
    go_wp2
    go_ret
    exact ⟨rfl, G2⟩
  rw [show (decide (n ≤ 10) && decide (m ≤ 8)) = true by rw [decide_eq_true hsm.1, decide_eq_true hsm.2]; rfl] at SM
  have N1 := Lib.hid hsm.1
  have N2 := Lib.hid hsm.2
  clear hsm
  go_upto_region 1 with fail
  rw [← hw0]
  clear hw0
  go_wp2_with fail
  refine (SM.out _).mono ?_
  rintro e w9 ⟨rfl, rfl⟩
  have F1 := Lib.hid (fun (w2 : World) (k : w.grownBy w2 none) => pssub_any w2 a b n c m d x L M (HA.out.keep0 k) (HB.out.keep0 k) (by have := N1.out; omega) (by have := N2.out; omega))
  have F2 := Lib.hid (fun (w2 : World) (k : w.grownBy w2 none) => rssub_any w2 a b n c m d x L M (HA.out.keep0 k) (HB.out.keep0 k) (by have := N1.out; omega) (by have := N2.out; omega))
  have F3 := Lib.hid (fun (w2 : World) (k : w.grownBy w2 none) => cont_any w2 a n c L yn (HA.out.keep0 k) (by have := N1.out; omega) HY.out)
  have F4 := Lib.hid (fun (w2 : World) (k : w.grownBy w2 none) => rcont_any w2 a n c L yn (HA.out.keep0 k) (by have := N1.out; omega) HY.out)
  have F5 := Lib.hid (fun (w2 : World) (k : w.grownBy w2 none) => peq_any w2 a b n c m d x L M (HA.out.keep0 k) (HB.out.keep0 k) (by have := N1.out; omega) (by have := N2.out; omega))
  have F6 := Lib.hid (fun (w2 : World) (k : w.grownBy w2 none) => req_any w2 a b n c m d x L M (HA.out.keep0 k) (HB.out.keep0 k) (by have := N1.out; omega) (by have := N2.out; omega))
  have F7 := Lib.hid (fun (w2 : World) (k : w.grownBy w2 none) => pcount_any w2 a n c x L (HA.out.keep0 k) (by have := N1.out; omega))
  have F8 := Lib.hid (fun (w2 : World) (k : w.grownBy w2 none) => rcount_any w2 a n c x L (HA.out.keep0 k) (by have := N1.out; omega))
  have F9 := Lib.hid (fun (w2 : World) (k : w.grownBy w2 none) => minS_any w2 a n c L (HA.out.keep0 k) (by have := N1.out; omega))
  have F10 := Lib.hid (fun (w2 : World) (k : w.grownBy w2 none) => rminS_any w2 a n c L (HA.out.keep0 k) (by have := N1.out; omega))
  unfold RetBE at F1 F2 F5 F6
  unfold RetV at F3 F4
  unfold RetCnt at F7 F8
  unfold RetIB at F9 F10
  generalize subB x L M = sb at *
  generalize (subsX x L M).2 = se at *
  generalize anyN L yn = an at *
  generalize eqB x L M = qb at *
  generalize eqE x L M = qe at *
  generalize (pcL x L).1 = cn at *
  generalize (pcL x L).2 = ce at *
  obtain ⟨mi, hmi⟩ : ∃ mi : Int, mi = (if n = 0 then (0 : Int) else ((minI L (n - 1) : Nat) : Int)) := ⟨_, rfl⟩
  rw [← hmi] at F9 F10
  clear hmi
  generalize decide (n ≠ 0) = mb at *
  have GA0 := G0
  go_wp2_with fail
  refine (F1.out _ GA0.out).mono ?_
  rintro e v1 ⟨rfl, g1⟩
  have GA1 := Lib.hid (gb_trans GA0.out g1)
  clear g1
  go_wp2_with fail
  refine (F2.out _ GA1.out).mono ?_
  rintro e v2 ⟨rfl, g2⟩
  have GA2 := Lib.hid (gb_trans GA1.out g2)
  clear g2
  go_wp2_with fail
  refine (F3.out _ GA2.out).mono ?_
  rintro e v3 ⟨rfl, g3⟩
  have GA3 := Lib.hid (gb_trans GA2.out g3)
  clear g3
  go_wp2_with fail
  refine (F4.out _ GA3.out).mono ?_
  rintro e v4 ⟨rfl, g4⟩
  have GA4 := Lib.hid (gb_trans GA3.out g4)
  clear g4
  go_wp2_with fail
  refine (F5.out _ GA4.out).mono ?_
  rintro e v5 ⟨rfl, g5⟩
  have GA5 := Lib.hid (gb_trans GA4.out g5)
  clear g5
  go_wp2_with fail
  refine (F6.out _ GA5.out).mono ?_
  rintro e v6 ⟨rfl, g6⟩
  have GA6 := Lib.hid (gb_trans GA5.out g6)
  clear g6
  go_wp2_with fail
  refine (F7.out _ GA6.out).mono ?_
  rintro e v7 ⟨rfl, g7⟩
  have GA7 := Lib.hid (gb_trans GA6.out g7)
  clear g7
  go_wp2_with fail
  refine (F8.out _ GA7.out).mono ?_
  rintro e v8 ⟨rfl, g8⟩
  have GA8 := Lib.hid (gb_trans GA7.out g8)
  clear g8
  go_wp2_with fail
  refine (F9.out _ GA8.out).mono ?_
  rintro e v9 ⟨rfl, g9⟩
  have GA9 := Lib.hid (gb_trans GA8.out g9)
  clear g9
  go_wp2_with fail
  refine (F10.out _ GA9.out).mono ?_
  rintro e v10 ⟨rfl, g10⟩
  have GA10 := Lib.hid (gb_trans GA9.out g10)
  clear g10
  go_wp2_with fail
  refine (WK.out _).mono ?_
  rintro e v99 ⟨rfl, g99⟩
  have G99 := Lib.hid (gb_trans GA10.out g99)
  clear g99
  go_wp2
  go_ret
  exact ⟨rfl, G99.out⟩
theorem queries_law (a b : Option Addr) (n c m d : Nat) (L M : List (Nat × Nat)) (x y : Int) (W : World) (h : SC W a n c L) (g : SC W b m d M) : Calls Try.prog 4 #[.slice a n c, .slice b m d, .agg #[.int .i64 x, .int .i64 y]] W (fun e w' => e = .returned (.bool true) ∧ Below W.heap.size W w') := by
  refine (queries_walk W a b n c m d x y L M h g).mono ?_
  rintro e w' ⟨rfl, g⟩
  exact ⟨rfl, (gr_gb g).below⟩
end Go.Proofs.Ytnilcpmnjlcpnaa
