/- Table: the law TableChecks; no condition. -/
import Derived.Test.YtaiemcpkiegdiaaTbP
namespace Go.Proofs.Ytaiemcpkiegdiaa
open Go.RowKit
set_option linter.unusedVariables false
theorem low_of {W W' : World} {b : Bool} {e : Ending} (h : RetV (.bool true) W e W') : e = .returned (.bool true) ∧ Below W.heap.size W W' := ⟨h.1, (gr_gb h.2).below⟩
set_option maxRecDepth 100000 in
set_option maxHeartbeats 4000000 in
theorem checks_walk (w : World) (X : PX) (P : Pg) (hp : SP w X P) (t : Int) : Calls Try.prog 3 #[.agg #[.string X.nm, .slice X.ha X.hn X.hc, .slice X.ma X.mn X.mc, .slice X.ra X.rn X.rc, .slice X.aa X.an X.ac, .slice X.ta X.tn X.tc, .slice X.sa X.sn X.sc, .slice X.ca X.cn X.cc, .slice X.da X.dn X.dc], .int .i64 t] w (RetV (.bool true) w) := by
  have S0 := Lib.hid hp
  have G1 := Lib.hid (gb_alloc w (.cells #[.string X.nm, .slice X.ha X.hn X.hc, .slice X.ma X.mn X.mc, .slice X.ra X.rn X.rc, .slice X.aa X.an X.ac, .slice X.ta X.tn X.tc, .slice X.sa X.sn X.sc, .slice X.ca X.cn X.cc, .slice X.da X.dn X.dc] 31) none)
  have BP := IsB.new w 31 #[.string X.nm, .slice X.ha X.hn X.hc, .slice X.ma X.mn X.mc, .slice X.ra X.rn X.rc, .slice X.aa X.an X.ac, .slice X.ta X.tn X.tc, .slice X.sa X.sn X.sc, .slice X.ca X.cn X.cc, .slice X.da X.dn X.dc]
  replace BP := Lib.hid BP
  clear hp
  go_enter Try.func3, Try.ntmps3
  go_upto_region 1 with fail
  generalize w.alloc (.cells #[.string X.nm, .slice X.ha X.hn X.hc, .slice X.ma X.mn X.mc, .slice X.ra X.rn X.rc, .slice X.aa X.an X.ac, .slice X.ta X.tn X.tc, .slice X.sa X.sn X.sc, .slice X.ca X.cn X.cc, .slice X.da X.dn X.dc] 31) = w1 at *
  obtain ⟨bx, hbx⟩ : ∃ b, b = w.heap.size := ⟨_, rfl⟩
  have Lbx := Lib.hid (show w.heap.size ≤ bx by rw [hbx]; exact Nat.le_refl _)
  rw [← hbx] at BP ⊢
  clear hbx
  clear Lbx
  replace S0 := Lib.hid (fun (W : World) (k : w1.grownBy W none) => S0.out.keep0 (gb_trans G1.out k))
  have c0 := (BP.out.keep0 (gb_refl _ _)).cell 0
  have c1 := (BP.out.keep0 (gb_refl _ _)).cell 1
  have c2 := (BP.out.keep0 (gb_refl _ _)).cell 2
  have c3 := (BP.out.keep0 (gb_refl _ _)).cell 3
  have c4 := (BP.out.keep0 (gb_refl _ _)).cell 4
  have c5 := (BP.out.keep0 (gb_refl _ _)).cell 5
  have c6 := (BP.out.keep0 (gb_refl _ _)).cell 6
  have c7 := (BP.out.keep0 (gb_refl _ _)).cell 7
  have c8 := (BP.out.keep0 (gb_refl _ _)).cell 8
  dsimp at c0 c1 c2 c3 c4 c5 c6 c7 c8
  go_wp2_with fail
  refine (small_any w1 X P (S0.out _ (gb_refl _ _))).mono ?_
  rintro e w2 ⟨b, rfl, g, hq⟩
  have G2 := Lib.hid g
  have HQ := Lib.hid hq
  clear g hq
  clear c0 c1 c2 c3 c4 c5 c6 c7 c8
  cases b
  · go_wp2_with fail
    refine (works_any _).mono ?_
    rintro e w3 ⟨rfl, g⟩
    have G3 := Lib.hid (gb_trans (gb_trans G1.out G2.out) g)
    clear g
    go_wp2
    go_ret
    exact ⟨rfl, G3.out⟩
  · have Z := Lib.hid (HQ.out rfl).sz
    have c0 := (BP.out.keep0 G2.out).cell 0
    have c1 := (BP.out.keep0 G2.out).cell 1
    have c2 := (BP.out.keep0 G2.out).cell 2
    have c3 := (BP.out.keep0 G2.out).cell 3
    have c4 := (BP.out.keep0 G2.out).cell 4
    have c5 := (BP.out.keep0 G2.out).cell 5
    have c6 := (BP.out.keep0 G2.out).cell 6
    have c7 := (BP.out.keep0 G2.out).cell 7
    have c8 := (BP.out.keep0 G2.out).cell 8
    dsimp at c0 c1 c2 c3 c4 c5 c6 c7 c8
    go_wp2_with fail
    refine (pchk_any w2 X P (S0.out _ G2.out) Z.out t).mono ?_
    rintro e w3 ⟨rfl, g⟩
    have G3 := Lib.hid (gb_trans G2.out g)
    clear g
    clear c0 c1 c2 c3 c4 c5 c6 c7 c8
    have RC := Lib.hid (rchk17_any w3 X P (S0.out _ G3.out) Z.out t)
    generalize (chkT P t).1 = r1 at *
    generalize (chkT P t).2 = r2 at *
    have c0 := (BP.out.keep0 G3.out).cell 0
    have c1 := (BP.out.keep0 G3.out).cell 1
    have c2 := (BP.out.keep0 G3.out).cell 2
    have c3 := (BP.out.keep0 G3.out).cell 3
    have c4 := (BP.out.keep0 G3.out).cell 4
    have c5 := (BP.out.keep0 G3.out).cell 5
    have c6 := (BP.out.keep0 G3.out).cell 6
    have c7 := (BP.out.keep0 G3.out).cell 7
    have c8 := (BP.out.keep0 G3.out).cell 8
    dsimp at c0 c1 c2 c3 c4 c5 c6 c7 c8
    go_wp2_with fail
    refine RC.out.mono ?_
    rintro e w4 ⟨rfl, g⟩
    have G4 := Lib.hid (gb_trans G3.out g)
    clear g RC
    clear c0 c1 c2 c3 c4 c5 c6 c7 c8
    have x1 : (r1 == r1) = true := by simp
    have x2 : (r2 == r2) = true := by simp
    go_wp2_with fail
    refine (works_any _).mono ?_
    rintro e w5 ⟨rfl, g⟩
    have G5 := Lib.hid (gb_trans (gb_trans G1.out G4.out) g)
    clear g
    go_wp2
    go_ret
    exact ⟨rfl, G5.out⟩
end Go.Proofs.Ytaiemcpkiegdiaa
