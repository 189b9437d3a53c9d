/- The texts TgK, UoA in one; no condition. -/
import Derived.Test.YtfjeonoihdgdoaaMge
import Derived.Test.YtfjeonoihdgdoaaExJ
section
/- Table: where a table lies; no condition. -/
namespace Go.Proofs.Ytfjeonoihdgdoaa.Tb
open Go.RowKit
set_option linter.unusedVariables false
structure TX where
  (ka ca ra : Option Addr)
  (kn kc cn cc rn rc : Nat)
structure TST (w : World) (Y : TX) (tb : Tbl) : Prop where
  k : SKy w Y.ka Y.kn Y.kc tb.ks
  c : SI w Y.ca Y.cn Y.cc tb.acs
  r : SU w Y.ra Y.rn Y.rc tb.ar
  d : -9223372036854775808 ≤ tb.da ∧ tb.da ≤ 9223372036854775807
theorem TST.keep0 {w w2 : World} {Y : TX} {tb : Tbl} (h : TST w Y tb) (k : w.grownBy w2 none) : TST w2 Y tb := ⟨h.k.keep0SKy k, h.c.keep0 k, h.r.keep0 k, h.d⟩
theorem next_all {p : Nat → Prop} {j : Nat} (b : ∀ i, i < j → p i) (h : p j) : ∀ i, i < j + 1 → p i := fun i hi => by
  rcases (show i < j ∨ i = j by omega) with r | rfl
  · exact b i r
  · exact h
theorem SP.tab {w : World} {X : PX} {P : Pg} (h : SP w X P) {k : Nat} (hk : k < X.tn) {tad : Addr} (ht : X.ta = some tad) : ∃ Y : TX, TST w Y (P.T.getD k tbz) ∧ w.cell? (tad.add (k * 6)) = some (.string (P.T.getD k tbz).nm) ∧ w.cell? ⟨(tad.add (k * 6)).block, (tad.add (k * 6)).off + 1, none⟩ = some (.slice Y.ka Y.kn Y.kc) ∧ w.cell? ⟨(tad.add (k * 6)).block, (tad.add (k * 6)).off + 2, none⟩ = some (.slice Y.ca Y.cn Y.cc) ∧ w.cell? ⟨(tad.add (k * 6)).block, (tad.add (k * 6)).off + 3, none⟩ = some (.int .i64 (P.T.getD k tbz).da) ∧ w.cell? ⟨(tad.add (k * 6)).block, (tad.add (k * 6)).off + 4, none⟩ = some (.slice Y.ra Y.rn Y.rc) ∧ w.cell? ⟨(tad.add (k * 6)).block, (tad.add (k * 6)).off + 5, none⟩ = some (.int .i64 (P.T.getD k tbz).sz) := by
  obtain ⟨h0, ⟨ka, kn, kc, h1, s1⟩, ⟨ca, cn, cq, h2, s2⟩, h3, ⟨ra, rn, rc, h4, s4⟩, h5⟩ := h.t.cells tad ht k hk
  exact ⟨⟨ka, ca, ra, kn, kc, cn, cq, rn, rc⟩, ⟨s1, s2, s4, h3.2⟩, h0, h1, h2, h3.1, h4, h5⟩
def RetB (Q : Prop) (w : World) (e : Ending) (w' : World) : Prop := ∃ b : Bool, e = .returned (.bool b) ∧ w.grownBy w' none ∧ (b = true → Q)
end Go.Proofs.Ytfjeonoihdgdoaa.Tb
end
section
/- What patchbaylaw16 calls a small program; no condition. -/
namespace Go.Proofs.Ytfjeonoihdgdoaa.Tb
open Go.RowKit
set_option linter.unusedVariables false
set_option maxRecDepth 100000 in
set_option maxHeartbeats 40000000 in
theorem small16_any (w : World) (X : PX) (P : Pg) (hp : SP w X P) : Calls Try.prog 51 #[.agg #[.string X.nm, .slice X.ha X.hn X.hc, .slice X.ma X.mn X.mc, .slice X.ra X.rn X.rc, .slice X.aa X.an X.ac, .slice X.ta X.tn X.tc, .slice X.sa X.sn X.sc, .slice X.ca X.cn X.cc, .slice X.da X.dn X.dc]] w (RetB True w) := by
  have HP := Lib.hid hp
  have GZ := Lib.hid (gb_alloc w (.cells #[.string X.nm, .slice X.ha X.hn X.hc, .slice X.ma X.mn X.mc, .slice X.ra X.rn X.rc, .slice X.aa X.an X.ac, .slice X.ta X.tn X.tc, .slice X.sa X.sn X.sc, .slice X.ca X.cn X.cc, .slice X.da X.dn X.dc] 31) none)
  have B1 := IsB.new w 31 #[.string X.nm, .slice X.ha X.hn X.hc, .slice X.ma X.mn X.mc, .slice X.ra X.rn X.rc, .slice X.aa X.an X.ac, .slice X.ta X.tn X.tc, .slice X.sa X.sn X.sc, .slice X.ca X.cn X.cc, .slice X.da X.dn X.dc]
  clear hp
  go_enter Try.func51, Try.ntmps51
  go_upto_region 1 with fail
  generalize w.alloc (.cells #[.string X.nm, .slice X.ha X.hn X.hc, .slice X.ma X.mn X.mc, .slice X.ra X.rn X.rc, .slice X.aa X.an X.ac, .slice X.ta X.tn X.tc, .slice X.sa X.sn X.sc, .slice X.ca X.cn X.cc, .slice X.da X.dn X.dc] 31) = w2 at *
  obtain ⟨bx, hbx⟩ : ∃ b, b = w.heap.size := ⟨_, rfl⟩
  rw [← hbx] at B1 ⊢
  clear hbx
  replace HP := Lib.hid (HP.out.keep0 GZ.out)
  have c1 := B1.cell 1
  have c2 := B1.cell 2
  have c3 := B1.cell 3
  have c4 := B1.cell 4
  clear B1
  dsimp at c1 c2 c3 c4
  by_cases n1 : (20 : Int) < X.hn
  · go_wp2
    go_ret
    exact ⟨false, rfl, GZ.out, fun h => by cases h⟩
  by_cases n2 : (30 : Int) < X.mn
  · go_wp2
    go_ret
    exact ⟨false, rfl, GZ.out, fun h => by cases h⟩
  by_cases n3 : (20 : Int) < X.rn
  · go_wp2
    go_ret
    exact ⟨false, rfl, GZ.out, fun h => by cases h⟩
  by_cases n4 : (40 : Int) < X.an
  · go_wp2
    go_ret
    exact ⟨false, rfl, GZ.out, fun h => by cases h⟩
  go_wp2
  go_loopw [3] (fun s wr => ∃ k : Nat, k ≤ X.an ∧ s = .int .i64 k ∧ wr = w2) (fun s _ => X.an - (intOf s).toNat)
  case atStart => exact ⟨0, Nat.zero_le _, rfl, rfl⟩
  case round =>
    obtain ⟨k, hk, rfl, rfl⟩ := hrel
    by_cases hlt : k < X.an
    · obtain ⟨ad, ha⟩ := HP.out.a.some (by omega)
      obtain ⟨a0, ⟨pa, pn, pc, a1, sf⟩, ⟨ba, bn, bc, a2, sb⟩⟩ := HP.out.a.cells ad ha k hlt
      rw [ha] at c4
      have i1 : (k : Int) < X.an := by omega
      have BN := Lib.hid sb
      clear sf a0
      by_cases q1 : (20 : Int) < pn
      · go_wp2
        go_ret
        exact ⟨false, rfl, GZ.out, fun h => by cases h⟩
      by_cases q2 : (30 : Int) < bn
      · go_wp2
        go_ret
        exact ⟨false, rfl, GZ.out, fun h => by cases h⟩
      clear sb
      go_wp2
      go_loopw [4] (fun s wq => ∃ j : Nat, j ≤ bn ∧ s = .int .i64 j ∧ wq = wr) (fun s _ => bn - (intOf s).toNat)
      case atStart => exact ⟨0, Nat.zero_le _, rfl, rfl⟩
      case round =>
        obtain ⟨j, hj, rfl, rfl⟩ := hrel
        by_cases hjt : j < bn
        · obtain ⟨bd, hb⟩ := BN.out.some (by omega)
          obtain ⟨_, _, _, _, _, ⟨xa, xn, xc, b5, _⟩, ⟨va, vn, vc, b6, _⟩⟩ := BN.out.cells bd hb j hjt
          rw [hb] at a2
          have i2 : (j : Int) < bn := by omega
          by_cases q3 : (60 : Int) < xn
          · go_wp2
            go_ret
            exact ⟨false, rfl, GZ.out, fun h => by cases h⟩
          by_cases q4 : (60 : Int) < vn
          · go_wp2
            go_ret
            exact ⟨false, rfl, GZ.out, fun h => by cases h⟩
          go_wp2
          go_roundw
          case rel => exact ⟨j + 1, by omega, by go_num, trivial⟩
          case measure => simp [intOf]; omega
        · have i2 : ¬ (j : Int) < bn := by omega
          clear a1
          go_wp2
          go_roundw
          case rel => first | exact ⟨k + 1, by omega, by go_num, trivial⟩ | exact ⟨k + 1, by omega, by go_num⟩
          case measure => simp [intOf]; omega
    · have i1 : ¬ (k : Int) < X.an := by omega
      go_wp2
      go_loopw [5] (fun s wq => ∃ j : Nat, j ≤ X.hn ∧ s = .int .i64 j ∧ wq = wr) (fun s _ => X.hn - (intOf s).toNat)
      case atStart => exact ⟨0, Nat.zero_le _, rfl, rfl⟩
      case round =>
        obtain ⟨j, hj, rfl, rfl⟩ := hrel
        by_cases hjt : j < X.hn
        · obtain ⟨bd, hb⟩ := HP.out.h.some (by omega)
          obtain ⟨_, fa, fn, fc, b1, _⟩ := HP.out.h.cells bd hb j hjt
          rw [hb] at c1
          have i2 : (j : Int) < X.hn := by omega
          by_cases q3 : (40 : Int) < fn
          · go_wp2
            go_ret
            exact ⟨false, rfl, GZ.out, fun h => by cases h⟩
          go_wp2
          go_roundw
          case rel => exact ⟨j + 1, by omega, by go_num, trivial⟩
          case measure => simp [intOf]; omega
        · have i2 : ¬ (j : Int) < X.hn := by omega
          go_wp2
          go_loopw [6] (fun s wx => ∃ j : Nat, j ≤ X.rn ∧ s = .int .i64 j ∧ wx = wr) (fun s _ => X.rn - (intOf s).toNat)
          case atStart => exact ⟨0, Nat.zero_le _, rfl, rfl⟩
          case round =>
            obtain ⟨r, hr, rfl, rfl⟩ := hrel
            by_cases hrt : r < X.rn
            · obtain ⟨bd, hb⟩ := HP.out.r.some (by omega)
              obtain ⟨_, _, r2⟩ := HP.out.r.cells bd hb r hrt
              rw [hb] at c3
              have i3 : (r : Int) < X.rn := by omega
              generalize (P.R.getD r rgz).sz = z at *
              by_cases q3 : (200 : Int) < z
              · go_wp2
                go_ret
                exact ⟨false, rfl, GZ.out, fun h => by cases h⟩
              go_wp2
              go_roundw
              case rel => exact ⟨r + 1, by omega, by go_num, trivial⟩
              case measure => simp [intOf]; omega
            · have i3 : ¬ (r : Int) < X.rn := by omega
              go_wp2
              go_ret
              exact ⟨true, rfl, GZ.out, fun _ => trivial⟩
end Go.Proofs.Ytfjeonoihdgdoaa.Tb
end
