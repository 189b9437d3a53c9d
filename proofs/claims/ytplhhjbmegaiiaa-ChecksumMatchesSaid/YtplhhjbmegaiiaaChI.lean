/- Laws on checksums and records: the walks of ChecksumCommutes and ChecksumReframes; no condition. -/
import Derived.Test.YtplhhjbmegaiiaaChH
namespace Go.Proofs.Ytplhhjbmegaiiaa
open Go.RowKit
set_option linter.unusedVariables false

set_option maxRecDepth 100000 in
set_option maxHeartbeats 2000000 in
theorem commutes_walk (a : Option Addr) (len cap : Nat) (z : List Int) (i j : Int) (W : World) (h : IsRow .u8 W a len cap z) (hi : (Lit.int .i64 i).wf = true) (hj : (Lit.int .i64 j).wf = true) :
    Calls Try.prog 14 #[.slice a len cap, .int .i64 i, .int .i64 j] W (Holds W) := by
  have A1 := Lib.hid (arg_of h)
  have hl := (arg_of h).len
  have hi := i64_bd hi
  have hj := i64_bd hj
  clear h
  generalize z.take len = bs at *
  subst hl
  by_cases hc : 4000 < bs.length
  · go_enter Try.func14, Try.ntmps14
    go_wp2_with fail
    refine (awake_any _).mono ?_
    rintro e w4 ⟨rfl, g4, _⟩
    go_wp2
    go_ret
    exact ⟨rfl, below_of g4⟩
  · by_cases h1 : i < 0
    · go_enter Try.func14, Try.ntmps14
      go_wp2_with fail
      refine (awake_any _).mono ?_
      rintro e w4 ⟨rfl, g4, _⟩
      go_wp2
      go_ret
      exact ⟨rfl, below_of g4⟩
    · by_cases h2 : j < 0
      · go_enter Try.func14, Try.ntmps14
        go_wp2_with fail
        refine (awake_any _).mono ?_
        rintro e w4 ⟨rfl, g4, _⟩
        go_wp2
        go_ret
        exact ⟨rfl, below_of g4⟩
      · by_cases h3 : (bs.length : Int) / 2 ≤ i
        · go_enter Try.func14, Try.ntmps14
          go_wp2_with fail
          refine (awake_any _).mono ?_
          rintro e w4 ⟨rfl, g4, _⟩
          go_wp2
          go_ret
          exact ⟨rfl, below_of g4⟩
        · by_cases h4 : (bs.length : Int) / 2 ≤ j
          · go_enter Try.func14, Try.ntmps14
            go_wp2_with fail
            refine (awake_any _).mono ?_
            rintro e w4 ⟨rfl, g4, _⟩
            go_wp2
            go_ret
            exact ⟨rfl, below_of g4⟩
          · have A0 := A1.out
            obtain ⟨i, rfl⟩ : ∃ i2 : Nat, i = i2 := ⟨i.toNat, by omega⟩
            obtain ⟨j, rfl⟩ : ∃ j2 : Nat, j = j2 := ⟨j.toNat, by omega⟩
            obtain ⟨p, hp⟩ : ∃ p : Nat, p = 2 * i := ⟨_, rfl⟩
            obtain ⟨q, hq⟩ : ∃ q : Nat, q = 2 * j := ⟨_, rfl⟩
            have ep : (2 : Int) * (i : Int) = (p : Int) := by omega
            have eq : (2 : Int) * (j : Int) = (q : Int) := by omega
            have HP := Lib.hid hp
            have HQ := Lib.hid hq
            have ip : (p : Int) < bs.length := by omega
            have iq : (q : Int) < bs.length := by omega
            have ip1 : (p : Int) + 1 < bs.length := by omega
            have iq1 : (q : Int) + 1 < bs.length := by omega
            have np : p + 1 < bs.length := by omega
            have nq : q + 1 < bs.length := by omega
            clear hp hq
            cases a with
            | none => exact absurd (A0.slr.2.1 rfl).1 (by omega)
            | some ad =>
              go_enter Try.func14, Try.ntmps14
              go_wp2_with fail
              refine (join_any W (some ad) none _ 0 cap 0 bs [] A1.out.slr (slr_nil _) (by omega) (by simp)).mono ?_
              rintro e w1 ⟨V1, rfl, o1, g1⟩
              rw [List.append_nil] at o1
              obtain ⟨g, c1, rfl⟩ := o1.headn (n := bs.length) rfl (by omega)
              have C1 := Lib.hid (show CW W g bs.length c1 bs w1 from ⟨o1, g1⟩)
              clear g1 o1 A0
              have xp := getD_byte A1.out.rng p
              have xq := getD_byte A1.out.rng q
              have xp1 := getD_byte A1.out.rng (p + 1)
              have xq1 := getD_byte A1.out.rng (q + 1)
              have SW := Lib.hid (show (((bs.set p (bs.getD q 0)).set (p + 1) (bs.getD (q + 1) 0)).set q (bs.getD p 0)).set (q + 1) (bs.getD (p + 1) 0) = swapW bs i j by rw [HP.out, HQ.out]; rfl)
              have HI := Lib.hid (inet_swap bs i j (by have := HP.out; omega) (by have := HQ.out; omega))
              have cell : ∀ w, W.grownBy w none → w.cell? (ad.add p) = some (.int .u8 (bs.getD p 0)) ∧ w.cell? (ad.add q) = some (.int .u8 (bs.getD q 0)) ∧ w.cell? ⟨ad.block, ad.off + (p + 1), none⟩ = some (.int .u8 (bs.getD (p + 1) 0)) ∧ w.cell? ⟨ad.block, ad.off + (q + 1), none⟩ = some (.int .u8 (bs.getD (q + 1) 0)) := by
                intro w k
                have s := A1.out.slr.keep0 k
                refine ⟨s.cellAt p (by omega), s.cellAt q (by omega), ?_, ?_⟩
                · rw [← Addr.add_succ']; exact s.cellAt (p + 1) (by omega)
                · rw [← Addr.add_succ']; exact s.cellAt (q + 1) (by omega)
              have CE := Lib.hid cell
              clear cell
              generalize bs.getD p 0 = x0 at *
              generalize bs.getD (p + 1) 0 = x1 at *
              generalize bs.getD q 0 = y0 at *
              generalize bs.getD (q + 1) 0 = y1 at *
              -- the four stores, one after the other
              obtain ⟨cp0, cq0, cp10, cq10⟩ := CE.out _ C1.out.2
              have f0 := C1.out.1.free rfl p
              have d0 := C1.out.1.at_ rfl p (by omega)
              have C2 := Lib.hid (C1.out.put rfl p y0)
              obtain ⟨cp1, cq1, cp11, cq11⟩ := CE.out _ C2.out.2
              have f1 := C2.out.1.free (by simp) (p + 1)
              have d1 := C2.out.1.at_ (by simp) (p + 1) (by simp; omega)
              have C3 := Lib.hid (C2.out.put (by simp) (p + 1) y1)
              obtain ⟨cp2, cq2, cp12, cq12⟩ := CE.out _ C3.out.2
              have f2 := C3.out.1.free (by simp) q
              have d2 := C3.out.1.at_ (by simp) q (by simp; omega)
              have C4 := Lib.hid (C3.out.put (by simp) q x0)
              obtain ⟨cp3, cq3, cp13, cq13⟩ := CE.out _ C4.out.2
              have f3 := C4.out.1.free (by simp) (q + 1)
              have d3 := C4.out.1.at_ (by simp) (q + 1) (by simp; omega)
              have C5 := Lib.hid (C4.out.put (by simp) (q + 1) x1)
              clear C1 C2 C3 C4
              go_wp2_with fail
              generalize (((w1.setCell ⟨g, p, none⟩ (.int .u8 y0)).setCell ⟨g, p + 1, none⟩ (.int .u8 y1)).setCell ⟨g, q, none⟩ (.int .u8 x0)).setCell ⟨g, q + 1, none⟩ (.int .u8 x1) = w5 at *
              clear cp0 cq0 cp10 cq10 f0 d0 cp1 cq1 cp11 cq11 f1 d1 cp2 cq2 cp12 cq12 f2 d2 cp3 cq3 cp13 cq13 f3 d3
              rw [SW.out] at C5
              have RN := Lib.hid (show ∀ x ∈ swapW bs i j, 0 ≤ x ∧ x ≤ 255 by
                rw [← SW.out]
                exact set_range (set_range (set_range (set_range A1.out.rng p y0 xq.1 xq.2) (p + 1) y1 xq1.1 xq1.2) q x0 xp.1 xp.2) (q + 1) x1 xp1.1 xp1.2)
              have LS := Lib.hid (show (swapW bs i j).length = bs.length by simp [swapW])
              have h2 := inet_any w5 _ _ c1 (swapW bs i j) (C5.out.1.slrn LS.out.symm) RN.out (by have := LS.out; omega)
              rw [HI.out] at h2
              have H2 := Lib.hid h2
              obtain ⟨c, hcv⟩ : ∃ c, c = inet bs := ⟨_, rfl⟩
              rw [← hcv] at H2
              have HC := Lib.hid hcv
              clear h2 hcv
              go_wp2_with fail
              refine H2.out.mono ?_
              rintro e w6 ⟨rfl, g6, _⟩
              have G6 := Lib.hid (gb_trans C5.out.2 g6)
              have h3 := inet_any w6 (some ad) _ cap bs (A1.out.slr.keep0 G6.out) A1.out.rng (by omega)
              rw [← HC.out] at h3
              have H3 := Lib.hid h3
              clear g6 C5 H2 h3
              go_wp2_with fail
              refine H3.out.mono ?_
              rintro e w7 ⟨rfl, g7, _⟩
              have G7 := Lib.hid (gb_trans G6.out g7)
              clear g7 G6 H3
              go_wp2_with fail
              refine (awake_any _).mono ?_
              rintro e w8 ⟨rfl, g8, _⟩
              have G8 := Lib.hid (gb_trans G7.out g8)
              clear g8
              go_wp2
              go_ret
              exact ⟨rfl, below_of G8.out⟩
end Go.Proofs.Ytplhhjbmegaiiaa
