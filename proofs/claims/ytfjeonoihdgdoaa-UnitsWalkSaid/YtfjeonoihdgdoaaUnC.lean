/- Units: Executes of both sides; the walks; no condition but the lists' sizes. -/
import Derived.Test.YtfjeonoihdgdoaaUnB
namespace Go.Proofs.Ytfjeonoihdgdoaa
open Go.RowKit
set_option linter.unusedVariables false
set_option maxRecDepth 100000 in
set_option maxHeartbeats 4000000 in
theorem uex_any (w : World) (ls : Sl) (L : List Un) (hL : SUn w ls L) (bs : Sl) (B : List Bool) (hB : SB w bs.a bs.n bs.c B) (i : Int) (hg : ∀ j, j < ls.n → (L.getD j uz).g.n ≤ 100000) :
    Calls Try.prog 29 #[.slice ls.a ls.n ls.c, .slice bs.a bs.n bs.c, .int .i64 i] w (RetV (.bool (exU L B i)) w) := by
  have hl := hL.len
  have IX := Lib.hid (fun w => isidx_any w i (ls.n : Int))
  have GA := Lib.hid (gb_alloc w (.cells #[.slice bs.a bs.n bs.c] 33) none)
  have BX := Lib.hid (IsB.new w 33 #[.slice bs.a bs.n bs.c])
  by_cases hin : 0 ≤ i ∧ i < (ls.n : Int)
  · obtain ⟨k, rfl⟩ : ∃ k : Nat, i = (k : Int) := ⟨i.toNat, by omega⟩
    have hk : k < ls.n := by omega
    rw [decide_eq_true hin] at IX
    have HL := Lib.hid (hL.keep0 GA.out)
    have HB := Lib.hid (hB.keep0 GA.out)
    have hg := hg k hk
    obtain ⟨ad, hsa⟩ := HL.out.some (by omega)
    obtain ⟨c0, c1, c2⟩ := HL.out.cells ad hsa k hk
    obtain ⟨m1, m2⟩ := HL.out.mem k hk
    have E := Lib.hid (show exU L B (k : Int) = !((L.getD k uz).G.any fun g => bitO B g.1 != g.2) by
      unfold exU okG
      rw [decide_eq_true (by omega), Int.toNat_natCast, Bool.true_and])
    generalize L.getD k uz = U at *
    obtain ⟨ut, uc, uN, ug, uG⟩ := U
    dsimp only [Sl.v] at c0 c1 c2 m1 m2 E hg
    have CF := Lib.hid (gcf_any (w.alloc (.cells #[.slice bs.a bs.n bs.c] 33)) ug uG m2 hg 61 #[.pointer (some ⟨w.heap.size, 0, none⟩)] (fun g => bitO B g.1 != g.2) (fun args w => by kernel_rfl)
      (fun u b W hu gW => fails_any W w.heap.size bs B ((BX.out.keep0 gW).cell 0) (HB.out.keep0 gW) u b))
    have i1 : (k : Int) < (ls.n : Int) := by omega
    obtain ⟨r, hr⟩ : ∃ r, r = uG.any fun g => bitO B g.1 != g.2 := ⟨_, rfl⟩
    rw [← hr] at CF E
    unfold RetV at CF
    clear hr hin hk hl m1 m2 hL hB hg
    rw [hsa]
    clear hsa
    go_enter Try.func29, Try.ntmps29
    go_wp2_with fail
    refine (IX.out _).mono ?_
    rintro e w3 ⟨rfl, rfl⟩
    go_wp2_with fail
    refine CF.out.mono ?_
    rintro e w4 ⟨rfl, g4⟩
    have G4 := Lib.hid (gb_trans GA.out g4)
    clear g4
    go_wp2
    go_ret
    exact ⟨ret_b E.out.symm, G4.out⟩
  · rw [decide_eq_false hin] at IX
    have E := Lib.hid (show exU L B i = false by unfold exU; rw [decide_eq_false (by rw [hl]; exact hin), Bool.false_and])
    clear hin hl hL hB hg
    go_enter Try.func29, Try.ntmps29
    go_wp2_with fail
    refine (IX.out _).mono ?_
    rintro e w3 ⟨rfl, rfl⟩
    go_wp2
    go_ret
    exact ⟨ret_b E.out.symm, GA.out⟩

set_option maxRecDepth 100000 in
set_option maxHeartbeats 4000000 in
theorem ruex_any (w : World) (ls : Sl) (L : List Un) (hL : SUn w ls L) (bs : Sl) (B : List Bool) (hB : SB w bs.a bs.n bs.c B) (i : Int) (hg : ∀ j, j < ls.n → (L.getD j uz).g.n ≤ 100000) :
    Calls Try.prog 30 #[.slice ls.a ls.n ls.c, .slice bs.a bs.n bs.c, .int .i64 i] w (RetV (.bool (exU L B i)) w) := by
  have hl := hL.len
  by_cases hin : 0 ≤ i ∧ i < (ls.n : Int)
  · obtain ⟨k, rfl⟩ : ∃ k : Nat, i = (k : Int) := ⟨i.toNat, by omega⟩
    have hk : k < ls.n := by omega
    have HL := Lib.hid hL
    have HB := Lib.hid hB
    have hg := hg k hk
    obtain ⟨ad, hsa⟩ := HL.out.some (by omega)
    have CC := Lib.hid (fun wz (gz : w.grownBy wz none) => (HL.out.keep0 gz).cells ad hsa k hk)
    have MM := Lib.hid (fun wz (gz : w.grownBy wz none) => ((HL.out.keep0 gz).mem k hk).2)
    have E := Lib.hid (show exU L B (k : Int) = !((L.getD k uz).G.any fun g => bitO B g.1 != g.2) by
      unfold exU okG
      rw [decide_eq_true (by omega), Int.toNat_natCast, Bool.true_and])
    generalize L.getD k uz = U at *
    obtain ⟨ut, uc, uN, ug, uG⟩ := U
    dsimp only [Sl.v] at CC MM E hg
    have i1 : (k : Int) < (ls.n : Int) := by omega
    have hbl := hB.len
    obtain ⟨ga, gn, gc⟩ := ug
    dsimp only [Sl.v] at CC MM hg
    rw [hsa]
    clear hin hk hl hL hB hsa
    go_enter Try.func30, Try.ntmps30
    go_wp2
    go_loopw [7] (fun q wr => ∃ j : Nat, j ≤ gn ∧ q = .int .i64 j ∧ (uG.take j).any (fun g => bitO B g.1 != g.2) = false ∧ w.grownBy wr none) (fun q _ => gn - (intOf q).toNat)
    case atStart => exact ⟨0, Nat.zero_le _, rfl, rfl, gb_refl _ _⟩
    case round =>
      obtain ⟨j, hj, rfl, ht, hgr⟩ := hrel
      have HT := Lib.hid ht
      have HG := Lib.hid hgr
      clear ht hgr
      obtain ⟨c0, c1, c2⟩ := CC.out wr HG.out
      by_cases hlt : j < gn
      · have i2 : (j : Int) < gn := by omega
        have SM := MM.out wr HG.out
        obtain ⟨ad2, hga⟩ := SM.some (by dsimp only; omega)
        dsimp only at hga
        subst hga
        obtain ⟨d0, d1⟩ := SM.cells ad2 rfl j hlt
        have hlG : j < uG.length := by rw [SM.len]; exact hlt
        have ST := Lib.hid (show (uG.take (j + 1)).any (fun g => bitO B g.1 != g.2) = ((uG.take j).any (fun g => bitO B g.1 != g.2) || (bitO B (uG.getD j (0, false)).1 != (uG.getD j (0, false)).2)) by rw [take_g uG j hlG]; rw [List.any_append]; simp)
        have YES := Lib.hid (show (bitO B (uG.getD j (0, false)).1 != (uG.getD j (0, false)).2) = true → uG.any (fun g => bitO B g.1 != g.2) = true from fun e => by
          rw [List.any_eq_true]
          exact ⟨uG.getD j (0, false), by rw [List.getD_eq_getElem?_getD, List.getElem?_eq_getElem hlG]; exact List.getElem_mem _, e⟩)
        generalize uG.getD j (0, false) = p at *
        obtain ⟨u, x⟩ := p
        dsimp only at d0 d1 ST YES
        have GA := Lib.hid (gb_trans HG.out (gb_alloc wr (.cells #[.int .i64 u, .bool x] 80) none))
        clear SM hlG
        by_cases hu : 0 ≤ u ∧ u < (bs.n : Int)
        · obtain ⟨v, rfl⟩ : ∃ v : Nat, u = (v : Int) := ⟨u.toNat, by omega⟩
          have hv : v < B.length := by omega
          obtain ⟨ad3, hba⟩ := HB.out.some (by omega)
          have c3 := (HB.out.keep0 GA.out).cells ad3 hba v (by omega)
          rw [bitO_in hv] at ST YES
          have i3 : (v : Int) < (bs.n : Int) := hu.2
          rw [hba]
          generalize B.getD v false = y at *
          clear hu hv hba
          cases hxy : (y != x)
          · have S2 := Lib.hid (show (uG.take (j + 1)).any (fun g => bitO B g.1 != g.2) = false by rw [ST.out, HT.out, hxy]; rfl)
            clear ST YES
            cases x <;> cases y <;> (first | (cases hxy; done) | (clear hxy; go_wp2; go_roundw; (case rel => exact ⟨j + 1, by omega, by go_num, S2.out, GA.out⟩); (case measure => simp [intOf]; omega)))
          · have R2 := Lib.hid (YES.out hxy)
            clear ST YES
            cases x <;> cases y <;> (first | (cases hxy; done) | (clear hxy; go_wp2; go_ret; exact ⟨by rw [E.out, R2.out]; rfl, GA.out⟩))
        · rw [bitO_out (by rw [hbl]; exact hu)] at ST YES
          cases x
          · have S2 := Lib.hid (show (uG.take (j + 1)).any (fun g => bitO B g.1 != g.2) = false by rw [ST.out, HT.out]; rfl)
            clear ST YES
            by_cases h0 : 0 ≤ u
            · have h1 : ¬ u < (bs.n : Int) := fun k => hu ⟨h0, k⟩
              clear hu
              go_wp2
              go_roundw
              case rel => exact ⟨j + 1, by omega, by go_num, S2.out, GA.out⟩
              case measure => simp [intOf]; omega
            · clear hu
              go_wp2
              go_roundw
              case rel => exact ⟨j + 1, by omega, by go_num, S2.out, GA.out⟩
              case measure => simp [intOf]; omega
          · have R2 := Lib.hid (YES.out rfl)
            clear ST YES
            by_cases h0 : 0 ≤ u
            · have h1 : ¬ u < (bs.n : Int) := fun k => hu ⟨h0, k⟩
              clear hu
              go_wp2
              go_ret
              exact ⟨by rw [E.out, R2.out]; rfl, GA.out⟩
            · clear hu
              go_wp2
              go_ret
              exact ⟨by rw [E.out, R2.out]; rfl, GA.out⟩
      · have hje : j = gn := by omega
        subst hje
        have R2 := Lib.hid (show uG.any (fun g => bitO B g.1 != g.2) = false by have := HT.out; rwa [List.take_of_length_le (by have := (MM.out wr HG.out).len; dsimp only at this; omega)] at this)
        go_wp2
        go_ret
        exact ⟨by rw [E.out, R2.out]; rfl, HG.out⟩
  · have E := Lib.hid (show exU L B i = false by unfold exU; rw [decide_eq_false (by rw [hl]; exact hin), Bool.false_and])
    by_cases h0 : i < 0
    · clear hin hl hL hB hg
      go_enter Try.func30, Try.ntmps30
      go_wp2
      go_ret
      exact ⟨ret_b E.out.symm, gb_refl _ _⟩
    · have h1 : (ls.n : Int) ≤ i := by omega
      clear hin hl hL hB hg
      go_enter Try.func30, Try.ntmps30
      go_wp2
      go_ret
      exact ⟨ret_b E.out.symm, gb_refl _ _⟩
end Go.Proofs.Ytfjeonoihdgdoaa
