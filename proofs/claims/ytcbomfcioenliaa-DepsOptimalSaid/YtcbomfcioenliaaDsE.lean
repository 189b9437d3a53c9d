/- The earliest stages: the program's walk and the reference's; no condition but the matrix's size. -/
import Derived.Test.YtcbomfcioenliaaDsD
import Derived.BigRegion
import Derived.WalkMore
namespace Go.Proofs.Ytcbomfcioenliaa
open Go.RowKit
set_option linter.unusedVariables false

/-- A row of the call's own at block b, and the world beside it only grew. -/
def NW (W : World) (base b n : Nat) (L : List Int) (w : World) : Prop := NL w base (.slice (some ⟨b, 0, none⟩) n n) L ∧ L.length = n ∧ W.grownBy w none
theorem NW.put {W w : World} {base b n : Nat} {L : List Int} (h : NW W base b n L w) (hb : W.heap.size ≤ base) (p : Nat) (v : Int) : NW W base b n (L.set p v) (w.setCell ⟨b, p, none⟩ (.int .i64 v)) :=
  ⟨h.1.put h.2.1.symm p v, by simp [h.2.1], gb_new (gb_trans (gb_any h.2.2) (gb_set w b p _)) (Nat.le_trans hb h.1.low)⟩
theorem NW.at_ {W w : World} {base b n : Nat} {L : List Int} (h : NW W base b n L w) (p : Nat) (hp : p < n) : w.cell? ⟨b, p, none⟩ = some (.int .i64 (L.getD p 0)) := h.1.at_ h.2.1.symm p (by rw [h.2.1]; exact hp)
theorem NW.free {W w : World} {base b n : Nat} {L : List Int} (h : NW W base b n L w) (p : Nat) : w.frozen? ⟨b, p, none⟩ = false := h.1.free h.2.1.symm p
theorem NW.ret {W w : World} {base b n : Nat} {L M : List Int} (h : NW W base b n L w) (e : L = M) : RetN base M W (.returned (.slice (some ⟨b, 0, none⟩) n n)) w := by subst e; exact ⟨_, rfl, h.1, h.2.2⟩
theorem NW.keep0 {W w w2 : World} {base b n : Nat} {L : List Int} (h : NW W base b n L w) (k : w.grownBy w2 none) : NW W base b n L w2 := ⟨h.1.keep0 k, h.2.1, gb_trans h.2.2 k⟩
theorem NW.is {W w : World} {base b n : Nat} {L M : List Int} (h : NW W base b n L w) (e : L = M) : NW W base b n M w := e ▸ h

set_option maxRecDepth 100000 in
set_option maxHeartbeats 2000000 in
theorem early_any (w : World) (a : Option Addr) (n c : Nat) (g : List (List Int)) (h : SlG w a n c g) (hn : n ≤ 1000) :
    Calls Try.prog 9 #[.slice a n c] w (RetN w.heap.size (stL g) w) := by
  obtain ⟨i0, hi, hz0, hz1, hz2⟩ := info_parts infoI64
  have HI := Lib.hid hi
  have HH := Lib.hid h
  have hl := h.1
  clear hi h
  subst hl
  go_enter Try.func9, Try.ntmps9
  go_wp2_with (at_make; refine wpList_make_full _ rfl _ _ 23 rfl w.heap.size 3 i0 (.int .i64 0) 1 Try.underlying23 HI.out hz0 hz1 .i64 .i64 _ _ g.length rfl rfl ?c1 ?c2 ?c3 ?c4 ?c5 ?_)
  case c1 => first | rfl | omega
  case c2 => first | rfl | omega
  case c3 => rw [hz2]; omega
  case c4 => unfold maxLen; omega
  case c5 => simp
  intro w2 hown hg
  have N1 := Lib.hid (show NW w w.heap.size w.heap.size g.length (tab g.length (st g 0)) w2 by
    refine ⟨?_, tab_len _ _, hg⟩
    unfold NL
    rw [tab_len, pm_start, List.map_replicate, ← made_zero]
    first | exact hown | simpa using hown)
  clear hown hg
  go_wp2_with fail
  go_loopw [12] (fun s wr => ∃ i : Nat, i ≤ g.length ∧ s = .int .i64 i ∧ NW w w.heap.size w.heap.size g.length (tab g.length (st g i)) wr) (fun s _ => g.length - (intOf s).toNat)
  case atStart => exact ⟨0, Nat.zero_le _, rfl, N1.out⟩
  case round =>
    obtain ⟨i, hi, rfl, q1⟩ := hrel
    clear N1
    have N1 := Lib.hid (q1.is (pm_zero g i).symm)
    have N1e := Lib.hid q1
    have HH3 := Lib.hid (HH.out.keep0 q1.2.2)
    clear q1
    by_cases hlt : i < g.length
    · have i1 : (i : Int) < g.length := by omega
      cases a with
      | none => exact absurd (HH.out.2.1 rfl).1 (by omega)
      | some ad =>
        obtain ⟨A, C, c1, r1, l1⟩ := HH3.out.row i hlt
        obtain ⟨m, hmm⟩ : ∃ m, m = (g.getD i []).length := ⟨_, rfl⟩
        rw [← hmm] at c1 l1
        have HM := Lib.hid hmm
        clear r1 hmm N1e HH3
        go_wp2
        go_step3
        go_wp2
        go_step3
        go_wp2
        go_loopw [20] (fun s wr => ∃ j : Nat, j ≤ m ∧ s = .int .i64 j ∧ NW w w.heap.size w.heap.size g.length (pm g i j) wr) (fun s _ => m - (intOf s).toNat)
        case atStart => exact ⟨0, Nat.zero_le _, rfl, N1.out⟩
        case round =>
          obtain ⟨j, hj, rfl, q1⟩ := hrel
          clear N1
          have N1 := Lib.hid q1
          have HH3 := Lib.hid (HH.out.keep0 q1.2.2)
          clear q1
          by_cases hjt : j < m
          · have i2 : (j : Int) < m := by omega
            have c2 := N1.out.at_ i hlt
            rw [pm_own hlt] at c2
            have D := Lib.hid (dep_any _ (some ad) g.length c g i j HH3.out hlt (by rw [← HM.out]; exact hjt))
            have RG := st_range g i i
            rcases dp_vals g i j with e | e | e
            · have NX := Lib.hid (N1.out.is (pm_skip e).symm)
              rw [e] at D
              clear e RG
              generalize st g i i = z at *
              go_wp2_with fail
              refine D.out.mono ?_
              rintro e w3 ⟨rfl, q3⟩
              have NX := Lib.hid (NX.out.keep0 (dn_gb q3 none))
              clear q3
              go_wp2
              go_roundw
              case rel => exact ⟨j + 1, by omega, by go_num, NX.out⟩
              case measure => simp [intOf]; omega
            · have hj2 := (dp_lt (g := g) (i := i) (j := j) (by omega)).2
              have i3 : (j : Int) < g.length := by omega
              have c3 := N1.out.at_ j hj2
              rw [pm_at hj2] at c3
              have f3 := N1.out.free j
              have RG2 := st_range g i j
              have HS := Lib.hid (st_same e)
              rw [e] at D
              clear e
              have PS := Lib.hid (fun x (hx : st g (i + 1) j = x) => pm_set (g := g) (i := i) (j := j) x hx)
              rw [HS.out] at PS
              clear HS
              generalize st g i i = z at *
              generalize st g i j = y at *
              go_wp2_with fail
              refine D.out.mono ?_
              rintro e w3 ⟨rfl, q3⟩
              have NX := Lib.hid (N1.out.keep0 (dn_gb q3 none))
              have c3 := (dn_gb q3 none).cell c3 (by simp)
              have f3 := NX.out.free j
              have NY := Lib.hid (((NX.out.put (Nat.le_refl _) j (max y z))).is (PS.out _ rfl))
              clear q3
              go_wp2
              go_roundw
              case rel => exact ⟨j + 1, by omega, by go_num, by rw [show (if y < z then z else y) = max y z by split <;> omega]; exact NY.out⟩
              case measure => simp [intOf]; omega
            · have hj2 := (dp_lt (g := g) (i := i) (j := j) (by omega)).2
              have i3 : (j : Int) < g.length := by omega
              have c3 := N1.out.at_ j hj2
              rw [pm_at hj2] at c3
              have f3 := N1.out.free j
              have RG2 := st_range g i j
              have HS := Lib.hid (st_later e)
              rw [e] at D
              clear e
              have PS := Lib.hid (fun x (hx : st g (i + 1) j = x) => pm_set (g := g) (i := i) (j := j) x hx)
              rw [HS.out] at PS
              clear HS
              generalize st g i i = z at *
              generalize st g i j = y at *
              go_wp2_with fail
              refine D.out.mono ?_
              rintro e w3 ⟨rfl, q3⟩
              have NX := Lib.hid (N1.out.keep0 (dn_gb q3 none))
              have c3 := (dn_gb q3 none).cell c3 (by simp)
              have f3 := NX.out.free j
              have NY := Lib.hid (((NX.out.put (Nat.le_refl _) j (max y (z + 1)))).is (PS.out _ rfl))
              clear q3
              go_wp2
              go_roundw
              case rel => exact ⟨j + 1, by omega, by go_num, by rw [show (if y < z + 1 then z + 1 else y) = max y (z + 1) by split <;> omega]; exact NY.out⟩
              case measure => simp [intOf]; omega
          · have hje : j = m := by omega
            subst hje
            have NX := Lib.hid (N1.out.is (show pm g i j = tab g.length (st g (i + 1)) by rw [HM.out]; exact pm_full g i))
            clear N1
            go_wp2
            rw [Exit.noGoto_normal]
            go_wp2
            go_roundw
            case rel => exact ⟨i + 1, by omega, by go_num, NX.out⟩
            case measure => simp [intOf]; omega
    · have hie : i = g.length := by omega
      subst hie
      go_wp2
      go_ret
      exact N1e.out.ret (pm_end g)

set_option maxRecDepth 100000 in
set_option maxHeartbeats 2000000 in
theorem rearly_any (w : World) (a : Option Addr) (n c : Nat) (g : List (List Int)) (h : SlG w a n c g) (hn : n ≤ 1000) :
    Calls Try.prog 10 #[.slice a n c] w (RetN w.heap.size (stL g) w) := by
  obtain ⟨i0, hi, hz0, hz1, hz2⟩ := info_parts infoI64
  have HI := Lib.hid hi
  have HH := Lib.hid h
  have hl := h.1
  clear hi h
  subst hl
  go_enter Try.func10, Try.ntmps10
  go_wp2_with (at_make; refine wpList_make_full _ rfl _ _ 23 rfl w.heap.size 3 i0 (.int .i64 0) 1 Try.underlying23 HI.out hz0 hz1 .i64 .i64 _ _ g.length rfl rfl ?c1 ?c2 ?c3 ?c4 ?c5 ?_)
  case c1 => first | rfl | omega
  case c2 => first | rfl | omega
  case c3 => rw [hz2]; omega
  case c4 => unfold maxLen; omega
  case c5 => simp
  intro w2 hown hg
  have N1 := Lib.hid (show NW w w.heap.size w.heap.size g.length (rl g 0 0) w2 by
    refine ⟨?_, rl_len _ _ _, hg⟩
    unfold NL
    rw [rl_len, rl_start, List.map_replicate, ← made_zero]
    first | exact hown | simpa using hown)
  clear hown hg
  go_wp2_with fail
  go_loopw [4] (fun s wr => ∃ j : Nat, j ≤ g.length ∧ s = .int .i64 j ∧ NW w w.heap.size w.heap.size g.length (rl g j 0) wr) (fun s _ => g.length - (intOf s).toNat)
  case atStart => exact ⟨0, Nat.zero_le _, rfl, N1.out⟩
  case round =>
    obtain ⟨j, hj, rfl, q1⟩ := hrel
    clear N1
    have N1 := Lib.hid q1
    clear q1
    by_cases hlt : j < g.length
    · have i1 : (j : Int) < g.length := by omega
      go_wp2
      go_loopw [5] (fun s wr => ∃ i : Nat, i ≤ j ∧ s = .int .i64 i ∧ NW w w.heap.size w.heap.size g.length (rl g j i) wr) (fun s _ => j - (intOf s).toNat)
      case atStart => exact ⟨0, Nat.zero_le _, rfl, N1.out⟩
      case round =>
        obtain ⟨i, hi, rfl, q1⟩ := hrel
        clear N1
        have N1 := Lib.hid q1
        have HH3 := Lib.hid (HH.out.keep0 q1.2.2)
        clear q1
        by_cases hit : i < j
        · have i2 : (i : Int) < j := by omega
          have i3 : (i : Int) < g.length := by omega
          have D := Lib.hid (at_any _ a g.length c g i j HH3.out (by omega) hlt)
          have RG := st_range g i i
          have RG2 := st_range g i j
          rcases dp_vals g i j with e | e | e
          · have NX := Lib.hid (N1.out.is (rl_skip e).symm)
            rw [e] at D
            clear e RG RG2
            go_wp2_with fail
            refine D.out.mono ?_
            rintro e w3 ⟨rfl, q3⟩
            have NX := Lib.hid (NX.out.keep0 (dn_gb q3 none))
            clear q3
            go_wp2
            go_roundw
            case rel => exact ⟨i + 1, by omega, by go_num, NX.out⟩
            case measure => simp [intOf]; omega
          · have c2 := N1.out.at_ i (by omega)
            rw [rl_own hit hlt] at c2
            have c3 := N1.out.at_ j hlt
            rw [rl_at hlt] at c3
            have HS := Lib.hid (st_same e)
            rw [e] at D
            clear e
            have PS := Lib.hid (fun x (hx : st g (i + 1) j = x) => rl_set (g := g) (i := i) (j := j) x hx)
            rw [HS.out] at PS
            clear HS
            generalize st g i i = z at *
            generalize st g i j = y at *
            go_wp2_with fail
            refine D.out.mono ?_
            rintro e w3 ⟨rfl, q3⟩
            have NX := Lib.hid (N1.out.keep0 (dn_gb q3 none))
            have c3 := (dn_gb q3 none).cell c3 (by simp)
            have c2 := (dn_gb q3 none).cell c2 (by simp)
            have f3 := NX.out.free j
            have NY := Lib.hid (((NX.out.put (Nat.le_refl _) j (max y z))).is (PS.out _ rfl))
            clear q3
            go_wp2
            go_region
            have e1 : (if y < z then z else y) = max y z := by split <;> omega
            rw [e1]
            have NY := Lib.hid (NY.out.keep0 (gb_drew _ none))
            clear e1
            generalize max y z = mz at *
            go_wp2
            go_roundw
            case rel => exact ⟨i + 1, by omega, by go_num, NY.out⟩
            case measure => simp [intOf]; omega
          · have c2 := N1.out.at_ i (by omega)
            rw [rl_own hit hlt] at c2
            have c3 := N1.out.at_ j hlt
            rw [rl_at hlt] at c3
            have HS := Lib.hid (st_later e)
            rw [e] at D
            clear e
            have PS := Lib.hid (fun x (hx : st g (i + 1) j = x) => rl_set (g := g) (i := i) (j := j) x hx)
            rw [HS.out] at PS
            clear HS
            generalize st g i i = z at *
            generalize st g i j = y at *
            go_wp2_with fail
            refine D.out.mono ?_
            rintro e w3 ⟨rfl, q3⟩
            have NX := Lib.hid (N1.out.keep0 (dn_gb q3 none))
            have c3 := (dn_gb q3 none).cell c3 (by simp)
            have c2 := (dn_gb q3 none).cell c2 (by simp)
            have f3 := NX.out.free j
            have NY := Lib.hid (((NX.out.put (Nat.le_refl _) j (max y (z + 1)))).is (PS.out _ rfl))
            clear q3
            go_wp2
            go_region
            have e1 : (if y < z + 1 then z + 1 else y) = max y (z + 1) := by split <;> omega
            rw [e1]
            have NY := Lib.hid (NY.out.keep0 (gb_drew _ none))
            clear e1
            generalize max y (z + 1) = mz at *
            go_wp2
            go_roundw
            case rel => exact ⟨i + 1, by omega, by go_num, NY.out⟩
            case measure => simp [intOf]; omega
        · have hie : i = j := by omega
          subst hie
          have NX := Lib.hid (N1.out.is (rl_next g i))
          clear N1
          go_wp2
          go_roundw
          case rel => exact ⟨i + 1, by omega, by go_num, NX.out⟩
          case measure => simp [intOf]; omega
    · have hie : j = g.length := by omega
      subst hie
      go_wp2
      go_ret
      exact N1.out.ret (rl_end g)
end Go.Proofs.Ytcbomfcioenliaa
