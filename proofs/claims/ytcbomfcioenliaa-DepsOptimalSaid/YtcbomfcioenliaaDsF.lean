/- Satisfied: the program's walk and the reference's; no condition but the sizes. -/
import Derived.Test.YtcbomfcioenliaaDsE
namespace Go.Proofs.Ytcbomfcioenliaa
open Go.RowKit
set_option linter.unusedVariables false

set_option maxRecDepth 100000 in
set_option maxHeartbeats 2000000 in
theorem sat_any (w : World) (a b : Option Addr) (n c m d : Nat) (g : List (List Int)) (s : List Int) (h : SlG w a n c g) (hs : SlR w b m d (s.map (Value.int .i64))) (hn : n ≤ 1000) (hm : m ≤ 1000) :
    Calls Try.prog 11 #[.slice a n c, .slice b m d] w (RetD (.bool (decide (SatP g s))) w) := by
  have HH := Lib.hid h
  have HS := Lib.hid hs
  have hl := h.1
  have hl2 := hs.len'
  clear h hs
  subst hl hl2
  by_cases hq : s.length = g.length
  · have NO := Lib.hid (fun (i j : Nat) (hi : i < g.length) (hj : j < g.length) (q : ¬ PairOk g s i j) => (decide_eq_false (fun k : SatP g s => q (k.2 i hi j hj)) : decide (SatP g s) = false))
    have YES := Lib.hid (fun (q : ∀ i, i < g.length → ∀ j, j < g.length → PairOk g s i j) => (decide_eq_true (⟨hq, q⟩ : SatP g s) : decide (SatP g s) = true))
    rw [hq]
    obtain ⟨x, hx⟩ : ∃ x, x = decide (SatP g s) := ⟨_, rfl⟩
    rw [← hx] at NO YES ⊢
    rw [hq] at HS hm
    have HQ := Lib.hid hq
    clear hq hx
    go_enter Try.func11, Try.ntmps11
    go_wp2
    go_loopw [15] (fun q wr => ∃ i : Nat, i ≤ g.length ∧ q = .int .i64 i ∧ (∀ i2, i2 < i → ∀ j, j < g.length → PairOk g s i2 j) ∧ ∃ m, wr = w.drewN m) (fun q _ => g.length - (intOf q).toNat)
    case atStart => exact ⟨0, Nat.zero_le _, rfl, fun i hi => absurd hi (Nat.not_lt_zero _), dn_zero _⟩
    case round =>
      obtain ⟨i, hi, rfl, q1, q2⟩ := hrel
      have OK := Lib.hid q1
      have DN := Lib.hid q2
      clear q1 q2
      by_cases hlt : i < g.length
      · have i1 : (i : Int) < g.length := by omega
        cases a with
        | none => exact absurd (HH.out.2.1 rfl).1 (by omega)
        | some ad =>
          cases b with
          | none => exact absurd (HS.out.2.1 rfl).1 (by omega)
          | some bd =>
            obtain ⟨A, C, c1, r1, l1⟩ := (HH.out.keep0 (dn_gb DN.out none)).row i hlt
            obtain ⟨rm, hmm⟩ : ∃ rm, rm = (g.getD i []).length := ⟨_, rfl⟩
            rw [← hmm] at c1 l1
            have HM := Lib.hid hmm
            clear r1 hmm
            go_wp2
            go_step3
            go_wp2
            go_step3
            go_wp2
            go_loopw [23] (fun q wr => ∃ j : Nat, j ≤ rm ∧ q = .int .i64 j ∧ (∀ j2, j2 < j → PairOk g s i j2) ∧ ∃ m, wr = w.drewN m) (fun q _ => rm - (intOf q).toNat)
            case atStart => exact ⟨0, Nat.zero_le _, rfl, fun i hi => absurd hi (Nat.not_lt_zero _), DN.out⟩
            case round =>
              obtain ⟨j, hj, rfl, q1, q2⟩ := hrel
              have OI := Lib.hid q1
              clear DN
              have DN := Lib.hid q2
              clear q1 q2
              by_cases hjt : j < rm
              · have i2 : (j : Int) < rm := by omega
                have D := Lib.hid (dep_any _ (some ad) g.length c g i j (HH.out.keep0 (dn_gb DN.out none)) hlt (by rw [← HM.out]; exact hjt))
                have NX := Lib.hid (show PairOk g s i j → ∀ j2, j2 < j + 1 → PairOk g s i j2 from fun q j2 h2 => (show j2 < j ∨ j2 = j by omega).elim (fun z => OI.out j2 z) (fun z => z ▸ q))
                rcases dp_vals g i j with e | e | e
                · have NY := Lib.hid (NX.out (pair_none e))
                  rw [e] at D
                  clear e
                  go_wp2_with fail
                  refine D.out.mono ?_
                  rintro e w3 ⟨rfl, q3⟩
                  have DN := Lib.hid (show ∃ m, w3 = w.drewN m by obtain ⟨k, rfl⟩ := q3; exact dn_more DN.out k)
                  clear q3
                  go_wp2
                  go_roundw
                  case rel => exact ⟨j + 1, by omega, by go_num, NY.out, DN.out⟩
                  case measure => simp [intOf]; omega
                · have hj2 := (dp_lt (g := g) (i := i) (j := j) (by omega)).2
                  have i3 : (j : Int) < g.length := by omega
                  have CI := Lib.hid (HS.out.cellAt i (by have := HQ.out; omega))
                  have CJ := Lib.hid (HS.out.cellAt j (by have := HQ.out; omega))
                  have HP := Lib.hid (show PairOk g s i j ↔ s.getD i 0 ≤ s.getD j 0 from ⟨fun k => k.2 e, fun k => ⟨fun q => by omega, fun _ => k⟩⟩)
                  rw [e] at D
                  clear e
                  obtain ⟨z, hz⟩ : ∃ z, z = s.getD i 0 := ⟨_, rfl⟩
                  obtain ⟨y, hy⟩ : ∃ y, y = s.getD j 0 := ⟨_, rfl⟩
                  rw [← hz] at CI HP
                  rw [← hy] at CJ HP
                  clear hz hy
                  go_wp2_with fail
                  refine D.out.mono ?_
                  rintro e w3 ⟨rfl, q3⟩
                  have DN := Lib.hid (show ∃ m, w3 = w.drewN m by obtain ⟨k, rfl⟩ := q3; exact dn_more DN.out k)
                  have ci := (dn_gb DN.out none).cell CI.out (by simp)
                  have cj := (dn_gb DN.out none).cell CJ.out (by simp)
                  clear q3 D
                  by_cases hb : y < z
                  · have HE := Lib.hid (NO.out i j hlt hj2 (fun k => by have := HP.out.1 k; omega))
                    have hd : decide (y < z) = true := decide_eq_true hb
                    go_wp2_with fail
                    go_quiet (fail)
                    go_wp2
                    go_ret
                    exact ret_bd HE.out.symm (dn_more DN.out _)
                  · have NY := Lib.hid (NX.out (HP.out.2 (by omega)))
                    have hd : decide (y < z) = false := decide_eq_false hb
                    go_wp2_with fail
                    go_quiet (fail)
                    go_wp2
                    go_roundw
                    case rel => exact ⟨j + 1, by omega, by go_num, NY.out, dn_more DN.out _⟩
                    case measure => simp [intOf]; omega
                · have hj2 := (dp_lt (g := g) (i := i) (j := j) (by omega)).2
                  have i3 : (j : Int) < g.length := by omega
                  have CI := Lib.hid (HS.out.cellAt i (by have := HQ.out; omega))
                  have CJ := Lib.hid (HS.out.cellAt j (by have := HQ.out; omega))
                  have HP := Lib.hid (show PairOk g s i j ↔ s.getD i 0 < s.getD j 0 from ⟨fun k => k.1 e, fun k => ⟨fun _ => k, fun q => by omega⟩⟩)
                  rw [e] at D
                  clear e
                  obtain ⟨z, hz⟩ : ∃ z, z = s.getD i 0 := ⟨_, rfl⟩
                  obtain ⟨y, hy⟩ : ∃ y, y = s.getD j 0 := ⟨_, rfl⟩
                  rw [← hz] at CI HP
                  rw [← hy] at CJ HP
                  clear hz hy
                  go_wp2_with fail
                  refine D.out.mono ?_
                  rintro e w3 ⟨rfl, q3⟩
                  have DN := Lib.hid (show ∃ m, w3 = w.drewN m by obtain ⟨k, rfl⟩ := q3; exact dn_more DN.out k)
                  have ci := (dn_gb DN.out none).cell CI.out (by simp)
                  have cj := (dn_gb DN.out none).cell CJ.out (by simp)
                  clear q3 D
                  by_cases hb : y < z
                  · have HE := Lib.hid (NO.out i j hlt hj2 (fun k => by have := HP.out.1 k; omega))
                    have hd : decide (y < z) = true := decide_eq_true hb
                    go_wp2_with fail
                    go_quiet (fail)
                    go_wp2
                    go_ret
                    exact ret_bd HE.out.symm (dn_more DN.out _)
                  · by_cases hc : y = z
                    · have HE := Lib.hid (NO.out i j hlt hj2 (fun k => by have := HP.out.1 k; omega))
                      subst hc
                      have hd : decide (y < y) = false := decide_eq_false hb
                      have hd2 : (y == y) = true := by simp
                      clear hb
                      go_wp2_with fail
                      go_quiet (fail)
                      go_wp2
                      go_ret
                      exact ret_bd HE.out.symm (dn_more DN.out _)
                    · have NY := Lib.hid (NX.out (HP.out.2 (by omega)))
                      have hd : decide (y < z) = false := decide_eq_false hb
                      have hd2 : (y == z) = false := by simpa using hc
                      go_wp2_with fail
                      go_quiet (fail)
                      go_wp2
                      go_roundw
                      case rel => exact ⟨j + 1, by omega, by go_num, NY.out, dn_more DN.out _⟩
                      case measure => simp [intOf]; omega
              · have hje : j = rm := by omega
                subst hje
                have NY := Lib.hid (show ∀ i2, i2 < i + 1 → ∀ j, j < g.length → PairOk g s i2 j from fun i2 h2 j3 h3 => (show i2 < i ∨ i2 = i by omega).elim (fun z => OK.out i2 z j3 h3) (fun z => by
                  subst z
                  by_cases hq : j3 < j
                  · exact OI.out j3 hq
                  · exact pair_none (dp_far (by rw [← HM.out]; omega))))
                go_wp2
                rw [Exit.noGoto_normal]
                go_wp2
                go_roundw
                case rel => exact ⟨i + 1, by omega, by go_num, NY.out, DN.out⟩
                case measure => simp [intOf]; omega
      · have hie : i = g.length := by omega
        subst hie
        have HE := Lib.hid (YES.out OK.out)
        go_wp2
        go_ret
        exact ret_bd HE.out.symm DN.out
  · have HE := Lib.hid (show decide (SatP g s) = false from decide_eq_false (fun k => hq k.1))
    have b1 : ((s.length : Int) != (g.length : Int)) = true := by simp; omega
    obtain ⟨x, hx⟩ : ∃ x, x = decide (SatP g s) := ⟨_, rfl⟩
    rw [← hx] at HE ⊢
    clear hx
    generalize s.length = y at *
    generalize g.length = z at *
    clear hq
    go_enter Try.func11, Try.ntmps11
    go_wp2
    go_ret
    exact ret_bd HE.out.symm (dn_zero _)

set_option maxRecDepth 100000 in
set_option maxHeartbeats 2000000 in
theorem rsat_any (w : World) (a b : Option Addr) (n c m d : Nat) (g : List (List Int)) (s : List Int) (h : SlG w a n c g) (hs : SlR w b m d (s.map (Value.int .i64))) (hn : n ≤ 1000) (hm : m ≤ 1000) :
    Calls Try.prog 12 #[.slice a n c, .slice b m d] w (RetD (.bool (decide (SatP g s))) w) := by
  have HH := Lib.hid h
  have HS := Lib.hid hs
  have hl := h.1
  have hl2 := hs.len'
  clear h hs
  subst hl hl2
  by_cases hq : s.length = g.length
  · have NO := Lib.hid (fun (i j : Nat) (hi : i < g.length) (hj : j < g.length) (q : ¬ PairOk g s i j) => (decide_eq_false (fun k : SatP g s => q (k.2 i hi j hj)) : decide (SatP g s) = false))
    have YES := Lib.hid (fun (q : ∀ i, i < g.length → ∀ j, j < g.length → PairOk g s i j) => (decide_eq_true (⟨hq, q⟩ : SatP g s) : decide (SatP g s) = true))
    rw [hq]
    obtain ⟨x, hx⟩ : ∃ x, x = decide (SatP g s) := ⟨_, rfl⟩
    rw [← hx] at NO YES ⊢
    rw [hq] at HS hm
    have HQ := Lib.hid hq
    clear hq hx
    go_enter Try.func12, Try.ntmps12
    go_wp2
    go_loopw [5] (fun q wr => ∃ i : Nat, i ≤ g.length ∧ q = .int .i64 i ∧ (∀ i2, i2 < i → ∀ j, j < g.length → PairOk g s i2 j) ∧ ∃ m, wr = w.drewN m) (fun q _ => g.length - (intOf q).toNat)
    case atStart => exact ⟨0, Nat.zero_le _, rfl, fun i hi => absurd hi (Nat.not_lt_zero _), dn_zero _⟩
    case round =>
      obtain ⟨i, hi, rfl, q1, q2⟩ := hrel
      have OK := Lib.hid q1
      have DN := Lib.hid q2
      clear q1 q2
      by_cases hlt : i < g.length
      · have i1 : (i : Int) < g.length := by omega
        cases a with
        | none => exact absurd (HH.out.2.1 rfl).1 (by omega)
        | some ad =>
          cases b with
          | none => exact absurd (HS.out.2.1 rfl).1 (by omega)
          | some bd =>
            go_wp2
            go_loopw [6] (fun q wr => ∃ j : Nat, i + 1 ≤ j ∧ j ≤ g.length ∧ q = .int .i64 j ∧ (∀ j2, j2 < j → PairOk g s i j2) ∧ ∃ m, wr = w.drewN m) (fun q _ => g.length - (intOf q).toNat)
            case atStart => exact ⟨i + 1, Nat.le_refl _, by omega, by go_num, fun j hj => pair_none (dp_off (by omega)), DN.out⟩
            case round =>
              obtain ⟨j, hij, hj, rfl, q1, q2⟩ := hrel
              have OI := Lib.hid q1
              clear DN
              have DN := Lib.hid q2
              clear q1 q2
              by_cases hjt : j < g.length
              · have i2 : (j : Int) < g.length := by omega
                have D := Lib.hid (at_any _ (some ad) g.length c g i j (HH.out.keep0 (dn_gb DN.out none)) hlt hjt)
                have NX := Lib.hid (show PairOk g s i j → ∀ j2, j2 < j + 1 → PairOk g s i j2 from fun q j2 h2 => (show j2 < j ∨ j2 = j by omega).elim (fun z => OI.out j2 z) (fun z => z ▸ q))
                rcases dp_vals g i j with e | e | e
                · have NY := Lib.hid (NX.out (pair_none e))
                  rw [e] at D
                  clear e
                  go_wp2_with fail
                  refine D.out.mono ?_
                  rintro e w3 ⟨rfl, q3⟩
                  have DN := Lib.hid (show ∃ m, w3 = w.drewN m by obtain ⟨k, rfl⟩ := q3; exact dn_more DN.out k)
                  clear q3
                  go_wp2_with fail
                  go_quiet (fail)
                  go_wp2
                  go_roundw
                  case rel => exact ⟨j + 1, by omega, by omega, by go_num, NY.out, dn_more DN.out _⟩
                  case measure => simp [intOf]; omega
                · have hj2 := (dp_lt (g := g) (i := i) (j := j) (by omega)).2
                  have i3 : (j : Int) < g.length := by omega
                  have CI := Lib.hid (HS.out.cellAt i (by have := HQ.out; omega))
                  have CJ := Lib.hid (HS.out.cellAt j (by have := HQ.out; omega))
                  have HP := Lib.hid (show PairOk g s i j ↔ s.getD i 0 ≤ s.getD j 0 from ⟨fun k => k.2 e, fun k => ⟨fun q => by omega, fun _ => k⟩⟩)
                  rw [e] at D
                  clear e
                  obtain ⟨z, hz⟩ : ∃ z, z = s.getD i 0 := ⟨_, rfl⟩
                  obtain ⟨y, hy⟩ : ∃ y, y = s.getD j 0 := ⟨_, rfl⟩
                  rw [← hz] at CI HP
                  rw [← hy] at CJ HP
                  clear hz hy
                  go_wp2_with fail
                  refine D.out.mono ?_
                  rintro e w3 ⟨rfl, q3⟩
                  have DN := Lib.hid (show ∃ m, w3 = w.drewN m by obtain ⟨k, rfl⟩ := q3; exact dn_more DN.out k)
                  have ci := (dn_gb DN.out none).cell CI.out (by simp)
                  have cj := (dn_gb DN.out none).cell CJ.out (by simp)
                  clear q3 D
                  by_cases hb : y < z
                  · have HE := Lib.hid (NO.out i j hlt hj2 (fun k => by have := HP.out.1 k; omega))
                    have hd : decide (y < z) = true := decide_eq_true hb
                    go_wp2_with fail
                    go_quiet (fail)
                    go_wp2
                    go_ret
                    exact ret_bd HE.out.symm (dn_more DN.out _)
                  · have NY := Lib.hid (NX.out (HP.out.2 (by omega)))
                    have hd : decide (y < z) = false := decide_eq_false hb
                    go_wp2_with fail
                    go_quiet (fail)
                    go_wp2
                    go_roundw
                    case rel => exact ⟨j + 1, by omega, by omega, by go_num, NY.out, dn_more DN.out _⟩
                    case measure => simp [intOf]; omega
                · have hj2 := (dp_lt (g := g) (i := i) (j := j) (by omega)).2
                  have i3 : (j : Int) < g.length := by omega
                  have CI := Lib.hid (HS.out.cellAt i (by have := HQ.out; omega))
                  have CJ := Lib.hid (HS.out.cellAt j (by have := HQ.out; omega))
                  have HP := Lib.hid (show PairOk g s i j ↔ s.getD i 0 < s.getD j 0 from ⟨fun k => k.1 e, fun k => ⟨fun _ => k, fun q => by omega⟩⟩)
                  rw [e] at D
                  clear e
                  obtain ⟨z, hz⟩ : ∃ z, z = s.getD i 0 := ⟨_, rfl⟩
                  obtain ⟨y, hy⟩ : ∃ y, y = s.getD j 0 := ⟨_, rfl⟩
                  rw [← hz] at CI HP
                  rw [← hy] at CJ HP
                  clear hz hy
                  go_wp2_with fail
                  refine D.out.mono ?_
                  rintro e w3 ⟨rfl, q3⟩
                  have DN := Lib.hid (show ∃ m, w3 = w.drewN m by obtain ⟨k, rfl⟩ := q3; exact dn_more DN.out k)
                  have ci := (dn_gb DN.out none).cell CI.out (by simp)
                  have cj := (dn_gb DN.out none).cell CJ.out (by simp)
                  clear q3 D
                  by_cases hb : y ≤ z
                  · have HE := Lib.hid (NO.out i j hlt hj2 (fun k => by have := HP.out.1 k; omega))
                    have hd : decide (y ≤ z) = true := decide_eq_true hb
                    go_wp2_with fail
                    go_quiet (fail)
                    go_wp2
                    go_ret
                    exact ret_bd HE.out.symm (dn_more DN.out _)
                  · have NY := Lib.hid (NX.out (HP.out.2 (by omega)))
                    have hd : decide (y ≤ z) = false := decide_eq_false hb
                    go_wp2_with fail
                    go_quiet (fail)
                    go_wp2
                    go_roundw
                    case rel => exact ⟨j + 1, by omega, by omega, by go_num, NY.out, dn_more DN.out _⟩
                    case measure => simp [intOf]; omega
              · have hje : j = g.length := by omega
                have NY := Lib.hid (show ∀ i2, i2 < i + 1 → ∀ j, j < g.length → PairOk g s i2 j from fun i2 h2 j3 h3 => (show i2 < i ∨ i2 = i by omega).elim (fun z => OK.out i2 z j3 h3) (fun z => by
                  subst z
                  exact OI.out j3 (by omega)))
                have i2 : ¬ (j : Int) < g.length := by omega
                go_wp2
                go_roundw
                case rel => exact ⟨i + 1, by omega, by go_num, NY.out, DN.out⟩
                case measure => simp [intOf]; omega
      · have hie : i = g.length := by omega
        subst hie
        have HE := Lib.hid (YES.out OK.out)
        go_wp2
        go_ret
        exact ret_bd HE.out.symm DN.out
  · have HE := Lib.hid (show decide (SatP g s) = false from decide_eq_false (fun k => hq k.1))
    have b1 : ((s.length : Int) != (g.length : Int)) = true := by simp; omega
    obtain ⟨x, hx⟩ : ∃ x, x = decide (SatP g s) := ⟨_, rfl⟩
    rw [← hx] at HE ⊢
    clear hx
    generalize s.length = y at *
    generalize g.length = z at *
    clear hq
    go_enter Try.func12, Try.ntmps12
    go_wp2
    go_ret
    exact ret_bd HE.out.symm (dn_zero _)
end Go.Proofs.Ytcbomfcioenliaa
