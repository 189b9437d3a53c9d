/- Deparser: slices.Index and slices.Contains of numbers, isIndex, Check on both sides; no condition. -/
import Derived.Test.YtglgjkggjpfahaaDpA
import Derived.Deep.QuietTactic
import Derived.BigQuiet
import Derived.Deep.RegionWith
namespace Go.Proofs.Ytglgjkggjpfahaa
open Go.RowKit
set_option linter.unusedVariables false
theorem SI.cut {w : World} {a : Option Addr} {n c : Nat} {L : List Int} (h : SI w a n c L) (m : Nat) (hm : m ≤ n) : SI w a m c (L.take m) :=
  ⟨by rw [List.length_take, h.len]; omega, fun e => ⟨by have := (h.nil e).1; omega, (h.nil e).2⟩, by have := h.cap; omega, fun ad e j hj => by
    have e2 : (L.take m).getD j 0 = L.getD j 0 := by simp [List.getD_eq_getElem?_getD, hj]
    rw [e2]; exact h.cells ad e j (by omega), fun x hx => h.rng x (List.mem_of_mem_take hx)⟩
theorem mem_snoc' (L : List Int) (x : Int) (j : Nat) (h : j < L.length) : x ∈ L.take (j + 1) ↔ x ∈ L.take j ∨ x = L.getD j 0 := by
  rw [take_one L 0 j h, List.mem_append]; simp
theorem disx_any (w : World) (i : Int) (n : Nat) : Calls Try.prog 57 #[.int .i64 i, .int .i64 (n : Int)] w (RetS (.bool (isX i n)) w) := by
  by_cases h0 : 0 ≤ i
  · by_cases h1 : i < (n : Int)
    · have HX := Lib.hid ((isX_iff i n).2 ⟨h0, h1⟩)
      go_enter Try.func57, Try.ntmps57
      go_wp2
      go_ret
      exact ⟨by rw [HX.out] <;> rfl, rfl⟩
    · have HX := Lib.hid ((isX_not i n).2 (fun h => h1 h.2))
      go_enter Try.func57, Try.ntmps57
      go_wp2
      go_ret
      exact ⟨by rw [HX.out] <;> rfl, rfl⟩
  · have HX := Lib.hid ((isX_not i n).2 (fun h => h0 h.1))
    go_enter Try.func57, Try.ntmps57
    go_wp2
    go_ret
    exact ⟨by rw [HX.out] <;> rfl, rfl⟩
set_option maxRecDepth 100000 in
set_option maxHeartbeats 8000000 in
theorem dix_any (w : World) (a : Option Addr) (n c : Nat) (L : List Int) (h : SI w a n c L) (hn : n ≤ 100000) (x : Int) : Calls Try.prog 88 #[.slice a n c, .int .i64 x] w (fun e w' => ∃ i : Int, e = .returned (.int .i64 i) ∧ ((x ∈ L ∧ 0 ≤ i) ∨ (x ∉ L ∧ i = -1)) ∧ w.grownBy w' none) := by
  have HH := Lib.hid h
  have HL := Lib.hid h.len
  clear h
  go_enter Try.func88, Try.ntmps88
  go_wp2
  go_loopw [8] (fun i wr => ∃ j : Nat, j ≤ n ∧ i = .int .i64 j ∧ x ∉ L.take j ∧ w.grownBy wr none) (fun i _ => n - (intOf i).toNat)
  case atStart => exact ⟨0, Nat.zero_le _, rfl, by simp, gb_refl _ _⟩
  case round =>
    obtain ⟨j, hj, rfl, ht, hg⟩ := hrel
    have HT := Lib.hid ht
    have HG := Lib.hid hg
    clear ht hg
    by_cases hlt : j < n
    · have hl : j < L.length := by rw [HL.out]; exact hlt
      obtain ⟨ad, rfl⟩ := HH.out.some (by omega)
      have i1 : (j : Int) < n := by omega
      have i0 : (0 : Int) ≤ (j : Int) := by omega
      have c0 := (HH.out.keep0 HG.out).cells ad rfl j hlt
      have ST := Lib.hid (mem_snoc' L x j hl)
      have YES := Lib.hid (show x = L.getD j 0 → x ∈ L from fun e => by
        rw [e, List.getD_eq_getElem?_getD, List.getElem?_eq_getElem hl]; exact List.getElem_mem _)
      generalize L.getD j 0 = y at *
      clear hl
      by_cases hh : y = x
      · have R2 := Lib.hid (YES.out hh.symm)
        subst hh
        clear ST YES
        go_wp2
        go_ret
        exact ⟨_, rfl, .inl ⟨R2.out, by omega⟩, HG.out⟩
      · have S2 := Lib.hid (show x ∉ L.take (j + 1) from fun q => by
          rcases ST.out.1 q with r | r
          · exact HT.out r
          · exact hh r.symm)
        have n1 : ¬ (x : Int) = y := fun e => hh e.symm
        have n3 : (x == y) = false := by rw [beq_eq_false_iff_ne]; exact n1
        clear ST YES
        go_wp2
        go_roundw
        case rel => exact ⟨j + 1, by omega, by go_num, S2.out, HG.out⟩
        case measure => simp [intOf]; omega
    · have hje : j = n := by omega
      have R2 := Lib.hid (show x ∉ L by have := HT.out; rwa [List.take_of_length_le (by rw [HL.out]; omega)] at this)
      subst hje
      go_wp2
      go_ret
      exact ⟨_, rfl, .inr ⟨R2.out, rfl⟩, HG.out⟩
theorem dct_any (w : World) (a : Option Addr) (n c : Nat) (L : List Int) (h : SI w a n c L) (hn : n ≤ 100000) (x : Int) : Calls Try.prog 58 #[.slice a n c, .int .i64 x] w (RetV (.bool (decide (x ∈ L))) w) := by
  have IX := Lib.hid (dix_any w a n c L h hn x)
  clear h
  go_enter Try.func58, Try.ntmps58
  go_wp2_with fail
  refine IX.out.mono ?_
  rintro e w3 ⟨i, rfl, hi, g3⟩
  have G3 := Lib.hid g3
  clear g3
  rcases hi with ⟨ha, h0⟩ | ⟨ha, rfl⟩
  · have HA := Lib.hid (show decide (x ∈ L) = true from decide_eq_true ha)
    clear ha
    go_wp2
    go_ret
    exact ⟨by rw [HA.out]; rfl, G3.out⟩
  · have HA := Lib.hid (show decide (x ∈ L) = false from decide_eq_false ha)
    clear ha
    go_wp2
    go_ret
    exact ⟨by rw [HA.out]; rfl, G3.out⟩
set_option maxRecDepth 100000 in
set_option maxHeartbeats 8000000 in
theorem dcheck_any (w : World) (nm v3 v4 v5 v6 v7 : Value) (ha ma da : Option Addr) (hn hc mn mc dn dc : Nat) (D : List Int) (hD : SI w da dn dc D) (a e : Int) (hr : DC hn D a e) : Calls Try.prog 32 #[.agg #[nm, .slice ha hn hc, .slice ma mn mc, v3, v4, v5, v6, v7, .slice da dn dc]] w (RetV (.tuple #[.int .i64 a, .int .i64 e]) w) := by
  have HD := Lib.hid hD
  have HR := Lib.hid hr
  have G1 := Lib.hid (gb_alloc w (.cells #[nm, .slice ha hn hc, .slice ma mn mc, v3, v4, v5, v6, v7, .slice da dn dc] 31) none)
  have B1 := IsB.new w 31 #[nm, .slice ha hn hc, .slice ma mn mc, v3, v4, v5, v6, v7, .slice da dn dc]
  replace B1 := Lib.hid B1
  clear hD hr
  go_enter Try.func32, Try.ntmps32
  go_upto_region 1 with fail
  generalize w.alloc (.cells #[nm, .slice ha hn hc, .slice ma mn mc, v3, v4, v5, v6, v7, .slice da dn dc] 31) = w1 at *
  obtain ⟨bx, hbx⟩ : ∃ b, b = w.heap.size := ⟨_, rfl⟩
  have Lbx := Lib.hid (show w.heap.size ≤ bx by rw [hbx]; exact Nat.le_refl _)
  rw [← hbx] at B1 ⊢
  clear hbx
  have c0 := (B1.out.keep0 (gb_refl _ _)).cell 0
  have c1 := (B1.out.keep0 (gb_refl _ _)).cell 1
  have c2 := (B1.out.keep0 (gb_refl _ _)).cell 2
  have c3 := (B1.out.keep0 (gb_refl _ _)).cell 3
  have c4 := (B1.out.keep0 (gb_refl _ _)).cell 4
  have c5 := (B1.out.keep0 (gb_refl _ _)).cell 5
  have c6 := (B1.out.keep0 (gb_refl _ _)).cell 6
  have c7 := (B1.out.keep0 (gb_refl _ _)).cell 7
  have c8 := (B1.out.keep0 (gb_refl _ _)).cell 8
  dsimp at c0 c1 c2 c3 c4 c5 c6 c7 c8
  by_cases h8 : 8 < dn
  · have i1 : (8 : Int) < dn := by omega
    have E := Lib.hid (HR.out.long (by rw [HD.out.len]; exact h8))
    go_wp2
    go_ret2
    exact ⟨ret_ii E.out.1.symm E.out.2.symm, G1.out⟩
  have i1 : ¬ (8 : Int) < dn := by omega
  have L8 := Lib.hid (show D.length ≤ 8 by rw [HD.out.len]; omega)
  go_wp2
  clear c0 c1 c2 c3 c4 c5 c6 c7 c8
  go_loopw [13] (fun i wr => ∃ k : Nat, k ≤ dn ∧ i = .int .i64 k ∧ (∀ i, i < k → dpX hn D i = 0) ∧ w1.grownBy wr none) (fun i _ => dn - (intOf i).toNat)
  case atStart => exact ⟨0, Nat.zero_le _, rfl, fun i hi => absurd hi (Nat.not_lt_zero _), gb_refl _ _⟩
  case round =>
    obtain ⟨k, hk, rfl, ht, hg⟩ := hrel
    have HT := Lib.hid ht
    have HG := Lib.hid hg
    clear ht hg
    by_cases hlt : k < dn
    · have hl : k < D.length := by rw [HD.out.len]; exact hlt
      obtain ⟨ad, rfl⟩ := HD.out.some (by omega)
      have j1 : (k : Int) < dn := by omega
      have j0 : (0 : Int) ≤ (k : Int) := by omega
      have jc : (k : Int) ≤ dc := by have := HD.out.cap; omega
      have GG := Lib.hid (gb_trans G1.out HG.out)
      have d0 := (HD.out.keep0 GG.out).cells ad rfl k hlt
      have c0 := (B1.out.keep0 HG.out).cell 0
      have c1 := (B1.out.keep0 HG.out).cell 1
      have c2 := (B1.out.keep0 HG.out).cell 2
      have c3 := (B1.out.keep0 HG.out).cell 3
      have c4 := (B1.out.keep0 HG.out).cell 4
      have c5 := (B1.out.keep0 HG.out).cell 5
      have c6 := (B1.out.keep0 HG.out).cell 6
      have c7 := (B1.out.keep0 HG.out).cell 7
      have c8 := (B1.out.keep0 HG.out).cell 8
      dsimp at c0 c1 c2 c3 c4 c5 c6 c7 c8
      have BAD := Lib.hid (HR.out.bad L8.out hl HT.out)
      have NX := Lib.hid (show dpX hn D k = 0 → ∀ i, i < k + 1 → dpX hn D i = 0 from fun q i hi => by
        rcases (show i < k ∨ i = k by omega) with r | rfl
        · exact HT.out i r
        · exact q)
      have KC := Lib.hid (fun (W : World) (q : wr.grownBy W none) => dct_any W (some ad) k dc (D.take k) ((HD.out.keep0 (gb_trans GG.out q)).cut k (by omega)) (by have := L8.out; omega) (D.getD k 0))
      have DX := Lib.hid (show dpX hn D k = (if isX (D.getD k 0) hn = true then (if decide (D.getD k 0 ∈ D.take k) = true then 7 else 0) else 8) from by unfold dpX; simp)
      generalize decide (D.getD k 0 ∈ D.take k) = b2 at *
      generalize D.getD k 0 = x at *
      have KX := Lib.hid (fun W => disx_any W x hn)
      generalize isX x hn = b1 at *
      clear hl
      cases b1
      · have Z := Lib.hid (show dpX hn D k = 8 by rw [DX.out]; simp)
        have E := Lib.hid (BAD.out (by rw [Z.out]; decide))
        go_wp2_with fail
        refine (KX.out _).mono ?_
        rintro e9 w2 ⟨rfl, hw⟩
        obtain rfl := hw.symm
        go_wp2
        go_ret2
        exact ⟨ret_ii E.out.1.symm (by rw [E.out.2, Z.out]), GG.out⟩
      · cases b2
        · have Z := Lib.hid (NX.out (by rw [DX.out]; simp))
          go_wp2_with fail
          refine (KX.out _).mono ?_
          rintro e9 w2 ⟨rfl, hw⟩
          obtain rfl := hw.symm
          go_wp2_with fail
          refine (KC.out _ (gb_refl _ _)).mono ?_
          rintro e9 w3 ⟨rfl, g⟩
          have G3 := Lib.hid (gb_trans HG.out g)
          clear g
          go_wp2
          go_roundw
          case rel => exact ⟨k + 1, by omega, by go_num, Z.out, G3.out⟩
          case measure => simp [intOf]; omega
        · have Z := Lib.hid (show dpX hn D k = 7 by rw [DX.out]; simp)
          have E := Lib.hid (BAD.out (by rw [Z.out]; decide))
          go_wp2_with fail
          refine (KX.out _).mono ?_
          rintro e9 w2 ⟨rfl, hw⟩
          obtain rfl := hw.symm
          go_wp2_with fail
          refine (KC.out _ (gb_refl _ _)).mono ?_
          rintro e9 w3 ⟨rfl, g⟩
          have G3 := Lib.hid (gb_trans GG.out g)
          clear g
          go_wp2
          go_ret2
          exact ⟨ret_ii E.out.1.symm (by rw [E.out.2, Z.out]), G3.out⟩
    · have hke : k = dn := by omega
      have E := Lib.hid (HR.out.good L8.out (by rw [HD.out.len, ← hke]; exact HT.out))
      have j1 : ¬ (k : Int) < dn := by omega
      go_wp2
      go_ret2
      exact ⟨ret_ii E.out.1.symm E.out.2.symm, gb_trans G1.out HG.out⟩
set_option maxRecDepth 100000 in
set_option maxHeartbeats 8000000 in
theorem rdcheck_any (w : World) (nm v3 v4 v5 v6 v7 : Value) (ha ma da : Option Addr) (hn hc mn mc dn dc : Nat) (D : List Int) (hD : SI w da dn dc D) (hb : hn ≤ 100000) (a e : Int) (hr : DC hn D a e) : Calls Try.prog 33 #[.agg #[nm, .slice ha hn hc, .slice ma mn mc, v3, v4, v5, v6, v7, .slice da dn dc]] w (RetV (.tuple #[.int .i64 a, .int .i64 e]) w) := by
  have HD := Lib.hid hD
  have HR := Lib.hid hr
  have G1 := Lib.hid (gb_alloc w (.cells #[nm, .slice ha hn hc, .slice ma mn mc, v3, v4, v5, v6, v7, .slice da dn dc] 31) none)
  have B1 := IsB.new w 31 #[nm, .slice ha hn hc, .slice ma mn mc, v3, v4, v5, v6, v7, .slice da dn dc]
  replace B1 := Lib.hid B1
  clear hD hr
  go_enter Try.func33, Try.ntmps33
  go_upto_region 1 with fail
  generalize w.alloc (.cells #[nm, .slice ha hn hc, .slice ma mn mc, v3, v4, v5, v6, v7, .slice da dn dc] 31) = w1 at *
  obtain ⟨bx, hbx⟩ : ∃ b, b = w.heap.size := ⟨_, rfl⟩
  have Lbx := Lib.hid (show w.heap.size ≤ bx by rw [hbx]; exact Nat.le_refl _)
  rw [← hbx] at B1 ⊢
  clear hbx
  have c0 := (B1.out.keep0 (gb_refl _ _)).cell 0
  have c1 := (B1.out.keep0 (gb_refl _ _)).cell 1
  have c2 := (B1.out.keep0 (gb_refl _ _)).cell 2
  have c3 := (B1.out.keep0 (gb_refl _ _)).cell 3
  have c4 := (B1.out.keep0 (gb_refl _ _)).cell 4
  have c5 := (B1.out.keep0 (gb_refl _ _)).cell 5
  have c6 := (B1.out.keep0 (gb_refl _ _)).cell 6
  have c7 := (B1.out.keep0 (gb_refl _ _)).cell 7
  have c8 := (B1.out.keep0 (gb_refl _ _)).cell 8
  dsimp at c0 c1 c2 c3 c4 c5 c6 c7 c8
  by_cases h8 : 8 < dn
  · have i1 : (8 : Int) < dn := by omega
    have E := Lib.hid (HR.out.long (by rw [HD.out.len]; exact h8))
    go_wp2
    go_ret2
    exact ⟨ret_ii E.out.1.symm E.out.2.symm, G1.out⟩
  have i1 : ¬ (8 : Int) < dn := by omega
  have L8 := Lib.hid (show D.length ≤ 8 by rw [HD.out.len]; omega)
  go_wp2
  clear c0 c1 c2 c3 c4 c5 c6 c7 c8
  go_loopw [4] (fun i wr => ∃ k : Nat, k ≤ dn ∧ i = .int .i64 k ∧ (∀ i, i < k → dpX hn D i = 0) ∧ w1.grownBy wr none) (fun i _ => dn - (intOf i).toNat)
  case atStart => exact ⟨0, Nat.zero_le _, rfl, fun i hi => absurd hi (Nat.not_lt_zero _), gb_refl _ _⟩
  case round =>
    obtain ⟨k, hk, rfl, ht, hg⟩ := hrel
    have HT := Lib.hid ht
    have HG := Lib.hid hg
    clear ht hg
    by_cases hlt : k < dn
    · have hl : k < D.length := by rw [HD.out.len]; exact hlt
      obtain ⟨ad, rfl⟩ := HD.out.some (by omega)
      have j1 : (k : Int) < dn := by omega
      have j0 : (0 : Int) ≤ (k : Int) := by omega
      have GG := Lib.hid (gb_trans G1.out HG.out)
      have d0 := (HD.out.keep0 GG.out).cells ad rfl k hlt
      have hw1 : IntKind.i64.wrap ((k : Int) + 1) = ((k + 1 : Nat) : Int) := by have := L8.out; rw [IntKind.wrap_i64]; omega
      have c0 := (B1.out.keep0 HG.out).cell 0
      have c1 := (B1.out.keep0 HG.out).cell 1
      have c2 := (B1.out.keep0 HG.out).cell 2
      have c3 := (B1.out.keep0 HG.out).cell 3
      have c4 := (B1.out.keep0 HG.out).cell 4
      have c5 := (B1.out.keep0 HG.out).cell 5
      have c6 := (B1.out.keep0 HG.out).cell 6
      have c7 := (B1.out.keep0 HG.out).cell 7
      have c8 := (B1.out.keep0 HG.out).cell 8
      dsimp at c0 c1 c2 c3 c4 c5 c6 c7 c8
      have BAD := Lib.hid (HR.out.bad L8.out hl HT.out)
      have NX := Lib.hid (show dpX hn D k = 0 → ∀ i, i < k + 1 → dpX hn D i = 0 from fun q i hi => by
        rcases (show i < k ∨ i = k by omega) with r | rfl
        · exact HT.out i r
        · exact q)
      have DX := Lib.hid (show dpX hn D k = (if isX (D.getD k 0) hn = true then (if D.getD k 0 ∈ D.take k then 7 else 0) else 8) from rfl)
      have IS := Lib.hid (isX_iff (D.getD k 0) hn)
      obtain ⟨x, hx⟩ : ∃ x, x = D.getD k 0 := ⟨_, rfl⟩
      have HX := Lib.hid hx
      rw [← hx] at DX IS d0
      clear hx
      by_cases hlow : x < 0
      · have E := Lib.hid (BAD.out (by rw [DX.out, if_neg (by rw [IS.out]; omega)]; decide))
        have Z := Lib.hid (show dpX hn D k = 8 by rw [DX.out, if_neg (by rw [IS.out]; omega)])
        have dl : decide (x < 0) = true := decide_eq_true hlow
        go_upto_region 6 with fail
        go_quiet (fail)
        go_wp2
        go_ret2
        exact ⟨ret_ii E.out.1.symm (by rw [E.out.2, Z.out]), gb_dr GG.out⟩
      · have dl : decide (x < 0) = false := decide_eq_false hlow
        by_cases hhi : (hn : Int) ≤ x
        · have E := Lib.hid (BAD.out (by rw [DX.out, if_neg (by rw [IS.out]; omega)]; decide))
          have Z := Lib.hid (show dpX hn D k = 8 by rw [DX.out, if_neg (by rw [IS.out]; omega)])
          have dh : decide ((hn : Int) ≤ x) = true := decide_eq_true hhi
          go_upto_region 6 with fail
          go_quiet (fail)
          go_wp2
          go_ret2
          exact ⟨ret_ii E.out.1.symm (by rw [E.out.2, Z.out]), gb_dr GG.out⟩
        · have dh : decide ((hn : Int) ≤ x) = false := decide_eq_false hhi
          have IY := Lib.hid (show isX x hn = true by rw [IS.out]; omega)
          go_upto_region 6 with fail
          go_quiet (fail)
          go_wp2
          clear c0 c1 c2 c3 c4 c5 c6 c7 c8 dl dh
          go_loopw [5] (fun i wr2 => ∃ j : Nat, j ≤ k ∧ i = .int .i64 j ∧ x ∉ D.take j ∧ wr.grownBy wr2 none) (fun i _ => k - (intOf i).toNat)
          case atStart => exact ⟨0, Nat.zero_le _, rfl, by simp, gb_dr (gb_refl _ _)⟩
          case round =>
            obtain ⟨j, hj, rfl, ht, hg⟩ := hrel
            have JT := Lib.hid ht
            have JG := Lib.hid hg
            clear ht hg
            have GJ := Lib.hid (gb_trans HG.out JG.out)
            have c0 := (B1.out.keep0 GJ.out).cell 0
            have c1 := (B1.out.keep0 GJ.out).cell 1
            have c2 := (B1.out.keep0 GJ.out).cell 2
            have c3 := (B1.out.keep0 GJ.out).cell 3
            have c4 := (B1.out.keep0 GJ.out).cell 4
            have c5 := (B1.out.keep0 GJ.out).cell 5
            have c6 := (B1.out.keep0 GJ.out).cell 6
            have c7 := (B1.out.keep0 GJ.out).cell 7
            have c8 := (B1.out.keep0 GJ.out).cell 8
            dsimp at c0 c1 c2 c3 c4 c5 c6 c7 c8
            by_cases hlt2 : j < k
            · have e1 := (HD.out.keep0 (gb_trans G1.out GJ.out)).cells ad rfl k hlt
              have e2 := (HD.out.keep0 (gb_trans G1.out GJ.out)).cells ad rfl j (by omega)
              rw [← HX.out] at e1
              have m1 : (j : Int) < k := by omega
              have m0 : (0 : Int) ≤ (j : Int) := by omega
              have m2 : (j : Int) < dn := by omega
              have hw2 : IntKind.i64.wrap ((j : Int) + 1) = ((j + 1 : Nat) : Int) := by have := L8.out; rw [IntKind.wrap_i64]; omega
              have SN := Lib.hid (mem_snoc' D x j (by rw [HD.out.len]; omega))
              have YM := Lib.hid (show x = D.getD j 0 → x ∈ D.take k from fun q => by
                have : x ∈ D.take (j + 1) := SN.out.2 (.inr q)
                exact (List.take_subset_take_left D (by omega)) this)
              generalize D.getD j 0 = y at *
              by_cases hyx : y = x
              · have Z := Lib.hid (show dpX hn D k = 7 by rw [DX.out, if_pos IY.out, if_pos (YM.out hyx.symm)])
                have E := Lib.hid (BAD.out (by rw [Z.out]; decide))
                subst hyx
                have q1 : (y == y) = true := by simp
                go_upto_region 11 with fail
                go_quiet (fail)
                go_wp2
                go_ret2
                exact ⟨ret_ii E.out.1.symm (by rw [E.out.2, Z.out]), gb_trans G1.out (gb_dr GJ.out)⟩
              · have q1 : (y == x) = false := by rw [beq_eq_false_iff_ne]; exact hyx
                have S2 := Lib.hid (show x ∉ D.take (j + 1) from fun q => by
                  rcases SN.out.1 q with r | r
                  · exact JT.out r
                  · exact hyx r.symm)
                go_upto_region 11 with fail
                go_quiet (fail)
                go_wp2
                go_roundw
                case rel => exact ⟨j + 1, by omega, by go_num, S2.out, gb_dr JG.out⟩
                case measure => simp [intOf]; omega
            · have hjk : j = k := by omega
              subst hjk
              have Z := Lib.hid (NX.out (by rw [DX.out, if_pos IY.out, if_neg JT.out]))
              go_wp2
              go_roundw
              case rel => exact ⟨j + 1, by omega, by go_num, Z.out, GJ.out⟩
              case measure => simp [intOf]; omega
    · have hke : k = dn := by omega
      have E := Lib.hid (HR.out.good L8.out (by rw [HD.out.len, ← hke]; exact HT.out))
      have j1 : ¬ (k : Int) < dn := by omega
      have c0 := (B1.out.keep0 HG.out).cell 0
      have c1 := (B1.out.keep0 HG.out).cell 1
      have c2 := (B1.out.keep0 HG.out).cell 2
      have c3 := (B1.out.keep0 HG.out).cell 3
      have c4 := (B1.out.keep0 HG.out).cell 4
      have c5 := (B1.out.keep0 HG.out).cell 5
      have c6 := (B1.out.keep0 HG.out).cell 6
      have c7 := (B1.out.keep0 HG.out).cell 7
      have c8 := (B1.out.keep0 HG.out).cell 8
      dsimp at c0 c1 c2 c3 c4 c5 c6 c7 c8
      go_wp2
      go_ret2
      exact ⟨ret_ii E.out.1.symm E.out.2.symm, gb_trans G1.out HG.out⟩
end Go.Proofs.Ytglgjkggjpfahaa
