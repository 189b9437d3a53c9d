/- Env: the law's sizes: TooLarge, long; no condition. -/
import Derived.Test.YtolifmpnhflegaaEvB
import Derived.Test.YtolifmpnhflegaaExC
namespace Go.Proofs.Ytolifmpnhflegaa
open Go.RowKit
set_option linter.unusedVariables false
/-- Sizes of a program that the law admits. -/
def sizeP (H : List (ByteArray × List Fld)) (M : List Fld) : Prop := H.length ≤ 12 ∧ M.length ≤ 16 ∧ ∀ i, i < H.length → (H.getD i hz).2.length ≤ 16
def sizeE (L : EL) : Prop := L.V.length ≤ 16 ∧ L.F.length ≤ 16 ∧ L.T.length ≤ 16 ∧ L.P.length ≤ 600 ∧ ∀ i, i < L.F.length → (L.F.getD i []).length ≤ 16
theorem too_yes {b : Bool} {P : Prop} (h : b = false ↔ P) (n : ¬ P) : b = true := by cases b with
  | true => rfl
  | false => exact absurd (h.1 rfl) n
set_option maxRecDepth 100000 in
set_option maxHeartbeats 4000000 in
theorem large_any (w : World) (nm v3 v4 v5 v6 v7 v8 : Value) (ha ma : Option Addr) (hn hc mn mc : Nat) (H : List (ByteArray × List Fld)) (M : List Fld) (hH : SH w ha hn hc H) (hM : SF w ma mn mc M) (b : Bool) (hb : b = false ↔ sizeP H M) : Calls Try.prog 9 #[.agg #[nm, .slice ha hn hc, .slice ma mn mc, v3, v4, v5, v6, v7, v8]] w (RetV (.bool b) w) := by
  have HH := Lib.hid hH
  have HL := Lib.hid hH.len
  have ML := Lib.hid hM.len
  have HB := Lib.hid hb
  have GB := Lib.hid (gb_alloc w (.cells #[nm, .slice ha hn hc, .slice ma mn mc, v3, v4, v5, v6, v7, v8] 31) none)
  have B1 := IsB.new w 31 #[nm, .slice ha hn hc, .slice ma mn mc, v3, v4, v5, v6, v7, v8]
  replace B1 := Lib.hid B1
  clear hH hM hb
  go_enter Try.func9, Try.ntmps9
  go_upto_region 1 with fail
  generalize w.alloc (.cells #[nm, .slice ha hn hc, .slice ma mn mc, v3, v4, v5, v6, v7, v8] 31) = w2 at *
  obtain ⟨bx, hbx⟩ : ∃ b, b = w.heap.size := ⟨_, rfl⟩
  have Lbx := Lib.hid (show w.heap.size ≤ bx by rw [hbx]; exact Nat.le_refl _)
  rw [← hbx] at B1 ⊢
  clear hbx
  have c0 := B1.out.cell 0
  have c1 := B1.out.cell 1
  have c2 := B1.out.cell 2
  have c3 := B1.out.cell 3
  have c4 := B1.out.cell 4
  have c5 := B1.out.cell 5
  have c6 := B1.out.cell 6
  have c7 := B1.out.cell 7
  have c8 := B1.out.cell 8
  dsimp at c0 c1 c2 c3 c4 c5 c6 c7 c8
  by_cases a1 : (12 : Int) < hn
  · have Y := Lib.hid (too_yes HB.out (by rintro ⟨q, _⟩; rw [HL.out] at q; omega))
    go_wp2
    go_ret
    exact ⟨by rw [Y.out] <;> rfl, GB.out⟩
  · by_cases a2 : (16 : Int) < mn
    · have Y := Lib.hid (too_yes HB.out (by rintro ⟨_, q, _⟩; rw [ML.out] at q; omega))
      go_wp2
      go_ret
      exact ⟨by rw [Y.out] <;> rfl, GB.out⟩
    · go_wp2
      clear c0 c1 c2 c3 c4 c5 c6 c7 c8
      go_loopw [3] (fun i wr => ∃ k : Nat, k ≤ hn ∧ i = .int .i64 k ∧ (∀ a, a < k → (H.getD a hz).2.length ≤ 16) ∧ wr = w2) (fun i _ => hn - (intOf i).toNat)
      case atStart => exact ⟨0, Nat.zero_le _, rfl, (fun i hi => absurd hi (Nat.not_lt_zero _)), rfl⟩
      case round =>
        obtain ⟨k, hk, rfl, ht, rfl⟩ := hrel
        have T1 := Lib.hid ht
        clear ht
        have x1 := B1.out.cell 1
        dsimp at x1
        by_cases hlt : k < hn
        · have i1 : (k : Int) < hn := by omega
          have i0 : (0 : Int) ≤ (k : Int) := by omega
          have hw : IntKind.i64.wrap ((k : Int) + 1) = ((k + 1 : Nat) : Int) := by rw [IntKind.wrap_i64]; omega
          obtain ⟨hd, rfl⟩ := HH.out.some (by omega)
          obtain ⟨d0, fa, n5, fc, d1, sf⟩ := (HH.out.keep0 GB.out).cells hd rfl k hlt
          have SL := Lib.hid sf.len
          clear sf d0
          by_cases a3 : (16 : Int) < n5
          · have Y := Lib.hid (too_yes HB.out (by rintro ⟨_, _, q⟩; have q := q k (by rw [HL.out]; exact hlt); rw [SL.out] at q; omega))
            go_wp2
            go_ret
            exact ⟨by rw [Y.out] <;> rfl, GB.out⟩
          · have N2 := Lib.hid (show ∀ a, a < k + 1 → (H.getD a hz).2.length ≤ 16 from fun a q => by
              rcases (show a < k ∨ a = k by omega) with q | rfl
              · exact T1.out a q
              · rw [SL.out]; omega)
            go_wp2
            go_roundw
            case rel => exact ⟨k + 1, by omega, by first | rfl | (congr 1), N2.out, by first | rfl | trivial⟩
            case measure => simp [intOf]; omega
        · have i1 : ¬ (k : Int) < hn := by omega
          obtain rfl : hn = k := by omega
          have Y := Lib.hid (HB.out.2 ⟨by rw [HL.out]; omega, by rw [ML.out]; omega, fun i q => T1.out i (by rw [HL.out] at q; exact q)⟩)
          go_wp2
          go_ret
          exact ⟨by rw [Y.out] <;> rfl, GB.out⟩
set_option maxRecDepth 100000 in
set_option maxHeartbeats 4000000 in
theorem long_c (w : World) (va fa ta pa : Option Addr) (vn vc fn fc tn tc pn pc : Nat) (L : EL) (hV : SB w va vn vc L.V) (hF : SR w fa fn fc L.F) (hT : SU w ta tn tc L.T) (hP : SY w pa pn pc L.P) (b : Bool) (hb : b = false ↔ sizeE L) : Calls Try.prog 10 #[.agg #[.slice va vn vc, .slice fa fn fc, .slice ta tn tc, .slice pa pn pc]] w (RetV (.bool b) w) := by
  have HF := Lib.hid hF
  have VL := Lib.hid hV.len
  have FL := Lib.hid hF.len
  have TL := Lib.hid hT.len
  have PL := Lib.hid hP.len
  have HB := Lib.hid hb
  have GB := Lib.hid (gb_alloc w (.cells #[.slice va vn vc, .slice fa fn fc, .slice ta tn tc, .slice pa pn pc] 37) none)
  have B1 := IsB.new w 37 #[.slice va vn vc, .slice fa fn fc, .slice ta tn tc, .slice pa pn pc]
  replace B1 := Lib.hid B1
  clear hV hF hT hP hb
  go_enter Try.func10, Try.ntmps10
  go_upto_region 1 with fail
  generalize w.alloc (.cells #[.slice va vn vc, .slice fa fn fc, .slice ta tn tc, .slice pa pn pc] 37) = w2 at *
  obtain ⟨bx, hbx⟩ : ∃ b, b = w.heap.size := ⟨_, rfl⟩
  have Lbx := Lib.hid (show w.heap.size ≤ bx by rw [hbx]; exact Nat.le_refl _)
  rw [← hbx] at B1 ⊢
  clear hbx
  have c0 := B1.out.cell 0
  have c1 := B1.out.cell 1
  have c2 := B1.out.cell 2
  have c3 := B1.out.cell 3
  dsimp at c0 c1 c2 c3
  by_cases a1 : (16 : Int) < vn
  · have Y := Lib.hid (too_yes HB.out (by rintro ⟨q, _⟩; rw [VL.out] at q; omega))
    go_wp2
    go_ret
    exact ⟨by rw [Y.out] <;> rfl, GB.out⟩
  · by_cases a2 : (16 : Int) < fn
    · have Y := Lib.hid (too_yes HB.out (by rintro ⟨_, q, _⟩; rw [FL.out] at q; omega))
      go_wp2
      go_ret
      exact ⟨by rw [Y.out] <;> rfl, GB.out⟩
    · by_cases a3 : (16 : Int) < tn
      · have Y := Lib.hid (too_yes HB.out (by rintro ⟨_, _, q, _⟩; rw [TL.out] at q; omega))
        go_wp2
        go_ret
        exact ⟨by rw [Y.out] <;> rfl, GB.out⟩
      · by_cases a4 : (600 : Int) < pn
        · have Y := Lib.hid (too_yes HB.out (by rintro ⟨_, _, _, q, _⟩; rw [PL.out] at q; omega))
          go_wp2
          go_ret
          exact ⟨by rw [Y.out] <;> rfl, GB.out⟩
        · go_wp2
          clear c0 c1 c2 c3
          go_loopw [3] (fun i wr => ∃ k : Nat, k ≤ fn ∧ i = .int .i64 k ∧ (∀ a, a < k → (L.F.getD a []).length ≤ 16) ∧ wr = w2) (fun i _ => fn - (intOf i).toNat)
          case atStart => exact ⟨0, Nat.zero_le _, rfl, (fun i hi => absurd hi (Nat.not_lt_zero _)), rfl⟩
          case round =>
            obtain ⟨k, hk, rfl, ht, rfl⟩ := hrel
            have T1 := Lib.hid ht
            clear ht
            have x1 := B1.out.cell 1
            dsimp at x1
            by_cases hlt : k < fn
            · have i1 : (k : Int) < fn := by omega
              have i0 : (0 : Int) ≤ (k : Int) := by omega
              have hw : IntKind.i64.wrap ((k : Int) + 1) = ((k + 1 : Nat) : Int) := by rw [IntKind.wrap_i64]; omega
              obtain ⟨hd, rfl⟩ := HF.out.some (by omega)
              obtain ⟨ga, n5, gc, d1, su⟩ := (HF.out.keep0 GB.out).cells hd rfl k hlt
              have SL := Lib.hid su.len
              clear su
              by_cases a5 : (16 : Int) < n5
              · have Y := Lib.hid (too_yes HB.out (by rintro ⟨_, _, _, _, q⟩; have q := q k (by rw [FL.out]; exact hlt); rw [SL.out] at q; omega))
                go_wp2
                go_ret
                exact ⟨by rw [Y.out] <;> rfl, GB.out⟩
              · have N2 := Lib.hid (show ∀ a, a < k + 1 → (L.F.getD a []).length ≤ 16 from fun a q => by
                  rcases (show a < k ∨ a = k by omega) with q | rfl
                  · exact T1.out a q
                  · rw [SL.out]; omega)
                go_wp2
                go_roundw
                case rel => exact ⟨k + 1, by omega, by first | rfl | (congr 1), N2.out, by first | rfl | trivial⟩
                case measure => simp [intOf]; omega
            · have i1 : ¬ (k : Int) < fn := by omega
              obtain rfl : fn = k := by omega
              have Y := Lib.hid (HB.out.2 ⟨by rw [VL.out]; omega, by rw [FL.out]; omega, by rw [TL.out]; omega, by rw [PL.out]; omega, fun i q => T1.out i (by rw [FL.out] at q; exact q)⟩)
              go_wp2
              go_ret
              exact ⟨by rw [Y.out] <;> rfl, GB.out⟩
theorem long_any (w : World) (X : EX) (L : EL) (h : ER w X L) (b : Bool) (hb : b = false ↔ sizeE L) : Calls Try.prog 10 #[.agg #[.slice X.va X.vn X.vc, .slice X.fa X.fn X.fc, .slice X.ta X.tn X.tc, .slice X.pa X.pn X.pc]] w (RetV (.bool b) w) :=
  long_c w X.va X.fa X.ta X.pa X.vn X.vc X.fn X.fc X.tn X.tc X.pn X.pc L h.v h.f h.t h.p b hb
end Go.Proofs.Ytolifmpnhflegaa
