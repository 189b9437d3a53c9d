/- Table: equal rows of numbers; what the law calls a small environment; no condition. -/
import Derived.Test.YtaiemcpkiegdiaaTbN
namespace Go.Proofs.Ytaiemcpkiegdiaa
open Go.RowKit
set_option linter.unusedVariables false
set_option maxRecDepth 100000 in
set_option maxHeartbeats 4000000 in
theorem eqi_same (w : World) (a b : Option Addr) (n c m d : Nat) (L : List Int) (h : SI w a n c L) (k : SI w b m d L) (hn : n ≤ 10000) :
    Calls Try.prog 14 #[.slice a n c, .slice b m d] w (RetV (.bool true) w) := by
  obtain rfl : n = m := by rw [← h.len, ← k.len]
  have HL := Lib.hid h
  have HM := Lib.hid k
  clear h k
  have h0 : ((n : Int) != n) = false := by simp
  go_enter Try.func14, Try.ntmps14
  go_wp2
  go_loopw [5] (fun i wr => ∃ j : Nat, j ≤ n ∧ i = .int .i64 j ∧ w.grownBy wr none) (fun i _ => n - (intOf i).toNat)
  case atStart => exact ⟨0, Nat.zero_le _, rfl, gb_refl _ _⟩
  case round =>
    obtain ⟨j, hj, rfl, hg⟩ := hrel
    have HG := Lib.hid hg
    clear hg
    by_cases hlt : j < n
    · have i1 : (j : Int) < n := by omega
      have i0 : (0 : Int) ≤ (j : Int) := by omega
      obtain ⟨ad, rfl⟩ := HL.out.some (by omega)
      obtain ⟨bd, rfl⟩ := HM.out.some (by omega)
      have k1 := (HL.out.keep0 HG.out).cells ad rfl j hlt
      have k3 := (HM.out.keep0 HG.out).cells bd rfl j hlt
      generalize L.getD j 0 = x at *
      have hx : (x != x) = false := by simp
      go_wp2
      go_quiet (fail)
      go_wp2
      go_roundw
      case rel => exact ⟨j + 1, by omega, by go_num, gb_trans HG.out (by first | exact gb_drewN _ _ _ | exact gb_trans (gb_drewN _ _ _) (gb_drewN _ _ _))⟩
      case measure => simp [intOf]; omega
    · have i1 : ¬ (j : Int) < n := by omega
      go_wp2
      go_ret
      exact ⟨rfl, HG.out⟩
set_option maxRecDepth 100000 in
set_option maxHeartbeats 4000000 in
theorem equ_same (w : World) (a b : Option Addr) (n c m d : Nat) (L : List Int) (h : SU w a n c L) (k : SU w b m d L) (hn : n ≤ 10000) :
    Calls Try.prog 22 #[.slice a n c, .slice b m d] w (RetV (.bool true) w) := by
  obtain rfl : n = m := by rw [← h.len, ← k.len]
  have HL := Lib.hid h
  have HM := Lib.hid k
  clear h k
  have h0 : ((n : Int) != n) = false := by simp
  go_enter Try.func22, Try.ntmps22
  go_wp2
  go_loopw [5] (fun i wr => ∃ j : Nat, j ≤ n ∧ i = .int .i64 j ∧ w.grownBy wr none) (fun i _ => n - (intOf i).toNat)
  case atStart => exact ⟨0, Nat.zero_le _, rfl, gb_refl _ _⟩
  case round =>
    obtain ⟨j, hj, rfl, hg⟩ := hrel
    have HG := Lib.hid hg
    clear hg
    by_cases hlt : j < n
    · have i1 : (j : Int) < n := by omega
      have i0 : (0 : Int) ≤ (j : Int) := by omega
      obtain ⟨ad, rfl⟩ := HL.out.some (by omega)
      obtain ⟨bd, rfl⟩ := HM.out.some (by omega)
      have k1 := (HL.out.keep0 HG.out).cells ad rfl j hlt
      have k3 := (HM.out.keep0 HG.out).cells bd rfl j hlt
      generalize L.getD j 0 = x at *
      have hx : (x != x) = false := by simp
      go_wp2
      go_quiet (fail)
      go_wp2
      go_roundw
      case rel => exact ⟨j + 1, by omega, by go_num, gb_trans HG.out (by first | exact gb_drewN _ _ _ | exact gb_trans (gb_drewN _ _ _) (gb_drewN _ _ _))⟩
      case measure => simp [intOf]; omega
    · have i1 : ¬ (j : Int) < n := by omega
      go_wp2
      go_ret
      exact ⟨rfl, HG.out⟩
set_option maxRecDepth 100000 in
set_option maxHeartbeats 4000000 in
theorem smallenv_any (w : World) (va fa ta pa : Option Addr) (vn vc fn fc tn tc pn pc : Nat) (F : List (List Int)) (hf : SR w fa fn fc F) : Calls Try.prog 21 #[.agg #[.slice va vn vc, .slice fa fn fc, .slice ta tn tc, .slice pa pn pc]] w (RetB (vn ≤ 20 ∧ fn ≤ 20 ∧ tn ≤ 30) w) := by
  have HF := Lib.hid hf
  have G2 := Lib.hid (gb_alloc w (.cells #[.slice va vn vc, .slice fa fn fc, .slice ta tn tc, .slice pa pn pc] 47) none)
  have B1 := IsB.new w 47 #[.slice va vn vc, .slice fa fn fc, .slice ta tn tc, .slice pa pn pc]
  replace B1 := Lib.hid B1
  clear hf
  go_enter Try.func21, Try.ntmps21
  go_upto_region 1 with fail
  generalize w.alloc (.cells #[.slice va vn vc, .slice fa fn fc, .slice ta tn tc, .slice pa pn pc] 47) = w2 at *
  obtain ⟨bx, hbx⟩ : ∃ b, b = w.heap.size := ⟨_, rfl⟩
  have Lbx := Lib.hid (show w.heap.size ≤ bx by rw [hbx]; exact Nat.le_refl _)
  rw [← hbx] at B1 ⊢
  clear hbx
  replace HF := Lib.hid (HF.out.keep0 G2.out)
  have c0 := (B1.out.keep0 (gb_refl _ _)).cell 0
  have c1 := (B1.out.keep0 (gb_refl _ _)).cell 1
  have c2 := (B1.out.keep0 (gb_refl _ _)).cell 2
  have c3 := (B1.out.keep0 (gb_refl _ _)).cell 3
  dsimp at c0 c1 c2 c3
  by_cases h0 : (20 : Int) < vn
  · go_wp2
    go_ret
    exact ⟨false, rfl, G2.out, fun h => by cases h⟩
  · by_cases h1 : (20 : Int) < fn
    · go_wp2
      go_ret
      exact ⟨false, rfl, G2.out, fun h => by cases h⟩
    · by_cases h2 : (30 : Int) < tn
      · go_wp2
        go_ret
        exact ⟨false, rfl, G2.out, fun h => by cases h⟩
      · by_cases h3 : (300 : Int) < pn
        · go_wp2
          go_ret
          exact ⟨false, rfl, G2.out, fun h => by cases h⟩
        · have N := Lib.hid (show vn ≤ 20 ∧ fn ≤ 20 ∧ tn ≤ 30 by omega)
          go_wp2
          clear c0 c2 c3 h0 h1 h2 h3
          go_loopw [3] (fun i wr => ∃ j : Nat, j ≤ fn ∧ i = .int .i64 j ∧ w2.grownBy wr none) (fun i _ => fn - (intOf i).toNat)
          case atStart => exact ⟨0, Nat.zero_le _, rfl, gb_refl _ _⟩
          case round =>
            obtain ⟨j, hj, rfl, hg⟩ := hrel
            have G := Lib.hid hg
            clear hg
            have c1 := (B1.out.keep0 G.out).cell 1
            dsimp at c1
            by_cases hlt : j < fn
            · obtain ⟨ad, had⟩ := HF.out.some (by omega)
              obtain ⟨xa, xn, xc, e0, _⟩ := (HF.out.keep0 G.out).cells ad had j hlt
              have i1 : (j : Int) < fn := by omega
              have i0 : (0 : Int) ≤ (j : Int) := by omega
              have hw : IntKind.i64.wrap ((j : Int) + 1) = ((j + 1 : Nat) : Int) := by have := N.out; rw [IntKind.wrap_i64]; omega
              rw [had] at c1 ⊢
              by_cases q : (30 : Int) < xn
              · go_wp2
                go_ret
                exact ⟨false, rfl, gb_trans G2.out G.out, fun h => by cases h⟩
              · go_wp2
                go_roundw
                case rel => exact ⟨j + 1, by omega, by first | rfl | (congr 1), G.out⟩
                case measure => simp [intOf]; omega
            · have i1 : ¬ (j : Int) < fn := by omega
              go_wp2
              go_ret
              exact ⟨true, rfl, gb_trans G2.out G.out, fun _ => N.out⟩
end Go.Proofs.Ytaiemcpkiegdiaa
