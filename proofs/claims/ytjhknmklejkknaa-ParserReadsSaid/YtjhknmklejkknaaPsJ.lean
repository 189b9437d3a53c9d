/- Parser: the law that tells large programs; no condition. -/
import Derived.Test.YtjhknmklejkknaaGxJ
import Derived.Deep.QuietTactic
import Derived.BigQuiet
namespace Go.Proofs.Ytjhknmklejkknaa
open Go.RowKit
set_option linter.unusedVariables false
/-- What a program that is not too large keeps. -/
structure TLz (hn mn sn : Nat) (H : List (ByteArray × List Fld)) (S : List Pst) : Prop where
  h : hn ≤ 10
  m : mn ≤ 16
  s : sn ≤ 16
  f : ∀ j, (H.getD j hz).2.length ≤ 16
  n : ∀ j, (H.getD j hz).1.size ≤ 30 ∧ ∀ p ∈ (H.getD j hz).2, p.1.size ≤ 30
  e : ∀ i, (S.getD i psz).ex.length ≤ 8
  c : ∀ i, (S.getD i psz).cs.length ≤ 12
  z : ∀ i, (S.getD i psz).nm.size ≤ 100
set_option maxRecDepth 100000 in
set_option maxHeartbeats 8000000 in
theorem large18_any (w : World) (nm v3 v4 v5 v7 v8 : Value) (ha ma sa : Option Addr) (hn hc mn mc sn sc : Nat) (H : List (ByteArray × List Fld)) (S : List Pst) (hH : SH w ha hn hc H) (hS : SPs w sa sn sc S) (hnm : ∀ x ∈ H, x.1.size ≤ 9223372036854775807 ∧ ∀ p ∈ x.2, p.1.size ≤ 9223372036854775807) : Calls Try.prog 12 #[.agg #[nm, .slice ha hn hc, .slice ma mn mc, v3, v4, v5, .slice sa sn sc, v7, v8]] w (fun e w' => ∃ b : Bool, e = .returned (.bool b) ∧ w.grownBy w' none ∧ (b = false → TLz hn mn sn H S)) := by
  have HH := Lib.hid hH
  have HS := Lib.hid hS
  have NM := Lib.hid hnm
  have G1 := Lib.hid (gb_alloc w (.cells #[nm, .slice ha hn hc, .slice ma mn mc, v3, v4, v5, .slice sa sn sc, v7, v8] 31) none)
  have B1 := IsB.new w 31 #[nm, .slice ha hn hc, .slice ma mn mc, v3, v4, v5, .slice sa sn sc, v7, v8]
  replace B1 := Lib.hid B1
  clear hH hS hnm
  go_enter Try.func12, Try.ntmps12
  go_upto_region 1 with fail
  generalize w.alloc (.cells #[nm, .slice ha hn hc, .slice ma mn mc, v3, v4, v5, .slice sa sn sc, v7, v8] 31) = w1 at *
  obtain ⟨bx, hbx⟩ : ∃ b, b = w.heap.size := ⟨_, rfl⟩
  have Lbx := Lib.hid (show w.heap.size ≤ bx by rw [hbx]; exact Nat.le_refl _)
  rw [← hbx] at B1 ⊢
  clear hbx
  have c0 := (B1.out.keep0 (gb_refl _ _)).cell 0
  have c1 := (B1.out.keep0 (gb_refl _ _)).cell 1
  have c2 := (B1.out.keep0 (gb_refl _ _)).cell 2
  have c3 := (B1.out.keep0 (gb_refl _ _)).cell 3
  have c4 := (B1.out.keep0 (gb_refl _ _)).cell 4
  have c5 := (B1.out.keep0 (gb_refl _ _)).cell 5
  have c6 := (B1.out.keep0 (gb_refl _ _)).cell 6
  have c7 := (B1.out.keep0 (gb_refl _ _)).cell 7
  have c8 := (B1.out.keep0 (gb_refl _ _)).cell 8
  dsimp at c0 c1 c2 c3 c4 c5 c6 c7 c8
  by_cases h1 : 10 < hn
  · have i1 : decide ((10 : Int) < hn) = true := decide_eq_true (by omega)
    go_wp2
    go_ret
    exact ⟨_, rfl, G1.out, fun q => by cases q⟩
  have i1 : decide ((10 : Int) < hn) = false := decide_eq_false (by omega)
  by_cases h2 : 16 < sn
  · have i2 : decide ((16 : Int) < sn) = true := decide_eq_true (by omega)
    go_wp2
    go_ret
    exact ⟨_, rfl, G1.out, fun q => by cases q⟩
  have i2 : decide ((16 : Int) < sn) = false := decide_eq_false (by omega)
  by_cases h3 : 16 < mn
  · have i3 : decide ((16 : Int) < mn) = true := decide_eq_true (by omega)
    go_wp2
    go_ret
    exact ⟨_, rfl, G1.out, fun q => by cases q⟩
  have i3 : decide ((16 : Int) < mn) = false := decide_eq_false (by omega)
  go_wp2
  clear i1 i2 i3
  clear c0 c1 c2 c3 c4 c5 c6 c7 c8
  go_loopw [3] (fun i9 wr => ∃ j : Nat, j ≤ hn ∧ i9 = .int .i64 j ∧ (∀ i, i < j → (H.getD i hz).2.length ≤ 16 ∧ smallH (H.getD i hz).1 (H.getD i hz).2 = true) ∧ w1.grownBy wr none) (fun i9 _ => hn - (intOf i9).toNat)
  case atStart => exact ⟨0, Nat.zero_le _, rfl, fun i hi => absurd hi (Nat.not_lt_zero _), gb_refl _ _⟩
  case round =>
    obtain ⟨j, hj, rfl, ht, hg⟩ := hrel
    have HT := Lib.hid ht
    have HG := Lib.hid hg
    clear ht hg
    have c0 := (B1.out.keep0 HG.out).cell 0
    have c1 := (B1.out.keep0 HG.out).cell 1
    have c2 := (B1.out.keep0 HG.out).cell 2
    have c3 := (B1.out.keep0 HG.out).cell 3
    have c4 := (B1.out.keep0 HG.out).cell 4
    have c5 := (B1.out.keep0 HG.out).cell 5
    have c6 := (B1.out.keep0 HG.out).cell 6
    have c7 := (B1.out.keep0 HG.out).cell 7
    have c8 := (B1.out.keep0 HG.out).cell 8
    dsimp at c0 c1 c2 c3 c4 c5 c6 c7 c8
    by_cases hlt : j < hn
    · obtain ⟨hd, hhd⟩ := HH.out.some (by omega)
      subst hhd
      have j1 : (j : Int) < hn := by omega
      have j0 : (0 : Int) ≤ (j : Int) := by omega
      have hw : IntKind.i64.wrap ((j : Int) + 1) = ((j + 1 : Nat) : Int) := by rw [IntKind.wrap_i64]; omega
      obtain ⟨d0, ya, yn, yc, d1, sf⟩ := (HH.out.keep0 (gb_trans G1.out HG.out)).cells hd rfl j hlt
      have LY := Lib.hid sf.len
      have NX := Lib.hid (show ((H.getD j hz).2.length ≤ 16 ∧ smallH (H.getD j hz).1 (H.getD j hz).2 = true) → ∀ i, i < j + 1 → (H.getD i hz).2.length ≤ 16 ∧ smallH (H.getD i hz).1 (H.getD i hz).2 = true from fun q i hi => by
        rcases (show i < j ∨ i = j by omega) with r | rfl
        · exact HT.out i r
        · exact q)
      have KS := Lib.hid (fun (W : World) (q : wr.grownBy W none) => small_any W (H.getD j hz).1 ya yn yc (H.getD j hz).2 (sf.keep0 q))
      clear sf
      generalize (H.getD j hz).1 = s0 at *
      generalize (H.getD j hz).2 = l0 at *
      by_cases h16 : 16 < yn
      · have i1 : decide ((16 : Int) < yn) = true := decide_eq_true (by omega)
        go_wp2
        go_ret
        exact ⟨_, rfl, gb_trans G1.out HG.out, fun q => by cases q⟩
      have i1 : decide ((16 : Int) < yn) = false := decide_eq_false (by omega)
      unfold RetG at KS
      generalize smallH s0 l0 = bs at *
      go_wp2_with fail
      refine (KS.out _ (gb_refl _ _)).mono ?_
      rintro e9 w2 ⟨rfl, g⟩
      have G2 := Lib.hid (gb_trans HG.out g)
      clear g
      cases bs
      · go_wp2
        go_ret
        exact ⟨_, rfl, gb_trans G1.out G2.out, fun q => by cases q⟩
      · have Z := Lib.hid (NX.out ⟨by rw [LY.out]; omega, rfl⟩)
        go_wp2
        go_roundw
        case rel => exact ⟨j + 1, by omega, by go_num, Z.out, G2.out⟩
        case measure => simp [intOf]; omega
    · have hke : j = hn := by omega
      have j1 : ¬ (j : Int) < hn := by omega
      have LH := Lib.hid HH.out.len
      have HA := Lib.hid (show ∀ i, (H.getD i hz).2.length ≤ 16 ∧ ((H.getD i hz).1.size ≤ 30 ∧ ∀ p ∈ (H.getD i hz).2, p.1.size ≤ 30) from fun i => by
        by_cases hi : i < hn
        · have q := HT.out i (by omega)
          have u := smallH_ok q.2
          exact ⟨q.1, u.1, u.2.2⟩
        · rw [List.getD_eq_getElem?_getD, List.getElem?_eq_none (by rw [LH.out]; omega)]
          exact ⟨Nat.zero_le _, Nat.zero_le _, fun p hp => by cases hp⟩)
      clear HT
      go_wp2
      clear j1
      clear c0 c1 c2 c3 c4 c5 c6 c7 c8
      go_loopw [4] (fun i9 wr2 => ∃ k : Nat, k ≤ sn ∧ i9 = .int .i64 k ∧ (∀ i, i < k → (S.getD i psz).ex.length ≤ 8 ∧ (S.getD i psz).cs.length ≤ 12 ∧ (S.getD i psz).nm.size ≤ 100) ∧ w1.grownBy wr2 none) (fun i9 _ => sn - (intOf i9).toNat)
      case atStart => exact ⟨0, Nat.zero_le _, rfl, fun i hi => absurd hi (Nat.not_lt_zero _), HG.out⟩
      case round =>
        clear HG
        obtain ⟨k, hk, rfl, ht, hg⟩ := hrel
        have HT := Lib.hid ht
        have HG := Lib.hid hg
        clear ht hg
        have c0 := (B1.out.keep0 HG.out).cell 0
        have c1 := (B1.out.keep0 HG.out).cell 1
        have c2 := (B1.out.keep0 HG.out).cell 2
        have c3 := (B1.out.keep0 HG.out).cell 3
        have c4 := (B1.out.keep0 HG.out).cell 4
        have c5 := (B1.out.keep0 HG.out).cell 5
        have c6 := (B1.out.keep0 HG.out).cell 6
        have c7 := (B1.out.keep0 HG.out).cell 7
        have c8 := (B1.out.keep0 HG.out).cell 8
        dsimp at c0 c1 c2 c3 c4 c5 c6 c7 c8
        by_cases hlt : k < sn
        · obtain ⟨sd, hsd⟩ := HS.out.some (by omega)
          subst hsd
          have k1 : (k : Int) < sn := by omega
          have k0 : (0 : Int) ≤ (k : Int) := by omega
          have hw : IntKind.i64.wrap ((k : Int) + 1) = ((k + 1 : Nat) : Int) := by rw [IntKind.wrap_i64]; omega
          obtain ⟨z0, ⟨xa, xn, xc, z1, zx⟩, z2, z3, z4, ⟨ca, cn, cc, z5, zc⟩, z6⟩ := (HS.out.keep0SPs (gb_trans G1.out HG.out)).cells sd rfl k hlt
          have LX := Lib.hid zx.len
          have LC := Lib.hid zc.len
          clear zx zc
          have NX := Lib.hid (show ((S.getD k psz).ex.length ≤ 8 ∧ (S.getD k psz).cs.length ≤ 12 ∧ (S.getD k psz).nm.size ≤ 100) → ∀ i, i < k + 1 → (S.getD i psz).ex.length ≤ 8 ∧ (S.getD i psz).cs.length ≤ 12 ∧ (S.getD i psz).nm.size ≤ 100 from fun q i hi => by
            rcases (show i < k ∨ i = k by omega) with r | rfl
            · exact HT.out i r
            · exact q)
          generalize (S.getD k psz).nm = s0 at *
          generalize (S.getD k psz).ex = ex at *
          generalize (S.getD k psz).cs = cs at *
          by_cases h8 : 8 < xn
          · have i1 : decide ((8 : Int) < xn) = true := decide_eq_true (by omega)
            go_wp2
            go_ret
            exact ⟨_, rfl, gb_trans G1.out HG.out, fun q => by cases q⟩
          have i1 : decide ((8 : Int) < xn) = false := decide_eq_false (by omega)
          by_cases h12 : 12 < cn
          · have i2 : decide ((12 : Int) < cn) = true := decide_eq_true (by omega)
            go_wp2
            go_ret
            exact ⟨_, rfl, gb_trans G1.out HG.out, fun q => by cases q⟩
          have i2 : decide ((12 : Int) < cn) = false := decide_eq_false (by omega)
          by_cases h100 : 100 < s0.size
          · have i3 : decide ((100 : Int) < s0.size) = true := decide_eq_true (by omega)
            go_wp2
            go_ret
            exact ⟨_, rfl, gb_trans G1.out HG.out, fun q => by cases q⟩
          have i3 : decide ((100 : Int) < s0.size) = false := decide_eq_false (by omega)
          have Z := Lib.hid (NX.out ⟨by rw [LX.out]; omega, by rw [LC.out]; omega, by omega⟩)
          go_wp2
          go_roundw
          case rel => exact ⟨k + 1, by omega, by go_num, Z.out, HG.out⟩
          case measure => simp [intOf]; omega
        · have hks : k = sn := by omega
          have k1 : ¬ (k : Int) < sn := by omega
          have LS := Lib.hid HS.out.len
          have SA := Lib.hid (show ∀ i, (S.getD i psz).ex.length ≤ 8 ∧ (S.getD i psz).cs.length ≤ 12 ∧ (S.getD i psz).nm.size ≤ 100 from fun i => by
            by_cases hi : i < sn
            · exact HT.out i (by omega)
            · rw [List.getD_eq_getElem?_getD, List.getElem?_eq_none (by rw [LS.out]; omega)]
              exact ⟨Nat.zero_le _, Nat.zero_le _, Nat.zero_le _⟩)
          clear HT
          go_wp2
          go_ret
          exact Or.inl ⟨rfl, gb_trans G1.out HG.out, ⟨by omega, by omega, by omega, fun j => (HA.out j).1, fun j => (HA.out j).2, fun i => (SA.out i).1, fun i => (SA.out i).2.1, fun i => (SA.out i).2.2⟩⟩
end Go.Proofs.Ytjhknmklejkknaa
