/- The reference's follows: the walk; no condition but the matrix's size. -/
import Derived.Test.YtcbomfcioenliaaDsJ
namespace Go.Proofs.Ytcbomfcioenliaa
open Go.RowKit
set_option linter.unusedVariables false

set_option maxRecDepth 100000 in
set_option maxHeartbeats 4000000 in
theorem follows_any (w : World) (a : Option Addr) (n c : Nat) (g : List (List Int)) (i : Nat) (h : SlG w a n c g) (hn : n ≤ 1000) (hi : i < n) :
    Calls Try.prog 19 #[.slice a n c, .int .i64 i] w (fun e w' => ∃ b, e = .returned (.slice (some ⟨b, 0, none⟩) n n) ∧ BW w b n (later g i) w') := by
  obtain ⟨i0, hi0, hz0, hz1, hz2⟩ := info_parts infoB
  have HI := Lib.hid hi0
  have HH := Lib.hid h
  have hl := h.1
  clear hi0 h
  subst hl
  have i1 : (i : Int) < g.length := by omega
  go_enter Try.func19, Try.ntmps19
  go_wp2_with (at_make; refine wpList_make_full _ rfl _ _ 35 rfl w.heap.size 4 i0 (.bool false) 1 Try.underlying35 HI.out hz0 hz1 .i64 .i64 _ _ g.length rfl rfl ?c1 ?c2 ?c3 ?c4 ?c5 ?_)
  case c1 => first | rfl | omega
  case c2 => first | rfl | omega
  case c3 => rw [hz2]; omega
  case c4 => unfold maxLen; omega
  case c5 => simp
  intro w1 hown hg
  have R1 := Lib.hid (made_bools hown w (Nat.le_refl _) hg)
  have G1 := Lib.hid hg
  clear hown hg
  go_wp2_with (at_make; refine wpList_make_full _ rfl _ _ 35 rfl w1.heap.size 4 i0 (.bool false) 1 Try.underlying35 HI.out hz0 hz1 .i64 .i64 _ _ g.length rfl rfl ?c1 ?c2 ?c3 ?c4 ?c5 ?_)
  case c1 => first | rfl | omega
  case c2 => first | rfl | omega
  case c3 => rw [hz2]; omega
  case c4 => unfold maxLen; omega
  case c5 => simp
  intro w2 hown hg
  have L2 := Lib.hid (made_bools hown w G1.out.size (gb_trans G1.out hg))
  have R2 := Lib.hid (R1.out.keep0 hg)
  have HB0 := Lib.hid (show w.heap.size ≠ w1.heap.size by have := R1.out.lt; omega)
  obtain ⟨b1, hb1⟩ : ∃ b, b = w.heap.size := ⟨_, rfl⟩
  obtain ⟨b2, hb2⟩ : ∃ b, b = w1.heap.size := ⟨_, rfl⟩
  have HB := Lib.hid (show b2 ≠ b1 ∧ w.heap.size ≤ b2 by have := G1.out.size; have := HB0.out; exact ⟨by omega, by omega⟩)
  have HB1 := Lib.hid (show w.heap.size ≤ b1 by omega)
  rw [← hb1] at R2 ⊢
  rw [← hb2] at L2 ⊢
  clear hown hg R1 G1 HB0 hb1 hb2
  have f1 := R2.out.free i
  have x1 := R2.out.at_ i hi
  have R3 := Lib.hid ((R2.out.put i true).is (fun u _ => show (if u = i then true else false) = (fv g i (i + 1) i u).1 by rw [fv_start]; simp))
  have L3 := Lib.hid ((L2.out.far HB.out.1 HB1.out i (.bool true)).is (fun u _ => show false = (fv g i (i + 1) i u).2 by rw [fv_start]))
  go_wp2
  clear f1 x1 R2 L2
  go_loopw [7] (fun s wr => ∃ j : Nat, i + 1 ≤ j ∧ j ≤ g.length ∧ s = .int .i64 j ∧ BW w b1 g.length (fun u => (fv g i j i u).1) wr ∧ BW w b2 g.length (fun u => (fv g i j i u).2) wr) (fun s _ => g.length - (intOf s).toNat)
  case atStart => exact ⟨i + 1, Nat.le_refl _, by omega, by go_num, R3.out, L3.out⟩
  case round =>
    obtain ⟨j, hij, hj, rfl, q1, q2⟩ := hrel
    clear R3 L3
    have R3 := Lib.hid q1
    have L3 := Lib.hid q2
    clear q1 q2
    by_cases hlt : j < g.length
    · have i2 : (j : Int) < g.length := by omega
      go_wp2
      go_loopw [8] (fun s wr => ∃ k : Nat, i ≤ k ∧ k ≤ j ∧ s = .int .i64 k ∧ BW w b1 g.length (fun u => (fv g i j k u).1) wr ∧ BW w b2 g.length (fun u => (fv g i j k u).2) wr) (fun s _ => j - (intOf s).toNat)
      case atStart => exact ⟨i, Nat.le_refl _, by omega, rfl, R3.out, L3.out⟩
      case round =>
        obtain ⟨k, hik, hk, rfl, q1, q2⟩ := hrel
        clear R3 L3
        have R3 := Lib.hid q1
        have L3 := Lib.hid q2
        have D := Lib.hid (fun wz (gz : w.grownBy wz none) => at_any wz a g.length c g k j (HH.out.keep0 gz))
        clear q1 q2
        by_cases hkt : k < j
        · have i3 : (k : Int) < j := by omega
          have i4 : (k : Int) < g.length := by omega
          have r1 := R3.out.at_ k (by omega)
          simp only [fv_low hkt] at r1
          cases hr : (fr g i (k - i) k).1
          · rw [hr] at r1
            have ES := fr_step (g := g) (j := j) hik (by rw [hr]; simp)
            have R4 := Lib.hid (R3.out.is (F2 := fun u => (fv g i j (k + 1) u).1) (fun u _ => by rw [fv_skip ES u]))
            have L4 := Lib.hid (L3.out.is (F2 := fun u => (fv g i j (k + 1) u).2) (fun u _ => by rw [fv_skip ES u]))
            clear ES hr
            go_wp2
            go_roundw
            case rel => exact ⟨k + 1, by omega, by omega, by go_num, R4.out, L4.out⟩
            case measure => simp [intOf]; omega
          · rw [hr] at r1
            by_cases hd : dp g k j = 0
            · have ES := fr_step (g := g) (j := j) hik (fun q => q.2 hd)
              have R4 := Lib.hid (R3.out.is (F2 := fun u => (fv g i j (k + 1) u).1) (fun u _ => by rw [fv_skip ES u]))
              have L4 := Lib.hid (L3.out.is (F2 := fun u => (fv g i j (k + 1) u).2) (fun u _ => by rw [fv_skip ES u]))
              have HD := Lib.hid hd
              clear ES hr hd
              go_wp2_with fail
              refine (D.out _ R3.out.2.2 (by omega) hlt).mono ?_
              rintro e w3 ⟨rfl, q3⟩
              rw [HD.out]
              have R4 := Lib.hid (R4.out.keep0 (dn_gb q3 none))
              have L4 := Lib.hid (L4.out.keep0 (dn_gb q3 none))
              clear q3
              go_wp2
              go_roundw
              case rel => exact ⟨k + 1, by omega, by omega, by go_num, R4.out, L4.out⟩
              case measure => simp [intOf]; omega
            · have ES := fr_set (g := g) (j := j) hik hr hd
              obtain ⟨z, hz⟩ : ∃ z, z = dp g k j := ⟨_, rfl⟩
              have DZ := Lib.hid (fun wz gz h1 h2 => hz ▸ D.out wz gz h1 h2)
              have b0 : (z != 0) = true := by rw [hz]; simpa using hd
              rw [← hz] at ES
              have HZ := Lib.hid hz
              clear hd hr hz D
              have P1 := Lib.hid (show (fv g i j k j).2 = (fr g i (k - i) j).2 by rw [fv_at])
              have P2 := Lib.hid (show (fv g i j k k).2 = (fr g i (k - i) k).2 by rw [fv_low hkt])
              have ES := Lib.hid ES
              generalize (fr g i (k - i) j).2 = p at *
              generalize (fr g i (k - i) k).2 = q at *
              go_wp2_with fail
              refine (DZ.out _ R3.out.2.2 (by omega) hlt).mono ?_
              rintro e w3 ⟨rfl, q3⟩
              have R3 := Lib.hid (R3.out.keep0 (dn_gb q3 none))
              have L3 := Lib.hid (L3.out.keep0 (dn_gb q3 none))
              clear r1 q3
              have f1 := R3.out.free j
              have x1 := R3.out.at_ j hlt
              have R4 := Lib.hid (R3.out.put j true)
              have L4 := Lib.hid (L3.out.far HB.out.1 HB1.out j (.bool true))
              have l1 := L4.out.at_ j hlt
              have l2 := L4.out.at_ k (by omega)
              have f2 := L4.out.free j
              rw [P1.out] at l1
              rw [P2.out] at l2
              clear R3 L3
              cases p
              · cases q
                · have ES := Lib.hid (show _ = (true, decide (z = 2)) from ES.out)
                  go_wp2_with fail
                  refine (DZ.out _ R4.out.2.2 (by omega) hlt).mono ?_
                  rintro e w5 ⟨rfl, q5⟩
                  have l1 := (dn_gb q5 none).cell l1 (by simp)
                  have R4 := Lib.hid (R4.out.keep0 (dn_gb q5 none))
                  have L4 := Lib.hid (L4.out.keep0 (dn_gb q5 none))
                  have f2 := L4.out.free j
                  clear q5
                  by_cases hz2 : z = 2
                  · have ES := Lib.hid (show fr g i (k + 1 - i) j = (true, true) by rw [ES.out, decide_eq_true hz2])
                    subst hz2
                    have R5 := Lib.hid ((R4.out.far HB.out.1.symm HB.out.2 j (.bool true)).is (F2 := fun u => (fv g i j (k + 1) u).1) (fun u _ => by rw [← fv_put ES.out u]; split <;> rfl))
                    have L5 := Lib.hid ((L4.out.put j true).is (F2 := fun u => (fv g i j (k + 1) u).2) (fun u _ => by rw [← fv_put ES.out u]; split <;> rfl))
                    go_wp2
                    go_roundw
                    case rel => exact ⟨k + 1, by omega, by omega, by go_num, R5.out, L5.out⟩
                    case measure => simp [intOf]; omega
                  · have ES := Lib.hid (show fr g i (k + 1 - i) j = (true, false) by rw [ES.out, decide_eq_false hz2])
                    have b2z : (z == 2) = false := by simpa using hz2
                    have R5 := Lib.hid ((R4.out.far HB.out.1.symm HB.out.2 j (.bool false)).is (F2 := fun u => (fv g i j (k + 1) u).1) (fun u _ => by rw [← fv_put ES.out u]; split <;> rfl))
                    have L5 := Lib.hid ((L4.out.put j false).is (F2 := fun u => (fv g i j (k + 1) u).2) (fun u _ => by rw [← fv_put ES.out u]; split <;> rfl))
                    go_wp2
                    go_roundw
                    case rel => exact ⟨k + 1, by omega, by omega, by go_num, R5.out, L5.out⟩
                    case measure => simp [intOf]; omega
                · have ES := Lib.hid (show _ = (true, true) from ES.out)
                  have R5 := Lib.hid ((R4.out.far HB.out.1.symm HB.out.2 j (.bool true)).is (F2 := fun u => (fv g i j (k + 1) u).1) (fun u _ => by rw [← fv_put ES.out u]; split <;> rfl))
                  have L5 := Lib.hid ((L4.out.put j true).is (F2 := fun u => (fv g i j (k + 1) u).2) (fun u _ => by rw [← fv_put ES.out u]; split <;> rfl))
                  go_wp2
                  go_roundw
                  case rel => exact ⟨k + 1, by omega, by omega, by go_num, R5.out, L5.out⟩
                  case measure => simp [intOf]; omega
              · have ES := Lib.hid (show _ = (true, true) from ES.out)
                have R5 := Lib.hid ((R4.out.far HB.out.1.symm HB.out.2 j (.bool true)).is (F2 := fun u => (fv g i j (k + 1) u).1) (fun u _ => by rw [← fv_put ES.out u]; split <;> rfl))
                have L5 := Lib.hid ((L4.out.put j true).is (F2 := fun u => (fv g i j (k + 1) u).2) (fun u _ => by rw [← fv_put ES.out u]; split <;> rfl))
                go_wp2
                go_roundw
                case rel => exact ⟨k + 1, by omega, by omega, by go_num, R5.out, L5.out⟩
                case measure => simp [intOf]; omega
        · have hke : k = j := by omega
          subst hke
          have R4 := Lib.hid (R3.out.is (F2 := fun u => (fv g i (k + 1) i u).1) (fun u _ => by rw [fv_next]))
          have L4 := Lib.hid (L3.out.is (F2 := fun u => (fv g i (k + 1) i u).2) (fun u _ => by rw [fv_next]))
          clear R3 L3
          go_wp2
          go_roundw
          case rel => exact ⟨k + 1, by omega, by omega, by go_num, R4.out, L4.out⟩
          case measure => simp [intOf]; omega
    · have hje : j = g.length := by omega
      subst hje
      go_wp2
      go_ret
      exact ⟨b2, rfl, L3.out.is (fun u hu => by rw [fv_end hu]; rfl)⟩
end Go.Proofs.Ytcbomfcioenliaa
