/- The heap's sink: the walk. -/
import Derived.Test.YtaikpjnegopelaaDgJ
namespace Go.Proofs.Ytaikpjnegopelaa
open Go.RowKit
set_option linter.unusedVariables false

def lower (H : List Int) (i : Nat) : Nat := if 2 * i + 2 < H.length ∧ H.getD (2 * i + 2) 0 < H.getD (2 * i + 1) 0 then 2 * i + 2 else 2 * i + 1
def sinkF : Nat → Nat → List Int → List Int
  | 0, _, H => H
  | f + 1, i, H => if 2 * i + 1 < H.length then (if H.getD i 0 ≤ H.getD (lower H i) 0 then H else sinkF f (lower H i) (swapL H i (lower H i))) else H
theorem swapL_len (H : List Int) (i j : Nat) : (swapL H i j).length = H.length := by simp [swapL]
/-- The call returns nothing and changes block b alone. -/
def RetU (base b n c : Nat) (H : List Int) (w : World) (e : Ending) (w' : World) : Prop := e = .returned (.tuple #[]) ∧ NL w' base (.slice (some ⟨b, 0, none⟩) n c) H ∧ w.grownBy w' (some b)

set_option maxRecDepth 100000 in
set_option maxHeartbeats 4000000 in
theorem sink_any (w : World) (base b n c : Nat) (H : List Int) (h : NL w base (.slice (some ⟨b, 0, none⟩) n c) H) (hl : n = H.length) (hn : n ≤ 100000) :
    Calls Try.prog 47 #[.slice (some ⟨b, 0, none⟩) n c] w (RetU base b n c (sinkF n 0 H) w) := by
  have HN := Lib.hid h
  have HL := Lib.hid hl
  clear h hl
  go_enter Try.func47, Try.ntmps47
  go_wp2
  go_loopw [2] (fun k wr => ∃ (i f : Nat) (L : List Int), k = .int .i64 i ∧ i ≤ n ∧ n ≤ f + i ∧ n = L.length ∧ sinkF f i L = sinkF n 0 H ∧ NL wr base (.slice (some ⟨b, 0, none⟩) n c) L ∧ w.grownBy wr (some b)) (fun k _ => n - (intOf k).toNat)
  case atStart => exact ⟨0, n, H, rfl, Nat.zero_le _, by omega, HL.out, rfl, HN.out, gb_refl _ _⟩
  case round =>
    obtain ⟨i, f, L, rfl, hin, hf, hlen, hs, hnl, hg⟩ := hrel
    clear HN
    have HN := Lib.hid hnl
    have HG := Lib.hid hg
    have HS := Lib.hid hs
    have HLN := Lib.hid hlen
    have hib : i ≤ 100000 := by omega
    clear hnl hg hs hlen
    obtain ⟨p, hp⟩ : ∃ p : Nat, p = 2 * i + 1 := ⟨_, rfl⟩
    obtain ⟨q, hq⟩ : ∃ q : Nat, q = 2 * i + 2 := ⟨_, rfl⟩
    have h1 : 2 * (i : Int) + 1 = (p : Int) := by omega
    have h2 : (p : Int) + 1 = (q : Int) := by omega
    have hpb : p ≤ 300000 := by omega
    have hqb : q ≤ 300000 := by omega
    have hip : i < p := by omega
    have hiq : i < q := by omega
    have HPQ := Lib.hid (And.intro hp hq)
    by_cases hpn : p < n
    · have ip : (p : Int) < n := by omega
      have hi : i < n := by omega
      have ii : (i : Int) < n := by omega
      have ci := HN.out.at_ HLN.out i (by have := HLN.out; omega)
      have cp := HN.out.at_ HLN.out p (by have := HLN.out; omega)
      have STEP := Lib.hid (show sinkF f i L = if L.getD i 0 ≤ L.getD (lower L i) 0 then L else sinkF (f - 1) (lower L i) (swapL L i (lower L i)) by
        obtain ⟨f', rfl⟩ : ∃ f', f = f' + 1 := ⟨f - 1, by omega⟩
        show (if _ then _ else _) = _
        rw [if_pos (by have := HLN.out; omega)]
        rfl)
      have LOW := Lib.hid (show lower L i = if q < n ∧ L.getD q 0 < L.getD p 0 then q else p by unfold lower; rw [← hp, ← hq, ← HLN.out])
      obtain ⟨x, hx⟩ : ∃ x, x = L.getD i 0 := ⟨_, rfl⟩
      obtain ⟨y, hy⟩ : ∃ y, y = L.getD p 0 := ⟨_, rfl⟩
      obtain ⟨z, hz⟩ : ∃ z, z = L.getD q 0 := ⟨_, rfl⟩
      rw [← hx] at ci STEP
      rw [← hy] at cp
      have HX := Lib.hid hx
      have HY := Lib.hid hy
      have HZ := Lib.hid hz
      by_cases hqn : q < n
      · have iq : (q : Int) < n := by omega
        have cq := HN.out.at_ HLN.out q (by have := HLN.out; omega)
        rw [← hz] at cq
        by_cases hzy : z < y
        · have LO := Lib.hid (show lower L i = q by rw [LOW.out, ← HZ.out, ← HY.out, if_pos ⟨hqn, hzy⟩])
          have ST := Lib.hid STEP.out
          rw [LO.out, ← HZ.out] at ST
          clear hx hy hz hp hq LOW STEP
          by_cases hxz : x ≤ z
          · have FIN := Lib.hid (show L = sinkF n 0 H by rw [← HS.out, ST.out, if_pos hxz])
            go_wp2
            go_quiet (fail)
            go_wp2
            go_quiet (fail)
            go_wp2
            (try simp only [Exit.inBlock, Exit.then])
            refine bodyPost_ret (results_none rfl _ _ _) rfl ⟨rfl, ?_, ?_⟩
            · rw [← FIN.out]
              first | exact HN.out.keep0 (gb_drewN _ _ _) | exact (HN.out.keep0 (gb_drewN _ _ _)).keep0 (gb_drewN _ _ _)
            · first | exact gb_trans HG.out (gb_drewN _ _ _) | exact gb_trans HG.out (gb_trans (gb_drewN _ _ _) (gb_drewN _ _ _))
          · rw [if_neg hxz] at ST
            go_wp2
            go_quiet (fail)
            go_wp2
            go_quiet (fail)
            go_wp2_with fail
            refine (swap_any _ base b n c L i q (by first | exact HN.out.keep0 (gb_drewN _ _ _) | exact (HN.out.keep0 (gb_drewN _ _ _)).keep0 (gb_drewN _ _ _)) HLN.out hi hqn (by omega)).mono ?_
            rintro e w4 ⟨rfl, o4, g4⟩
            have O4 := Lib.hid o4
            have G4 := Lib.hid (gb_trans (gb_trans HG.out (gb_drewN _ _ _)) g4)
            clear o4 g4
            go_wp2
            go_roundw
            case rel => exact ⟨q, f - 1, _, rfl, by omega, by omega, by rw [swapL_len]; exact HLN.out, ST.out.symm.trans HS.out, O4.out, G4.out⟩
            case measure => simp [intOf]; omega
        · have LO := Lib.hid (show lower L i = p by rw [LOW.out, ← HZ.out, ← HY.out, if_neg (fun h => hzy h.2)])
          have ST := Lib.hid STEP.out
          rw [LO.out, ← HY.out] at ST
          clear hx hy hz hp hq LOW STEP
          by_cases hxz : x ≤ y
          · have FIN := Lib.hid (show L = sinkF n 0 H by rw [← HS.out, ST.out, if_pos hxz])
            go_wp2
            go_quiet (fail)
            go_wp2
            go_quiet (fail)
            go_wp2
            (try simp only [Exit.inBlock, Exit.then])
            refine bodyPost_ret (results_none rfl _ _ _) rfl ⟨rfl, ?_, ?_⟩
            · rw [← FIN.out]
              first | exact HN.out.keep0 (gb_drewN _ _ _) | exact (HN.out.keep0 (gb_drewN _ _ _)).keep0 (gb_drewN _ _ _)
            · first | exact gb_trans HG.out (gb_drewN _ _ _) | exact gb_trans HG.out (gb_trans (gb_drewN _ _ _) (gb_drewN _ _ _))
          · rw [if_neg hxz] at ST
            go_wp2
            go_quiet (fail)
            go_wp2
            go_quiet (fail)
            go_wp2_with fail
            refine (swap_any _ base b n c L i p (by first | exact HN.out.keep0 (gb_drewN _ _ _) | exact (HN.out.keep0 (gb_drewN _ _ _)).keep0 (gb_drewN _ _ _)) HLN.out hi hpn (by omega)).mono ?_
            rintro e w4 ⟨rfl, o4, g4⟩
            have O4 := Lib.hid o4
            have G4 := Lib.hid (gb_trans (gb_trans HG.out (gb_drewN _ _ _)) g4)
            clear o4 g4
            go_wp2
            go_roundw
            case rel => exact ⟨p, f - 1, _, rfl, by omega, by omega, by rw [swapL_len]; exact HLN.out, ST.out.symm.trans HS.out, O4.out, G4.out⟩
            case measure => simp [intOf]; omega
      · have iq : ¬ (q : Int) < n := by omega
        have LO := Lib.hid (show lower L i = p by rw [LOW.out, if_neg (fun h => hqn h.1)])
        have ST := Lib.hid STEP.out
        rw [LO.out, ← HY.out] at ST
        clear hx hy hz hp hq LOW STEP
        by_cases hxz : x ≤ y
        · have FIN := Lib.hid (show L = sinkF n 0 H by rw [← HS.out, ST.out, if_pos hxz])
          go_wp2
          go_quiet (fail)
          go_wp2
          go_quiet (fail)
          go_wp2
          (try simp only [Exit.inBlock, Exit.then])
          refine bodyPost_ret (results_none rfl _ _ _) rfl ⟨rfl, ?_, ?_⟩
          · rw [← FIN.out]
            first | exact HN.out.keep0 (gb_drewN _ _ _) | exact (HN.out.keep0 (gb_drewN _ _ _)).keep0 (gb_drewN _ _ _)
          · first | exact gb_trans HG.out (gb_drewN _ _ _) | exact gb_trans HG.out (gb_trans (gb_drewN _ _ _) (gb_drewN _ _ _))
        · rw [if_neg hxz] at ST
          go_wp2
          go_quiet (fail)
          go_wp2
          go_quiet (fail)
          go_wp2_with fail
          refine (swap_any _ base b n c L i p (by first | exact HN.out.keep0 (gb_drewN _ _ _) | exact (HN.out.keep0 (gb_drewN _ _ _)).keep0 (gb_drewN _ _ _)) HLN.out hi hpn (by omega)).mono ?_
          rintro e w4 ⟨rfl, o4, g4⟩
          have O4 := Lib.hid o4
          have G4 := Lib.hid (gb_trans (gb_trans HG.out (gb_drewN _ _ _)) g4)
          clear o4 g4
          go_wp2
          go_roundw
          case rel => exact ⟨p, f - 1, _, rfl, by omega, by omega, by rw [swapL_len]; exact HLN.out, ST.out.symm.trans HS.out, O4.out, G4.out⟩
          case measure => simp [intOf]; omega
    · have ip : ¬ (p : Int) < n := by omega
      have FIN := Lib.hid (show L = sinkF n 0 H by
        rw [← HS.out]
        cases f with
        | zero => rfl
        | succ f =>
          show _ = (if _ then _ else _)
          rw [if_neg (by have := HLN.out; omega)])
      clear hp hq
      go_wp2
      go_end0
      exact ⟨rfl, by rw [← FIN.out]; exact HN.out, HG.out⟩
end Go.Proofs.Ytaikpjnegopelaa
