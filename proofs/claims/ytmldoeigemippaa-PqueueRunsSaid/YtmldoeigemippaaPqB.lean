/- The queue's heap: the walk of sink. -/
import Derived.Test.YtmldoeigemippaaPqA
import Derived.Deep.CutRange
namespace Go.Proofs.Ytmldoeigemippaa
open Go.RowKit
set_option linter.unusedVariables false

def lower (H : List Int) (i : Nat) : Nat := if 2 * i + 2 < H.length ∧ H.getD (2 * i + 2) 0 < H.getD (2 * i + 1) 0 then 2 * i + 2 else 2 * i + 1
def sinkF : Nat → Nat → List Int → List Int
  | 0, _, H => H
  | f + 1, i, H => if 2 * i + 1 < H.length then (if H.getD i 0 ≤ H.getD (lower H i) 0 then H else sinkF f (lower H i) (swapL H i (lower H i))) else H
theorem swapL_len (H : List Int) (i j : Nat) : (swapL H i j).length = H.length := by simp [swapL]
theorem swapL_get (H : List Int) (i j k : Nat) (hi : i < H.length) (hj : j < H.length) :
    (swapL H i j).getD k 0 = if k = j then H.getD i 0 else if k = i then H.getD j 0 else H.getD k 0 := by
  unfold swapL
  simp only [List.getD_eq_getElem?_getD, List.getElem?_set, List.length_set]
  by_cases h1 : k = j
  · subst h1; simp [hj]
  · have h1' : ¬ j = k := fun e => h1 e.symm
    by_cases h2 : k = i
    · subst h2; simp [hi, h1, h1']
    · have h2' : ¬ i = k := fun e => h2 e.symm
      simp [h1, h1', h2, h2']
/-- No two places hold the same. -/
def Dist (H : List Int) : Prop := ∀ i j, i < H.length → j < H.length → H.getD i 0 = H.getD j 0 → i = j
theorem Dist.swap {H : List Int} (h : Dist H) (i j : Nat) (hi : i < H.length) (hj : j < H.length) : Dist (swapL H i j) := by
  intro a b ha hb e
  rw [swapL_len] at ha hb
  rw [swapL_get H i j a hi hj, swapL_get H i j b hi hj] at e
  by_cases a1 : a = j <;> by_cases b1 : b = j
  · omega
  · rw [if_pos a1, if_neg b1] at e
    by_cases b2 : b = i
    · rw [if_pos b2] at e; have := h i j hi hj e; omega
    · rw [if_neg b2] at e; have := h i b hi hb e; omega
  · rw [if_neg a1, if_pos b1] at e
    by_cases a2 : a = i
    · rw [if_pos a2] at e; have := h j i hj hi e; omega
    · rw [if_neg a2] at e; have := h a i ha hi e; omega
  · rw [if_neg a1, if_neg b1] at e
    by_cases a2 : a = i <;> by_cases b2 : b = i
    · omega
    · rw [if_pos a2, if_neg b2] at e; have := h j b hj hb e; omega
    · rw [if_neg a2, if_pos b2] at e; have := h a j ha hj e; omega
    · rw [if_neg a2, if_neg b2] at e; exact h a b ha hb e
/-- The call returns nothing and changes block b alone. -/
def RetU (base b n c : Nat) (E : Int → Int) (H : List Int) (w : World) (e : Ending) (w' : World) : Prop := e = .returned (.tuple #[]) ∧ PL w' base (.slice (some ⟨b, 0, none⟩) n c) E H ∧ w.grownBy w' (some b)
set_option maxRecDepth 100000 in
set_option maxHeartbeats 20000000 in
theorem sink_any (w : World) (base b n c : Nat) (E : Int → Int) (H : List Int) (h : PL w base (.slice (some ⟨b, 0, none⟩) n c) E H) (hl : n = H.length) (hn : n ≤ 100000) (hd : Dist H) :
    Calls Try.prog 27 #[.slice (some ⟨b, 0, none⟩) n c] w (RetU base b n c E (sinkF n 0 H) w) := by
  have HN := Lib.hid h
  have HL := Lib.hid hl
  have HD := Lib.hid hd
  clear h hl hd
  go_enter Try.func27, Try.ntmps27
  go_wp2
  go_loopw [2] (fun k wr => ∃ (i f : Nat) (L : List Int), k = .int .i64 i ∧ i ≤ n ∧ n ≤ f + i ∧ n = L.length ∧ sinkF f i L = sinkF n 0 H ∧ PL wr base (.slice (some ⟨b, 0, none⟩) n c) E L ∧ Dist L ∧ w.grownBy wr (some b)) (fun k _ => n - (intOf k).toNat)
  case atStart => exact ⟨0, n, H, rfl, Nat.zero_le _, by omega, HL.out, rfl, HN.out, HD.out, gb_refl _ _⟩
  case round =>
    obtain ⟨i, f, L, rfl, hin, hf, hlen, hs, hnl, hdl, hg⟩ := hrel
    clear HN HD
    have HN := Lib.hid hnl
    have HG := Lib.hid hg
    have HS := Lib.hid hs
    have HLN := Lib.hid hlen
    have HD := Lib.hid hdl
    have hib : i ≤ 100000 := by omega
    clear hnl hg hs hlen hdl
    obtain ⟨p, hp⟩ : ∃ p : Nat, p = 2 * i + 1 := ⟨_, rfl⟩
    obtain ⟨q, hq⟩ : ∃ q : Nat, q = 2 * i + 2 := ⟨_, rfl⟩
    have h1 : 2 * (i : Int) + 1 = (p : Int) := by omega
    have h2 : (p : Int) + 1 = (q : Int) := by omega
    have hpb : p ≤ 300000 := by omega
    have hqb : q ≤ 300000 := by omega
    have hwq : IntKind.i64.wrap (q : Int) = (q : Int) := by rw [IntKind.wrap_i64]; omega
    have hwp : IntKind.i64.wrap (p : Int) = (p : Int) := by rw [IntKind.wrap_i64]; omega
    have hip : i < p := by omega
    have hiq : i < q := by omega
    by_cases hpn : p < n
    · have ip : (p : Int) < n := by omega
      have hi : i < n := by omega
      have ii : (i : Int) < n := by omega
      have i0 : (0 : Int) ≤ (i : Int) := by omega
      have p0 : (0 : Int) ≤ (p : Int) := by omega
      have q0 : (0 : Int) ≤ (q : Int) := by omega
      have STEP := Lib.hid (show sinkF f i L = if L.getD i 0 ≤ L.getD (lower L i) 0 then L else sinkF (f - 1) (lower L i) (swapL L i (lower L i)) by
        obtain ⟨f', rfl⟩ : ∃ f', f = f' + 1 := ⟨f - 1, by omega⟩
        show (if _ then _ else _) = _
        rw [if_pos (by have := HLN.out; omega)]
        rfl)
      have LOW := Lib.hid (show lower L i = if q < n ∧ L.getD q 0 < L.getD p 0 then q else p by unfold lower; rw [← hp, ← hq, ← HLN.out])
      have DP := Lib.hid (show ¬ L.getD i 0 = L.getD p 0 from fun e => absurd (HD.out i p (by rw [← HLN.out]; exact hi) (by rw [← HLN.out]; exact hpn) e) (by omega))
      have DQ := Lib.hid (show q < n → ¬ L.getD i 0 = L.getD q 0 from fun hqn e => absurd (HD.out i q (by rw [← HLN.out]; exact hi) (by rw [← HLN.out]; exact hqn) e) (by omega))
      have SWP := Lib.hid (HD.out.swap i p (by rw [← HLN.out]; exact hi) (by rw [← HLN.out]; exact hpn))
      have SWQ := Lib.hid (fun (hqn : q < n) => HD.out.swap i q (by rw [← HLN.out]; exact hi) (by rw [← HLN.out]; exact hqn))
      have CX := Lib.hid (fun (w2 : World) (g : wr.grownBy w2 none) => (HN.out.keep0 g).at_ HLN.out i (by rw [← HLN.out]; exact hi))
      have CY := Lib.hid (fun (w2 : World) (g : wr.grownBy w2 none) => (HN.out.keep0 g).at_ HLN.out p (by rw [← HLN.out]; exact hpn))
      have CZ := Lib.hid (fun (hqn : q < n) (w2 : World) (g : wr.grownBy w2 none) => (HN.out.keep0 g).at_ HLN.out q (by rw [← HLN.out]; exact hqn))
      obtain ⟨x, hx⟩ : ∃ x, x = L.getD i 0 := ⟨_, rfl⟩
      obtain ⟨y, hy⟩ : ∃ y, y = L.getD p 0 := ⟨_, rfl⟩
      obtain ⟨z, hz⟩ : ∃ z, z = L.getD q 0 := ⟨_, rfl⟩
      rw [← hx] at STEP CX DP DQ
      rw [← hy] at CY DP LOW
      rw [← hz] at CZ DQ LOW
      have HY := Lib.hid hy
      have HZ := Lib.hid hz
      clear hx hy hz hp hq
      by_cases hqn : q < n
      · have iq : (q : Int) < n := by omega
        by_cases hzy : z < y
        · have DD := DQ.out hqn
          by_cases hxv : x < z
          · clear DD
            have PR := Lib.hid (fun w => prec_code w E z y)
            unfold RetV at PR
            rw [decide_eq_true hzy] at PR
            have PX := Lib.hid (fun w => prec_code w E x z)
            unfold RetV at PX
            rw [decide_eq_true hxv] at PX
            have LO : lower L i = q := by rw [LOW.out, if_pos ⟨hqn, hzy⟩]
            have ST := STEP.out
            rw [LO, ← HZ.out] at ST
            rw [if_pos (Int.le_of_lt hxv)] at ST
            have FIN := Lib.hid (show L = sinkF n 0 H by rw [← HS.out, ST])
            clear LO STEP LOW ST
            clear hzy
            clear hxv
            go_upto_region 3 with fail
            have KS := Lib.hid (fun (w' : World) (q0 : wr.grownBy w' none) => (⟨(CZ.out hqn _ q0).1, (CZ.out hqn _ q0).2.1, (CZ.out hqn _ q0).2.2, (CY.out _ q0).1, (CY.out _ q0).2.1, (CY.out _ q0).2.2, q0⟩ : (fun w' => w'.cell? ⟨b, q * 3, none⟩ = some (.int .i64 (kC z : Int)) ∧ w'.cell? ⟨b, q * 3 + 1, none⟩ = some (.int .u64 (tC z : Int)) ∧ w'.cell? ⟨b, q * 3 + 2, none⟩ = some (.int .i64 (E (tC z) : Int)) ∧ w'.cell? ⟨b, p * 3, none⟩ = some (.int .i64 (kC y : Int)) ∧ w'.cell? ⟨b, p * 3 + 1, none⟩ = some (.int .u64 (tC y : Int)) ∧ w'.cell? ⟨b, p * 3 + 2, none⟩ = some (.int .i64 (E (tC y) : Int)) ∧ wr.grownBy w' none) w'))
            go_region_held3 (fun w' => w'.cell? ⟨b, q * 3, none⟩ = some (.int .i64 (kC z : Int)) ∧ w'.cell? ⟨b, q * 3 + 1, none⟩ = some (.int .u64 (tC z : Int)) ∧ w'.cell? ⟨b, q * 3 + 2, none⟩ = some (.int .i64 (E (tC z) : Int)) ∧ w'.cell? ⟨b, p * 3, none⟩ = some (.int .i64 (kC y : Int)) ∧ w'.cell? ⟨b, p * 3 + 1, none⟩ = some (.int .u64 (tC y : Int)) ∧ w'.cell? ⟨b, p * 3 + 2, none⟩ = some (.int .i64 (E (tC y) : Int)) ∧ wr.grownBy w' none)
              (first
                | assumption
                | exact KS.out _ (by repeat' first
                                          | assumption
                                          | exact (And.right (And.right (And.right (And.right (And.right (And.right (by assumption)))))))
                                          | exact World.grownBy.refl _ _
                                          | exact gb_drew _ _
                                          | exact gb_drewN _ _ _
                                          | refine gb_trans ?_ (gb_drew _ _)
                                          | refine gb_trans ?_ (by assumption)))
              (first
                | (go_at_call 25; refine (PR.out _).mono ?_; rintro e w' ⟨rfl, g⟩))
            have gS : wr.grownBy w' none := (And.right (And.right (And.right (And.right (And.right (And.right (by assumption)))))))
            clear KS
            go_upto_region 5 with fail
            have KT := Lib.hid (fun (w' : World) (q0 : wr.grownBy w' none) => (⟨(CX.out _ q0).1, (CX.out _ q0).2.1, (CX.out _ q0).2.2, (CZ.out hqn _ q0).1, (CZ.out hqn _ q0).2.1, (CZ.out hqn _ q0).2.2, q0⟩ : (fun w' => w'.cell? ⟨b, i * 3, none⟩ = some (.int .i64 (kC x : Int)) ∧ w'.cell? ⟨b, i * 3 + 1, none⟩ = some (.int .u64 (tC x : Int)) ∧ w'.cell? ⟨b, i * 3 + 2, none⟩ = some (.int .i64 (E (tC x) : Int)) ∧ w'.cell? ⟨b, q * 3, none⟩ = some (.int .i64 (kC z : Int)) ∧ w'.cell? ⟨b, q * 3 + 1, none⟩ = some (.int .u64 (tC z : Int)) ∧ w'.cell? ⟨b, q * 3 + 2, none⟩ = some (.int .i64 (E (tC z) : Int)) ∧ wr.grownBy w' none) w'))
            go_region_held3 (fun w' => w'.cell? ⟨b, i * 3, none⟩ = some (.int .i64 (kC x : Int)) ∧ w'.cell? ⟨b, i * 3 + 1, none⟩ = some (.int .u64 (tC x : Int)) ∧ w'.cell? ⟨b, i * 3 + 2, none⟩ = some (.int .i64 (E (tC x) : Int)) ∧ w'.cell? ⟨b, q * 3, none⟩ = some (.int .i64 (kC z : Int)) ∧ w'.cell? ⟨b, q * 3 + 1, none⟩ = some (.int .u64 (tC z : Int)) ∧ w'.cell? ⟨b, q * 3 + 2, none⟩ = some (.int .i64 (E (tC z) : Int)) ∧ wr.grownBy w' none)
              (first
                | assumption
                | exact KT.out _ (by repeat' first
                                          | assumption
                                          | exact (And.right (And.right (And.right (And.right (And.right (And.right (by assumption)))))))
                                          | exact World.grownBy.refl _ _
                                          | exact gb_drew _ _
                                          | exact gb_drewN _ _ _
                                          | refine gb_trans ?_ (gb_drew _ _)
                                          | refine gb_trans ?_ (by assumption)))
              (first
                | (go_at_call 25; refine (PX.out _).mono ?_; rintro e w' ⟨rfl, g⟩))
            have gT : wr.grownBy w' none := (And.right (And.right (And.right (And.right (And.right (And.right (by assumption)))))))
            clear KT gS
            go_wp2
            (try simp only [Exit.inBlock, Exit.then])
            refine bodyPost_ret (results_none rfl _ _ _) rfl ⟨rfl, ?_, gb_trans HG.out (gb_any gT)⟩
            rw [← FIN.out]
            exact HN.out.keep0 gT
          · have hne : ¬ x = z := DD
            clear DD
            have PR := Lib.hid (fun w => prec_code w E z y)
            unfold RetV at PR
            rw [decide_eq_true hzy] at PR
            have PX := Lib.hid (fun w => prec_code w E x z)
            unfold RetV at PX
            rw [decide_eq_false hxv] at PX
            have LO : lower L i = q := by rw [LOW.out, if_pos ⟨hqn, hzy⟩]
            have ST := STEP.out
            rw [LO, ← HZ.out] at ST
            rw [if_neg (by omega)] at ST
            have ST := Lib.hid ST
            clear LO STEP LOW
            clear hzy
            clear hxv
            go_upto_region 3 with fail
            have KS := Lib.hid (fun (w' : World) (q0 : wr.grownBy w' none) => (⟨(CZ.out hqn _ q0).1, (CZ.out hqn _ q0).2.1, (CZ.out hqn _ q0).2.2, (CY.out _ q0).1, (CY.out _ q0).2.1, (CY.out _ q0).2.2, q0⟩ : (fun w' => w'.cell? ⟨b, q * 3, none⟩ = some (.int .i64 (kC z : Int)) ∧ w'.cell? ⟨b, q * 3 + 1, none⟩ = some (.int .u64 (tC z : Int)) ∧ w'.cell? ⟨b, q * 3 + 2, none⟩ = some (.int .i64 (E (tC z) : Int)) ∧ w'.cell? ⟨b, p * 3, none⟩ = some (.int .i64 (kC y : Int)) ∧ w'.cell? ⟨b, p * 3 + 1, none⟩ = some (.int .u64 (tC y : Int)) ∧ w'.cell? ⟨b, p * 3 + 2, none⟩ = some (.int .i64 (E (tC y) : Int)) ∧ wr.grownBy w' none) w'))
            go_region_held3 (fun w' => w'.cell? ⟨b, q * 3, none⟩ = some (.int .i64 (kC z : Int)) ∧ w'.cell? ⟨b, q * 3 + 1, none⟩ = some (.int .u64 (tC z : Int)) ∧ w'.cell? ⟨b, q * 3 + 2, none⟩ = some (.int .i64 (E (tC z) : Int)) ∧ w'.cell? ⟨b, p * 3, none⟩ = some (.int .i64 (kC y : Int)) ∧ w'.cell? ⟨b, p * 3 + 1, none⟩ = some (.int .u64 (tC y : Int)) ∧ w'.cell? ⟨b, p * 3 + 2, none⟩ = some (.int .i64 (E (tC y) : Int)) ∧ wr.grownBy w' none)
              (first
                | assumption
                | exact KS.out _ (by repeat' first
                                          | assumption
                                          | exact (And.right (And.right (And.right (And.right (And.right (And.right (by assumption)))))))
                                          | exact World.grownBy.refl _ _
                                          | exact gb_drew _ _
                                          | exact gb_drewN _ _ _
                                          | refine gb_trans ?_ (gb_drew _ _)
                                          | refine gb_trans ?_ (by assumption)))
              (first
                | (go_at_call 25; refine (PR.out _).mono ?_; rintro e w' ⟨rfl, g⟩))
            have gS : wr.grownBy w' none := (And.right (And.right (And.right (And.right (And.right (And.right (by assumption)))))))
            clear KS
            go_upto_region 5 with fail
            have KT := Lib.hid (fun (w' : World) (q0 : wr.grownBy w' none) => (⟨(CX.out _ q0).1, (CX.out _ q0).2.1, (CX.out _ q0).2.2, (CZ.out hqn _ q0).1, (CZ.out hqn _ q0).2.1, (CZ.out hqn _ q0).2.2, q0⟩ : (fun w' => w'.cell? ⟨b, i * 3, none⟩ = some (.int .i64 (kC x : Int)) ∧ w'.cell? ⟨b, i * 3 + 1, none⟩ = some (.int .u64 (tC x : Int)) ∧ w'.cell? ⟨b, i * 3 + 2, none⟩ = some (.int .i64 (E (tC x) : Int)) ∧ w'.cell? ⟨b, q * 3, none⟩ = some (.int .i64 (kC z : Int)) ∧ w'.cell? ⟨b, q * 3 + 1, none⟩ = some (.int .u64 (tC z : Int)) ∧ w'.cell? ⟨b, q * 3 + 2, none⟩ = some (.int .i64 (E (tC z) : Int)) ∧ wr.grownBy w' none) w'))
            go_region_held3 (fun w' => w'.cell? ⟨b, i * 3, none⟩ = some (.int .i64 (kC x : Int)) ∧ w'.cell? ⟨b, i * 3 + 1, none⟩ = some (.int .u64 (tC x : Int)) ∧ w'.cell? ⟨b, i * 3 + 2, none⟩ = some (.int .i64 (E (tC x) : Int)) ∧ w'.cell? ⟨b, q * 3, none⟩ = some (.int .i64 (kC z : Int)) ∧ w'.cell? ⟨b, q * 3 + 1, none⟩ = some (.int .u64 (tC z : Int)) ∧ w'.cell? ⟨b, q * 3 + 2, none⟩ = some (.int .i64 (E (tC z) : Int)) ∧ wr.grownBy w' none)
              (first
                | assumption
                | exact KT.out _ (by repeat' first
                                          | assumption
                                          | exact (And.right (And.right (And.right (And.right (And.right (And.right (by assumption)))))))
                                          | exact World.grownBy.refl _ _
                                          | exact gb_drew _ _
                                          | exact gb_drewN _ _ _
                                          | refine gb_trans ?_ (gb_drew _ _)
                                          | refine gb_trans ?_ (by assumption)))
              (first
                | (go_at_call 25; refine (PX.out _).mono ?_; rintro e w' ⟨rfl, g⟩))
            have gT : wr.grownBy w' none := (And.right (And.right (And.right (And.right (And.right (And.right (by assumption)))))))
            clear KT gS
            go_wp2_with fail
            refine (swap_any _ base b n c E L i q (HN.out.keep0 gT) HLN.out hi hqn (by omega)).mono ?_
            rintro e w4 ⟨rfl, o4, g4⟩
            have O4 := Lib.hid o4
            have G4 := Lib.hid (gb_trans (gb_trans HG.out (gb_any gT)) g4)
            clear o4 g4 gT
            go_wp2
            go_roundw
            case rel => exact ⟨q, f - 1, _, rfl, by omega, by omega, by rw [swapL_len]; exact HLN.out, ST.out.symm.trans HS.out, O4.out, SWQ.out hqn, G4.out⟩
            case measure => simp [intOf]; omega
        · by_cases hxv : x < y
          · clear DP
            have PR := Lib.hid (fun w => prec_code w E z y)
            unfold RetV at PR
            rw [decide_eq_false hzy] at PR
            have PX := Lib.hid (fun w => prec_code w E x y)
            unfold RetV at PX
            rw [decide_eq_true hxv] at PX
            have LO : lower L i = p := by rw [LOW.out, if_neg (fun h => hzy h.2)]
            have ST := STEP.out
            rw [LO, ← HY.out] at ST
            rw [if_pos (Int.le_of_lt hxv)] at ST
            have FIN := Lib.hid (show L = sinkF n 0 H by rw [← HS.out, ST])
            clear LO STEP LOW ST
            clear hzy
            clear hxv
            go_upto_region 3 with fail
            have KS := Lib.hid (fun (w' : World) (q0 : wr.grownBy w' none) => (⟨(CZ.out hqn _ q0).1, (CZ.out hqn _ q0).2.1, (CZ.out hqn _ q0).2.2, (CY.out _ q0).1, (CY.out _ q0).2.1, (CY.out _ q0).2.2, q0⟩ : (fun w' => w'.cell? ⟨b, q * 3, none⟩ = some (.int .i64 (kC z : Int)) ∧ w'.cell? ⟨b, q * 3 + 1, none⟩ = some (.int .u64 (tC z : Int)) ∧ w'.cell? ⟨b, q * 3 + 2, none⟩ = some (.int .i64 (E (tC z) : Int)) ∧ w'.cell? ⟨b, p * 3, none⟩ = some (.int .i64 (kC y : Int)) ∧ w'.cell? ⟨b, p * 3 + 1, none⟩ = some (.int .u64 (tC y : Int)) ∧ w'.cell? ⟨b, p * 3 + 2, none⟩ = some (.int .i64 (E (tC y) : Int)) ∧ wr.grownBy w' none) w'))
            go_region_held3 (fun w' => w'.cell? ⟨b, q * 3, none⟩ = some (.int .i64 (kC z : Int)) ∧ w'.cell? ⟨b, q * 3 + 1, none⟩ = some (.int .u64 (tC z : Int)) ∧ w'.cell? ⟨b, q * 3 + 2, none⟩ = some (.int .i64 (E (tC z) : Int)) ∧ w'.cell? ⟨b, p * 3, none⟩ = some (.int .i64 (kC y : Int)) ∧ w'.cell? ⟨b, p * 3 + 1, none⟩ = some (.int .u64 (tC y : Int)) ∧ w'.cell? ⟨b, p * 3 + 2, none⟩ = some (.int .i64 (E (tC y) : Int)) ∧ wr.grownBy w' none)
              (first
                | assumption
                | exact KS.out _ (by repeat' first
                                          | assumption
                                          | exact (And.right (And.right (And.right (And.right (And.right (And.right (by assumption)))))))
                                          | exact World.grownBy.refl _ _
                                          | exact gb_drew _ _
                                          | exact gb_drewN _ _ _
                                          | refine gb_trans ?_ (gb_drew _ _)
                                          | refine gb_trans ?_ (by assumption)))
              (first
                | (go_at_call 25; refine (PR.out _).mono ?_; rintro e w' ⟨rfl, g⟩))
            have gS : wr.grownBy w' none := (And.right (And.right (And.right (And.right (And.right (And.right (by assumption)))))))
            clear KS
            go_upto_region 5 with fail
            have KT := Lib.hid (fun (w' : World) (q0 : wr.grownBy w' none) => (⟨(CX.out _ q0).1, (CX.out _ q0).2.1, (CX.out _ q0).2.2, (CY.out _ q0).1, (CY.out _ q0).2.1, (CY.out _ q0).2.2, q0⟩ : (fun w' => w'.cell? ⟨b, i * 3, none⟩ = some (.int .i64 (kC x : Int)) ∧ w'.cell? ⟨b, i * 3 + 1, none⟩ = some (.int .u64 (tC x : Int)) ∧ w'.cell? ⟨b, i * 3 + 2, none⟩ = some (.int .i64 (E (tC x) : Int)) ∧ w'.cell? ⟨b, p * 3, none⟩ = some (.int .i64 (kC y : Int)) ∧ w'.cell? ⟨b, p * 3 + 1, none⟩ = some (.int .u64 (tC y : Int)) ∧ w'.cell? ⟨b, p * 3 + 2, none⟩ = some (.int .i64 (E (tC y) : Int)) ∧ wr.grownBy w' none) w'))
            go_region_held3 (fun w' => w'.cell? ⟨b, i * 3, none⟩ = some (.int .i64 (kC x : Int)) ∧ w'.cell? ⟨b, i * 3 + 1, none⟩ = some (.int .u64 (tC x : Int)) ∧ w'.cell? ⟨b, i * 3 + 2, none⟩ = some (.int .i64 (E (tC x) : Int)) ∧ w'.cell? ⟨b, p * 3, none⟩ = some (.int .i64 (kC y : Int)) ∧ w'.cell? ⟨b, p * 3 + 1, none⟩ = some (.int .u64 (tC y : Int)) ∧ w'.cell? ⟨b, p * 3 + 2, none⟩ = some (.int .i64 (E (tC y) : Int)) ∧ wr.grownBy w' none)
              (first
                | assumption
                | exact KT.out _ (by repeat' first
                                          | assumption
                                          | exact (And.right (And.right (And.right (And.right (And.right (And.right (by assumption)))))))
                                          | exact World.grownBy.refl _ _
                                          | exact gb_drew _ _
                                          | exact gb_drewN _ _ _
                                          | refine gb_trans ?_ (gb_drew _ _)
                                          | refine gb_trans ?_ (by assumption)))
              (first
                | (go_at_call 25; refine (PX.out _).mono ?_; rintro e w' ⟨rfl, g⟩))
            have gT : wr.grownBy w' none := (And.right (And.right (And.right (And.right (And.right (And.right (by assumption)))))))
            clear KT gS
            go_wp2
            (try simp only [Exit.inBlock, Exit.then])
            refine bodyPost_ret (results_none rfl _ _ _) rfl ⟨rfl, ?_, gb_trans HG.out (gb_any gT)⟩
            rw [← FIN.out]
            exact HN.out.keep0 gT
          · have hne : ¬ x = y := DP.out
            have PR := Lib.hid (fun w => prec_code w E z y)
            unfold RetV at PR
            rw [decide_eq_false hzy] at PR
            have PX := Lib.hid (fun w => prec_code w E x y)
            unfold RetV at PX
            rw [decide_eq_false hxv] at PX
            have LO : lower L i = p := by rw [LOW.out, if_neg (fun h => hzy h.2)]
            have ST := STEP.out
            rw [LO, ← HY.out] at ST
            rw [if_neg (by omega)] at ST
            have ST := Lib.hid ST
            clear LO STEP LOW
            clear hzy
            clear hxv
            go_upto_region 3 with fail
            have KS := Lib.hid (fun (w' : World) (q0 : wr.grownBy w' none) => (⟨(CZ.out hqn _ q0).1, (CZ.out hqn _ q0).2.1, (CZ.out hqn _ q0).2.2, (CY.out _ q0).1, (CY.out _ q0).2.1, (CY.out _ q0).2.2, q0⟩ : (fun w' => w'.cell? ⟨b, q * 3, none⟩ = some (.int .i64 (kC z : Int)) ∧ w'.cell? ⟨b, q * 3 + 1, none⟩ = some (.int .u64 (tC z : Int)) ∧ w'.cell? ⟨b, q * 3 + 2, none⟩ = some (.int .i64 (E (tC z) : Int)) ∧ w'.cell? ⟨b, p * 3, none⟩ = some (.int .i64 (kC y : Int)) ∧ w'.cell? ⟨b, p * 3 + 1, none⟩ = some (.int .u64 (tC y : Int)) ∧ w'.cell? ⟨b, p * 3 + 2, none⟩ = some (.int .i64 (E (tC y) : Int)) ∧ wr.grownBy w' none) w'))
            go_region_held3 (fun w' => w'.cell? ⟨b, q * 3, none⟩ = some (.int .i64 (kC z : Int)) ∧ w'.cell? ⟨b, q * 3 + 1, none⟩ = some (.int .u64 (tC z : Int)) ∧ w'.cell? ⟨b, q * 3 + 2, none⟩ = some (.int .i64 (E (tC z) : Int)) ∧ w'.cell? ⟨b, p * 3, none⟩ = some (.int .i64 (kC y : Int)) ∧ w'.cell? ⟨b, p * 3 + 1, none⟩ = some (.int .u64 (tC y : Int)) ∧ w'.cell? ⟨b, p * 3 + 2, none⟩ = some (.int .i64 (E (tC y) : Int)) ∧ wr.grownBy w' none)
              (first
                | assumption
                | exact KS.out _ (by repeat' first
                                          | assumption
                                          | exact (And.right (And.right (And.right (And.right (And.right (And.right (by assumption)))))))
                                          | exact World.grownBy.refl _ _
                                          | exact gb_drew _ _
                                          | exact gb_drewN _ _ _
                                          | refine gb_trans ?_ (gb_drew _ _)
                                          | refine gb_trans ?_ (by assumption)))
              (first
                | (go_at_call 25; refine (PR.out _).mono ?_; rintro e w' ⟨rfl, g⟩))
            have gS : wr.grownBy w' none := (And.right (And.right (And.right (And.right (And.right (And.right (by assumption)))))))
            clear KS
            go_upto_region 5 with fail
            have KT := Lib.hid (fun (w' : World) (q0 : wr.grownBy w' none) => (⟨(CX.out _ q0).1, (CX.out _ q0).2.1, (CX.out _ q0).2.2, (CY.out _ q0).1, (CY.out _ q0).2.1, (CY.out _ q0).2.2, q0⟩ : (fun w' => w'.cell? ⟨b, i * 3, none⟩ = some (.int .i64 (kC x : Int)) ∧ w'.cell? ⟨b, i * 3 + 1, none⟩ = some (.int .u64 (tC x : Int)) ∧ w'.cell? ⟨b, i * 3 + 2, none⟩ = some (.int .i64 (E (tC x) : Int)) ∧ w'.cell? ⟨b, p * 3, none⟩ = some (.int .i64 (kC y : Int)) ∧ w'.cell? ⟨b, p * 3 + 1, none⟩ = some (.int .u64 (tC y : Int)) ∧ w'.cell? ⟨b, p * 3 + 2, none⟩ = some (.int .i64 (E (tC y) : Int)) ∧ wr.grownBy w' none) w'))
            go_region_held3 (fun w' => w'.cell? ⟨b, i * 3, none⟩ = some (.int .i64 (kC x : Int)) ∧ w'.cell? ⟨b, i * 3 + 1, none⟩ = some (.int .u64 (tC x : Int)) ∧ w'.cell? ⟨b, i * 3 + 2, none⟩ = some (.int .i64 (E (tC x) : Int)) ∧ w'.cell? ⟨b, p * 3, none⟩ = some (.int .i64 (kC y : Int)) ∧ w'.cell? ⟨b, p * 3 + 1, none⟩ = some (.int .u64 (tC y : Int)) ∧ w'.cell? ⟨b, p * 3 + 2, none⟩ = some (.int .i64 (E (tC y) : Int)) ∧ wr.grownBy w' none)
              (first
                | assumption
                | exact KT.out _ (by repeat' first
                                          | assumption
                                          | exact (And.right (And.right (And.right (And.right (And.right (And.right (by assumption)))))))
                                          | exact World.grownBy.refl _ _
                                          | exact gb_drew _ _
                                          | exact gb_drewN _ _ _
                                          | refine gb_trans ?_ (gb_drew _ _)
                                          | refine gb_trans ?_ (by assumption)))
              (first
                | (go_at_call 25; refine (PX.out _).mono ?_; rintro e w' ⟨rfl, g⟩))
            have gT : wr.grownBy w' none := (And.right (And.right (And.right (And.right (And.right (And.right (by assumption)))))))
            clear KT gS
            go_wp2_with fail
            refine (swap_any _ base b n c E L i p (HN.out.keep0 gT) HLN.out hi hpn (by omega)).mono ?_
            rintro e w4 ⟨rfl, o4, g4⟩
            have O4 := Lib.hid o4
            have G4 := Lib.hid (gb_trans (gb_trans HG.out (gb_any gT)) g4)
            clear o4 g4 gT
            go_wp2
            go_roundw
            case rel => exact ⟨p, f - 1, _, rfl, by omega, by omega, by rw [swapL_len]; exact HLN.out, ST.out.symm.trans HS.out, O4.out, SWP.out, G4.out⟩
            case measure => simp [intOf]; omega
      · have iq : ¬ (q : Int) < n := by omega
        by_cases hxv : x < y
        · clear DP
          have PX := Lib.hid (fun w => prec_code w E x y)
          unfold RetV at PX
          rw [decide_eq_true hxv] at PX
          have LO : lower L i = p := by rw [LOW.out, if_neg (fun h => hqn h.1)]
          have ST := STEP.out
          rw [LO, ← HY.out] at ST
          rw [if_pos (Int.le_of_lt hxv)] at ST
          have FIN := Lib.hid (show L = sinkF n 0 H by rw [← HS.out, ST])
          clear LO STEP LOW ST
          clear hxv
          go_upto_region 3 with fail
          go_quiet (fail)
          have gS : wr.grownBy (wr.drewN nq) none := gb_drewN _ _ _
          go_upto_region 5 with fail
          have KT := Lib.hid (fun (w' : World) (q0 : wr.grownBy w' none) => (⟨(CX.out _ q0).1, (CX.out _ q0).2.1, (CX.out _ q0).2.2, (CY.out _ q0).1, (CY.out _ q0).2.1, (CY.out _ q0).2.2, q0⟩ : (fun w' => w'.cell? ⟨b, i * 3, none⟩ = some (.int .i64 (kC x : Int)) ∧ w'.cell? ⟨b, i * 3 + 1, none⟩ = some (.int .u64 (tC x : Int)) ∧ w'.cell? ⟨b, i * 3 + 2, none⟩ = some (.int .i64 (E (tC x) : Int)) ∧ w'.cell? ⟨b, p * 3, none⟩ = some (.int .i64 (kC y : Int)) ∧ w'.cell? ⟨b, p * 3 + 1, none⟩ = some (.int .u64 (tC y : Int)) ∧ w'.cell? ⟨b, p * 3 + 2, none⟩ = some (.int .i64 (E (tC y) : Int)) ∧ wr.grownBy w' none) w'))
          go_region_held3 (fun w' => w'.cell? ⟨b, i * 3, none⟩ = some (.int .i64 (kC x : Int)) ∧ w'.cell? ⟨b, i * 3 + 1, none⟩ = some (.int .u64 (tC x : Int)) ∧ w'.cell? ⟨b, i * 3 + 2, none⟩ = some (.int .i64 (E (tC x) : Int)) ∧ w'.cell? ⟨b, p * 3, none⟩ = some (.int .i64 (kC y : Int)) ∧ w'.cell? ⟨b, p * 3 + 1, none⟩ = some (.int .u64 (tC y : Int)) ∧ w'.cell? ⟨b, p * 3 + 2, none⟩ = some (.int .i64 (E (tC y) : Int)) ∧ wr.grownBy w' none)
            (first
              | assumption
              | exact KT.out _ (by repeat' first
                                        | assumption
                                        | exact (And.right (And.right (And.right (And.right (And.right (And.right (by assumption)))))))
                                        | exact World.grownBy.refl _ _
                                        | exact gb_drew _ _
                                        | exact gb_drewN _ _ _
                                        | refine gb_trans ?_ (gb_drew _ _)
                                        | refine gb_trans ?_ (by assumption)))
            (first
              | (go_at_call 25; refine (PX.out _).mono ?_; rintro e w' ⟨rfl, g⟩))
          have gT : wr.grownBy w' none := (And.right (And.right (And.right (And.right (And.right (And.right (by assumption)))))))
          clear KT gS
          go_wp2
          (try simp only [Exit.inBlock, Exit.then])
          refine bodyPost_ret (results_none rfl _ _ _) rfl ⟨rfl, ?_, gb_trans HG.out (gb_any gT)⟩
          rw [← FIN.out]
          exact HN.out.keep0 gT
        · have hne : ¬ x = y := DP.out
          have PX := Lib.hid (fun w => prec_code w E x y)
          unfold RetV at PX
          rw [decide_eq_false hxv] at PX
          have LO : lower L i = p := by rw [LOW.out, if_neg (fun h => hqn h.1)]
          have ST := STEP.out
          rw [LO, ← HY.out] at ST
          rw [if_neg (by omega)] at ST
          have ST := Lib.hid ST
          clear LO STEP LOW
          clear hxv
          go_upto_region 3 with fail
          go_quiet (fail)
          have gS : wr.grownBy (wr.drewN nq) none := gb_drewN _ _ _
          go_upto_region 5 with fail
          have KT := Lib.hid (fun (w' : World) (q0 : wr.grownBy w' none) => (⟨(CX.out _ q0).1, (CX.out _ q0).2.1, (CX.out _ q0).2.2, (CY.out _ q0).1, (CY.out _ q0).2.1, (CY.out _ q0).2.2, q0⟩ : (fun w' => w'.cell? ⟨b, i * 3, none⟩ = some (.int .i64 (kC x : Int)) ∧ w'.cell? ⟨b, i * 3 + 1, none⟩ = some (.int .u64 (tC x : Int)) ∧ w'.cell? ⟨b, i * 3 + 2, none⟩ = some (.int .i64 (E (tC x) : Int)) ∧ w'.cell? ⟨b, p * 3, none⟩ = some (.int .i64 (kC y : Int)) ∧ w'.cell? ⟨b, p * 3 + 1, none⟩ = some (.int .u64 (tC y : Int)) ∧ w'.cell? ⟨b, p * 3 + 2, none⟩ = some (.int .i64 (E (tC y) : Int)) ∧ wr.grownBy w' none) w'))
          go_region_held3 (fun w' => w'.cell? ⟨b, i * 3, none⟩ = some (.int .i64 (kC x : Int)) ∧ w'.cell? ⟨b, i * 3 + 1, none⟩ = some (.int .u64 (tC x : Int)) ∧ w'.cell? ⟨b, i * 3 + 2, none⟩ = some (.int .i64 (E (tC x) : Int)) ∧ w'.cell? ⟨b, p * 3, none⟩ = some (.int .i64 (kC y : Int)) ∧ w'.cell? ⟨b, p * 3 + 1, none⟩ = some (.int .u64 (tC y : Int)) ∧ w'.cell? ⟨b, p * 3 + 2, none⟩ = some (.int .i64 (E (tC y) : Int)) ∧ wr.grownBy w' none)
            (first
              | assumption
              | exact KT.out _ (by repeat' first
                                        | assumption
                                        | exact (And.right (And.right (And.right (And.right (And.right (And.right (by assumption)))))))
                                        | exact World.grownBy.refl _ _
                                        | exact gb_drew _ _
                                        | exact gb_drewN _ _ _
                                        | refine gb_trans ?_ (gb_drew _ _)
                                        | refine gb_trans ?_ (by assumption)))
            (first
              | (go_at_call 25; refine (PX.out _).mono ?_; rintro e w' ⟨rfl, g⟩))
          have gT : wr.grownBy w' none := (And.right (And.right (And.right (And.right (And.right (And.right (by assumption)))))))
          clear KT gS
          go_wp2_with fail
          refine (swap_any _ base b n c E L i p (HN.out.keep0 gT) HLN.out hi hpn (by omega)).mono ?_
          rintro e w4 ⟨rfl, o4, g4⟩
          have O4 := Lib.hid o4
          have G4 := Lib.hid (gb_trans (gb_trans HG.out (gb_any gT)) g4)
          clear o4 g4 gT
          go_wp2
          go_roundw
          case rel => exact ⟨p, f - 1, _, rfl, by omega, by omega, by rw [swapL_len]; exact HLN.out, ST.out.symm.trans HS.out, O4.out, SWP.out, G4.out⟩
          case measure => simp [intOf]; omega
    · have ip : ¬ (p : Int) < n := by omega
      have FIN := Lib.hid (show L = sinkF n 0 H by
        rw [← HS.out]
        cases f with
        | zero => rfl
        | succ f =>
          show L = (if _ then _ else _)
          rw [if_neg (by have := HLN.out; omega)])
      clear hp hq
      go_wp2
      go_end0
      exact ⟨rfl, by rw [← FIN.out]; exact HN.out, HG.out⟩
end Go.Proofs.Ytmldoeigemippaa
