/- Cubeset: the program's Subtract, by what it itself does. -/
import Derived.Test.YteemhabgliglmaaCtA
import Derived.Test.YteemhabgliglmaaCsP
import Derived.Test.YteemhabgliglmaaCsR
import Derived.Test.YteemhabgliglmaaCsH
namespace Go.Proofs.Yteemhabgliglmaa
open Go.RowKit
set_option linter.unusedVariables false
theorem simpL_wf' (L : List (Nat × Nat)) (h : ∀ p ∈ L, B64 p.1 ∧ B64 p.2) : ∀ p ∈ simpL L, B64 p.1 ∧ B64 p.2 := by
  intro p hp
  unfold simpL keptT at hp
  obtain ⟨i, hi, rfl⟩ := List.mem_map.1 hp
  have hi := List.mem_range.1 (List.mem_filter.1 hi).1
  have := Wf.at_ h i hi
  exact ⟨Nat.lt_of_le_of_lt Nat.and_le_left this.1, this.2⟩
theorem wRow_none (k : Nat) (x : Nat × Nat) : ∀ (L : List (Nat × Nat)), L.any (meetX x) = false → wRow k x L = L ∧ wSplit k x L = false := by
  intro L
  induction L with
  | nil => intro _; exact ⟨rfl, rfl⟩
  | cons p L ih =>
    intro h
    rw [List.any_cons, Bool.or_eq_false_iff] at h
    obtain ⟨h1, h2⟩ := ih h.2
    have hp : meetN p.1 p.2 x.1 x.2 = false := h.1
    constructor
    · unfold wRow at h1 ⊢
      rw [List.flatMap_cons, h1]
      unfold wPart
      rw [hp, if_neg (by decide)]
      rfl
    · unfold wSplit at h2 ⊢
      rw [List.any_cons, h2]
      unfold wCut
      rw [hp]
      rfl
theorem wRow_wf (k : Nat) (h1 : 1 ≤ k) (h2 : k ≤ 64) (q : Nat × Nat) (L : List (Nat × Nat)) (hq : B64 q.1 ∧ B64 q.2) (hL : ∀ p ∈ L, B64 p.1 ∧ B64 p.2) : ∀ x ∈ wRow k q L, B64 x.1 ∧ B64 x.2 := by
  intro x hx
  obtain ⟨p, hp, h⟩ := List.mem_flatMap.1 hx
  unfold wPart at h
  split at h
  · have k := subL_chk p.1 p.2 q.1 q.2 k h1 h2 (hL p hp).1 (hL p hp).2 hq.1 hq.2 x h
    exact ⟨k.1, k.2.1⟩
  · rw [List.mem_singleton.1 h]; exact hL p hp
/-- What the program leaves behind each cube of the second list. -/
def psG (k : Nat) (one : Bool) : List (Nat × Nat) → List (Nat × Nat) → List (Nat × Nat) × Int
  | [], l => (l, 0)
  | x :: t, l =>
    if (wSplit k x l && !one) = true then (if 1024 < (simpL (wRow k x l)).length then ([], 12) else psG k one t (simpL (wRow k x l)))
    else (if 1024 < (wRow k x l).length then ([], 12) else psG k one t (wRow k x l))
def psL (k : Nat) (L M : List (Nat × Nat)) : List (Nat × Nat) × Int := if 1024 < (simpL (L.map (resP k))).length then ([], 12) else psG k (decide ((simpL (L.map (resP k))).length = 1)) M (simpL (L.map (resP k)))
def psX (x : Int) (L M : List (Nat × Nat)) : List (Nat × Nat) × Int := if 1 ≤ x ∧ x ≤ 64 then psL x.toNat L M else ([], 10)
set_option maxRecDepth 100000 in
set_option maxHeartbeats 8000000 in
theorem psub_list (w : World) (a b : Option Addr) (n c m d k : Nat) (L M : List (Nat × Nat)) (h : SC w a n c L) (g : SC w b m d M) (hn : n ≤ 10000) (hm : m ≤ 10000) (hk1 : 1 ≤ k) (hk2 : k ≤ 64) : Calls Try.prog 20 #[.slice a n c, .slice b m d, .int .i64 (k : Int)] w (RetCE (psL k L M).1 (psL k L M).2 w) := by
  have RS := Lib.hid (res_any w a n c L h (by omega) k hk1 hk2)
  have RW := Lib.hid (resP_wf k L h.wf)
  have HB := Lib.hid g
  have HL2 := Lib.hid g.len
  have HL := Lib.hid (show (L.map (resP k)).length ≤ 100000 by rw [List.length_map, h.len]; omega)
  obtain ⟨R, hR⟩ : ∃ R, R = psL k L M := ⟨_, rfl⟩
  rw [← hR]
  have HR := Lib.hid hR
  have K1 := Lib.hid hk1
  have K2 := Lib.hid hk2
  unfold psL at HR
  clear h g hR
  generalize L.map (resP k) = L2 at *
  have g1 : ¬ (k : Int) < 1 := by omega
  have g2 : ¬ (64 : Int) < (k : Int) := by omega
  clear hk1 hk2
  go_enter Try.func20, Try.ntmps20
  go_wp2_with fail
  refine RS.out.mono ?_
  rintro e w1 ⟨V, rfl, o1, g1'⟩
  obtain ⟨ra, rc, rfl⟩ := o1.shape
  have S1 := Lib.hid (sc_own o1 RW.out)
  have G1 := Lib.hid g1'
  clear o1 g1'
  go_wp2_with fail
  have SA := settled_any w1 ra L2.length rc L2 S1.out HL.out
  unfold RetCE stepL stepE at SA
  refine SA.mono ?_
  rintro e w2 ⟨V2, rfl, o2, g2'⟩
  have SW := Lib.hid (simpL_wf' L2 RW.out)
  have G2 := Lib.hid (gb_trans G1.out g2')
  by_cases hbig : 1024 < (simpL L2).length
  · rw [if_pos hbig] at HR o2
    rw [if_pos hbig]
    obtain ⟨sa, sc, rfl⟩ := o2.shape
    clear o2 g2' SA S1 hbig
    go_wp2
    go_ret2
    exact ⟨_, by rw [HR.out] <;> rfl, by rw [HR.out]; exact CLs.nil _ _, G2.out⟩
  · rw [if_neg hbig] at HR o2
    rw [if_neg hbig]
    generalize simpL L2 = L3 at *
    obtain ⟨sa, sc, rfl⟩ := o2.shape
    have O2 := Lib.hid (own_low (base2 := w.heap.size) o2 G1.out.size)
    clear o2 g2' SA S1
    obtain ⟨one, hone⟩ : ∃ one, one = decide (L3.length = 1) := ⟨_, rfl⟩
    rw [← hone] at HR
    have hbg := Lib.hid (show L3.length ≤ 1024 by omega)
    have HONE := Lib.hid hone
    generalize hl3 : L3.length = l3 at *
    have HL3 := Lib.hid hl3
    clear hone hbig hl3
    go_wp2
    have e1 : ((l3 : Int) == 1) = one := by
      rw [HONE.out, Bool.eq_iff_iff, beq_iff_eq, decide_eq_true_eq]; omega
    rw [e1]
    clear HONE e1
    go_loopw [8, 9, 13, 14, 36] (fun s8 s9 s13 s14 s36 wr => ∃ (j : Nat) (l : List (Nat × Nat)), j ≤ m ∧ s36 = .int .i64 j ∧ s9 = .int .i64 0 ∧ psG k one (M.drop j) l = R ∧ (∀ p ∈ l, B64 p.1 ∧ B64 p.2) ∧ l.length ≤ 1024 ∧ CLs wr w.heap.size s8 l ∧ w.grownBy wr none) (fun _ _ _ _ s36 _ => m - (intOf s36).toNat)
    case atStart => exact ⟨0, L3, Nat.zero_le _, rfl, rfl, HR.out.symm, SW.out, by rw [HL3.out]; exact hbg.out, by rw [← HL3.out] at O2 ⊢; exact O2.out, G2.out⟩
    case round =>
      obtain ⟨j, l, hj, rfl, rfl, hps, hwf, hln, ho, hg⟩ := hrel
      obtain ⟨va, vc, rfl⟩ := ho.shape
      have PS := Lib.hid hps
      have WF := Lib.hid hwf
      have O := Lib.hid ho
      have G := Lib.hid hg
      clear hps hwf ho hg HR O2 SW hbg HL3
      by_cases hlt : j < m
      · obtain ⟨bd, rfl⟩ := HB.out.some (by omega)
        have i1 : (j : Int) < m := by omega
        have i0 : (0 : Int) ≤ (j : Int) := by omega
        obtain ⟨d0, d1⟩ := (HB.out.keep0 G.out).cells bd rfl j hlt
        obtain ⟨b0, b1⟩ := HB.out.wfAt j hlt
        have DR := Lib.hid (show M.drop j = M.getD j (0, 0) :: M.drop (j + 1) by
          rw [List.drop_eq_getElem_cons (by rw [HL2.out]; exact hlt), List.getD_eq_getElem?_getD, List.getElem?_eq_getElem (by rw [HL2.out]; exact hlt)]; rfl)
        obtain ⟨q, hq⟩ : ∃ q, q = M.getD j (0, 0) := ⟨_, rfl⟩
        rw [← hq] at d0 d1 b0 b1 DR
        obtain ⟨xv, xm⟩ := q
        have PS2 := Lib.hid (show (if (wSplit k (xv, xm) l && !one) = true then (if 1024 < (simpL (wRow k (xv, xm) l)).length then ([], 12) else psG k one (M.drop (j + 1)) (simpL (wRow k (xv, xm) l))) else (if 1024 < (wRow k (xv, xm) l).length then ([], 12) else psG k one (M.drop (j + 1)) (wRow k (xv, xm) l))) = R by
          have := PS.out
          rw [DR.out] at this
          exact this)
        have GA := Lib.hid (gb_trans G.out (gb_alloc wr (.cells #[.int .u64 (xv : Int), .int .u64 (xm : Int)] 49) none))
        have SCL := Lib.hid ((sc_own O.out WF.out).keep0 (gb_alloc wr (.cells #[.int .u64 (xv : Int), .int .u64 (xm : Int)] 49) none))
        have WO := Lib.hid (wo_any _ xv xm k va l.length vc l SCL.out (by omega) b0 b1 K1.out K2.out)
        have OA := Lib.hid (O.out.keep0 (gb_alloc wr (.cells #[.int .u64 (xv : Int), .int .u64 (xm : Int)] 49) none))
        have RWF := Lib.hid (wRow_wf k K1.out K2.out (xv, xm) l ⟨b0, b1⟩ WF.out)
        have WN := Lib.hid (wRow_none k (xv, xm) l)
        have RL := Lib.hid (show (wRow k (xv, xm) l).length ≤ 65536 by have := wRow_len k (xv, xm) l; omega)
        clear hq b0 b1 PS DR SCL
        generalize hln2 : l.length = ln at *
        have HLN := Lib.hid hln2
        clear hln2
        go_wp2_with fail
        refine WO.out.mono ?_
        rintro e w3 ⟨V3, sp, rfl, hcase, g3⟩
        have H3 := Lib.hid (show sp = wSplit k (xv, xm) l ∧ CLs w3 w.heap.size V3 (wRow k (xv, xm) l) by
          rcases hcase with ⟨h1, h2, h3⟩ | ⟨h1, h2, h3⟩
          · obtain ⟨e1, e2⟩ := WN.out h1
            refine ⟨by rw [h3, e2], ?_⟩
            rw [e1, h2]
            exact OA.out.keep0 g3
          · exact ⟨h2, own_low h3 GA.out.size⟩)
        have G3 := Lib.hid (gb_trans GA.out g3)
        clear hcase g3 WO OA WN d0 d1 O HLN WF
        have PS3 := PS2.out
        obtain ⟨e1, o3⟩ := H3.out
        rw [← e1] at PS3
        clear PS2 H3 e1
        generalize wRow k (xv, xm) l = Rw at *
        obtain ⟨sa3, sc3, rfl⟩ := o3.shape
        have O3 := Lib.hid o3
        have S3 := Lib.hid (sc_own o3 RWF.out)
        clear o3
        cases hsp : (sp && !one)
        · rw [hsp, if_neg (by decide)] at PS3
          have hl0 := RL.out
          by_cases hb2 : 1024 < Rw.length
          · rw [if_pos hb2] at PS3
            have PS4 := Lib.hid PS3
            have hb3 : (1024 : Int) < (Rw.length : Int) := by omega
            have hsp2 : (sp = true → one = true) := by cases sp <;> cases one <;> simp_all
            clear PS3
            cases sp <;> cases one <;> first
              | (exfalso; cases hsp; done)
              | (clear hsp hsp2
                 go_wp2
                 go_ret2
                 exact ⟨_, by rw [← PS4.out] <;> rfl, by rw [← PS4.out]; exact CLs.nil _ _, G3.out⟩)
          · rw [if_neg hb2] at PS3
            have PS4 := Lib.hid PS3
            have hb3 : ¬ (1024 : Int) < (Rw.length : Int) := by omega
            have hb4 : Rw.length ≤ 1024 := by omega
            clear PS3 hb2
            cases sp <;> cases one <;> first
              | (exfalso; cases hsp; done)
              | (clear hsp
                 go_wp2
                 go_roundw
                 case rel => exact ⟨j + 1, _, by omega, by go_num, rfl, PS4.out, RWF.out, hb4, O3.out, G3.out⟩
                 case measure => simp [intOf]; omega)
        · rw [hsp, if_pos rfl] at PS3
          have PS4 := Lib.hid PS3
          have hsp1 : sp = true := by cases sp <;> simp_all
          have hsp2 : one = false := by cases one <;> simp_all
          subst hsp1
          subst hsp2
          have SW3 := Lib.hid (simpL_wf' Rw RWF.out)
          have SA := settled_any w3 sa3 Rw.length sc3 Rw S3.out (by have := RL.out; omega)
          unfold RetCE stepL stepE at SA
          clear PS3 hsp
          go_wp2_with fail
          refine SA.mono ?_
          rintro e w4 ⟨V4, rfl, o4, g4⟩
          have G4 := Lib.hid (gb_trans G3.out g4)
          have o5 : CLs w4 w.heap.size V4 (if 1024 < (simpL Rw).length then [] else simpL Rw) := own_low o4 G3.out.size
          clear o4 g4 SA
          by_cases hbig : 1024 < (simpL Rw).length
          · rw [if_pos hbig] at PS4 o5
            rw [if_pos hbig]
            obtain ⟨sa4, sc4, rfl⟩ := o5.shape
            clear o5 hbig
            go_wp2
            go_ret2
            exact ⟨_, by rw [← PS4.out] <;> rfl, by rw [← PS4.out]; exact CLs.nil _ _, G4.out⟩
          · rw [if_neg hbig] at PS4 o5
            rw [if_neg hbig]
            have hb4 : (simpL Rw).length ≤ 1024 := by omega
            generalize simpL Rw = Rs at *
            obtain ⟨sa4, sc4, rfl⟩ := o5.shape
            have O5 := Lib.hid o5
            clear o5 hbig
            go_wp2
            go_roundw
            case rel => exact ⟨j + 1, _, by omega, by go_num, rfl, PS4.out, SW3.out, hb4, O5.out, G4.out⟩
            case measure => simp [intOf]; omega
      · have hje : j = m := by omega
        have PS2 := Lib.hid (show (l, (0 : Int)) = R by have := PS.out; rw [List.drop_of_length_le (by rw [HL2.out]; omega)] at this; exact this)
        subst hje
        go_wp2
        go_ret2
        exact ⟨_, by rw [← PS2.out] <;> rfl, by rw [← PS2.out]; exact O.out, G.out⟩
set_option maxRecDepth 100000 in
set_option maxHeartbeats 4000000 in
theorem psubX_any (w : World) (a b : Option Addr) (n c m d : Nat) (x : Int) (L M : List (Nat × Nat)) (h : SC w a n c L) (g : SC w b m d M) (hn : n ≤ 10000) (hm : m ≤ 10000) : Calls Try.prog 20 #[.slice a n c, .slice b m d, .int .i64 x] w (RetCE (psX x L M).1 (psX x L M).2 w) := by
  by_cases hw : 1 ≤ x ∧ x ≤ 64
  · obtain ⟨k, rfl⟩ : ∃ k : Nat, x = (k : Int) := ⟨x.toNat, by omega⟩
    have e : psX (k : Int) L M = psL k L M := by unfold psX; rw [if_pos hw, Int.toNat_natCast]
    rw [e]
    exact psub_list w a b n c m d k L M h g hn hm (by omega) (by omega)
  · have e : psX x L M = ([], 10) := by unfold psX; rw [if_neg hw]
    rw [e]
    clear h g e
    go_enter Try.func20, Try.ntmps20
    by_cases h1 : x < 1
    · clear hw
      go_wp2
      go_ret2
      exact ⟨_, rfl, CLs.nil _ _, gb_refl _ _⟩
    · have h2 : 64 < x := by omega
      clear hw
      go_wp2
      go_ret2
      exact ⟨_, rfl, CLs.nil _ _, gb_refl _ _⟩
end Go.Proofs.Yteemhabgliglmaa
