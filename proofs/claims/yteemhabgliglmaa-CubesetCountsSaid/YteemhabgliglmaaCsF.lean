/- Cubeset: the reference's Intersect. -/
import Derived.Test.YteemhabgliglmaaCsE
namespace Go.Proofs.Yteemhabgliglmaa
open Go.RowKit
set_option linter.unusedVariables false

def interN (p q : Nat × Nat) : List (Nat × Nat) := if meetN p.1 p.2 q.1 q.2 = true then [(intV p.1 p.2 q.1 q.2, intM p.1 p.2 q.1 q.2)] else []
def rowI (p : Nat × Nat) (M : List (Nat × Nat)) : List (Nat × Nat) := M.flatMap (interN p)
/-- Intersect: the list so far, and the error. -/
def intG (M : List (Nat × Nat)) : List (Nat × Nat) → List (Nat × Nat) → List (Nat × Nat) × Int
  | [], out => (out, 0)
  | p :: t, out => if 1024 < (simpL (out ++ rowI p M)).length then ([], 12) else intG M t (simpL (out ++ rowI p M))
theorem rowI_len (p : Nat × Nat) (M : List (Nat × Nat)) : (rowI p M).length ≤ M.length := by
  unfold rowI
  induction M with
  | nil => simp
  | cons q s ih =>
    rw [List.flatMap_cons, List.length_append, List.length_cons]
    have : (interN p q).length ≤ 1 := by unfold interN; split <;> simp
    omega
theorem rowI_snoc (p : Nat × Nat) (M : List (Nat × Nat)) (j : Nat) (h : j < M.length) : rowI p (M.take (j + 1)) = rowI p (M.take j) ++ interN p (M.getD j (0, 0)) := by
  unfold rowI
  rw [take_one M (0, 0) j h, List.flatMap_append]
  simp
theorem interN_wf (p q : Nat × Nat) (hp : B64 p.1 ∧ B64 p.2) (hq : B64 q.1 ∧ B64 q.2) : ∀ x ∈ interN p q, B64 x.1 ∧ B64 x.2 := by
  intro x hx
  unfold interN at hx
  split at hx
  · rw [List.mem_singleton] at hx
    subst hx
    exact ⟨intV_lt _ _ _ _ hp.1 hq.1, intM_lt _ _ _ _ hp.2 hq.2⟩
  · cases hx
theorem rowI_wf (p : Nat × Nat) (M : List (Nat × Nat)) (hp : B64 p.1 ∧ B64 p.2) (hM : ∀ q ∈ M, B64 q.1 ∧ B64 q.2) : ∀ x ∈ rowI p M, B64 x.1 ∧ B64 x.2 := by
  intro x hx
  obtain ⟨q, hq, h⟩ := List.mem_flatMap.1 hx
  exact interN_wf p q hp (hM q hq) x h
theorem simpL_wf (L : List (Nat × Nat)) (h : ∀ p ∈ L, B64 p.1 ∧ B64 p.2) : ∀ x ∈ simpL L, B64 x.1 ∧ B64 x.2 := by
  intro x hx
  unfold simpL keptT at hx
  obtain ⟨i, hi, rfl⟩ := List.mem_map.1 hx
  have hi2 : i < L.length := List.mem_range.1 (List.mem_filter.1 hi).1
  have k := h (L.getD i (0, 0)) (by rw [List.getD_eq_getElem?_getD, List.getElem?_eq_getElem hi2]; exact List.getElem_mem _)
  exact ⟨Nat.lt_of_le_of_lt Nat.and_le_left k.1, k.2⟩
theorem simpL_len (L : List (Nat × Nat)) : (simpL L).length ≤ L.length := keptT_len L L.length
set_option maxRecDepth 100000 in
set_option maxHeartbeats 20000000 in
theorem rinter_any (w : World) (a b : Option Addr) (n c m d : Nat) (L M : List (Nat × Nat)) (h : SC w a n c L) (g : SC w b m d M) (hn : n ≤ 10000) (hm : m ≤ 10000) : Calls Try.prog 19 #[.slice a n c, .slice b m d] w (RetCE (intG M L []).1 (intG M L []).2 w) := by
  have HA := Lib.hid h
  have HB := Lib.hid g
  have HL := Lib.hid h.len
  have HL2 := Lib.hid g.len
  obtain ⟨R, hR⟩ : ∃ R, R = intG M L [] := ⟨_, rfl⟩
  rw [← hR]
  have HR := Lib.hid hR
  clear h g hR
  go_enter Try.func19, Try.ntmps19
  go_wp2
  go_loopw [6, 7] (fun o s wr => ∃ (j : Nat) (out : List (Nat × Nat)), j ≤ n ∧ s = .int .i64 j ∧ intG M (L.drop j) out = R ∧ out.length ≤ 1024 ∧ (∀ p ∈ out, B64 p.1 ∧ B64 p.2) ∧ CLs wr w.heap.size o out ∧ w.grownBy wr none) (fun _ s _ => n - (intOf s).toNat)
  case atStart => exact ⟨0, [], Nat.zero_le _, rfl, HR.out.symm, by simp, by simp, CLs.nil _ _, gb_refl _ _⟩
  case round =>
    obtain ⟨j, out, hj, rfl, hint, hol, hwf, ho, hg⟩ := hrel
    obtain ⟨oa, oc, rfl⟩ := ho.shape
    have HI := Lib.hid hint
    have HW := Lib.hid hwf
    have HO := Lib.hid ho
    have HG := Lib.hid hg
    clear hint hwf ho hg
    by_cases hlt : j < n
    · have i1 : (j : Int) < n := by omega
      have i0 : (0 : Int) ≤ (j : Int) := by omega
      obtain ⟨ad, rfl⟩ := HA.out.some (by omega)
      have CJ := Lib.hid (fun (w2 : World) (g : w.grownBy w2 none) => (HA.out.keep0 g).cells ad rfl j hlt)
      obtain ⟨b0, b1⟩ := HA.out.wfAt j hlt
      have DR := Lib.hid (show L.drop j = L.getD j (0, 0) :: L.drop (j + 1) by rw [List.drop_eq_getElem_cons (by rw [HL.out]; exact hlt)]; simp [show j < L.length by rw [HL.out]; exact hlt])
      obtain ⟨p, hp⟩ : ∃ p, p = L.getD j (0, 0) := ⟨_, rfl⟩
      rw [← hp] at CJ b0 b1 DR
      have HP := Lib.hid (show B64 p.1 ∧ B64 p.2 from ⟨b0, b1⟩)
      obtain ⟨pv, pm⟩ := p
      have B0 := Lib.hid b0
      have B1 := Lib.hid b1
      clear hp b0 b1
      go_wp2
      go_loopw [6, 8] (fun o s wr => ∃ (k : Nat) (V : List (Nat × Nat)), k ≤ m ∧ s = .int .i64 k ∧ V = out ++ rowI (pv, pm) (M.take k) ∧ CLs wr w.heap.size o V ∧ w.grownBy wr none) (fun _ s _ => m - (intOf s).toNat)
      case atStart => exact ⟨0, out, Nat.zero_le _, rfl, by simp [rowI], HO.out, HG.out⟩
      case round =>
        clear HO HG
        obtain ⟨k, V, hk, rfl, hV, ho, hg⟩ := hrel
        obtain ⟨va, vc, rfl⟩ := ho.shape
        have hvl : V.length ≤ 20000 := by
          rw [hV, List.length_append]
          have := rowI_len (pv, pm) (M.take k)
          rw [List.length_take] at this
          omega
        have HV := Lib.hid hV
        have HO := Lib.hid ho
        have HG := Lib.hid hg
        clear hV ho hg
        by_cases hlt2 : k < m
        · have k1 : (k : Int) < m := by omega
          have k0 : (0 : Int) ≤ (k : Int) := by omega
          obtain ⟨bd, rfl⟩ := HB.out.some (by omega)
          have CK := Lib.hid (fun (w2 : World) (g : w.grownBy w2 none) => (HB.out.keep0 g).cells bd rfl k hlt2)
          obtain ⟨d0, d1⟩ := HB.out.wfAt k hlt2
          have SN := Lib.hid (rowI_snoc (pv, pm) M k (by rw [HL2.out]; exact hlt2))
          obtain ⟨q, hq⟩ : ∃ q, q = M.getD k (0, 0) := ⟨_, rfl⟩
          rw [← hq] at CK d0 d1 SN
          obtain ⟨qv, qm⟩ := q
          have IN := Lib.hid (fun w => rint_any w pv pm qv qm B0.out B1.out d0 d1)
          unfold RetI at IN
          have SN2 := Lib.hid (show interN (pv, pm) (qv, qm) = if meetN pv pm qv qm = true then [(intV pv pm qv qm, intM pv pm qv qm)] else [] from rfl)
          generalize intV pv pm qv qm = iv at *
          generalize intM pv pm qv qm = im at *
          generalize meetN pv pm qv qm = mt at *
          clear hq d0 d1
          go_upto_region 8 with fail
          go_cut [9, 10] from 25 to 36 (fun s9 s10 wx => ∃ g : Nat, s9 = .pointer (some ⟨g, 0, none⟩) ∧ s10 = .bool mt ∧ wx.cell? ⟨g, 0, none⟩ = some (.int .u64 (iv : Int)) ∧ wx.cell? ⟨g, 1, none⟩ = some (.int .u64 (im : Int)) ∧ w.grownBy wx none ∧ wr.grownBy wx none)
          case first =>
            have hG0 := HG.out
            have KS := Lib.hid (fun (w' : World) (q0 : w.grownBy w' none) => (⟨(CJ.out _ q0).1, (CJ.out _ q0).2, (CK.out _ q0).1, (CK.out _ q0).2, q0⟩ : (fun w' : World => w'.cell? (ad.add (j * 2)) = some (.int .u64 (pv : Int)) ∧ w'.cell? ⟨(ad.add (j * 2)).block, (ad.add (j * 2)).off + 1, none⟩ = some (.int .u64 (pm : Int)) ∧ w'.cell? (bd.add (k * 2)) = some (.int .u64 (qv : Int)) ∧ w'.cell? ⟨(bd.add (k * 2)).block, (bd.add (k * 2)).off + 1, none⟩ = some (.int .u64 (qm : Int)) ∧ w.grownBy w' none) w'))
            go_region_held3 (fun w' : World => w'.cell? (ad.add (j * 2)) = some (.int .u64 (pv : Int)) ∧ w'.cell? ⟨(ad.add (j * 2)).block, (ad.add (j * 2)).off + 1, none⟩ = some (.int .u64 (pm : Int)) ∧ w'.cell? (bd.add (k * 2)) = some (.int .u64 (qv : Int)) ∧ w'.cell? ⟨(bd.add (k * 2)).block, (bd.add (k * 2)).off + 1, none⟩ = some (.int .u64 (qm : Int)) ∧ w.grownBy w' none)
              (first
                | assumption
                | exact KS.out _ (by repeat' first
                                          | assumption
                                          | exact (And.right (And.right (And.right (And.right (by assumption)))))
                                          | exact World.grownBy.refl _ _
                                          | exact gb_drew _ _
                                          | refine gb_trans ?_ (gb_alloc _ _ _)
                                          | refine gb_trans ?_ (gb_drew _ _)
                                          | refine gb_put ?_ ?_
                                          | refine gsz ?_
                                          | exact Nat.le_refl _
                                          | refine Nat.le_succ_of_le ?_
                                          | refine gb_trans ?_ (by assumption)
                                          | (simp only [alloc_sz]; omega)))
              (first
                | (go_at_call 42; refine (IN.out _).mono ?_; rintro e w' ⟨rfl, gA⟩; (try with_reducible (have gA := gb_trans (gb_drew _ none) gA)); (try with_reducible (have IA := isb_keep gA (IsB.new _ _ _); (try simp only [alloc_sz, drew_sz] at IA); obtain ⟨a1, a2, a3, a4, a5, a6, a7, a8, a9, a10⟩ := box_facts IA))))
            all_goals (go_wp2_with fail)
            all_goals go_meet
            all_goals (
              have n0 : (w'.alloc (.cells #[.int .u64 (iv : Int), .int .u64 (im : Int)] 49)).cell? ⟨w'.heap.size, 0, none⟩ = some (.int .u64 (iv : Int)) := (IsB.new w' 49 _).cell 0
              have n1 : (w'.alloc (.cells #[.int .u64 (iv : Int), .int .u64 (im : Int)] 49)).cell? ⟨w'.heap.size, 1, none⟩ = some (.int .u64 (im : Int)) := (IsB.new w' 49 _).cell 1
              first
                | with_reducible exact ⟨_, rfl, rfl, n0, n1, (And.right (And.right (And.right (And.right (by assumption))))), gb_trans gA (gb_alloc _ _ _)⟩
                | (have f0 := isb_fill (v := (iv : Int)) (m := (im : Int)) IA
                   have m0 : ((w'.setCell ⟨wr.heap.size, 0, none⟩ (.int .u64 (iv : Int))).setCell ⟨wr.heap.size, 1, none⟩ (.int .u64 (im : Int))).cell? ⟨wr.heap.size, 0, none⟩ = some (.int .u64 (iv : Int)) := f0.cell 0
                   have m1 : ((w'.setCell ⟨wr.heap.size, 0, none⟩ (.int .u64 (iv : Int))).setCell ⟨wr.heap.size, 1, none⟩ (.int .u64 (im : Int))).cell? ⟨wr.heap.size, 1, none⟩ = some (.int .u64 (im : Int)) := f0.cell 1
                   with_reducible exact ⟨_, rfl, rfl, m0, m1, (And.right (And.right (And.right (And.right (by assumption))))), gb_put (gb_put (gb_trans (gb_alloc _ _ _) gA) (Nat.le_refl _)) (Nat.le_refl _)⟩))
          case rest =>
            obtain ⟨g, rfl, rfl, c0, c1, gw, gr⟩ := hcut
            have HO := Lib.hid (HO.out.keep0 gr)
            have GW := Lib.hid gw
            clear gw gr
            cases mt
            · have V2 := Lib.hid (show V = out ++ rowI (pv, pm) (M.take (k + 1)) by rw [SN.out, SN2.out, HV.out]; simp)
              clear c0 c1
              go_wp2
              go_roundw
              case rel => exact ⟨k + 1, V, by omega, by go_num, V2.out, HO.out, GW.out⟩
              case measure => simp [intOf]; omega
            · have V2 := Lib.hid (show V ++ [(iv, im)] = out ++ rowI (pv, pm) (M.take (k + 1)) by rw [SN.out, SN2.out, HV.out]; simp)
              go_wp2_with (at_builtin; refine pushCube rfl _ _ rfl w.heap.size _ V rfl (HO.out.keep0 (gb_alloc _ _ _)) _ _ (iv, im) rfl (two_cell _ _ _ _ _ (IsB.new _ _ _) rfl) (by omega) (gb_trans GW.out (gb_alloc _ _ none)).size ?_)
              intro V9 w9 o9 g9
              have G9 := Lib.hid (gb_own (gb_trans GW.out (gb_alloc _ _ none)) (HO.out.keep0 (gb_alloc _ _ _)) (Nat.le_refl _) g9)
              have O9 := Lib.hid o9
              clear c0 c1 o9 g9
              go_wp2
              go_roundw
              case rel => exact ⟨k + 1, V ++ [(iv, im)], by omega, by go_num, V2.out, O9.out, G9.out⟩
              case measure => simp [intOf]; omega
        · have hke : k = m := by omega
          have VV := Lib.hid (show V = out ++ rowI (pv, pm) M by rw [HV.out, List.take_of_length_le (by rw [HL2.out]; omega)])
          have wfV : ∀ x ∈ V, B64 x.1 ∧ B64 x.2 := by
            rw [VV.out]
            intro x hx
            rcases List.mem_append.1 hx with q | q
            · exact HW.out x q
            · exact rowI_wf _ M HP.out HB.out.wf x q
          have ST := Lib.hid (step_any wr va _ vc V (sc_own HO.out wfV) (by omega))
          have NX := Lib.hid (show intG M (L.drop j) out = if 1024 < (simpL V).length then ([], 12) else intG M (L.drop (j + 1)) (simpL V) by rw [DR.out, VV.out]; rfl)
          have WF := Lib.hid (simpL_wf V wfV)
          subst hke
          clear wfV
          unfold stepL stepE at ST
          by_cases hbig : 1024 < (simpL V).length
          · rw [if_pos hbig, if_pos hbig] at ST
            have RR := Lib.hid (show R = ([], 12) by rw [← HI.out, NX.out, if_pos hbig])
            clear hbig
            go_wp2_with fail
            refine ST.out.mono ?_
            rintro e w5 ⟨V5, rfl, o5, g5⟩
            have G5 := Lib.hid (gb_trans HG.out g5)
            clear g5
            go_wp2
            go_ret2
            rw [RR.out]
            exact ⟨_, rfl, CLs.nil _ _, G5.out⟩
          · rw [if_neg hbig, if_neg hbig] at ST
            have I2 := Lib.hid (show intG M (L.drop (j + 1)) (simpL V) = R by rw [← HI.out, NX.out, if_neg hbig])
            have hl5 : (simpL V).length ≤ 1024 := by omega
            generalize simpL V = U at *
            clear hbig
            go_wp2_with fail
            refine ST.out.mono ?_
            rintro e w5 ⟨V5, rfl, o5, g5⟩
            have G5 := Lib.hid (gb_trans HG.out g5)
            have O5 := Lib.hid (own_low o5 HG.out.size)
            clear g5 o5
            go_wp2
            go_roundw
            case rel => exact ⟨j + 1, U, by omega, by go_num, I2.out, hl5, WF.out, O5.out, G5.out⟩
            case measure => simp [intOf]; omega
    · have hje : j = n := by omega
      have RR := Lib.hid (show R = (out, 0) by rw [← HI.out, List.drop_of_length_le (by rw [HL.out]; omega)]; rfl)
      subst hje
      go_wp2
      go_ret2
      rw [RR.out]
      exact ⟨_, rfl, HO.out, HG.out⟩
end Go.Proofs.Yteemhabgliglmaa
