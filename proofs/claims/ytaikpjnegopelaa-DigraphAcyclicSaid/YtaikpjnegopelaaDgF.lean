/- The program's smallestSuccessor and descend: the walks. -/
import Derived.Test.YtaikpjnegopelaaDgE
namespace Go.Proofs.Ytaikpjnegopelaa
open Go.RowKit
set_option linter.unusedVariables false

def smF (n : Nat) (rank : List Int) (wanted : Int) (s x : Int) : Int := if 0 ≤ x ∧ x < (n : Int) ∧ rank.getD x.toNat 0 = wanted ∧ (s = -1 ∨ x < s) then x else s
/-- The smallest successor of a rank, or -1. -/
def smS (g : List (List Int)) (rank : List Int) (wanted : Int) (v : Nat) : Int := (g.getD v []).foldl (smF g.length rank wanted) (-1)
theorem smF_range (n : Nat) (rank : List Int) (wanted s x : Int) (h : -1 ≤ s ∧ s < (n : Int)) : -1 ≤ smF n rank wanted s x ∧ smF n rank wanted s x < (n : Int) := by
  unfold smF; split <;> omega
theorem smP_range (n : Nat) (rank : List Int) (wanted : Int) (zs : List Int) : ∀ s, -1 ≤ s ∧ s < (n : Int) → -1 ≤ zs.foldl (smF n rank wanted) s ∧ zs.foldl (smF n rank wanted) s < (n : Int) := by
  induction zs with
  | nil => intro s h; exact h
  | cons x t ih => intro s h; exact ih _ (smF_range n rank wanted s x h)

set_option maxRecDepth 100000 in
set_option maxHeartbeats 2000000 in
theorem small_any (w : World) (a b : Option Addr) (c d : Nat) (g : List (List Int)) (rank : List Int) (v : Nat) (wanted : Int) (h : SlG w a g.length c g) (hr : SlR w b g.length d (rank.map (Value.int .i64))) (hn : g.length ≤ 100000) (hv : v < g.length) :
    Calls Try.prog 45 #[.slice a g.length c, .slice b g.length d, .int .i64 v, .int .i64 wanted] w (RetS (.int .i64 (smS g rank wanted v)) w) := by
  have HH := Lib.hid h
  have HR := Lib.hid hr
  have hrl : rank.length = g.length := hr.len'
  have hvi : (v : Int) < g.length := by omega
  clear h hr
  cases a with
  | none => exact absurd (HH.out.2.1 rfl).1 (by omega)
  | some ad =>
    cases b with
    | none => exact absurd (HR.out.2.1 rfl).1 (by omega)
    | some rd =>
      obtain ⟨A, C, c1, r0, l1⟩ := HH.out.row v hv
      have HS := Lib.hid (show smS g rank wanted v = (g.getD v []).foldl (smF g.length rank wanted) (-1) from rfl)
      obtain ⟨zs, hz⟩ : ∃ zs, zs = g.getD v [] := ⟨_, rfl⟩
      rw [← hz] at c1 r0 l1 HS
      have R0 := Lib.hid r0
      clear r0 hz
      go_enter Try.func45, Try.ntmps45
      go_wp2
      go_loopw [9, 17] (fun s i wr => ∃ j : Nat, j ≤ zs.length ∧ i = .int .i64 j ∧ s = .int .i64 ((zs.take j).foldl (smF g.length rank wanted) (-1)) ∧ wr = w) (fun _ i _ => zs.length - (intOf i).toNat)
      case atStart => exact ⟨0, Nat.zero_le _, rfl, rfl, rfl⟩
      case round =>
        obtain ⟨j, hj, rfl, rfl, rfl⟩ := hrel
        by_cases hjt : j < zs.length
        · have i2 : (j : Int) < zs.length := by omega
          cases A with
          | none => exact absurd (R0.out.2.1 rfl).1 (by omega)
          | some ar =>
            have c2 := R0.out.cellAt j hjt
            have TS := Lib.hid (show (zs.take (j + 1)).foldl (smF g.length rank wanted) (-1) = smF g.length rank wanted ((zs.take j).foldl (smF g.length rank wanted) (-1)) (zs.getD j 0) by
              rw [List.take_add_one, List.getElem?_eq_getElem hjt, List.foldl_append]; simp [hjt])
            have hsr := smP_range g.length rank wanted (zs.take j) (-1) ⟨Int.le_refl _, by omega⟩
            obtain ⟨s, hs⟩ : ∃ s, s = (zs.take j).foldl (smF g.length rank wanted) (-1) := ⟨_, rfl⟩
            rw [← hs] at TS hsr ⊢
            obtain ⟨x, hx⟩ : ∃ x, x = zs.getD j 0 := ⟨_, rfl⟩
            rw [← hx] at c2 TS
            clear hx hs
            have HN := Lib.hid (fun w => isNode_any w (some ad) g.length c x)
            by_cases hnode : 0 ≤ x ∧ x < (g.length : Int)
            · simp only [decide_eq_true hnode] at HN
              obtain ⟨xn, rfl⟩ : ∃ xn : Nat, x = (xn : Int) := ⟨x.toNat, by omega⟩
              have hxn : xn < g.length := by omega
              have ix : (xn : Int) < g.length := by omega
              have cr := HR.out.cellAt xn (by omega)
              have HF := Lib.hid (show smF g.length rank wanted s (xn : Int) = if rank.getD xn 0 = wanted ∧ (s = -1 ∨ (xn : Int) < s) then (xn : Int) else s by
                unfold smF
                by_cases q : rank.getD xn 0 = wanted ∧ (s = -1 ∨ (xn : Int) < s)
                · rw [if_pos q, if_pos ⟨hnode.1, hnode.2, by simpa using q.1, q.2⟩]
                · rw [if_neg q, if_neg (fun h => q ⟨by simpa using h.2.2.1, h.2.2.2⟩)])
              obtain ⟨y, hy⟩ : ∃ y, y = rank.getD xn 0 := ⟨_, rfl⟩
              rw [← hy] at cr HF
              clear hy hnode
              by_cases hyw : y = wanted
              · have d1 : (y == wanted) = true := by rw [beq_iff_eq]; exact hyw
                by_cases hs1 : s = -1
                · have HX := Lib.hid (show smF g.length rank wanted s (xn : Int) = xn by rw [HF.out, if_pos ⟨hyw, Or.inl hs1⟩])
                  have d2 : (s == -1) = true := by rw [beq_iff_eq]; exact hs1
                  clear hyw hs1
                  go_wp2_with fail
                  refine (HN.out _).mono ?_
                  rintro e w3 ⟨rfl, rfl⟩
                  go_wp2
                  go_roundw
                  case rel => exact ⟨j + 1, by omega, by go_num, by rw [TS.out, HX.out], trivial⟩
                  case measure => simp [intOf]; omega
                · have d2 : (s == -1) = false := by rw [beq_eq_false_iff_ne]; exact hs1
                  by_cases hlt : (xn : Int) < s
                  · have HX := Lib.hid (show smF g.length rank wanted s (xn : Int) = xn by rw [HF.out, if_pos ⟨hyw, Or.inr hlt⟩])
                    clear hyw hs1
                    go_wp2_with fail
                    refine (HN.out _).mono ?_
                    rintro e w3 ⟨rfl, rfl⟩
                    go_wp2
                    go_roundw
                    case rel => exact ⟨j + 1, by omega, by go_num, by rw [TS.out, HX.out], trivial⟩
                    case measure => simp [intOf]; omega
                  · have HX := Lib.hid (show smF g.length rank wanted s (xn : Int) = s by rw [HF.out, if_neg (fun h => by rcases h.2 with q | q; exact hs1 q; exact hlt q)])
                    clear hyw hs1
                    go_wp2_with fail
                    refine (HN.out _).mono ?_
                    rintro e w3 ⟨rfl, rfl⟩
                    go_wp2
                    go_roundw
                    case rel => exact ⟨j + 1, by omega, by go_num, by rw [TS.out, HX.out], trivial⟩
                    case measure => simp [intOf]; omega
              · have d1 : (y == wanted) = false := by rw [beq_eq_false_iff_ne]; exact hyw
                have HX := Lib.hid (show smF g.length rank wanted s (xn : Int) = s by rw [HF.out, if_neg (fun h => hyw h.1)])
                clear hyw
                go_wp2_with fail
                refine (HN.out _).mono ?_
                rintro e w3 ⟨rfl, rfl⟩
                go_wp2
                go_roundw
                case rel => exact ⟨j + 1, by omega, by go_num, by rw [TS.out, HX.out], trivial⟩
                case measure => simp [intOf]; omega
            · simp only [decide_eq_false hnode] at HN
              have HX := Lib.hid (show smF g.length rank wanted s x = s by unfold smF; rw [if_neg (fun h => hnode ⟨h.1, h.2.1⟩)])
              clear hnode
              go_wp2_with fail
              refine (HN.out _).mono ?_
              rintro e w3 ⟨rfl, rfl⟩
              go_wp2
              go_roundw
              case rel => exact ⟨j + 1, by omega, by go_num, by rw [TS.out, HX.out], trivial⟩
              case measure => simp [intOf]; omega
        · have hje : j = zs.length := by omega
          have i2 : ¬ (j : Int) < zs.length := by omega
          have HX := Lib.hid (show (zs.take j).foldl (smF g.length rank wanted) (-1) = smS g rank wanted v by rw [HS.out, hje, List.take_length])
          subst hje
          rw [HX.out]
          go_wp2
          go_ret
          exact ⟨rfl, rfl⟩

/-- The nodes on the way down. -/
def desV (g : List (List Int)) (rank : List Int) (first : Int) (v : Int) : Nat → Int
  | 0 => v
  | i + 1 => smS g rank (first - i) (desV g rank first v i).toNat
def desL (g : List (List Int)) (rank : List Int) (first : Int) (v : Int) (k : Nat) : List Int := (List.range (k + 1)).map (desV g rank first v)
theorem desL_len (g : List (List Int)) (rank : List Int) (first : Int) (v : Int) (k : Nat) : (desL g rank first v k).length = k + 1 := by simp [desL]
set_option maxRecDepth 100000 in
set_option maxHeartbeats 1000000 in
theorem descend_any (w : World) (a b : Option Addr) (c d : Nat) (g : List (List Int)) (rank : List Int) (v first last : Int) (k : Nat) (h : SlG w a g.length c g) (hr : SlR w b g.length d (rank.map (Value.int .i64))) (hn : g.length ≤ 100000)
    (hk : first - last + 1 = k) (hkb : k ≤ 200000) (hfb : -100000 ≤ first ∧ first ≤ 200000) (hok : ∀ i, i ≤ k → 0 ≤ desV g rank first v i ∧ desV g rank first v i < (g.length : Int)) :
    Calls Try.prog 36 #[.slice a g.length c, .slice b g.length d, .int .i64 v, .int .i64 first, .int .i64 last] w (RetN w.heap.size (desL g rank first v k) w) := by
  have HH := Lib.hid h
  have HR := Lib.hid hr
  have OK := Lib.hid hok
  clear h hr hok
  have N0 := Lib.hid (show NL (w.alloc (.cells #[.int .i64 v] 3)) w.heap.size (.slice (some ⟨w.heap.size, 0, none⟩) 1 1) (desL g rank first v 0) from nl_new w v)
  have G0 := Lib.hid (gb_alloc w (.cells #[.int .i64 v] 3) none)
  go_enter Try.func36, Try.ntmps36
  go_wp2
  go_loopw [2, 11, 12] (fun u p i wr => ∃ j : Nat, j ≤ k ∧ i = .int .i64 (first - j) ∧ u = .int .i64 (desV g rank first v j) ∧ NL wr w.heap.size p (desL g rank first v j) ∧ w.grownBy wr none) (fun _ _ i _ => (intOf i - last + 1).toNat)
  case atStart => exact ⟨0, Nat.zero_le _, by simp, rfl, N0.out, G0.out⟩
  case round =>
    obtain ⟨j, hj, rfl, rfl, hnl, hg⟩ := hrel
    have NQ := Lib.hid hnl
    have HG := Lib.hid hg
    have hlen : (desL g rank first v j).length = j + 1 := desL_len g rank first v j
    have hshape := hnl.shape
    rw [hlen] at hshape
    obtain ⟨qa, qc, rfl⟩ := hshape
    clear hnl hg N0 G0
    by_cases hjk : j < k
    · have i1 : last ≤ first - j := by omega
      have ok := OK.out j hj
      have TS := Lib.hid (show desL g rank first v (j + 1) = desL g rank first v j ++ [desV g rank first v (j + 1)] by unfold desL; rw [List.range_succ, List.map_append]; rfl)
      have DV := Lib.hid (show desV g rank first v (j + 1) = smS g rank (first - j) (desV g rank first v j).toNat from rfl)
      obtain ⟨un, hun⟩ : ∃ un : Nat, desV g rank first v j = un := ⟨(desV g rank first v j).toNat, by omega⟩
      rw [hun] at ok DV ⊢
      rw [Int.toNat_natCast] at DV
      have HS := Lib.hid (fun w2 (k2 : w.grownBy w2 none) => small_any w2 a b c d g rank un (first - j) (HH.out.keep0 k2) (HR.out.keep0 k2) hn (by omega))
      obtain ⟨y, hy⟩ : ∃ y, y = smS g rank (first - j) un := ⟨_, rfl⟩
      rw [← hy] at HS DV
      rw [DV.out] at TS
      clear hun hy
      go_wp2_with fail
      refine (HS.out _ HG.out).mono ?_
      rintro e w3 ⟨rfl, rfl⟩
      go_wp2_with (at_builtin; refine npush_any rfl _ _ rfl w.heap.size _ _ rfl (NQ.out.keep0 (gb_alloc _ _ _)) _ _ _ [y] rfl (slr_one _ _ _ _ _ rfl) (by rw [hlen, List.length_singleton]; omega) (Nat.le_trans HG.out.size (gb_alloc _ _ none).size) ?_)
      intro V4 w4 o4 g4
      have G4 := Lib.hid (gb_own (gb_trans HG.out (gb_alloc _ _ _)) (NQ.out.keep0 (gb_alloc _ _ _)) (Nat.le_refl _) g4)
      have O4 := Lib.hid o4
      clear o4 g4
      go_wp2
      go_roundw
      case rel => exact ⟨j + 1, by omega, by simp; omega, by rw [DV.out], by rw [TS.out]; exact O4.out, G4.out⟩
      case measure => simp [intOf]; omega
    · have hje : j = k := by omega
      subst hje
      have i1 : ¬ last ≤ first - j := by omega
      go_wp2
      go_ret
      exact ⟨_, rfl, NQ.out, HG.out⟩
end Go.Proofs.Ytaikpjnegopelaa
