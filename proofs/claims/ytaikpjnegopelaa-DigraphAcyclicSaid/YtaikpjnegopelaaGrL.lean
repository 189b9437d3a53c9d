/- The walk of the reference's ShortestCycle. -/
import Derived.Test.YtaikpjnegopelaaGrK
import Derived.Test.YtaikpjnegopelaaDgB
namespace Go.Proofs.Ytaikpjnegopelaa
open Go.RowKit
set_option linter.unusedVariables false

def better (d : List Int) (x : Nat) : Option Nat → Bool
  | none => true
  | some m => decide (d.getD x 0 < d.getD m 0)
def bst (g : List (List Int)) (d : List Int) (v : Nat) : Nat → Nat → Option Nat → Option Nat
  | 0, x, nx => nx
  | f + 1, x, nx => bst g d v f (x + 1) (if gEdge g v x = true ∧ 0 ≤ d.getD x 0 ∧ better d x nx = true then some x else nx)
def cycF (g : List (List Int)) : Nat → Nat → List Int
  | 0, v => []
  | f + 1, v => match bst g (distL g (v : Int)) v g.length 0 none with
    | none => cycF g f (v + 1)
    | some m => (((v : Int) :: des g (distL g (v : Int)) m)).dropLast
/-- The cycle as the reference gives it, or none. -/
def cycG (g : List (List Int)) : List Int := cycF g g.length 0
theorem bst_lt (g : List (List Int)) (d : List Int) (v n f : Nat) : ∀ x nx, x + f ≤ n → (∀ m, nx = some m → m < n) → ∀ m, bst g d v f x nx = some m → m < n := by
  induction f with
  | zero => intro x nx _ h m hm; exact h m hm
  | succ f ih =>
    intro x nx h1 h2 m hm
    unfold bst at hm
    refine ih (x + 1) _ (by omega) ?_ m hm
    intro k hk
    split at hk
    · injection hk with hk; omega
    · exact h2 k hk
theorem NL.preO {w : World} {base n c : Nat} {a : Option Addr} {L : List Int} (h : NL w base (.slice a n c) L) (hn : n = L.length) (k : Nat) (hk : k ≤ n) (h0 : 0 < n) : NL w base (.slice a k c) (L.take k) := by
  subst hn
  refine ⟨by simp <;> omega, .inr ?_⟩
  rcases h.2 with ⟨h1, h2⟩ | ⟨g, cap, cur, h1, h2, h3, h4, h5, h6, h7⟩
  · omega
  · injection h1 with e1 _ e2
    subst e1; subst e2
    refine ⟨g, c, cur, by simp [Nat.min_eq_left hk], h2, h3, ?_, h5, h6, ?_⟩
    · simp; omega
    · simp only [List.length_take, Nat.min_eq_left hk, Nat.mul_one] at h7 ⊢
      rw [List.map_take, ← h7, List.take_take, Nat.min_eq_left hk]
theorem des_len (g : List (List Int)) (d : List Int) (v : Nat) : (des g d v).length = (d.getD v 0).toNat + 1 := by unfold des; simp [desF_len]

set_option maxRecDepth 100000 in
set_option maxHeartbeats 2000000 in
theorem rcyc_any (w : World) (a : Option Addr) (n c : Nat) (g : List (List Int)) (h : SlG w a n c g) (hn : n ≤ 100000) :
    Calls Try.prog 27 #[.slice a n c] w (RetN w.heap.size (cycG g) w) := by
  have HH := Lib.hid h
  have hl := h.1
  subst hl
  clear h
  have HC := Lib.hid (show cycF g g.length 0 = cycG g from rfl)
  generalize cycG g = D at *
  go_enter Try.func27, Try.ntmps27
  go_wp2
  go_loopw [3] (fun s wr => ∃ v f : Nat, v + f = g.length ∧ s = .int .i64 v ∧ cycF g f v = D ∧ w.grownBy wr none) (fun s _ => g.length - (intOf s).toNat)
  case atStart => exact ⟨0, g.length, Nat.zero_add _, rfl, HC.out, gb_refl _ _⟩
  case round =>
    obtain ⟨v, f, hv, rfl, q1, q2⟩ := hrel
    clear HC
    have HC := Lib.hid q1
    have GG := Lib.hid q2
    have HH1 := Lib.hid (HH.out.keep0 q2)
    have hs0 := q2.size
    clear q1 q2
    by_cases hvt : v < g.length
    · obtain ⟨f, rfl⟩ : ∃ f2, f = f2 + 1 := ⟨f - 1, by omega⟩
      have i1 : (v : Int) < g.length := by omega
      go_wp2_with fail
      refine (rdist_any _ _ _ _ g (v : Int) HH1.out hn (by omega)).mono ?_
      rintro e w1 ⟨V, rfl, q1, q2⟩
      obtain ⟨A, C, rfl⟩ := q1.shape
      rw [distL_len] at q1
      rw [distL_len]
      have hs1 := q2.size
      have HL := Lib.hid (NL.slr q1 (distL_len g v).symm)
      have G1 := Lib.hid (gb_trans GG.out q2)
      have HH2 := Lib.hid (HH.out.keep0 G1.out)
      clear q1 q2
      have HR := Lib.hid (fun j => distL_range g v j)
      have HLN := Lib.hid (distL_len g v)
      have hcc := HC.out
      rw [cycF] at hcc
      have HC2 := Lib.hid hcc
      clear hcc HC
      obtain ⟨d, hd⟩ : ∃ d, d = distL g (v : Int) := ⟨_, rfl⟩
      rw [← hd] at HL HR HLN HC2
      clear hd
      obtain ⟨B, hB⟩ : ∃ B, B = bst g d v g.length 0 none := ⟨_, rfl⟩
      have HB := Lib.hid hB.symm
      have HBn := Lib.hid (show ∀ m, B = some m → m < g.length by rw [hB]; exact bst_lt g d v g.length _ _ _ (by omega) (fun m k => by simp at k))
      rw [← hB] at HC2
      clear hB
      cases A with
      | none => exact absurd (HL.out.2.1 rfl).1 (by omega)
      | some ad =>
        go_wp2
        go_loopw [5, 6] (fun nx s wr => ∃ (x f : Nat) (z : Int) (nn : Option Nat), x + f = g.length ∧ s = .int .i64 x ∧ nx = .int .i64 z ∧ (match nn with | none => z = -1 | some m => z = (m : Int) ∧ m < g.length) ∧ bst g d v f x nn = B ∧ ∃ q, wr = w1.drewN q) (fun _ s _ => g.length - (intOf s).toNat)
        case atStart => exact ⟨0, g.length, -1, none, Nat.zero_add _, rfl, rfl, rfl, HB.out, dn_zero _⟩
        case round =>
          obtain ⟨x, f2, z, nn, hx, rfl, rfl, hz, hb, hq⟩ := hrel
          have HQ := Lib.hid hq
          have HL3 := Lib.hid (HL.out.keep0 (dn_gb hq none))
          have HH3 := Lib.hid (HH2.out.keep0 (dn_gb hq none))
          have HF := Lib.hid hb
          clear hq hb
          by_cases hxt : x < g.length
          · obtain ⟨f2, rfl⟩ : ∃ f3, f2 = f3 + 1 := ⟨f2 - 1, by omega⟩
            have i2 : (x : Int) < g.length := by omega
            have HE := Lib.hid fun q : Nat => redge_any (wr.drewN q) a g.length c g v x (HH3.out.keep0 (gb_drewN _ _ _)) (by omega) (by omega)
            have hff := HF.out
            rw [bst] at hff
            have hr1 := HR.out x
            have c1 := HL3.out.cellAt x (by rw [HLN.out]; exact hxt)
            have HZ := Lib.hid hz
            by_cases e1 : gEdge g v x = true
            · have eb := e1
              by_cases e2 : 0 ≤ d.getD x 0
              · have e2b : decide (0 ≤ d.getD x 0) = true := decide_eq_true e2
                cases nn with
                | none =>
                  have hz1 : z = -1 := hz
                  subst hz1
                  rw [if_pos ⟨e1, e2, rfl⟩] at hff
                  have HX := Lib.hid hff
                  clear hff hz e1
                  generalize d.getD x 0 = z1 at *
                  have HE2 := Lib.hid fun q => eb ▸ HE.out q
                  clear eb
                  go_wp2
                  go_quiet ((go_at_call 32; exact Calls.quiet_of_same (HE2.out _)))
                  go_wp2
                  go_roundw
                  case rel => exact ⟨x + 1, f2, (x : Int), some x, by omega, by go_num, rfl, ⟨rfl, hxt⟩, HX.out, dn_more HQ.out _⟩
                  case measure => simp [intOf]; omega
                | some m =>
                  obtain ⟨rfl, hm⟩ := hz
                  have c2 := HL3.out.cellAt m (by rw [HLN.out]; exact hm)
                  have i3 : (m : Int) < g.length := by omega
                  by_cases e3 : d.getD x 0 < d.getD m 0
                  · rw [if_pos ⟨e1, e2, decide_eq_true e3⟩] at hff
                    have HX := Lib.hid hff
                    have e3b : decide (d.getD x 0 < d.getD m 0) = true := decide_eq_true e3
                    clear hff e1
                    generalize d.getD x 0 = z1 at *
                    generalize d.getD m 0 = z2 at *
                    have HE2 := Lib.hid fun q => eb ▸ HE.out q
                    clear eb
                    go_wp2
                    go_quiet ((go_at_call 32; exact Calls.quiet_of_same (HE2.out _)))
                    go_wp2
                    go_roundw
                    case rel => exact ⟨x + 1, f2, (x : Int), some x, by omega, by go_num, rfl, ⟨rfl, hxt⟩, HX.out, dn_more HQ.out _⟩
                    case measure => simp [intOf]; omega
                  · rw [if_neg (fun k => e3 (of_decide_eq_true k.2.2))] at hff
                    have HX := Lib.hid hff
                    have e3b : decide (d.getD x 0 < d.getD m 0) = false := decide_eq_false e3
                    clear hff e1
                    generalize d.getD x 0 = z1 at *
                    generalize d.getD m 0 = z2 at *
                    have HE2 := Lib.hid fun q => eb ▸ HE.out q
                    clear eb
                    go_wp2
                    go_quiet ((go_at_call 32; exact Calls.quiet_of_same (HE2.out _)))
                    go_wp2
                    go_roundw
                    case rel => exact ⟨x + 1, f2, _, some m, by omega, by go_num, rfl, ⟨rfl, hm⟩, HX.out, dn_more HQ.out _⟩
                    case measure => simp [intOf]; omega
              · have e2b : decide (0 ≤ d.getD x 0) = false := decide_eq_false e2
                rw [if_neg (fun k => e2 k.2.1)] at hff
                have HX := Lib.hid hff
                clear hff e1 hz
                generalize d.getD x 0 = z1 at *
                have HE2 := Lib.hid fun q => eb ▸ HE.out q
                clear eb
                go_wp2
                go_quiet ((go_at_call 32; exact Calls.quiet_of_same (HE2.out _)))
                go_wp2
                go_roundw
                case rel => exact ⟨x + 1, f2, _, nn, by omega, by go_num, rfl, HZ.out, HX.out, dn_more HQ.out _⟩
                case measure => simp [intOf]; omega
            · have eb : gEdge g v x = false := by simpa using e1
              rw [if_neg (fun k => e1 k.1)] at hff
              have HX := Lib.hid hff
              clear hff e1 hz
              have HE2 := Lib.hid fun q => eb ▸ HE.out q
              clear eb
              go_wp2
              go_quiet ((go_at_call 32; exact Calls.quiet_of_same (HE2.out _)))
              go_wp2
              go_roundw
              case rel => exact ⟨x + 1, f2, _, nn, by omega, by go_num, rfl, HZ.out, HX.out, dn_more HQ.out _⟩
              case measure => simp [intOf]; omega
          · have hf0 : f2 = 0 := by omega
            subst hf0
            have hnB : nn = B := HF.out
            subst hnB
            have i2 : ¬ (x : Int) < g.length := by omega
            cases nn with
            | none =>
              have hz1 : z = -1 := hz
              subst hz1
              have HC3 := Lib.hid (show cycF g f (v + 1) = D from HC2.out)
              go_wp2
              go_roundw
              case rel => exact ⟨v + 1, f, by omega, by go_num, HC3.out, gb_trans G1.out (dn_gb HQ.out none)⟩
              case measure => simp [intOf]; omega
            | some m =>
              obtain ⟨rfl, hm⟩ := hz
              have HC3 := Lib.hid (show ((v : Int) :: des g d m).dropLast = D from HC2.out)
              have HBd := Lib.hid (show d.getD m 0 ≤ 400000 ∧ -9223372036854775808 ≤ d.getD m 0 by have := HR.out m; omega)
              have LN := Lib.hid (show ([(v : Int)] : List Int).length + (des g d m).length ≤ 1000000 by rw [des_len]; have := HR.out m; show 1 + ((d.getD m 0).toNat + 1) ≤ 1000000; omega)
              have HLn := Lib.hid (show 1 ≤ (des g d m).length by rw [des_len]; omega)
              go_wp2_with fail
              refine (rdes_any _ _ _ _ _ _ _ g d m (HH3.out.keep0 (gb_alloc _ _ _)) (HL3.out.keep0 (gb_alloc _ _ _)) hn hm rfl HBd.out.1 HBd.out.2).mono ?_
              rintro e w5 ⟨V3, rfl, q1, q2⟩
              obtain ⟨b3, d3, rfl⟩ := q1.shape
              have N3 := Lib.hid q1
              have G3 := Lib.hid q2
              have N0 := Lib.hid ((nl_new wr (v : Int)).keep0 q2)
              have hs5 := Nat.le_trans (gb_alloc wr (.cells #[.int .i64 (v : Int)] 3) none).size q2.size
              have hwr := (gb_trans G1.out (dn_gb HQ.out none)).size
              have G5 := Lib.hid (gb_trans (gb_trans G1.out (dn_gb HQ.out none)) (gb_trans (gb_alloc wr (.cells #[.int .i64 (v : Int)] 3) none) q2))
              clear q1 q2
              go_wp2_with (at_builtin; refine npush_any rfl _ _ rfl wr.heap.size _ [(v : Int)] rfl N0.out _ _ _ (des g d m) rfl (N3.out.slr rfl) LN.out hs5 ?_)
              intro V2 w6 o2 g2
              have G6 := Lib.hid (gb_own G5.out N0.out hwr g2)
              obtain ⟨A2, C2, rfl⟩ := o2.shape
              have O2 := Lib.hid o2
              have hcap := own_cap o2
              have HM2 := Lib.hid (show ((v : Int) :: des g d m).length = (des g d m).length + 1 from rfl)
              clear o2 g2
              have HP := Lib.hid (show NL w6 wr.heap.size (.slice A2 (((v : Int) :: des g d m).length - 1) C2) D by
                have := O2.out.preO rfl (((v : Int) :: des g d m).length - 1) (by omega) (by rw [HM2.out]; omega)
                rw [← HC3.out]
                rw [List.dropLast_eq_take]
                exact this)
              obtain ⟨m2, hm2⟩ : ∃ m2, m2 = ((v : Int) :: des g d m).length := ⟨_, rfl⟩
              have hm3 : 2 ≤ m2 := by rw [hm2, HM2.out]; have := HLn.out; omega
              have hm4 : m2 ≤ 1000000 := by rw [hm2, HM2.out]; have h2 : 1 + (des g d m).length ≤ 1000000 := LN.out; omega
              rw [← hm2] at HP hcap ⊢
              clear hm2 HM2 O2 N0 N3
              go_wp2
              go_ret
              exact ⟨_, rfl, own_low (show NL _ wr.heap.size _ D by simpa using HP.out) hwr, G6.out⟩
    · have hf0 : f = 0 := by omega
      subst hf0
      have HC3 := Lib.hid (show ([] : List Int) = D from HC.out)
      go_wp2
      go_ret
      exact ⟨_, rfl, by rw [← HC3.out]; exact NL.nil _ _, GG.out⟩
end Go.Proofs.Ytaikpjnegopelaa
