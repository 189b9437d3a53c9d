/- The walk of smallestOnCycle. -/
import Derived.Test.YtaikpjnegopelaaDhH
import Derived.BigQuiet
namespace Go.Proofs.Ytaikpjnegopelaa
open Go.RowKit
set_option linter.unusedVariables false

/-- v lies on a cycle. -/
def OnC (g : List (List Int)) (v : Nat) : Prop := ∃ x : Nat, x < g.length ∧ gEdge g v x = true ∧ Rch g x v
/-- The smallest node on a cycle, or -1. -/
def SOC (g : List (List Int)) (z : Int) : Prop := (z = -1 ∧ ∀ v, v < g.length → ¬ OnC g v) ∨ ∃ v : Nat, v < g.length ∧ z = (v : Int) ∧ OnC g v ∧ ∀ u, u < v → ¬ OnC g u
set_option maxRecDepth 100000 in
set_option maxHeartbeats 4000000 in
theorem soc_any (w : World) (a : Option Addr) (c : Nat) (g : List (List Int)) (h : SlG w a g.length c g) (hn : g.length ≤ 1000) (hb : ∀ v, v < g.length → (g.getD v []).length ≤ 1000) :
    Calls Try.prog 41 #[.slice a g.length c] w fun e w' => ∃ z : Int, e = .returned (.int .i64 z) ∧ SOC g z ∧ w.grownBy w' none := by
  have HH := Lib.hid h
  have HB := Lib.hid hb
  have CP := Lib.hid (comp_any w a c g h hn hb)
  clear h hb
  go_enter Try.func41, Try.ntmps41
  go_wp2_with fail
  refine CP.out.mono ?_
  rintro e w1 ⟨V, O, t, C, rfl, o1, po, ko, g1⟩
  obtain ⟨ca, cc, hV⟩ := o1.shape
  rw [ko.len] at hV
  subst hV
  have SAME := Lib.hid (fun x y hx hy => ko.same po x y hx hy)
  have HC := Lib.hid (o1.slr ko.len.symm)
  have CL := Lib.hid ko.len
  have G1 := Lib.hid g1
  clear o1 po ko g1 CP
  go_wp2
  go_loopw [12] (fun i wr => ∃ v : Nat, v ≤ g.length ∧ i = .int .i64 v ∧ (∀ u, u < v → ¬ OnC g u) ∧ ∃ q, wr = w1.drewN q) (fun i _ => g.length - (intOf i).toNat)
  case atStart => exact ⟨0, Nat.zero_le _, rfl, fun u hu => by omega, dn_zero _⟩
  case round =>
    obtain ⟨v, hv, rfl, q1, hq⟩ := hrel
    have NO := Lib.hid q1
    have HQ := Lib.hid hq
    clear q1 hq
    by_cases hvt : v < g.length
    · have i1 : (v : Int) < g.length := by omega
      cases a with
      | none => exact absurd (HH.out.2.1 rfl).1 (by omega)
      | some ad =>
        cases ca with
        | none => exact absurd (HC.out.2.1 rfl).1 (by omega)
        | some cd =>
          obtain ⟨A, L, c0, r0, l1⟩ := HH.out.row v hvt
          have c1 := (gb_trans G1.out (dn_gb HQ.out none)).cell c0 (by simp)
          have hmem := fun x : Nat => fun hx : x < g.length => gEdge_mem g v x hvt hx
          obtain ⟨zs, hz⟩ : ∃ zs, zs = g.getD v [] := ⟨_, rfl⟩
          rw [← hz] at c1 r0 l1 hmem
          have R0 := Lib.hid r0
          have HM := Lib.hid hmem
          clear r0 hz c0 hmem
          go_wp2
          go_loopw [19] (fun i wr => ∃ j : Nat, j ≤ zs.length ∧ i = .int .i64 j ∧ (∀ k, k < j → ∀ x : Nat, x < g.length → zs.getD k 0 = (x : Int) → C.getD v 0 ≠ C.getD x 0) ∧ ∃ q, wr = w1.drewN q) (fun i _ => zs.length - (intOf i).toNat)
          case atStart => exact ⟨0, Nat.zero_le _, rfl, fun k hk => by omega, HQ.out⟩
          case round =>
            obtain ⟨j, hj, rfl, q2, hq⟩ := hrel
            clear HQ c1
            have NJ := Lib.hid q2
            have HQ := Lib.hid hq
            clear q2 hq
            by_cases hjt : j < zs.length
            · have i2 : (j : Int) < zs.length := by omega
              cases A with
              | none => exact absurd (R0.out.2.1 rfl).1 (by omega)
              | some ar =>
                have c2 := (R0.out.keep0 (gb_trans G1.out (dn_gb HQ.out none))).cellAt j hjt
                have cv := (HC.out.keep0 (dn_gb HQ.out none)).cellAt v (by rw [CL.out]; exact hvt)
                obtain ⟨x, hx⟩ : ∃ x, x = zs.getD j 0 := ⟨_, rfl⟩
                rw [← hx] at c2
                have HX := Lib.hid hx.symm
                clear hx
                have HN := Lib.hid (fun w => isNode_any w (some ad) g.length c x)
                by_cases hnode : 0 ≤ x ∧ x < (g.length : Int)
                · simp only [decide_eq_true hnode] at HN
                  obtain ⟨xn, rfl⟩ : ∃ xn : Nat, x = (xn : Int) := ⟨x.toNat, by omega⟩
                  have hxn : xn < g.length := by omega
                  have ix : (xn : Int) < g.length := by omega
                  have cx := (HC.out.keep0 (dn_gb HQ.out none)).cellAt xn (by rw [CL.out]; exact hxn)
                  have hmx : (xn : Int) ∈ zs := by rw [← HX.out]; exact getD_in _ _ _ hjt
                  have HE := Lib.hid ((HM.out xn hxn).2 hmx)
                  have SM := Lib.hid (SAME.out v xn hvt hxn)
                  have NX := Lib.hid (show C.getD v 0 ≠ C.getD xn 0 → ∀ k, k < j + 1 → ∀ x : Nat, x < g.length → zs.getD k 0 = (x : Int) → C.getD v 0 ≠ C.getD x 0 from fun ne k hk x hx e => by
                    by_cases ek : k = j
                    · subst ek
                      have e2 : xn = x := by have := HX.out; omega
                      subst e2
                      exact ne
                    · exact NJ.out k (by omega) x hx e)
                  obtain ⟨y1, hy1⟩ : ∃ y, y = C.getD v 0 := ⟨_, rfl⟩
                  obtain ⟨y2, hy2⟩ : ∃ y, y = C.getD xn 0 := ⟨_, rfl⟩
                  rw [← hy1] at cv SM NX
                  rw [← hy2] at cx SM NX
                  have Y1 := Lib.hid hy1
                  clear hy1 hy2 hnode hmx
                  by_cases hyy : y1 = y2
                  · have d1 : (y1 == y2) = true := by rw [beq_iff_eq]; exact hyy
                    have RS := Lib.hid (show SOC g (v : Int) from .inr ⟨v, hvt, rfl, ⟨xn, hxn, HE.out, (SM.out.1 hyy).2⟩, NO.out⟩)
                    clear hyy
                    go_wp2
                    go_quiet ((go_at_call 33; exact Calls.quiet_of_same (HN.out _)))
                    go_wp2
                    go_ret
                    exact ⟨_, rfl, RS.out, gb_trans G1.out (gb_trans (dn_gb HQ.out none) (gb_drewN _ _ _))⟩
                  · have d1 : (y1 == y2) = false := by rw [beq_eq_false_iff_ne]; exact hyy
                    have NX2 := Lib.hid (NX.out hyy)
                    rw [Y1.out] at NX2
                    clear hyy
                    go_wp2
                    go_quiet ((go_at_call 33; exact Calls.quiet_of_same (HN.out _)))
                    go_wp2
                    go_roundw
                    case rel => exact ⟨j + 1, by omega, by go_num, NX2.out, dn_more HQ.out _⟩
                    case measure => simp [intOf]; omega
                · simp only [decide_eq_false hnode] at HN
                  have NX := Lib.hid (show ∀ k, k < j + 1 → ∀ x : Nat, x < g.length → zs.getD k 0 = (x : Int) → C.getD v 0 ≠ C.getD x 0 from fun k hk y hy e => by
                    by_cases ek : k = j
                    · subst ek
                      have := HX.out
                      exact absurd ⟨by omega, by omega⟩ hnode
                    · exact NJ.out k (by omega) y hy e)
                  clear hnode
                  go_wp2
                  go_quiet ((go_at_call 33; exact Calls.quiet_of_same (HN.out _)))
                  go_wp2
                  go_roundw
                  case rel => exact ⟨j + 1, by omega, by go_num, NX.out, dn_more HQ.out _⟩
                  case measure => simp [intOf]; omega
            · have hje : j = zs.length := by omega
              have NV := Lib.hid (show ∀ u, u < v + 1 → ¬ OnC g u from fun u hu k => by
                by_cases eu : u = v
                · subst eu
                  obtain ⟨x, hx, h1, h2⟩ := k
                  have hm := (HM.out x hx).1 h1
                  obtain ⟨i, hi⟩ := List.getElem?_of_mem hm
                  have hil := (List.getElem?_eq_some_iff.1 hi).1
                  exact NJ.out i (by omega) x hx (by rw [List.getD_eq_getElem?_getD, hi]; rfl) ((SAME.out u x hvt hx).2 ⟨Rch.edge hvt hx h1, h2⟩)
                · exact NO.out u (by omega) k)
              subst hje
              go_wp2
              go_roundw
              case rel => exact ⟨v + 1, by omega, by go_num, NV.out, HQ.out⟩
              case measure => simp [intOf]; omega
    · have hve : v = g.length := by omega
      subst hve
      go_wp2
      go_ret
      exact ⟨_, rfl, .inl ⟨rfl, NO.out⟩, gb_trans G1.out (dn_gb HQ.out none)⟩
end Go.Proofs.Ytaikpjnegopelaa
