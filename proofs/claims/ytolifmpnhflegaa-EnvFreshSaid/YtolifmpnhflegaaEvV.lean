/- Env: a value set in place is the value that Set gives; no condition. -/
import Derived.Test.YtolifmpnhflegaaEvT
import Derived.Test.YtolifmpnhflegaaEvQ
namespace Go.Proofs.Ytolifmpnhflegaa
open Go.RowKit
set_option linter.unusedVariables false
theorem chL_set (g : Int → Int → Int) (rf x : Int) (l : List Int) (hf : isX rf l.length = true) (h : ∀ i y, g i y = if i = rf then x else y) : chL g l = l.set rf.toNat x := by
  have hr := (isX_iff rf l.length).1 hf
  unfold chL
  apply List.ext_getElem (by simp)
  intro i a b
  rw [List.getElem_mapIdx, List.getElem_set, h]
  by_cases e : (i : Int) = rf
  · rw [if_pos e, if_pos (by omega)]
  · rw [if_neg e, if_neg (by omega)]
theorem chL_off (g : Int → Int → Int) (rf x : Int) (l : List Int) (hf : isX rf l.length = false) (h : ∀ i y, g i y = if i = rf then x else y) : chL g l = l := by
  have hr := (isX_not rf l.length).1 hf
  unfold chL
  apply List.ext_getElem (by simp)
  intro i a b
  have hi : i < l.length := by simpa using a
  rw [List.getElem_mapIdx, h, if_neg (by omega)]
/-- The element stored where it lies. -/
def setV (L : EL) (rh rf x : Int) : EL := if rh = -1 then ⟨L.V, L.F, L.T.set rf.toNat x, L.P⟩ else ⟨L.V, L.F.set rh.toNat ((L.F.getD rh.toNat []).set rf.toNat x), L.T, L.P⟩
theorem setG_at (rf v wd rh : Int) : ∀ i y, setG rh rf v wd rh i y = if i = rf then redB v wd else y := by
  intro i y; unfold setG; simp
theorem setG_off (rf v wd rh h : Int) (e : h ≠ rh) : ∀ i y, setG rh rf v wd h i y = y := by
  intro i y; unfold setG; rw [if_neg (by rintro ⟨q, _⟩; exact e q)]
theorem set_in (L : EL) (rh rf v wd : Int) (he : elB L.F L.T rh rf = true) : chE (setG rh rf v wd) L = setV L rh rf (redB v wd) := by
  unfold chE setV
  unfold elB vls at he
  by_cases h1 : rh = -1
  · rw [if_pos h1] at he ⊢
    have e1 : chF (setG rh rf v wd) L.F = L.F := by
      apply List.ext_getElem (by simp [chF])
      intro i a b
      simp only [chF, List.getElem_mapIdx]
      exact chL_same _ _ (setG_off rf v wd rh i (by omega))
    have e2 : chL (setG rh rf v wd (-1)) L.T = L.T.set rf.toNat (redB v wd) := chL_set _ rf _ _ he (by rw [← h1]; exact setG_at rf v wd rh)
    rw [e1, e2]
  · rw [if_neg h1] at he ⊢
    have e2 : chL (setG rh rf v wd (-1)) L.T = L.T := chL_same _ _ (setG_off rf v wd rh (-1) (by omega))
    rw [e2]
    cases hx : isX rh L.F.length with
    | false => rw [hx] at he; simp [isX] at he; omega
    | true =>
      rw [hx, if_pos rfl] at he
      obtain ⟨j, rfl, hj⟩ := isx_nat hx
      rw [Int.toNat_natCast] at he ⊢
      have e1 : chF (setG j rf v wd) L.F = L.F.set j ((L.F.getD j []).set rf.toNat (redB v wd)) := by
        apply List.ext_getElem (by simp [chF])
        intro i a b
        have hi : i < L.F.length := by simpa [chF] using a
        simp only [chF, List.getElem_mapIdx]
        rw [List.getElem_set]
        by_cases e : i = j
        · subst e
          rw [if_pos rfl]
          have q : L.F.getD i [] = L.F[i] := by simp [hi]
          rw [q] at he ⊢
          exact chL_set _ rf _ _ he (setG_at rf v wd i)
        · rw [if_neg (Ne.symm e)]
          exact chL_same _ _ (setG_off rf v wd j i (by omega))
      rw [e1]
theorem set_out (L : EL) (rh rf v wd : Int) (he : elB L.F L.T rh rf = false) : chE (setG rh rf v wd) L = L := by
  unfold chE
  unfold elB vls at he
  have e2 : chL (setG rh rf v wd (-1)) L.T = L.T := by
    by_cases h1 : rh = -1
    · rw [if_pos h1] at he
      exact chL_off _ rf (redB v wd) _ he (by rw [← h1]; exact setG_at rf v wd rh)
    · exact chL_same _ _ (setG_off rf v wd rh (-1) (by omega))
  have e1 : chF (setG rh rf v wd) L.F = L.F := by
    apply List.ext_getElem (by simp [chF])
    intro i a b
    have hi : i < L.F.length := by simpa [chF] using a
    simp only [chF, List.getElem_mapIdx]
    by_cases e : (i : Int) = rh
    · subst e
      rw [if_neg (by omega), (isX_iff (i : Int) L.F.length).2 (by omega), if_pos rfl, Int.toNat_natCast] at he
      have q : L.F.getD i [] = L.F[i] := by simp [hi]
      rw [q] at he
      exact chL_off _ rf (redB v wd) _ he (setG_at rf v wd i)
    · exact chL_same _ _ (setG_off rf v wd rh i e)
  rw [e1, e2]
theorem rng_set1 {l : List Int} {m : Int} (h : ∀ x ∈ l, 0 ≤ x ∧ x < m) (j : Nat) (x : Int) (hx : 0 ≤ x ∧ x < m) : ∀ y ∈ l.set j x, 0 ≤ y ∧ y < m := by
  intro y hy
  rcases List.mem_or_eq_of_mem_set hy with q | rfl
  · exact h y q
  · exact hx
theorem oe_sett {w : World} {base g n c j : Nat} {x : Int} {X : EX} {L : EL} {Vs : List Value} (h : OE w base X L Vs) (hv : Value.slice X.ta X.tn X.tc = .slice (some ⟨g, 0, none⟩) n c) (hx : 0 ≤ x ∧ x < 4294967296) :
    OE (w.setCell ⟨g, j, none⟩ (.int .u32 x)) base X ⟨L.V, L.F, L.T.set j x, L.P⟩ Vs ∧ ∃ cs, IsB w g 49 cs := by
  have hb := h.t
  unfold NU at hb
  rw [hv] at hb
  have hn : n = L.T.length := by injection hv with _ q _; rw [h.tl]; exact q.symm
  subst hn
  obtain ⟨cs, ib⟩ := own_blk hb
  have st := World.ownsRow.stored hb j (.int .u32 x)
  have kp : ∀ {e : TypeId} {base : Nat} {v : Value} {n : Nat} {xs : List Value}, w.ownsRow base e 1 v n xs → e ≠ 49 → World.ownsRow (w.setCell ⟨g, j, none⟩ (.int .u32 x)) base e 1 v n xs := fun h hn => own_keepS h (gb_set _ _ _ _) ib hn
  refine ⟨⟨kp h.v (by decide), ⟨kp h.f.out (by decide), fun y hy => (h.f.own y hy).kept st.2 (.inr fun q => ?_), h.f.dis, h.f.rng⟩, ?_, kp h.p (by decide), h.vl, h.fl, ?_, h.pl, rng_set1 h.trng j x hx, h.prng, h.dis⟩, cs, ib⟩
  · have q2 := h.dis y hy g q
    rw [hv] at q2
    exact q2 rfl
  · show NU _ _ _ _
    unfold NU
    rw [hv, List.map_set, List.length_set]
    exact st.1
  · show (L.T.set j x).length = _
    rw [List.length_set]; exact h.tl
theorem oe_setu {w : World} {base g n c k j : Nat} {x : Int} {X : EX} {L : EL} {Vs : List Value} (h : OE w base X L Vs) (hk : k < L.F.length) (hv : Vs.getD k nilV = .slice (some ⟨g, 0, none⟩) n c) (hx : 0 ≤ x ∧ x < 4294967296) :
    OE (w.setCell ⟨g, j, none⟩ (.int .u32 x)) base X ⟨L.V, L.F.set k ((L.F.getD k []).set j x), L.T, L.P⟩ Vs ∧ ∃ cs, IsB w g 49 cs := by
  have hb := h.f.own k hk
  unfold NU at hb
  rw [hv] at hb
  have hn : n = (L.F.getD k []).length := by
    obtain ⟨a, c2, q⟩ := own_shape hb
    injection q
  subst hn
  obtain ⟨cs, ib⟩ := own_blk hb
  have st := World.ownsRow.stored hb j (.int .u32 x)
  have kp : ∀ {e : TypeId} {base : Nat} {v : Value} {n : Nat} {xs : List Value}, w.ownsRow base e 1 v n xs → e ≠ 49 → World.ownsRow (w.setCell ⟨g, j, none⟩ (.int .u32 x)) base e 1 v n xs := fun h hn => own_keepS h (gb_set _ _ _ _) ib hn
  have OU := OR.upd h.f k hk ((L.F.getD k []).set j x) g (by rw [hv]; rfl) st.2 (by rw [hv]; unfold NU; rw [List.map_set, List.length_set]; exact st.1) (rng_set1 (rrng_at h.f.rng k) j x hx)
  refine ⟨⟨kp h.v (by decide), OU, h.t.kept st.2 (.inr (h.dis k hk g (by rw [hv]; rfl))), kp h.p (by decide), h.vl, ?_, h.tl, h.pl, h.trng, h.prng, ?_⟩, cs, ib⟩
  · show (L.F.set k _).length = _
    rw [List.length_set]; exact h.fl
  · intro y hy
    have hy : y < (L.F.set k ((L.F.getD k []).set j x)).length := hy
    rw [List.length_set] at hy
    exact h.dis y hy
end Go.Proofs.Ytolifmpnhflegaa
