/- Parser: what the calls of the machine leave of an environment of the call's own; plain facts. -/
import Derived.Test.YtjhknmklejkknaaGxI
namespace Go.Proofs.Ytjhknmklejkknaa
open Go.RowKit
set_option linter.unusedVariables false
theorem own_beyond {w w2 : World} {base b2 : Nat} {e e2 : TypeId} {size n n2 : Nat} {v V : Value} {xs ys : List Value} (h : w.ownsRow base e size v n xs) (o : w.ownsRow b2 e2 1 V n2 ys) (hne : e ≠ e2) (k : w.grownBy w2 V.ownBlock) : w2.ownsRow base e size v n xs := by
  refine h.kept k ?_
  cases hV : V.ownBlock with
  | none =>
    cases hv : v.ownBlock with
    | none => exact .inl rfl
    | some q => exact .inr (by simp)
  | some g =>
    rcases o.2 with ⟨rfl, _⟩ | ⟨g', cap, cur, rfl, _, hgg, _⟩
    · simp [Value.ownBlock] at hV
    · have hg : g' = g := by simpa [Value.ownBlock] using hV
      subst hg
      exact .inr (own_ne h (show IsB w g' e2 cur from hgg) hne)
/-- A store into a block of another kind. -/
theorem OE.kB {w w2 : World} {base s : Nat} {X : EX} {L : EL} {Vs : List Value} {t : TypeId} {cs : Array Value} (h : OE w base X L Vs) (k : w.grownBy w2 (some s)) (hs : IsB w s t cs) (n1 : 4 ≠ t) (n2 : 40 ≠ t) (n3 : 58 ≠ t) (n4 : 5 ≠ t) : OE w2 base X L Vs :=
  ⟨own_keepS h.v k hs n1, ⟨own_keepS h.f.out k hs n2, fun x hx => own_keepS (h.f.own x hx) k hs n3, h.f.dis, h.f.rng⟩, own_keepS h.t k hs n3, own_keepS h.p k hs n4, h.vl, h.fl, h.tl, h.pl, h.trng, h.prng, h.dis⟩
/-- An append to numbers of the call's own. -/
theorem OE.kI {w w2 : World} {base b2 n2 : Nat} {X : EX} {L : EL} {Vs : List Value} {V : Value} {ys : List Value} (h : OE w base X L Vs) (o : w.ownsRow b2 3 1 V n2 ys) (k : w.grownBy w2 V.ownBlock) : OE w2 base X L Vs :=
  ⟨own_beyond h.v o (by decide) k, ⟨own_beyond h.f.out o (by decide) k, fun x hx => own_beyond (h.f.own x hx) o (by decide) k, h.f.dis, h.f.rng⟩, own_beyond h.t o (by decide) k, own_beyond h.p o (by decide) k, h.vl, h.fl, h.tl, h.pl, h.trng, h.prng, h.dis⟩
/-- A head is stored: the row behind it lies in a block that was not there at w. -/
theorem OR.put2 {w w2 : World} {base g n c : Nat} {L : List (List Int)} {Vs : List Value} (h : OR w base (.slice (some ⟨g, 0, none⟩) n c) L Vs) (h2 : OR w2 base (.slice (some ⟨g, 0, none⟩) n c) L Vs) (hn : L.length = n) (x : Nat) (hx : x < n) (V' : Value) (l : List Int) (o : NU w2 base V' l)
    (hb : ∀ q, V'.ownBlock = some q → w.heap.size ≤ q) (hr : ∀ y ∈ l, 0 ≤ y ∧ y < 4294967296) : OR (w2.setCell ⟨g, x, none⟩ V') base (.slice (some ⟨g, 0, none⟩) n c) (L.set x l) (Vs.set x V') := by
  subst hn
  have st := World.ownsRow.stored h2.out x V'
  have hxV : x < Vs.length := by rw [h.nV]; exact hx
  refine ⟨by rw [List.length_set]; exact st.1, ?_, ?_, rng_set h.rng x l hr⟩
  · intro y hy
    have hy : y < L.length := by simpa using hy
    by_cases e : y = x
    · subst e
      rw [getD_set_at _ _ _ _ hxV, getD_set_at _ _ _ _ hx]
      exact o.kept st.2 (.inr fun q => nu_ne h2.out o g q rfl)
    · rw [getD_set_off _ _ _ _ _ e, getD_set_off _ _ _ _ _ e]
      exact (h2.own y hy).kept st.2 (.inr fun q => nu_ne h2.out (h2.own y hy) g q rfl)
  · intro y z hy hz hne q hq
    rw [List.length_set] at hy hz
    by_cases e : y = x
    · subst e
      rw [getD_set_at _ _ _ _ hxV] at hq
      rw [getD_set_off _ _ _ _ _ (Ne.symm hne)]
      intro hz2
      have := (World.ownsRow.lt (h.own z hz) q hz2).2
      have := hb q hq
      omega
    · rw [getD_set_off _ _ _ _ _ e] at hq
      by_cases e2 : z = x
      · subst e2
        rw [getD_set_at _ _ _ _ hxV]
        intro hz2
        have := (World.ownsRow.lt (h.own y hy) q hq).2
        have := hb q hz2
        omega
      · rw [getD_set_off _ _ _ _ _ e2]
        exact h.dis y z hy hz hne q hq
/-- A header is taken: its validity and its values are stored. -/
theorem OE.take {w w2 : World} {base gv gf : Nat} {X : EX} {L : EL} {Vs : List Value} (h : OE w base X L Vs) (h2 : OE w2 base X L Vs) (ev : X.va = some ⟨gv, 0, none⟩) (ef : X.fa = some ⟨gf, 0, none⟩) (k : Nat) (hf : k < X.fn) (V' : Value) (us : List Int) (o : NU w2 base V' us)
    (hb : ∀ q, V'.ownBlock = some q → w.heap.size ≤ q) (hr : ∀ y ∈ us, 0 ≤ y ∧ y < 4294967296) :
    OE ((w2.setCell ⟨gv, k, none⟩ (.bool true)).setCell ⟨gf, k, none⟩ V') base X ⟨L.V.set k true, L.F.set k us, L.T, L.P⟩ (Vs.set k V') := by
  have v2 : w2.ownsRow base 4 1 (.slice (some ⟨gv, 0, none⟩) L.V.length X.vc) L.V.length (L.V.map Value.bool) := by have q := h2.v; unfold NB at q; rw [ev, ← h2.vl] at q; exact q
  have sv := World.ownsRow.stored v2 k (.bool true)
  obtain ⟨cv, bv⟩ := own_blk v2
  have f0 := h.f
  have f2 := h2.f
  rw [ef] at f0 f2
  have f3 : OR (w2.setCell ⟨gv, k, none⟩ (.bool true)) base (.slice (some ⟨gf, 0, none⟩) X.fn X.fc) L.F Vs := ⟨own_keepS f2.out sv.2 bv (by decide), fun x hx => own_keepS (f2.own x hx) sv.2 bv (by decide), f2.dis, f2.rng⟩
  have o3 : NU (w2.setCell ⟨gv, k, none⟩ (.bool true)) base V' us := own_keepS o sv.2 bv (by decide)
  have f4 := OR.put2 f0 f3 h.fl k hf V' us o3 hb hr
  have fo : World.ownsRow (w2.setCell ⟨gv, k, none⟩ (.bool true)) base 40 1 (.slice (some ⟨gf, 0, none⟩) L.F.length X.fc) L.F.length Vs := by have q := f3.out; rw [← h.fl] at q; exact q
  obtain ⟨cf, bf⟩ := own_blk fo
  have gf2 := gb_set (w2.setCell ⟨gv, k, none⟩ (.bool true)) gf k V'
  refine ⟨?_, by rw [ef]; exact f4, own_keepS (own_keepS h2.t sv.2 bv (by decide)) gf2 bf (by decide), own_keepS (own_keepS h2.p sv.2 bv (by decide)) gf2 bf (by decide), by rw [List.length_set]; exact h2.vl, by rw [List.length_set]; exact h2.fl, h2.tl, h2.pl, h2.trng, h2.prng, ?_⟩
  · have q := own_keepS sv.1 gf2 bf (by decide)
    unfold NB
    rw [ev, List.length_set, List.map_set, ← h2.vl]
    exact q
  · intro x hx q hq
    rw [List.length_set] at hx
    by_cases e : x = k
    · subst e
      rw [getD_set_at _ _ _ _ (by rw [f0.nV]; exact hx)] at hq
      intro ht
      have := (World.ownsRow.lt h.t q ht).2
      have := hb q hq
      omega
    · rw [getD_set_off _ _ _ _ _ e] at hq
      exact h.dis x hx q hq
end Go.Proofs.Ytjhknmklejkknaa
