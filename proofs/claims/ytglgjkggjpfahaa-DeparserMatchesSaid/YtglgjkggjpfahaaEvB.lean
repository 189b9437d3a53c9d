/- Env: an environment in memory, read and of the call's own; changed's closure; no condition but sizes. -/
import Derived.Test.YtglgjkggjpfahaaEvA
namespace Go.Proofs.Ytglgjkggjpfahaa
open Go.RowKit
set_option linter.unusedVariables false
/-- Where the parts of an environment lie. -/
structure EX where
  (va fa ta pa : Option Addr)
  (vn vc fn fc tn tc pn pc : Nat)
/-- An environment: validities, values, metadata, payload. -/
structure EL where
  (V : List Bool)
  (F : List (List Int))
  (T P : List Int)
/-- A slice of bytes, with their range. -/
structure SY (w : World) (a : Option Addr) (n c : Nat) (L : List Int) : Prop where
  slr : SlR w a n c (L.map (Value.int .u8))
  cap : n ≤ c
  rng : ∀ x ∈ L, 0 ≤ x ∧ x < 256
theorem SY.len {w : World} {a : Option Addr} {n c : Nat} {L : List Int} (h : SY w a n c L) : L.length = n := by simpa using h.slr.1
theorem SY.keep0 {w w2 : World} {a : Option Addr} {n c : Nat} {L : List Int} (h : SY w a n c L) (k : w.grownBy w2 none) : SY w2 a n c L := ⟨h.slr.keep0 k, h.cap, h.rng⟩
theorem SB.slr {w : World} {a : Option Addr} {n c : Nat} {L : List Bool} (h : SB w a n c L) : SlR w a n c (L.map Value.bool) :=
  ⟨by simp [h.len], h.nil, fun ad e j u hu => by
    have hj : j < L.length := by
      have := (List.getElem?_eq_some_iff.1 hu).1
      simpa using this
    rw [h.cells ad e j (by rw [← h.len]; exact hj), ← hu]
    simp [hj]⟩
structure ER (w : World) (X : EX) (L : EL) : Prop where
  v : SB w X.va X.vn X.vc L.V
  f : SR w X.fa X.fn X.fc L.F
  t : SU w X.ta X.tn X.tc L.T
  p : SY w X.pa X.pn X.pc L.P
theorem ER.keep0 {w w2 : World} {X : EX} {L : EL} (h : ER w X L) (k : w.grownBy w2 none) : ER w2 X L := ⟨h.v.keep0 k, h.f.keep0 k, h.t.keep0 k, h.p.keep0 k⟩
/-- A row of truth values of the call's own. -/
def NB (w : World) (base : Nat) (V : Value) (L : List Bool) : Prop := w.ownsRow base 4 1 V L.length (L.map Value.bool)
def NY (w : World) (base : Nat) (V : Value) (L : List Int) : Prop := w.ownsRow base 5 1 V L.length (L.map (Value.int .u8))
theorem NB.keep0 {w w2 : World} {base : Nat} {V : Value} {L : List Bool} (h : NB w base V L) (k : w.grownBy w2 none) : NB w2 base V L := own_keep0 h k
theorem NY.keep0 {w w2 : World} {base : Nat} {V : Value} {L : List Int} (h : NY w base V L) (k : w.grownBy w2 none) : NY w2 base V L := own_keep0 h k
/-- A row of another type is left alone by what grows a row. -/
theorem own_past {w w2 : World} {base base2 : Nat} {e e2 : TypeId} {size s2 n n2 : Nat} {v V : Value} {xs ys : List Value} (h : w.ownsRow base e size v n xs) (o : w.ownsRow base2 e2 s2 V n2 ys) (hn : e ≠ e2) (k : w.grownBy w2 V.ownBlock) : w2.ownsRow base e size v n xs := by
  rcases o.2 with ⟨rfl, _⟩ | ⟨g, cap, cur, rfl, _, hh, _⟩
  · exact own_keep0 h k
  · exact own_keepS h k (show IsB w g e2 cur from hh) hn
theorem isb_past {w w2 : World} {base2 : Nat} {t e2 : TypeId} {s2 n2 b : Nat} {V : Value} {ys : List Value} {cs : Array Value} (h : IsB w b t cs) (o : w.ownsRow base2 e2 s2 V n2 ys) (hn : e2 ≠ t) (k : w.grownBy w2 V.ownBlock) : IsB w2 b t cs :=
  h.keep k (Ne.symm (own_ne o h hn))
/-- An environment of the call's own. -/
structure OE (w : World) (base : Nat) (X : EX) (L : EL) (Vs : List Value) : Prop where
  v : NB w base (.slice X.va X.vn X.vc) L.V
  f : OR w base (.slice X.fa X.fn X.fc) L.F Vs
  t : NU w base (.slice X.ta X.tn X.tc) L.T
  p : NY w base (.slice X.pa X.pn X.pc) L.P
  vl : L.V.length = X.vn
  fl : L.F.length = X.fn
  tl : L.T.length = X.tn
  pl : L.P.length = X.pn
  trng : ∀ x ∈ L.T, 0 ≤ x ∧ x < 4294967296
  prng : ∀ x ∈ L.P, 0 ≤ x ∧ x < 256
  dis : ∀ x, x < L.F.length → ∀ q, (Vs.getD x nilV).ownBlock = some q → (Value.slice X.ta X.tn X.tc).ownBlock ≠ some q
theorem OE.keep0 {w w2 : World} {base : Nat} {X : EX} {L : EL} {Vs : List Value} (h : OE w base X L Vs) (k : w.grownBy w2 none) : OE w2 base X L Vs :=
  ⟨own_keep0 h.v k, h.f.keep0 k, h.t.keep0 k, own_keep0 h.p k, h.vl, h.fl, h.tl, h.pl, h.trng, h.prng, h.dis⟩
theorem OE.low {w : World} {base b2 : Nat} {X : EX} {L : EL} {Vs : List Value} (h : OE w base X L Vs) (hb : b2 ≤ base) : OE w b2 X L Vs :=
  ⟨own_low h.v hb, h.f.low hb, own_low h.t hb, own_low h.p hb, h.vl, h.fl, h.tl, h.pl, h.trng, h.prng, h.dis⟩
theorem nb_sb {w : World} {base : Nat} {a : Option Addr} {n c : Nat} {L : List Bool} (h : NB w base (.slice a n c) L) (hn : L.length = n) : SB w a n c L := by
  subst hn
  have s := own_slr h
  exact ⟨rfl, s.2.1, own_cap h, fun ad e j hj => s.2.2 ad e j _ (by simp [hj])⟩
theorem OE.er {w : World} {base : Nat} {X : EX} {L : EL} {Vs : List Value} (h : OE w base X L Vs) : ER w X L := by
  refine ⟨nb_sb h.v h.vl, h.f.sr h.fl, nu_su h.t h.tl h.trng, ?_⟩
  have hp := h.p
  unfold NY at hp
  rw [h.pl] at hp
  have s := own_slr hp
  exact ⟨s, own_cap hp, h.prng⟩
/-- The call returns an environment of its own and makes memory at most. -/
def RetE (L : EL) (w : World) (e : Ending) (w' : World) : Prop := ∃ X Vs, e = .returned (.agg #[.slice X.va X.vn X.vc, .slice X.fa X.fn X.fc, .slice X.ta X.tn X.tc, .slice X.pa X.pn X.pc]) ∧ OE w' w.heap.size X L Vs ∧ w.grownBy w' none
/-- The call returns a row of numbers of its own. -/
def RetU (M : List Int) (w : World) (e : Ending) (w' : World) : Prop := ∃ V, e = .returned V ∧ NU w' w.heap.size V M ∧ w.grownBy w' none
theorem sx_one {w : World} {g : Nat} {t : TypeId} {a : Option Addr} {n c : Nat} {L : List Value} (h : IsB w g t #[.slice a n c]) (hl : SlR w a n c L) : SX w (some ⟨g, 0, none⟩) 1 1 [L] :=
  ⟨rfl, (fun e => by cases e), fun ad e j hj => by
    obtain rfl : j = 0 := by omega
    cases e
    exact ⟨a, n, c, by simpa [Addr.add] using h.cell 0, hl⟩⟩
/-- Each number exchanged by its place and itself. -/
def chL (g : Int → Int → Int) (l : List Int) : List Int := l.mapIdx fun i v => g i v
def chP (g : Int → Int → Int) (l : List Int) (j : Nat) : List Int := l.mapIdx fun i v => if i < j then g i v else v
theorem chP_len (g : Int → Int → Int) (l : List Int) (j : Nat) : (chP g l j).length = l.length := by simp [chP]
theorem chP_zero (g : Int → Int → Int) (l : List Int) : chP g l 0 = l := by apply List.ext_getElem <;> simp [chP]
theorem chP_all (g : Int → Int → Int) (l : List Int) (n : Nat) (h : l.length = n) : chP g l n = chL g l := by
  apply List.ext_getElem (by simp [chP, chL])
  intro i h1 h2
  have : i < n := by simp [chP] at h1; omega
  simp [chP, chL, this]
theorem chP_at (g : Int → Int → Int) (l : List Int) (j : Nat) (h : j < l.length) : (chP g l j).getD j 0 = l.getD j 0 := by simp [chP, h]
theorem chP_set (g : Int → Int → Int) (l : List Int) (j : Nat) (h : j < l.length) : (chP g l j).set j (g j (l.getD j 0)) = chP g l (j + 1) := by
  apply List.ext_getElem (by simp [chP])
  intro i h1 h2
  rw [List.getElem_set]
  have hi : i < l.length := by simpa [chP] using h2
  by_cases e : j = i
  · subst e; simp [chP, h]
  · rw [if_neg e]
    simp only [chP, List.getElem_mapIdx]
    by_cases c : i < j
    · rw [if_pos c, if_pos (by omega)]
    · rw [if_neg c, if_neg (by omega)]
theorem chL_len (g : Int → Int → Int) (l : List Int) : (chL g l).length = l.length := by simp [chL]
theorem chL_rng {g : Int → Int → Int} (hg : ∀ i v, 0 ≤ v → v < 4294967296 → 0 ≤ g i v ∧ g i v < 4294967296) {l : List Int} (h : ∀ x ∈ l, 0 ≤ x ∧ x < 4294967296) : ∀ x ∈ chL g l, 0 ≤ x ∧ x < 4294967296 := by
  intro x hx
  unfold chL at hx
  obtain ⟨i, hi, rfl⟩ := List.mem_mapIdx.1 hx
  have := h l[i] (List.getElem_mem _)
  exact hg _ _ this.1 this.2
theorem NU.put {w : World} {base g n c : Nat} {L : List Int} (h : NU w base (.slice (some ⟨g, 0, none⟩) n c) L) (hn : n = L.length) (p : Nat) (v : Int) :
    NU (w.setCell ⟨g, p, none⟩ (.int .u32 v)) base (.slice (some ⟨g, 0, none⟩) n c) (L.set p v) := by
  subst hn
  have k := (World.ownsRow.stored h p (.int .u32 v)).1
  unfold NU
  rw [List.map_set, List.length_set]
  exact k
theorem nu_cell {w : World} {base g fn fc : Nat} {l : List Int} (h : NU w base (.slice (some ⟨g, 0, none⟩) fn fc) l) (hn : l.length = fn) (j : Nat) (hj : j < fn) : w.cell? ⟨g, j, none⟩ = some (.int .u32 (l.getD j 0)) ∧ w.frozen? ⟨g, j, none⟩ = false := by
  subst hn
  obtain ⟨cs, hb⟩ := own_blk h
  exact ⟨own_cell h j hj, hb.free j⟩
end Go.Proofs.Ytglgjkggjpfahaa
