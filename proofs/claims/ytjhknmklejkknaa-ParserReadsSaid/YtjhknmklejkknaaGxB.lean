/- Several texts in one: EvA, EvB. -/
import Derived.Test.YtjhknmklejkknaaGlF
import Derived.Laws.AppendOwnNone
section
namespace Go.Proofs.Ytjhknmklejkknaa
open Go.RowKit
set_option linter.unusedVariables false
/-- A slice of slices that reads as a list of lists of cells. -/
structure SX (w : World) (a : Option Addr) (n c : Nat) (LL : List (List Value)) : Prop where
  len : LL.length = n
  nil : a = none → n = 0 ∧ c = 0
  cells : ∀ ad, a = some ad → ∀ j, j < n → ∃ fa fn fc, w.cell? (ad.add j) = some (.slice fa fn fc) ∧ SlR w fa fn fc (LL.getD j [])
theorem SX.keep0 {w w2 : World} {a : Option Addr} {n c : Nat} {LL : List (List Value)} (h : SX w a n c LL) (k : w.grownBy w2 none) : SX w2 a n c LL :=
  ⟨h.len, h.nil, fun ad e j hj => by obtain ⟨fa, fn, fc, h1, h2⟩ := h.cells ad e j hj; exact ⟨fa, fn, fc, k.cell h1 (by simp), h2.keep0 k⟩⟩
theorem SX.some {w : World} {a : Option Addr} {n c : Nat} {LL : List (List Value)} (h : SX w a n c LL) (hn : 0 < n) : ∃ ad, a = some ad := by
  cases a with
  | none => have := (h.nil rfl).1; omega
  | some ad => exact ⟨ad, rfl⟩
theorem infoBool : (Try.prog.info? 4).map (fun i => (i.zero, i.size, i.bytes)) = some (some (.bool false), 1, 1) := by kernel_rfl
theorem gb_lows {w A C : World} {r : Option Nat} (h : w.grownBy A none) (g : A.grownBy C r) (hr : ∀ k, r = some k → w.heap.size ≤ k) : w.grownBy C none :=
  ⟨g.os.trans h.os, g.tape.trans h.tape, g.output.trans h.output, Nat.le_trans h.size g.size, fun i hi _ => by
    rw [g.block i (Nat.lt_of_lt_of_le hi h.size) (fun e => by have := hr i e.symm; omega)]
    exact h.block i hi (by simp)⟩
theorem infoU8b : (Try.prog.info? 5).map (fun i => (i.zero, i.size, i.bytes)) = some (some (.int .u8 0), 1, 1) := by kernel_rfl

theorem xpushY {w : World} {ops : Array Oper} {rest : List Oper} {o : Oper} {a : Act} {Q : Exit → Act → World → Prop} (hgd : o.guard = none) (s x : Operand)
    (ho : o.op = .call { callee := .builtin .append, args := #[s, x], argTypes := #[37, 37] }) (base : Nat) (V : Value) (L : List Value) (hs : a.eval s = V) (hown : w.ownsRow base 5 1 V L.length L)
    (ad : Option Addr) (m c : Nat) (M : List Value) (hx : a.eval x = .slice ad m c) (hM : SlR w ad m c M) (h1 : ∀ u ∈ M, u.oneCell' = true) (hlen : L.length + M.length ≤ 1000000) (hbase : base ≤ w.heap.size)
    (h : ∀ V' w', w'.ownsRow base 5 1 V' (L ++ M).length (L ++ M) → w.grownBy w' V.ownBlock → wpList Try.prog ops Q rest (a.put o.dst V') w') : wpList Try.prog ops Q (o :: rest) a w := by
  obtain ⟨i0, hi, hz0, hz1, hz2⟩ := info_parts infoU8b
  have hl : M.length = m := hM.1
  subst hl
  cases ad with
  | none =>
    obtain ⟨h0, rfl⟩ := hM.2.1 rfl
    have hm : M = [] := List.length_eq_zero_iff.1 h0
    subst hm
    refine wpList_append_own_none hgd s x 37 ho base 5 i0 1 Try.underlying37 hi V L.length L hs hown hx ?_
    refine h V w (by simpa using hown) ?_
    cases V.ownBlock <;> exact gb_refl _ _
  | some ad =>
    refine wpList_append_own w hgd s x 37 ho base 5 i0 (.int .u8 0) 1 1 Try.underlying37 hi hz0 hz1 hz2 rfl (by decide) V L.length L hs hown ad M.length c M hx (by simp) (hM.2.2 ad rfl) h1 (by unfold maxLen; omega) (by omega) hbase ?_
    intro V' w' h1 h2 h3
    exact h V' w' (by simpa using h1) h2
end Go.Proofs.Ytjhknmklejkknaa
end
section
namespace Go.Proofs.Ytjhknmklejkknaa
open Go.RowKit
set_option linter.unusedVariables false
/-- Where the parts of an environment lie. -/
structure EX where
  (va fa ta pa : Option Addr)
  (vn vc fn fc tn tc pn pc : Nat)
/-- An environment: validities, values, metadata, payload. -/
structure EL where
  (V : List Bool)
  (F : List (List Int))
  (T P : List Int)
/-- A slice of bytes, with their range. -/
structure SY (w : World) (a : Option Addr) (n c : Nat) (L : List Int) : Prop where
  slr : SlR w a n c (L.map (Value.int .u8))
  cap : n ≤ c
  rng : ∀ x ∈ L, 0 ≤ x ∧ x < 256
theorem SY.len {w : World} {a : Option Addr} {n c : Nat} {L : List Int} (h : SY w a n c L) : L.length = n := by simpa using h.slr.1
theorem SY.keep0 {w w2 : World} {a : Option Addr} {n c : Nat} {L : List Int} (h : SY w a n c L) (k : w.grownBy w2 none) : SY w2 a n c L := ⟨h.slr.keep0 k, h.cap, h.rng⟩
theorem SB.slr {w : World} {a : Option Addr} {n c : Nat} {L : List Bool} (h : SB w a n c L) : SlR w a n c (L.map Value.bool) :=
  ⟨by simp [h.len], h.nil, fun ad e j u hu => by
    have hj : j < L.length := by
      have := (List.getElem?_eq_some_iff.1 hu).1
      simpa using this
    rw [h.cells ad e j (by rw [← h.len]; exact hj), ← hu]
    simp [hj]⟩
structure ER (w : World) (X : EX) (L : EL) : Prop where
  v : SB w X.va X.vn X.vc L.V
  f : SR w X.fa X.fn X.fc L.F
  t : SU w X.ta X.tn X.tc L.T
  p : SY w X.pa X.pn X.pc L.P
theorem ER.keep0 {w w2 : World} {X : EX} {L : EL} (h : ER w X L) (k : w.grownBy w2 none) : ER w2 X L := ⟨h.v.keep0 k, h.f.keep0 k, h.t.keep0 k, h.p.keep0 k⟩
/-- A row of truth values of the call's own. -/
def NB (w : World) (base : Nat) (V : Value) (L : List Bool) : Prop := w.ownsRow base 4 1 V L.length (L.map Value.bool)
def NY (w : World) (base : Nat) (V : Value) (L : List Int) : Prop := w.ownsRow base 5 1 V L.length (L.map (Value.int .u8))
theorem NB.keep0 {w w2 : World} {base : Nat} {V : Value} {L : List Bool} (h : NB w base V L) (k : w.grownBy w2 none) : NB w2 base V L := own_keep0 h k
theorem NY.keep0 {w w2 : World} {base : Nat} {V : Value} {L : List Int} (h : NY w base V L) (k : w.grownBy w2 none) : NY w2 base V L := own_keep0 h k
/-- A row of another type is left alone by what grows a row. -/
theorem own_past {w w2 : World} {base base2 : Nat} {e e2 : TypeId} {size s2 n n2 : Nat} {v V : Value} {xs ys : List Value} (h : w.ownsRow base e size v n xs) (o : w.ownsRow base2 e2 s2 V n2 ys) (hn : e ≠ e2) (k : w.grownBy w2 V.ownBlock) : w2.ownsRow base e size v n xs := by
  rcases o.2 with ⟨rfl, _⟩ | ⟨g, cap, cur, rfl, _, hh, _⟩
  · exact own_keep0 h k
  · exact own_keepS h k (show IsB w g e2 cur from hh) hn
theorem isb_past {w w2 : World} {base2 : Nat} {t e2 : TypeId} {s2 n2 b : Nat} {V : Value} {ys : List Value} {cs : Array Value} (h : IsB w b t cs) (o : w.ownsRow base2 e2 s2 V n2 ys) (hn : e2 ≠ t) (k : w.grownBy w2 V.ownBlock) : IsB w2 b t cs :=
  h.keep k (Ne.symm (own_ne o h hn))
/-- An environment of the call's own. -/
structure OE (w : World) (base : Nat) (X : EX) (L : EL) (Vs : List Value) : Prop where
  v : NB w base (.slice X.va X.vn X.vc) L.V
  f : OR w base (.slice X.fa X.fn X.fc) L.F Vs
  t : NU w base (.slice X.ta X.tn X.tc) L.T
  p : NY w base (.slice X.pa X.pn X.pc) L.P
  vl : L.V.length = X.vn
  fl : L.F.length = X.fn
  tl : L.T.length = X.tn
  pl : L.P.length = X.pn
  trng : ∀ x ∈ L.T, 0 ≤ x ∧ x < 4294967296
  prng : ∀ x ∈ L.P, 0 ≤ x ∧ x < 256
  dis : ∀ x, x < L.F.length → ∀ q, (Vs.getD x nilV).ownBlock = some q → (Value.slice X.ta X.tn X.tc).ownBlock ≠ some q
theorem OE.keep0 {w w2 : World} {base : Nat} {X : EX} {L : EL} {Vs : List Value} (h : OE w base X L Vs) (k : w.grownBy w2 none) : OE w2 base X L Vs :=
  ⟨own_keep0 h.v k, h.f.keep0 k, h.t.keep0 k, own_keep0 h.p k, h.vl, h.fl, h.tl, h.pl, h.trng, h.prng, h.dis⟩
theorem OE.low {w : World} {base b2 : Nat} {X : EX} {L : EL} {Vs : List Value} (h : OE w base X L Vs) (hb : b2 ≤ base) : OE w b2 X L Vs :=
  ⟨own_low h.v hb, h.f.low hb, own_low h.t hb, own_low h.p hb, h.vl, h.fl, h.tl, h.pl, h.trng, h.prng, h.dis⟩
theorem nb_sb {w : World} {base : Nat} {a : Option Addr} {n c : Nat} {L : List Bool} (h : NB w base (.slice a n c) L) (hn : L.length = n) : SB w a n c L := by
  subst hn
  have s := own_slr h
  exact ⟨rfl, s.2.1, own_cap h, fun ad e j hj => s.2.2 ad e j _ (by simp [hj])⟩
theorem OE.er {w : World} {base : Nat} {X : EX} {L : EL} {Vs : List Value} (h : OE w base X L Vs) : ER w X L := by
  refine ⟨nb_sb h.v h.vl, h.f.sr h.fl, nu_su h.t h.tl h.trng, ?_⟩
  have hp := h.p
  unfold NY at hp
  rw [h.pl] at hp
  have s := own_slr hp
  exact ⟨s, own_cap hp, h.prng⟩
/-- The call returns an environment of its own and makes memory at most. -/
def RetE (L : EL) (w : World) (e : Ending) (w' : World) : Prop := ∃ X Vs, e = .returned (.agg #[.slice X.va X.vn X.vc, .slice X.fa X.fn X.fc, .slice X.ta X.tn X.tc, .slice X.pa X.pn X.pc]) ∧ OE w' w.heap.size X L Vs ∧ w.grownBy w' none
/-- Each number exchanged by its place and itself. -/
def chL (g : Int → Int → Int) (l : List Int) : List Int := l.mapIdx fun i v => g i v
theorem chL_len (g : Int → Int → Int) (l : List Int) : (chL g l).length = l.length := by simp [chL]
theorem chL_rng {g : Int → Int → Int} (hg : ∀ i v, 0 ≤ v → v < 4294967296 → 0 ≤ g i v ∧ g i v < 4294967296) {l : List Int} (h : ∀ x ∈ l, 0 ≤ x ∧ x < 4294967296) : ∀ x ∈ chL g l, 0 ≤ x ∧ x < 4294967296 := by
  intro x hx
  unfold chL at hx
  obtain ⟨i, hi, rfl⟩ := List.mem_mapIdx.1 hx
  have := h l[i] (List.getElem_mem _)
  exact hg _ _ this.1 this.2
theorem NU.put {w : World} {base g n c : Nat} {L : List Int} (h : NU w base (.slice (some ⟨g, 0, none⟩) n c) L) (hn : n = L.length) (p : Nat) (v : Int) :
    NU (w.setCell ⟨g, p, none⟩ (.int .u32 v)) base (.slice (some ⟨g, 0, none⟩) n c) (L.set p v) := by
  subst hn
  have k := (World.ownsRow.stored h p (.int .u32 v)).1
  unfold NU
  rw [List.map_set, List.length_set]
  exact k
end Go.Proofs.Ytjhknmklejkknaa
end
