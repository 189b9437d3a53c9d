/- Env: an environment in memory, read and of the call's own; changed's closure; no condition but sizes. -/
import Derived.Test.YtolifmpnhflegaaEvA
namespace Go.Proofs.Ytolifmpnhflegaa
open Go.RowKit
set_option linter.unusedVariables false
/-- Where the parts of an environment lie. -/
structure EX where
  (va fa ta pa : Option Addr)
  (vn vc fn fc tn tc pn pc : Nat)
/-- An environment: validities, values, metadata, payload. -/
structure EL where
  (V : List Bool)
  (F : List (List Int))
  (T P : List Int)
/-- A slice of bytes, with their range. -/
structure SY (w : World) (a : Option Addr) (n c : Nat) (L : List Int) : Prop where
  slr : SlR w a n c (L.map (Value.int .u8))
  cap : n ≤ c
  rng : ∀ x ∈ L, 0 ≤ x ∧ x < 256
theorem SY.len {w : World} {a : Option Addr} {n c : Nat} {L : List Int} (h : SY w a n c L) : L.length = n := by simpa using h.slr.1
theorem SY.keep0 {w w2 : World} {a : Option Addr} {n c : Nat} {L : List Int} (h : SY w a n c L) (k : w.grownBy w2 none) : SY w2 a n c L := ⟨h.slr.keep0 k, h.cap, h.rng⟩
theorem SB.slr {w : World} {a : Option Addr} {n c : Nat} {L : List Bool} (h : SB w a n c L) : SlR w a n c (L.map Value.bool) :=
  ⟨by simp [h.len], h.nil, fun ad e j u hu => by
    have hj : j < L.length := by
      have := (List.getElem?_eq_some_iff.1 hu).1
      simpa using this
    rw [h.cells ad e j (by rw [← h.len]; exact hj), ← hu]
    simp [hj]⟩
structure ER (w : World) (X : EX) (L : EL) : Prop where
  v : SB w X.va X.vn X.vc L.V
  f : SR w X.fa X.fn X.fc L.F
  t : SU w X.ta X.tn X.tc L.T
  p : SY w X.pa X.pn X.pc L.P
theorem ER.keep0 {w w2 : World} {X : EX} {L : EL} (h : ER w X L) (k : w.grownBy w2 none) : ER w2 X L := ⟨h.v.keep0 k, h.f.keep0 k, h.t.keep0 k, h.p.keep0 k⟩
/-- A row of truth values of the call's own. -/
def NB (w : World) (base : Nat) (V : Value) (L : List Bool) : Prop := w.ownsRow base 4 1 V L.length (L.map Value.bool)
def NY (w : World) (base : Nat) (V : Value) (L : List Int) : Prop := w.ownsRow base 5 1 V L.length (L.map (Value.int .u8))
theorem NB.keep0 {w w2 : World} {base : Nat} {V : Value} {L : List Bool} (h : NB w base V L) (k : w.grownBy w2 none) : NB w2 base V L := own_keep0 h k
theorem NY.keep0 {w w2 : World} {base : Nat} {V : Value} {L : List Int} (h : NY w base V L) (k : w.grownBy w2 none) : NY w2 base V L := own_keep0 h k
/-- A row of another type is left alone by what grows a row. -/
theorem own_past {w w2 : World} {base base2 : Nat} {e e2 : TypeId} {size s2 n n2 : Nat} {v V : Value} {xs ys : List Value} (h : w.ownsRow base e size v n xs) (o : w.ownsRow base2 e2 s2 V n2 ys) (hn : e ≠ e2) (k : w.grownBy w2 V.ownBlock) : w2.ownsRow base e size v n xs := by
  rcases o.2 with ⟨rfl, _⟩ | ⟨g, cap, cur, rfl, _, hh, _⟩
  · exact own_keep0 h k
  · exact own_keepS h k (show IsB w g e2 cur from hh) hn
theorem isb_past {w w2 : World} {base2 : Nat} {t e2 : TypeId} {s2 n2 b : Nat} {V : Value} {ys : List Value} {cs : Array Value} (h : IsB w b t cs) (o : w.ownsRow base2 e2 s2 V n2 ys) (hn : e2 ≠ t) (k : w.grownBy w2 V.ownBlock) : IsB w2 b t cs :=
  h.keep k (Ne.symm (own_ne o h hn))
/-- An environment of the call's own. -/
structure OE (w : World) (base : Nat) (X : EX) (L : EL) (Vs : List Value) : Prop where
  v : NB w base (.slice X.va X.vn X.vc) L.V
  f : OR w base (.slice X.fa X.fn X.fc) L.F Vs
  t : NU w base (.slice X.ta X.tn X.tc) L.T
  p : NY w base (.slice X.pa X.pn X.pc) L.P
  vl : L.V.length = X.vn
  fl : L.F.length = X.fn
  tl : L.T.length = X.tn
  pl : L.P.length = X.pn
  trng : ∀ x ∈ L.T, 0 ≤ x ∧ x < 4294967296
  prng : ∀ x ∈ L.P, 0 ≤ x ∧ x < 256
  dis : ∀ x, x < L.F.length → ∀ q, (Vs.getD x nilV).ownBlock = some q → (Value.slice X.ta X.tn X.tc).ownBlock ≠ some q
theorem OE.keep0 {w w2 : World} {base : Nat} {X : EX} {L : EL} {Vs : List Value} (h : OE w base X L Vs) (k : w.grownBy w2 none) : OE w2 base X L Vs :=
  ⟨own_keep0 h.v k, h.f.keep0 k, h.t.keep0 k, own_keep0 h.p k, h.vl, h.fl, h.tl, h.pl, h.trng, h.prng, h.dis⟩
theorem OE.low {w : World} {base b2 : Nat} {X : EX} {L : EL} {Vs : List Value} (h : OE w base X L Vs) (hb : b2 ≤ base) : OE w b2 X L Vs :=
  ⟨own_low h.v hb, h.f.low hb, own_low h.t hb, own_low h.p hb, h.vl, h.fl, h.tl, h.pl, h.trng, h.prng, h.dis⟩
theorem nb_sb {w : World} {base : Nat} {a : Option Addr} {n c : Nat} {L : List Bool} (h : NB w base (.slice a n c) L) (hn : L.length = n) : SB w a n c L := by
  subst hn
  have s := own_slr h
  exact ⟨rfl, s.2.1, own_cap h, fun ad e j hj => s.2.2 ad e j _ (by simp [hj])⟩
theorem OE.er {w : World} {base : Nat} {X : EX} {L : EL} {Vs : List Value} (h : OE w base X L Vs) : ER w X L := by
  refine ⟨nb_sb h.v h.vl, h.f.sr h.fl, nu_su h.t h.tl h.trng, ?_⟩
  have hp := h.p
  unfold NY at hp
  rw [h.pl] at hp
  have s := own_slr hp
  exact ⟨s, own_cap hp, h.prng⟩
/-- The call returns an environment of its own and makes memory at most. -/
def RetE (L : EL) (w : World) (e : Ending) (w' : World) : Prop := ∃ X Vs, e = .returned (.agg #[.slice X.va X.vn X.vc, .slice X.fa X.fn X.fc, .slice X.ta X.tn X.tc, .slice X.pa X.pn X.pc]) ∧ OE w' w.heap.size X L Vs ∧ w.grownBy w' none
/-- The call returns a row of numbers of its own. -/
def RetU (M : List Int) (w : World) (e : Ending) (w' : World) : Prop := ∃ V, e = .returned V ∧ NU w' w.heap.size V M ∧ w.grownBy w' none
theorem sx_one {w : World} {g : Nat} {t : TypeId} {a : Option Addr} {n c : Nat} {L : List Value} (h : IsB w g t #[.slice a n c]) (hl : SlR w a n c L) : SX w (some ⟨g, 0, none⟩) 1 1 [L] :=
  ⟨rfl, (fun e => by cases e), fun ad e j hj => by
    obtain rfl : j = 0 := by omega
    cases e
    exact ⟨a, n, c, by simpa [Addr.add] using h.cell 0, hl⟩⟩
/-- Each number exchanged by its place and itself. -/
def chL (g : Int → Int → Int) (l : List Int) : List Int := l.mapIdx fun i v => g i v
def chP (g : Int → Int → Int) (l : List Int) (j : Nat) : List Int := l.mapIdx fun i v => if i < j then g i v else v
theorem chP_len (g : Int → Int → Int) (l : List Int) (j : Nat) : (chP g l j).length = l.length := by simp [chP]
theorem chP_zero (g : Int → Int → Int) (l : List Int) : chP g l 0 = l := by apply List.ext_getElem <;> simp [chP]
theorem chP_all (g : Int → Int → Int) (l : List Int) (n : Nat) (h : l.length = n) : chP g l n = chL g l := by
  apply List.ext_getElem (by simp [chP, chL])
  intro i h1 h2
  have : i < n := by simp [chP] at h1; omega
  simp [chP, chL, this]
theorem chP_at (g : Int → Int → Int) (l : List Int) (j : Nat) (h : j < l.length) : (chP g l j).getD j 0 = l.getD j 0 := by simp [chP, h]
theorem chP_set (g : Int → Int → Int) (l : List Int) (j : Nat) (h : j < l.length) : (chP g l j).set j (g j (l.getD j 0)) = chP g l (j + 1) := by
  apply List.ext_getElem (by simp [chP])
  intro i h1 h2
  rw [List.getElem_set]
  have hi : i < l.length := by simpa [chP] using h2
  by_cases e : j = i
  · subst e; simp [chP, h]
  · rw [if_neg e]
    simp only [chP, List.getElem_mapIdx]
    by_cases c : i < j
    · rw [if_pos c, if_pos (by omega)]
    · rw [if_neg c, if_neg (by omega)]
theorem chL_len (g : Int → Int → Int) (l : List Int) : (chL g l).length = l.length := by simp [chL]
theorem chL_rng {g : Int → Int → Int} (hg : ∀ i v, 0 ≤ v → v < 4294967296 → 0 ≤ g i v ∧ g i v < 4294967296) {l : List Int} (h : ∀ x ∈ l, 0 ≤ x ∧ x < 4294967296) : ∀ x ∈ chL g l, 0 ≤ x ∧ x < 4294967296 := by
  intro x hx
  unfold chL at hx
  obtain ⟨i, hi, rfl⟩ := List.mem_mapIdx.1 hx
  have := h l[i] (List.getElem_mem _)
  exact hg _ _ this.1 this.2
theorem NU.put {w : World} {base g n c : Nat} {L : List Int} (h : NU w base (.slice (some ⟨g, 0, none⟩) n c) L) (hn : n = L.length) (p : Nat) (v : Int) :
    NU (w.setCell ⟨g, p, none⟩ (.int .u32 v)) base (.slice (some ⟨g, 0, none⟩) n c) (L.set p v) := by
  subst hn
  have k := (World.ownsRow.stored h p (.int .u32 v)).1
  unfold NU
  rw [List.map_set, List.length_set]
  exact k
theorem nu_cell {w : World} {base g fn fc : Nat} {l : List Int} (h : NU w base (.slice (some ⟨g, 0, none⟩) fn fc) l) (hn : l.length = fn) (j : Nat) (hj : j < fn) : w.cell? ⟨g, j, none⟩ = some (.int .u32 (l.getD j 0)) ∧ w.frozen? ⟨g, j, none⟩ = false := by
  subst hn
  obtain ⟨cs, hb⟩ := own_blk h
  exact ⟨own_cell h j hj, hb.free j⟩
set_option maxRecDepth 100000 in
set_option maxHeartbeats 2000000 in
theorem ch1_any (w : World) (h : Int) (a : Option Addr) (n c : Nat) (l : List Int) (hs : SU w a n c l) (hn : n ≤ 100000) (b : Nat) (f : Nat) (cp : Array Value) (hb : IsB w b 80 #[.func (.func f) #[] cp]) (g : Int → Int → Int)
    (hcf : ∀ (args : Array Value) (w : World), (callFunc f args).run Try.prog w = .ok (.enter f args) w)
    (hstep : ∀ i v W, w.grownBy W none → 0 ≤ v → v < 4294967296 → Calls Try.prog f (#[.agg #[.int .i64 h, .int .i64 i], .int .u32 v] ++ cp) W (RetV (.int .u32 (g i v)) W)) :
    Calls Try.prog 66 #[.int .i64 h, .slice a n c, .pointer (some ⟨b, 0, none⟩)] w (RetU (chL g l) w) := by
  have HS := Lib.hid hs
  have HB := Lib.hid hb
  have HT := Lib.hid hstep
  have G1 := gb_alloc w (.cells #[.slice a n c] 34) none
  have JN := Lib.hid (jnU_any (w.alloc (.cells #[.slice a n c] 34)) (some ⟨w.heap.size, 0, none⟩) 1 1 [l.map (Value.int .u32)] (sx_one (IsB.new w 34 #[.slice a n c]) (hs.slr.keep0 G1)) (by intro x hx; rw [List.mem_singleton.1 hx]; exact ints_one _ _) (by decide) (by have := hs.len; simp; omega))
  rw [show ([l.map (Value.int .u32)] : List (List Value)).flatten = l.map (Value.int .u32) by simp] at JN
  have G1 := Lib.hid G1
  have HL := Lib.hid hs.len
  clear hs hb hstep
  go_enter Try.func66, Try.ntmps66
  go_upto_region 2 with (go_at_call 67; refine JN.out.mono ?_; clear JN; rintro e w1 ⟨V1, rfl, r1, g1⟩)
  have O1 := Lib.hid (show NU w1 w.heap.size V1 l by have k := own_low r1 (Nat.le_trans (Nat.le_succ _) (Nat.le_of_eq (sz_al w (.cells #[.slice a n c] 34)).symm)); unfold NU; simpa using k)
  have GG := Lib.hid (gb_trans G1.out g1)
  obtain ⟨a1, c1, rfl⟩ := nu_shape O1.out
  rw [HL.out] at O1 ⊢
  clear r1 g1
  go_wp2
  go_loopw [14] (fun i wr => ∃ j : Nat, j ≤ n ∧ i = .int .i64 j ∧ NU wr w.heap.size (.slice a1 n c1) (chP g l j) ∧ w.grownBy wr none) (fun i _ => n - (intOf i).toNat)
  case atStart => exact ⟨0, Nat.zero_le _, rfl, by rw [chP_zero]; exact O1.out, GG.out⟩
  case round =>
    obtain ⟨j, hj, rfl, ho, hg⟩ := hrel
    have HO := Lib.hid ho
    have HG := Lib.hid hg
    clear ho hg O1 GG
    by_cases hlt : j < n
    · obtain ⟨gb, gc, hv⟩ := own_head (show wr.ownsRow w.heap.size 49 1 (.slice a1 n c1) n ((chP g l j).map (Value.int .u32)) by have k := HO.out; unfold NU at k; rwa [chP_len, HL.out] at k) (by omega)
      injection hv with hv1 _ hv3
      subst hv1 hv3
      have i1 : (j : Int) < n := by omega
      have i0 : (0 : Int) ≤ (j : Int) := by omega
      obtain ⟨c0, f0⟩ := nu_cell HO.out (by rw [chP_len, HL.out]) j hlt
      rw [chP_at g l j (by rw [HL.out]; exact hlt)] at c0
      have ST := Lib.hid (chP_set g l j (by rw [HL.out]; exact hlt))
      have RG := HS.out.at_ j
      generalize l.getD j 0 = v at *
      have CO := Lib.hid (HT.out j v wr HG.out RG.1 RG.2)
      have b0 := (HB.out.keep0 HG.out).cell 0
      dsimp at b0
      have hw : IntKind.i64.wrap ((j : Int) + 1) = ((j + 1 : Nat) : Int) := by rw [IntKind.wrap_i64]; omega
      clear RG
      go_wp2_with (refine CO.out.mono ?_; clear CO; rintro e w3 ⟨rfl, g3⟩; have HO3 := Lib.hid (HO.out.keep0 g3); have G3 := Lib.hid (gb_trans HG.out g3); obtain ⟨c3, f3⟩ := nu_cell HO3.out (by rw [chP_len, HL.out]) j hlt; clear g3 c0 f0)
      go_roundw
      case rel => exact ⟨j + 1, by omega, by first | rfl | (congr 1), by rw [← ST.out]; exact HO3.out.put (by rw [chP_len, HL.out]) j _, gb_put G3.out (World.ownsRow.lt HO3.out gb rfl).1⟩
      case measure => simp [intOf]; omega
    · have i1 : ¬ (j : Int) < n := by omega
      obtain rfl : j = n := by omega
      go_wp2
      go_ret
      exact ⟨_, rfl, by rw [← chP_all g l j HL.out]; exact HO.out, HG.out⟩
end Go.Proofs.Ytolifmpnhflegaa
