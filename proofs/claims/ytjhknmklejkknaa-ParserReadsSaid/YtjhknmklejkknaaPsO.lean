/- Parser: the state of a machine in memory; what its calls leave of it; plain facts. -/
import Derived.Test.YtjhknmklejkknaaPsN
import Derived.Test.YtjhknmklejkknaaGxL
namespace Go.Proofs.Ytjhknmklejkknaa
open Go.RowKit
set_option linter.unusedVariables false
/-- A machine in memory: its block, its reader, its packet and the states entered are of the call's own. -/
structure MSt (W : World) (b r s : Nat) (C : Array Value) (V : Value) (bs : List Int) (pos : Nat) (X : EX) (L : EL) (Vs : List Value) (E : Value) (st : List Int) (w : World) : Prop where
  m : IsB w b 120 C
  rd : Rdr w W.heap.size r s V bs pos
  pk : OE w W.heap.size X L Vs
  en : NL w W.heap.size E st
  g : W.grownBy w none
  lb : W.heap.size ≤ b
  ls : W.heap.size ≤ s
theorem MSt.keep0 {W : World} {b r s : Nat} {C : Array Value} {V : Value} {bs : List Int} {pos : Nat} {X : EX} {L : EL} {Vs : List Value} {E : Value} {st : List Int} {w : World} {w2 : World} (h : MSt W b r s C V bs pos X L Vs E st w) (k : w.grownBy w2 none) : MSt W b r s C V bs pos X L Vs E st w2 :=
  ⟨h.m.keep0 k, h.rd.keep0 k, h.pk.keep0 k, own_keep0 h.en k, gb_trans h.g k, h.lb, h.ls⟩
theorem MSt.read {W : World} {b r s : Nat} {C : Array Value} {V : Value} {bs : List Int} {pos : Nat} {X : EX} {L : EL} {Vs : List Value} {E : Value} {st : List Int} {w : World} {w2 : World} {pos2 : Nat} (h : MSt W b r s C V bs pos X L Vs E st w) (k : w.grownBy w2 (some s)) (q : Rdr w2 W.heap.size r s V bs pos2) : MSt W b r s C V bs pos2 X L Vs E st w2 :=
  ⟨h.m.keepS k h.rd.sb (by decide), q, h.pk.kB k h.rd.sb (by decide) (by decide) (by decide) (by decide), own_keepS h.en k h.rd.sb (by decide), gb_new (gb_trans (gb_any h.g) k) h.ls, h.lb, h.ls⟩
theorem MSt.put {W : World} {b r s : Nat} {C : Array Value} {V : Value} {bs : List Int} {pos : Nat} {X : EX} {L : EL} {Vs : List Value} {E : Value} {st : List Int} {w : World} {w2 : World} {C2 : Array Value} (h : MSt W b r s C V bs pos X L Vs E st w) (k : w.grownBy w2 (some b)) (q : IsB w2 b 120 C2) : MSt W b r s C2 V bs pos X L Vs E st w2 :=
  ⟨q, ⟨h.rd.rb.keepS k h.m (by decide), h.rd.sb.keepS k h.m (by decide), own_keepS h.rd.own k h.m (by decide)⟩, h.pk.kB k h.m (by decide) (by decide) (by decide) (by decide), own_keepS h.en k h.m (by decide), gb_new (gb_trans (gb_any h.g) k) h.lb, h.lb, h.ls⟩
theorem MSt.push {W : World} {b r s : Nat} {C : Array Value} {V : Value} {bs : List Int} {pos : Nat} {X : EX} {L : EL} {Vs : List Value} {E : Value} {st : List Int} {w : World} {w2 : World} {E2 : Value} {st2 : List Int} (h : MSt W b r s C V bs pos X L Vs E st w) (k : w.grownBy w2 E.ownBlock) (q : NL w2 W.heap.size E2 st2) : MSt W b r s C V bs pos X L Vs E2 st2 w2 :=
  ⟨isb_past h.m h.en (by decide) k, ⟨isb_past h.rd.rb h.en (by decide) k, isb_past h.rd.sb h.en (by decide) k, own_beyond h.rd.own h.en (by decide) k⟩, h.pk.kI h.en k, q, gb_own2 h.g h.en (Nat.le_refl _) k, h.lb, h.ls⟩
/-- A header is taken into the packet. -/
theorem MSt.take {W : World} {b r s : Nat} {C : Array Value} {V : Value} {bs : List Int} {pos : Nat} {X : EX} {L : EL} {Vs : List Value} {E : Value} {st : List Int} {w : World} {w0 : World} {gv gf : Nat} (h : MSt W b r s C V bs pos X L Vs E st w) (h0 : OE w0 W.heap.size X L Vs) (ev : X.va = some ⟨gv, 0, none⟩) (ef : X.fa = some ⟨gf, 0, none⟩) (k : Nat) (hf : k < X.fn) (V' : Value) (us : List Int) (o : NU w W.heap.size V' us)
    (hb : ∀ q, V'.ownBlock = some q → w0.heap.size ≤ q) (hr : ∀ y ∈ us, 0 ≤ y ∧ y < 4294967296) :
    MSt W b r s C V bs pos X ⟨L.V.set k true, L.F.set k us, L.T, L.P⟩ (Vs.set k V') E st ((w.setCell ⟨gv, k, none⟩ (.bool true)).setCell ⟨gf, k, none⟩ V') := by
  have v2 : w.ownsRow W.heap.size 4 1 (.slice (some ⟨gv, 0, none⟩) L.V.length X.vc) L.V.length (L.V.map Value.bool) := by have q := h.pk.v; unfold NB at q; rw [ev, ← h.pk.vl] at q; exact q
  obtain ⟨cv, bv⟩ := own_blk v2
  have f2 : World.ownsRow w W.heap.size 40 1 (.slice (some ⟨gf, 0, none⟩) L.F.length X.fc) L.F.length Vs := by have q := h.pk.f.out; rw [ef, ← h.pk.fl] at q; exact q
  have s1 := gb_set w gv k (.bool true)
  have f3 := own_keepS f2 s1 bv (by decide)
  obtain ⟨cf, bf⟩ := own_blk f3
  have s2 := gb_set (w.setCell ⟨gv, k, none⟩ (.bool true)) gf k V'
  have lv := (World.ownsRow.lt v2 gv rfl).1
  have lf := (World.ownsRow.lt f2 gf rfl).1
  exact ⟨(h.m.keepS s1 bv (by decide)).keepS s2 bf (by decide), ⟨(h.rd.rb.keepS s1 bv (by decide)).keepS s2 bf (by decide), (h.rd.sb.keepS s1 bv (by decide)).keepS s2 bf (by decide), own_keepS (own_keepS h.rd.own s1 bv (by decide)) s2 bf (by decide)⟩,
    OE.take h0 h.pk ev ef k hf V' us o hb hr, own_keepS (own_keepS h.en s1 bv (by decide)) s2 bf (by decide), gb_new (gb_trans (gb_any (gb_new (gb_trans (gb_any h.g) s1) lv)) s2) lf, h.lb, h.ls⟩
theorem rdH_good {hs : ByteArray} {l : List Fld} {bs : List Int} {pos : Nat} (hp : pos ≤ 8 * bs.length) (h8 : pos % 8 = 0) : (rdH hs l bs pos).2.2 ≤ 8 * bs.length ∧ (rdH hs l bs pos).2.2 % 8 = 0 ∧ ((rdH hs l bs pos).1 = 0 → (rdH hs l bs pos).2.1.length = l.length) ∧ ∀ y ∈ (rdH hs l bs pos).2.1, 0 ≤ y ∧ y < 4294967296 := by
  unfold rdH
  split
  · exact ⟨hp, h8, fun q => by rename_i x; exact absurd q x, fun y hy => by simp at hy⟩
  · rename_i x
    have c0 : chkH hs l = 0 := Classical.not_not.1 x
    obtain ⟨a, b, c, d, e⟩ := chk_ok hs l c0
    obtain ⟨f1, f2, f3⟩ := isum_good _ e
    split
    · exact ⟨hp, h8, fun q => by simp at q, fun y hy => by simp at hy⟩
    · rename_i y
      refine ⟨?_, ?_, fun _ => by rw [numsB_len, wsL_len], numsB_range bs _ pos e⟩
      · show pos + sumL (wsL l) ≤ 8 * bs.length
        omega
      · show (pos + sumL (wsL l)) % 8 = 0
        omega
/-- What an extraction keeps. -/
theorem pEx_keeps {H : List (ByteArray × List Fld)} {bs : List Int} {L : EL} {pos h : Nat} (hp : pos ≤ 8 * bs.length) (h8 : pos % 8 = 0) :
    (pEx H bs L pos h).2.2 ≤ 8 * bs.length ∧ (pEx H bs L pos h).2.2 % 8 = 0 ∧ (pEx H bs L pos h).2.1.V.length = L.V.length ∧ (pEx H bs L pos h).2.1.F.length = L.F.length ∧ (pEx H bs L pos h).2.1.T = L.T ∧ (pEx H bs L pos h).2.1.P = L.P := by
  obtain ⟨a, b, _⟩ := rdH_good (hs := (H.getD h hz).1) (l := (H.getD h hz).2) hp h8
  unfold pEx
  split
  · exact ⟨a, b, by simp, by simp, rfl, rfl⟩
  · exact ⟨a, b, rfl, rfl, rfl, rfl⟩
theorem pExs_keeps {H : List (ByteArray × List Fld)} {bs : List Int} : ∀ (ex : List Int) {L : EL} {pos : Nat}, pos ≤ 8 * bs.length → pos % 8 = 0 →
    (pExs H bs ex L pos).2.2 ≤ 8 * bs.length ∧ (pExs H bs ex L pos).2.2 % 8 = 0 ∧ (pExs H bs ex L pos).2.1.V.length = L.V.length ∧ (pExs H bs ex L pos).2.1.F.length = L.F.length ∧ (pExs H bs ex L pos).2.1.T = L.T ∧ (pExs H bs ex L pos).2.1.P = L.P := by
  intro ex
  induction ex with
  | nil => intro L pos hp h8; exact ⟨hp, h8, rfl, rfl, rfl, rfl⟩
  | cons h t ih =>
    intro L pos hp h8
    obtain ⟨a, b, c, d, e, f⟩ := pEx_keeps (H := H) (bs := bs) (L := L) (h := h.toNat) hp h8
    unfold pExs
    split
    · obtain ⟨a2, b2, c2, d2, e2, f2⟩ := ih (L := (pEx H bs L pos h.toNat).2.1) a b
      exact ⟨a2, b2, c2.trans c, d2.trans d, e2.trans e, f2.trans f⟩
    · exact ⟨a, b, c, d, e, f⟩
theorem pExs_app {H : List (ByteArray × List Fld)} {bs : List Int} : ∀ (ex : List Int) (h : Int) (L : EL) (pos : Nat), (pExs H bs ex L pos).1 = 0 → pExs H bs (ex ++ [h]) L pos = pEx H bs (pExs H bs ex L pos).2.1 (pExs H bs ex L pos).2.2 h.toNat := by
  intro ex
  induction ex with
  | nil =>
    intro h L pos _
    show (if (pEx H bs L pos h.toNat).1 = 0 then (0, (pEx H bs L pos h.toNat).2.1, (pEx H bs L pos h.toNat).2.2) else pEx H bs L pos h.toNat) = pEx H bs L pos h.toNat
    split
    · rename_i q; rw [← q]
    · rfl
  | cons x t ih =>
    intro h L pos q
    unfold pExs at q
    split at q
    · rename_i q0
      rw [List.cons_append]
      show (if (pEx H bs L pos x.toNat).1 = 0 then pExs H bs (t ++ [h]) _ _ else _) = _
      rw [if_pos q0, ih h _ _ q]
      conv => rhs; rw [show pExs H bs (x :: t) L pos = pExs H bs t (pEx H bs L pos x.toNat).2.1 (pEx H bs L pos x.toNat).2.2 from by show (if _ then _ else _) = _; rw [if_pos q0]]
    · rename_i q0; exact absurd q q0
/-- The first error ends the extractions. -/
theorem pExs_stop {H : List (ByteArray × List Fld)} {bs : List Int} : ∀ (ex rest : List Int) (L : EL) (pos : Nat), (pExs H bs ex L pos).1 ≠ 0 → pExs H bs (ex ++ rest) L pos = pExs H bs ex L pos := by
  intro ex
  induction ex with
  | nil => intro rest L pos q; exact absurd rfl q
  | cons x t ih =>
    intro rest L pos q
    unfold pExs at q
    rw [List.cons_append]
    show (if (pEx H bs L pos x.toNat).1 = 0 then pExs H bs (t ++ rest) _ _ else _) = (if _ then _ else _)
    split at q
    · rename_i q0
      rw [if_pos q0, if_pos q0, ih rest _ _ q]
    · rename_i q0
      rw [if_neg q0, if_neg q0]
/-- A head is stored: the row behind it lies in a block that was not there at w. -/
theorem OR.put3 {w2 : World} {base base0 g n c : Nat} {L : List (List Int)} {Vs : List Value} (h2 : OR w2 base (.slice (some ⟨g, 0, none⟩) n c) L Vs) (hbb : base0 ≤ base) (hn : L.length = n) (x : Nat) (hx : x < n) (V' : Value) (l : List Int) (o : NU w2 base0 V' l)
    (hb : ∀ q, V'.ownBlock = some q → q < base) (hr : ∀ y ∈ l, 0 ≤ y ∧ y < 4294967296) : OR (w2.setCell ⟨g, x, none⟩ V') base0 (.slice (some ⟨g, 0, none⟩) n c) (L.set x l) (Vs.set x V') := by
  subst hn
  have st := World.ownsRow.stored h2.out x V'
  have hxV : x < Vs.length := by rw [h2.nV]; exact hx
  refine ⟨by rw [List.length_set]; exact own_low st.1 hbb, ?_, ?_, rng_set h2.rng x l hr⟩
  · intro y hy
    have hy : y < L.length := by simpa using hy
    by_cases e : y = x
    · subst e
      rw [getD_set_at _ _ _ _ hxV, getD_set_at _ _ _ _ hx]
      exact o.kept st.2 (.inr fun q => nu_ne h2.out o g q rfl)
    · rw [getD_set_off _ _ _ _ _ e, getD_set_off _ _ _ _ _ e]
      exact own_low ((h2.own y hy).kept st.2 (.inr fun q => nu_ne h2.out (h2.own y hy) g q rfl)) hbb
  · intro y z hy hz hne q hq
    rw [List.length_set] at hy hz
    by_cases e : y = x
    · subst e
      rw [getD_set_at _ _ _ _ hxV] at hq
      rw [getD_set_off _ _ _ _ _ (Ne.symm hne)]
      intro hz2
      have := (World.ownsRow.lt (h2.own z hz) q hz2).1
      have := hb q hq
      omega
    · rw [getD_set_off _ _ _ _ _ e] at hq
      by_cases e2 : z = x
      · subst e2
        rw [getD_set_at _ _ _ _ hxV]
        intro hz2
        have := (World.ownsRow.lt (h2.own y hy) q hq).1
        have := hb q hz2
        omega
      · rw [getD_set_off _ _ _ _ _ e2]
        exact h2.dis y z hy hz hne q hq
/-- A header is taken: its validity and its values are stored. -/
theorem OE.take3 {w2 : World} {base base0 gv gf : Nat} {X : EX} {L : EL} {Vs : List Value} (h2 : OE w2 base X L Vs) (hbb : base0 ≤ base) (ev : X.va = some ⟨gv, 0, none⟩) (ef : X.fa = some ⟨gf, 0, none⟩) (k : Nat) (hf : k < X.fn) (V' : Value) (us : List Int) (o : NU w2 base0 V' us)
    (hb : ∀ q, V'.ownBlock = some q → q < base) (hr : ∀ y ∈ us, 0 ≤ y ∧ y < 4294967296) :
    OE ((w2.setCell ⟨gv, k, none⟩ (.bool true)).setCell ⟨gf, k, none⟩ V') base0 X ⟨L.V.set k true, L.F.set k us, L.T, L.P⟩ (Vs.set k V') := by
  have v2 : w2.ownsRow base 4 1 (.slice (some ⟨gv, 0, none⟩) L.V.length X.vc) L.V.length (L.V.map Value.bool) := by have q := h2.v; unfold NB at q; rw [ev, ← h2.vl] at q; exact q
  have sv := World.ownsRow.stored v2 k (.bool true)
  obtain ⟨cv, bv⟩ := own_blk v2
  have f2 := h2.f
  rw [ef] at f2
  have f3 : OR (w2.setCell ⟨gv, k, none⟩ (.bool true)) base (.slice (some ⟨gf, 0, none⟩) X.fn X.fc) L.F Vs := ⟨own_keepS f2.out sv.2 bv (by decide), fun x hx => own_keepS (f2.own x hx) sv.2 bv (by decide), f2.dis, f2.rng⟩
  have o3 : NU (w2.setCell ⟨gv, k, none⟩ (.bool true)) base0 V' us := own_keepS o sv.2 bv (by decide)
  have f4 := OR.put3 f3 hbb h2.fl k hf V' us o3 hb hr
  have fo : World.ownsRow (w2.setCell ⟨gv, k, none⟩ (.bool true)) base 40 1 (.slice (some ⟨gf, 0, none⟩) L.F.length X.fc) L.F.length Vs := by have q := f3.out; rw [← h2.fl] at q; exact q
  obtain ⟨cf, bf⟩ := own_blk fo
  have gf2 := gb_set (w2.setCell ⟨gv, k, none⟩ (.bool true)) gf k V'
  refine ⟨?_, by rw [ef]; exact f4, own_low (own_keepS (own_keepS h2.t sv.2 bv (by decide)) gf2 bf (by decide)) hbb, own_low (own_keepS (own_keepS h2.p sv.2 bv (by decide)) gf2 bf (by decide)) hbb, by rw [List.length_set]; exact h2.vl, by rw [List.length_set]; exact h2.fl, h2.tl, h2.pl, h2.trng, h2.prng, ?_⟩
  · have q := own_low (own_keepS sv.1 gf2 bf (by decide)) hbb
    unfold NB
    rw [ev, List.length_set, List.map_set, ← h2.vl]
    exact q
  · intro x hx q hq
    rw [List.length_set] at hx
    by_cases e : x = k
    · subst e
      rw [getD_set_at _ _ _ _ (by rw [f2.nV]; exact hx)] at hq
      intro ht
      have := (World.ownsRow.lt h2.t q ht).1
      have := hb q hq
      omega
    · rw [getD_set_off _ _ _ _ _ e] at hq
      exact h2.dis x hx q hq
theorem results_cell3 {fn : Func} {p q r : Tmp} {ty : TypeId} (h : fn.results = #[.cell p ty, .tmp q, .tmp r]) (tmps : Array Value) (P : Program) (w : World) :
    (results fn tmps).run P w = ((asAddr (tmps.getD p undef)).run P w).andThen fun a w₁ => ((loadVar ty a).run P w₁).andThen fun v w₂ => .ok (.tuple #[v, tmps.getD q undef, tmps.getD r undef]) w₂ := by
  simp only [results, h]
  simp [Sem.run_bind, Result.andThen]
theorem results_cell2 {fn : Func} {p q : Tmp} {ty : TypeId} (h : fn.results = #[.cell p ty, .tmp q]) (tmps : Array Value) (P : Program) (w : World) :
    (results fn tmps).run P w = ((asAddr (tmps.getD p undef)).run P w).andThen fun a w₁ => ((loadVar ty a).run P w₁).andThen fun v w₂ => .ok (.tuple #[v, tmps.getD q undef]) w₂ := by
  simp only [results, h]
  simp [Sem.run_bind, Result.andThen]
/-- The packet is the first one, or one of the call's own. -/
def EO (w0 : World) (X0 : EX) (L0 : EL) (w : World) (X : EX) (L : EL) : Prop := (X = X0 ∧ L = L0) ∨ ∃ Vs, OE w w0.heap.size X L Vs
theorem EO.keep0 {w0 : World} {X0 : EX} {L0 : EL} {w w2 : World} {X : EX} {L : EL} (h : EO w0 X0 L0 w X L) (k : w.grownBy w2 none) : EO w0 X0 L0 w2 X L := by
  rcases h with h | ⟨Vs, h⟩
  · exact .inl h
  · exact .inr ⟨Vs, h.keep0 k⟩
theorem EO.kB {w0 : World} {X0 : EX} {L0 : EL} {w w2 : World} {X : EX} {L : EL} {s : Nat} {t : TypeId} {cs : Array Value} (h : EO w0 X0 L0 w X L) (k : w.grownBy w2 (some s)) (hs : IsB w s t cs) (n1 : 4 ≠ t) (n2 : 40 ≠ t) (n3 : 58 ≠ t) (n4 : 5 ≠ t) : EO w0 X0 L0 w2 X L := by
  rcases h with h | ⟨Vs, h⟩
  · exact .inl h
  · exact .inr ⟨Vs, h.kB k hs n1 n2 n3 n4⟩
theorem EO.er {w0 : World} {X0 : EX} {L0 : EL} {w : World} {X : EX} {L : EL} (h : EO w0 X0 L0 w X L) (h0 : ER w0 X0 L0) (g : w0.grownBy w none) : ER w X L := by
  rcases h with ⟨rfl, rfl⟩ | ⟨Vs, h⟩
  · exact h0.keep0 g
  · exact h.er
/-- What an extraction leaves of other blocks. -/
def Kp (w w' : World) : Prop := ∀ (q : Nat) (t : TypeId) (cs : Array Value), IsB w q t cs → t ≠ 106 → t ≠ 4 → t ≠ 40 → IsB w' q t cs
theorem Kp.trans {a b c : World} (h : Kp a b) (k : Kp b c) : Kp a c := fun q t cs x n1 n2 n3 => k q t cs (h q t cs x n1 n2 n3) n1 n2 n3
theorem kp_gb {a b : World} (h : a.grownBy b none) : Kp a b := fun q t cs x _ _ _ => x.keep0 h
end Go.Proofs.Ytjhknmklejkknaa
