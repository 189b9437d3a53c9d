/- Env: what the law does to an environment to see whether memory is shared; no condition but sizes. -/
import Derived.Test.YtolifmpnhflegaaEvE
import Derived.Test.YtolifmpnhflegaaEwA
namespace Go.Proofs.Ytolifmpnhflegaa
open Go.RowKit
set_option linter.unusedVariables false
/-- All blocks but those from base to top are as they were. -/
structure SpR (base top : Nat) (w w2 : World) : Prop where
  os : w2.os = w.os
  tape : w2.tape = w.tape
  output : w2.output = w.output
  size : w.heap.size ≤ w2.heap.size
  block : ∀ k, k < w.heap.size → (k < base ∨ top ≤ k) → w2.heap[k]? = w.heap[k]?
theorem SpR.refl (base top : Nat) (w : World) : SpR base top w w := ⟨rfl, rfl, rfl, Nat.le_refl _, fun _ _ _ => rfl⟩
theorem SpR.trans {base top : Nat} {a b c : World} (h : SpR base top a b) (k : SpR base top b c) : SpR base top a c :=
  ⟨k.os.trans h.os, k.tape.trans h.tape, k.output.trans h.output, Nat.le_trans h.size k.size, fun i hi hr => (k.block i (Nat.lt_of_lt_of_le hi h.size) hr).trans (h.block i hi hr)⟩
theorem SpR.gb {base top : Nat} {a b : World} (h : a.grownBy b none) : SpR base top a b := ⟨h.os, h.tape, h.output, h.size, fun i hi _ => h.block i hi (by simp)⟩
theorem SpR.row {base top g : Nat} {a b : World} (h : a.grownBy b (some g)) (h0 : base ≤ g) (h1 : g < top) : SpR base top a b :=
  ⟨h.os, h.tape, h.output, h.size, fun i hi hr => h.block i hi (by intro e; injection e with e; omega)⟩
theorem SpR.low {base top b2 t2 : Nat} {a b : World} (h : SpR base top a b) (h0 : b2 ≤ base) (h1 : top ≤ t2) : SpR b2 t2 a b :=
  ⟨h.os, h.tape, h.output, h.size, fun i hi hr => h.block i hi (by omega)⟩
theorem SpR.gbw {base top : Nat} {a b : World} (h : SpR base top a b) (hn : a.heap.size ≤ base) : a.grownBy b none :=
  ⟨h.os, h.tape, h.output, h.size, fun i hi _ => h.block i hi (.inl (by omega))⟩
theorem IsB.spr {base top g : Nat} {w w2 : World} {t : TypeId} {cs : Array Value} (h : IsB w g t cs) (k : SpR base top w w2) (hg : g < base ∨ top ≤ g) : IsB w2 g t cs := (k.block g h.lt hg).trans h
theorem own_spr {base top b2 : Nat} {w w2 : World} {e : TypeId} {size n : Nat} {v : Value} {xs : List Value} (h : w.ownsRow b2 e size v n xs) (k : SpR base top w w2) (hr : ∀ q, v.ownBlock = some q → q < base ∨ top ≤ q) : w2.ownsRow b2 e size v n xs := by
  refine ⟨h.1, ?_⟩
  rcases h.2 with hn | ⟨g, cap, cur, rfl, hb, hgg, rest⟩
  · exact .inl hn
  · refine .inr ⟨g, cap, cur, rfl, hb, ?_, rest⟩
    rw [k.block g (Array.getElem?_eq_some_iff.1 hgg).1 (hr g (by simp [Value.ownBlock]))]
    exact hgg
/-- All of an environment's own blocks lie below top. -/
structure OT (top : Nat) (X : EX) (L : EL) (Vs : List Value) : Prop where
  v : ∀ q, (Value.slice X.va X.vn X.vc).ownBlock = some q → q < top
  f : ∀ q, (Value.slice X.fa X.fn X.fc).ownBlock = some q → q < top
  r : ∀ x, x < L.F.length → ∀ q, (Vs.getD x nilV).ownBlock = some q → q < top
  t : ∀ q, (Value.slice X.ta X.tn X.tc).ownBlock = some q → q < top
  p : ∀ q, (Value.slice X.pa X.pn X.pc).ownBlock = some q → q < top
theorem OE.ot {w : World} {base : Nat} {X : EX} {L : EL} {Vs : List Value} (h : OE w base X L Vs) : OT w.heap.size X L Vs :=
  ⟨fun q hq => (World.ownsRow.lt h.v q hq).2, fun q hq => (World.ownsRow.lt h.f.out q hq).2, fun x hx q hq => (World.ownsRow.lt (h.f.own x hx) q hq).2, fun q hq => (World.ownsRow.lt h.t q hq).2, fun q hq => (World.ownsRow.lt h.p q hq).2⟩
theorem OT.up {top t2 : Nat} {X : EX} {L : EL} {Vs : List Value} (h : OT top X L Vs) (k : top ≤ t2) : OT t2 X L Vs :=
  ⟨fun q hq => Nat.lt_of_lt_of_le (h.v q hq) k, fun q hq => Nat.lt_of_lt_of_le (h.f q hq) k, fun x hx q hq => Nat.lt_of_lt_of_le (h.r x hx q hq) k, fun q hq => Nat.lt_of_lt_of_le (h.t q hq) k, fun q hq => Nat.lt_of_lt_of_le (h.p q hq) k⟩
theorem OE.spr {base top b2 : Nat} {w w2 : World} {X : EX} {L : EL} {Vs : List Value} (h : OE w b2 X L Vs) (k : SpR base top w w2) (hr : OT base X L Vs ∨ top ≤ b2) : OE w2 b2 X L Vs := by
  have far : ∀ {e : TypeId} {size n : Nat} {v : Value} {xs : List Value}, w.ownsRow b2 e size v n xs → (∀ q, v.ownBlock = some q → OT base X L Vs → q < base) → w2.ownsRow b2 e size v n xs := fun o hq => own_spr o k (fun q e => by
    rcases hr with hr | hr
    · exact .inl (hq q e hr)
    · exact .inr (Nat.le_trans hr (World.ownsRow.lt o q e).1))
  exact ⟨far h.v fun q e o => o.v q e, ⟨far h.f.out fun q e o => o.f q e, fun x hx => far (h.f.own x hx) fun q e o => o.r x hx q e, h.f.dis, h.f.rng⟩, far h.t fun q e o => o.t q e, far h.p fun q e o => o.p q e, h.vl, h.fl, h.tl, h.pl, h.trng, h.prng, h.dis⟩
theorem sp_mem (l : List Int) (k : Nat) (h : k < l.length) : l.getD k 0 ∈ l := by rw [List.getD_eq_getElem?_getD, List.getElem?_eq_getElem h]; exact List.getElem_mem _
theorem sp_rng {lo hi : Int} {L : List Int} (h : ∀ x ∈ L, lo ≤ x ∧ x < hi) (j : Nat) (v : Int) (hv : lo ≤ v ∧ v < hi) : ∀ x ∈ L.set j v, lo ≤ x ∧ x < hi := by
  intro x hx
  rcases List.mem_or_eq_of_mem_set hx with q | q
  · exact h x q
  · rw [q]; exact hv
theorem sp_sett {w : World} {base g n c j : Nat} {v : Int} {X : EX} {L : EL} {Vs : List Value} (h : OE w base X L Vs) (hv : Value.slice X.ta X.tn X.tc = .slice (some ⟨g, 0, none⟩) n c) (hr : 0 ≤ v ∧ v < 4294967296) :
    OE (w.setCell ⟨g, j, none⟩ (.int .u32 v)) base X ⟨L.V, L.F, L.T.set j v, L.P⟩ Vs := by
  have ht := h.t
  rw [hv] at ht
  have hn : n = L.T.length := by injection hv with _ q _; rw [h.tl]; exact q.symm
  have ht2 := ht
  unfold NU at ht2
  subst hn
  obtain ⟨cs, ib⟩ := own_blk ht2
  have kp : ∀ {e : TypeId} {base : Nat} {v2 : Value} {n : Nat} {xs : List Value}, w.ownsRow base e 1 v2 n xs → e ≠ 49 → World.ownsRow (w.setCell ⟨g, j, none⟩ (.int .u32 v)) base e 1 v2 n xs := fun h hn => own_keepS h (gb_set _ _ _ _) ib hn
  have gq : (Value.slice X.ta X.tn X.tc).ownBlock = some g := by rw [hv]; rfl
  refine ⟨kp h.v (by decide), ⟨kp h.f.out (by decide), fun x hx => World.ownsRow.kept (h.f.own x hx) (gb_set _ _ _ _) (.inr (fun e => h.dis x hx g e gq)), h.f.dis, h.f.rng⟩, ?_, kp h.p (by decide), h.vl, h.fl, ?_, h.pl, sp_rng h.trng j v hr, h.prng, h.dis⟩
  · show NU _ _ _ _
    rw [hv]
    exact ht.put rfl j v
  · show (L.T.set j v).length = _
    rw [List.length_set]; exact h.tl
theorem sp_setp {w : World} {base g n c j : Nat} {v : Int} {X : EX} {L : EL} {Vs : List Value} (h : OE w base X L Vs) (hv : Value.slice X.pa X.pn X.pc = .slice (some ⟨g, 0, none⟩) n c) (hr : 0 ≤ v ∧ v < 256) :
    OE (w.setCell ⟨g, j, none⟩ (.int .u8 v)) base X ⟨L.V, L.F, L.T, L.P.set j v⟩ Vs := by
  have hb := h.p
  unfold NY at hb
  rw [hv] at hb
  have hn : n = L.P.length := by injection hv with _ q _; rw [h.pl]; exact q.symm
  subst hn
  obtain ⟨cs, ib⟩ := own_blk hb
  have kp : ∀ {e : TypeId} {base : Nat} {v2 : Value} {n : Nat} {xs : List Value}, w.ownsRow base e 1 v2 n xs → e ≠ 5 → World.ownsRow (w.setCell ⟨g, j, none⟩ (.int .u8 v)) base e 1 v2 n xs := fun h hn => own_keepS h (gb_set _ _ _ _) ib hn
  refine ⟨kp h.v (by decide), ⟨kp h.f.out (by decide), fun x hx => kp (h.f.own x hx) (by decide), h.f.dis, h.f.rng⟩, kp h.t (by decide), ?_, h.vl, h.fl, h.tl, ?_, h.trng, sp_rng h.prng j v hr, h.dis⟩
  · have k := (World.ownsRow.stored hb j (.int .u8 v)).1
    show NY _ _ _ _
    unfold NY
    rw [hv, List.map_set, List.length_set]
    exact k
  · show (L.P.set j v).length = _
    rw [List.length_set]; exact h.pl
theorem sp_setr {w : World} {base g n c j x : Nat} {v : Int} {X : EX} {L : EL} {Vs : List Value} (h : OE w base X L Vs) (hx : x < L.F.length) (hv : Vs.getD x nilV = .slice (some ⟨g, 0, none⟩) n c) (hr : 0 ≤ v ∧ v < 4294967296) :
    OE (w.setCell ⟨g, j, none⟩ (.int .u32 v)) base X ⟨L.V, L.F.set x ((L.F.getD x []).set j v), L.T, L.P⟩ Vs := by
  have ho := h.f.own x hx
  have hn : n = (L.F.getD x []).length := by obtain ⟨a, c2, e⟩ := nu_shape ho; rw [hv] at e; injection e
  rw [hv] at ho
  have ho2 := ho
  unfold NU at ho2
  subst hn
  obtain ⟨cs, ib⟩ := own_blk ho2
  have kp : ∀ {e : TypeId} {base : Nat} {v2 : Value} {n : Nat} {xs : List Value}, w.ownsRow base e 1 v2 n xs → e ≠ 49 → World.ownsRow (w.setCell ⟨g, j, none⟩ (.int .u32 v)) base e 1 v2 n xs := fun h hn => own_keepS h (gb_set _ _ _ _) ib hn
  have gq : (Vs.getD x nilV).ownBlock = some g := by rw [hv]; rfl
  have gs := gb_set w g j (.int .u32 v)
  refine ⟨kp h.v (by decide), h.f.upd x hx _ g gq gs (by rw [hv]; exact ho.put rfl j v) (sp_rng (rrng_at h.f.rng x) j v hr), World.ownsRow.kept h.t gs (.inr (fun e => h.dis x hx g gq e)), kp h.p (by decide), h.vl, ?_, h.tl, h.pl, h.trng, h.prng, fun y hy => h.dis y (by simpa using hy)⟩
  show (L.F.set x _).length = _
  rw [List.length_set]; exact h.fl
set_option maxRecDepth 100000 in
set_option maxHeartbeats 4000000 in
theorem spoil_any (w : World) (base top : Nat) (va fa ta pa : Option Addr) (vn vc fn fc tn tc pn pc : Nat) (L : EL) (Vs : List Value) (h : OE w base ⟨va, fa, ta, pa, vn, vc, fn, fc, tn, tc, pn, pc⟩ L Vs) (o : OT top ⟨va, fa, ta, pa, vn, vc, fn, fc, tn, tc, pn, pc⟩ L Vs) (ht : top ≤ w.heap.size)
    (zv : vn ≤ 100000) (zf : fn ≤ 100000) (zt : tn ≤ 100000) (zp : pn ≤ 100000) (zr : ∀ j, (L.F.getD j []).length ≤ 100000) :
    Calls Try.prog 32 #[.agg #[.slice va vn vc, .slice fa fn fc, .slice ta tn tc, .slice pa pn pc]] w (fun e w' => e = .returned (.tuple #[]) ∧ (∃ L2, OE w' base ⟨va, fa, ta, pa, vn, vc, fn, fc, tn, tc, pn, pc⟩ L2 Vs) ∧ SpR base top w w') := by
  have HO := Lib.hid h
  have HT := Lib.hid o
  have ZV := Lib.hid zv
  have ZF := Lib.hid zf
  have ZT := Lib.hid zt
  have ZP := Lib.hid zp
  have ZR := Lib.hid (show ∀ j, j < fn → ∀ a n c, Vs.getD j nilV = .slice a n c → n ≤ 100000 from fun j hj a n c e => by
    obtain ⟨a2, c2, e2⟩ := nu_shape (h.f.own j (by have := h.fl; dsimp at this; omega))
    rw [e] at e2
    injection e2 with _ e2 _
    rw [e2]
    exact zr j)
  have G1 := Lib.hid (gb_alloc w (.cells #[.slice va vn vc, .slice fa fn fc, .slice ta tn tc, .slice pa pn pc] 37) none)
  have B1 := IsB.new w 37 #[.slice va vn vc, .slice fa fn fc, .slice ta tn tc, .slice pa pn pc]
  replace B1 := Lib.hid B1
  have TB := Lib.hid ht
  have FL0 := Lib.hid (show L.F.length = fn from h.fl)
  clear h o zv zf zt zp zr ht
  go_enter Try.func32, Try.ntmps32
  go_upto_region 1 with fail
  generalize w.alloc (.cells #[.slice va vn vc, .slice fa fn fc, .slice ta tn tc, .slice pa pn pc] 37) = w1 at *
  obtain ⟨bx, hbx⟩ : ∃ b, b = w.heap.size := ⟨_, rfl⟩
  have Lbx := Lib.hid (show w.heap.size ≤ bx by rw [hbx]; exact Nat.le_refl _)
  rw [← hbx] at B1 ⊢
  clear hbx
  replace TB := Lib.hid (show top ≤ bx from Nat.le_trans TB.out Lbx.out)
  have SP := Lib.hid (SpR.refl base top w1)
  have G0 := Lib.hid (SpR.gb (base := base) (top := top) G1.out)
  replace HO := Lib.hid (HO.out.keep0 G1.out)
  clear G1
  go_wp2
  go_loopw [2] (fun i wr => ∃ j : Nat, j ≤ vn ∧ i = .int .i64 j ∧ ∃ L2, OE wr base ⟨va, fa, ta, pa, vn, vc, fn, fc, tn, tc, pn, pc⟩ L2 Vs ∧ SpR base top w1 wr) (fun i _ => vn - (intOf i).toNat)
  case atStart => exact ⟨0, Nat.zero_le _, rfl, _, HO.out, SP.out⟩
  case round =>
    obtain ⟨j, hj, rfl, L2, ho, hs⟩ := hrel
    replace HO := Lib.hid ho
    have HS := Lib.hid hs
    clear SP
    clear ho hs
    have y0 := (B1.out.spr HS.out (.inr TB.out)).cell 0
    dsimp at y0
    by_cases hlt : j < vn
    · have i1 : (j : Int) < vn := by omega
      have i0 : (0 : Int) ≤ (j : Int) := by omega
      have hw : IntKind.i64.wrap ((j : Int) + 1) = ((j + 1 : Nat) : Int) := by have := ZV.out; rw [IntKind.wrap_i64]; omega
      obtain ⟨g, c2, hV⟩ := own_head (show wr.ownsRow base 4 1 (.slice va vn vc) L2.V.length (L2.V.map Value.bool) from HO.out.v) (by have := HO.out.vl; dsimp at this; omega)
      injection hV with hV1 hV2 hV3
      subst hV1
      clear hV2 hV3
      have xq : wr.cell? ⟨g, j, none⟩ = some (.bool (L2.V.getD j false)) := by
        have q := (own_slr (show wr.ownsRow base 4 1 (.slice (some ⟨g, 0, none⟩) L2.V.length vc) L2.V.length (L2.V.map Value.bool) from by have q : wr.ownsRow base 4 1 (.slice (some ⟨g, 0, none⟩) vn vc) L2.V.length (L2.V.map Value.bool) := HO.out.v; have e : L2.V.length = vn := HO.out.vl; rw [e] at q ⊢; exact q)).2.2 _ rfl j (.bool (L2.V.getD j false)) (by have e := HO.out.vl; dsimp at e; simp [e, hlt])
        rw [addr0] at q
        exact q
      have xf : wr.frozen? ⟨g, j, none⟩ = false := by
        obtain ⟨cs, ib⟩ := own_blk (show wr.ownsRow base 4 1 (.slice (some ⟨g, 0, none⟩) L2.V.length vc) L2.V.length (L2.V.map Value.bool) from by have q : wr.ownsRow base 4 1 (.slice (some ⟨g, 0, none⟩) vn vc) L2.V.length (L2.V.map Value.bool) := HO.out.v; have e : L2.V.length = vn := HO.out.vl; rw [e] at q ⊢; exact q)
        exact ib.free j
      have gT : g < top := HT.out.v g rfl
      have gB : base ≤ g := (World.ownsRow.lt HO.out.v g rfl).1
      generalize L2.V.getD j false = x at xq
      have ON := Lib.hid (show OE (wr.setCell ⟨g, j, none⟩ (.bool (!x))) base _ _ Vs from (oe_setv HO.out rfl).1)
      have SN := Lib.hid (SpR.trans HS.out (SpR.row (gb_set wr g j (.bool (!x))) gB gT))
      clear gT gB hlt
      have OD := Lib.hid (show OE (wr.setCell ⟨g, j, none⟩ (.bool (!x))).drew base _ _ Vs from ON.out.keep0 (gb_drew _ none))
      have SD := Lib.hid (SpR.trans SN.out (SpR.gb (gb_drew _ none)))
      go_upto_region 4 with fail
      go_region
      all_goals go_wp2
      all_goals go_roundw
      case rel => first | exact ⟨j + 1, by omega, by first | rfl | (congr 1), _, ON.out, SN.out⟩ | exact ⟨j + 1, by omega, by first | rfl | (congr 1), _, OD.out, SD.out⟩
      case measure => simp [intOf]; omega
    · have i1 : ¬ (j : Int) < vn := by omega
      obtain rfl : vn = j := by omega
      clear hlt
      go_wp2
      clear y0 i1 hj
      go_loopw [3] (fun i wr => ∃ j : Nat, j ≤ fn ∧ i = .int .i64 j ∧ ∃ L2, OE wr base ⟨va, fa, ta, pa, vn, vc, fn, fc, tn, tc, pn, pc⟩ L2 Vs ∧ SpR base top w1 wr) (fun i _ => fn - (intOf i).toNat)
      case atStart => exact ⟨0, Nat.zero_le _, rfl, _, HO.out, HS.out⟩
      case round =>
        obtain ⟨j, hj, rfl, L2, ho, hs⟩ := hrel
        replace HO := Lib.hid ho
        replace HS := Lib.hid hs
        skip
        clear ho hs
        have y1 := (B1.out.spr HS.out (.inr TB.out)).cell 1
        dsimp at y1
        by_cases hlt : j < fn
        · have i1 : (j : Int) < fn := by omega
          have i0 : (0 : Int) ≤ (j : Int) := by omega
          have hw : IntKind.i64.wrap ((j : Int) + 1) = ((j + 1 : Nat) : Int) := by have := ZF.out; rw [IntKind.wrap_i64]; omega
          obtain ⟨g, c2, hV⟩ := own_head (show wr.ownsRow base 34 1 (.slice fa fn fc) L2.F.length Vs from HO.out.f.out) (by have := HO.out.fl; dsimp at this; omega)
          injection hV with hV1 hV2 hV3
          subst hV1
          clear hV2 hV3
          have jL : j < L2.F.length := by have := HO.out.fl; dsimp at this; omega
          obtain ⟨ra, rc, hR⟩ := nu_shape (HO.out.f.own j jL)
          have GC : ∀ w2 : World, SpR base top w1 w2 → (∃ L2, OE w2 base ⟨va, some ⟨g, 0, none⟩, ta, pa, vn, vc, fn, fc, tn, tc, pn, pc⟩ L2 Vs) → w2.cell? ⟨g, j, none⟩ = some (Vs.getD j nilV) := by
            intro w2 _ hx
            obtain ⟨L3, h3⟩ := hx
            have jv : j < Vs.length := by rw [h3.f.nV]; have := h3.fl; dsimp at this; omega
            have o : w2.ownsRow base 34 1 (.slice (some ⟨g, 0, none⟩) L3.F.length fc) L3.F.length Vs := by have q : w2.ownsRow base 34 1 (.slice (some ⟨g, 0, none⟩) fn fc) L3.F.length Vs := h3.f.out; have e : L3.F.length = fn := h3.fl; rw [e] at q ⊢; exact q
            have q := (own_slr o).2.2 _ rfl j (Vs.getD j nilV) (by simp [jv])
            rw [addr0] at q
            exact q
          have RN := Lib.hid (ZR.out j hlt _ _ _ hR)
          have GCh := Lib.hid GC
          generalize (L2.F.getD j []).length = rn at hR RN
          clear GC
          rw [hR] at GCh
          have HR := Lib.hid hR
          clear hR
          go_upto_region 8 with fail
          go_wp2
          clear y1 jL
          go_loopw [4] (fun i wr => ∃ k : Nat, k ≤ rn ∧ i = .int .i64 k ∧ ∃ L2, OE wr base ⟨va, some ⟨g, 0, none⟩, ta, pa, vn, vc, fn, fc, tn, tc, pn, pc⟩ L2 Vs ∧ SpR base top w1 wr) (fun i _ => rn - (intOf i).toNat)
          case atStart => exact ⟨0, Nat.zero_le _, rfl, _, HO.out, HS.out⟩
          case round =>
            obtain ⟨k, hk, rfl, L3, ho, hs⟩ := hrel
            replace HO := Lib.hid ho
            replace HS := Lib.hid hs
            clear ho hs
            have y1 := (B1.out.spr HS.out (.inr TB.out)).cell 1
            dsimp at y1
            have z1 := GCh.out _ HS.out ⟨_, HO.out⟩
            by_cases hl2 : k < rn
            · have k1 : (k : Int) < rn := by omega
              have k0 : (0 : Int) ≤ (k : Int) := by omega
              have hw2 : IntKind.i64.wrap ((k : Int) + 1) = ((k + 1 : Nat) : Int) := by have := RN.out; rw [IntKind.wrap_i64]; omega
              have jL : j < L3.F.length := by have := HO.out.fl; dsimp at this; omega
              have no := HO.out.f.own j jL
              have rl : (L3.F.getD j []).length = rn := by obtain ⟨a5, c5, e5⟩ := nu_shape no; rw [HR.out] at e5; injection e5 with _ e5 _; exact e5.symm
              rw [HR.out] at no
              obtain ⟨g2, c6, hV⟩ := own_head (show World.ownsRow _ base 49 1 (.slice ra rn rc) (L3.F.getD j []).length ((L3.F.getD j []).map (Value.int .u32)) from no) (by omega)
              injection hV with hV1 hV2 hV3
              subst hV1
              clear hV2 hV3
              obtain ⟨xq, xf⟩ := nu_cell no rl k hl2
              have gT : g2 < top := HT.out.r j (by have := HT.out; have := HO.out.fl; exact (show j < L.F.length by have q := FL0.out; omega)) g2 (by rw [HR.out]; rfl)
              have gB : base ≤ g2 := (World.ownsRow.lt no g2 rfl).1
              have rg : 0 ≤ (L3.F.getD j []).getD k 0 ∧ (L3.F.getD j []).getD k 0 < 4294967296 := rrng_at HO.out.f.rng j _ (sp_mem _ _ (by omega))
              have ON := Lib.hid (sp_setr (j := k) (v := IntKind.u32.wrap ((L3.F.getD j []).getD k 0 + 7)) HO.out jL HR.out (by rw [IntKind.wrap_u32]; omega))
              have SN := Lib.hid (SpR.trans HS.out (SpR.row (gb_set _ g2 k (.int .u32 (IntKind.u32.wrap ((L3.F.getD j []).getD k 0 + 7)))) gB gT))
              generalize (L3.F.getD j []).getD k 0 = x at xq ON SN
              clear gT gB no rl jL hl2 rg hlt
              go_wp2
              go_roundw
              case rel => exact ⟨k + 1, by omega, by first | rfl | (congr 1), _, ON.out, SN.out⟩
              case measure => simp [intOf]; omega
            · have k1 : ¬ (k : Int) < rn := by omega
              obtain rfl : rn = k := by omega
              clear hl2
              go_wp2
              go_roundw
              case rel => exact ⟨j + 1, by omega, by first | rfl | (congr 1), _, HO.out, HS.out⟩
              case measure => simp [intOf]; omega
        · have i1 : ¬ (j : Int) < fn := by omega
          obtain rfl : fn = j := by omega
          clear hlt
          go_wp2
          clear y1 i1 hj
          go_loopw [5] (fun i wr => ∃ j : Nat, j ≤ tn ∧ i = .int .i64 j ∧ ∃ L2, OE wr base ⟨va, fa, ta, pa, vn, vc, fn, fc, tn, tc, pn, pc⟩ L2 Vs ∧ SpR base top w1 wr) (fun i _ => tn - (intOf i).toNat)
          case atStart => exact ⟨0, Nat.zero_le _, rfl, _, HO.out, HS.out⟩
          case round =>
            obtain ⟨j, hj, rfl, L2, ho, hs⟩ := hrel
            replace HO := Lib.hid ho
            replace HS := Lib.hid hs
            skip
            clear ho hs
            have y2 := (B1.out.spr HS.out (.inr TB.out)).cell 2
            dsimp at y2
            by_cases hlt : j < tn
            · have i1 : (j : Int) < tn := by omega
              have i0 : (0 : Int) ≤ (j : Int) := by omega
              have hw : IntKind.i64.wrap ((j : Int) + 1) = ((j + 1 : Nat) : Int) := by have := ZT.out; rw [IntKind.wrap_i64]; omega
              obtain ⟨g, c2, hV⟩ := own_head (show wr.ownsRow base 49 1 (.slice ta tn tc) L2.T.length (L2.T.map (Value.int .u32)) from HO.out.t) (by have := HO.out.tl; dsimp at this; omega)
              injection hV with hV1 hV2 hV3
              subst hV1
              clear hV2 hV3
              have xq : wr.cell? ⟨g, j, none⟩ = some (.int .u32 (L2.T.getD j 0)) := by
                have q := (own_slr (show wr.ownsRow base 49 1 (.slice (some ⟨g, 0, none⟩) L2.T.length tc) L2.T.length (L2.T.map (Value.int .u32)) from by have q : wr.ownsRow base 49 1 (.slice (some ⟨g, 0, none⟩) tn tc) L2.T.length (L2.T.map (Value.int .u32)) := HO.out.t; have e : L2.T.length = tn := HO.out.tl; rw [e] at q ⊢; exact q)).2.2 _ rfl j (.int .u32 (L2.T.getD j 0)) (by have e := HO.out.tl; dsimp at e; simp [e, hlt])
                rw [addr0] at q
                exact q
              have xf : wr.frozen? ⟨g, j, none⟩ = false := by
                obtain ⟨cs, ib⟩ := own_blk (show wr.ownsRow base 49 1 (.slice (some ⟨g, 0, none⟩) L2.T.length tc) L2.T.length (L2.T.map (Value.int .u32)) from by have q : wr.ownsRow base 49 1 (.slice (some ⟨g, 0, none⟩) tn tc) L2.T.length (L2.T.map (Value.int .u32)) := HO.out.t; have e : L2.T.length = tn := HO.out.tl; rw [e] at q ⊢; exact q)
                exact ib.free j
              have gT : g < top := HT.out.t g rfl
              have gB : base ≤ g := (World.ownsRow.lt HO.out.t g rfl).1
              generalize L2.T.getD j 0 = x at xq
              have ON := Lib.hid (show OE (wr.setCell ⟨g, j, none⟩ (.int .u32 (IntKind.u32.wrap (x + 7)))) base _ _ Vs from sp_sett HO.out rfl (by rw [IntKind.wrap_u32]; omega))
              have SN := Lib.hid (SpR.trans HS.out (SpR.row (gb_set wr g j (.int .u32 (IntKind.u32.wrap (x + 7)))) gB gT))
              clear gT gB hlt
              go_wp2
              go_roundw
              case rel => exact ⟨j + 1, by omega, by first | rfl | (congr 1), _, ON.out, SN.out⟩
              case measure => simp [intOf]; omega
            · have i1 : ¬ (j : Int) < tn := by omega
              obtain rfl : tn = j := by omega
              clear hlt
              go_wp2
              clear y2 i1 hj
              go_loopw [6] (fun i wr => ∃ j : Nat, j ≤ pn ∧ i = .int .i64 j ∧ ∃ L2, OE wr base ⟨va, fa, ta, pa, vn, vc, fn, fc, tn, tc, pn, pc⟩ L2 Vs ∧ SpR base top w1 wr) (fun i _ => pn - (intOf i).toNat)
              case atStart => exact ⟨0, Nat.zero_le _, rfl, _, HO.out, HS.out⟩
              case round =>
                obtain ⟨j, hj, rfl, L2, ho, hs⟩ := hrel
                replace HO := Lib.hid ho
                replace HS := Lib.hid hs
                skip
                clear ho hs
                have y3 := (B1.out.spr HS.out (.inr TB.out)).cell 3
                dsimp at y3
                by_cases hlt : j < pn
                · have i1 : (j : Int) < pn := by omega
                  have i0 : (0 : Int) ≤ (j : Int) := by omega
                  have hw : IntKind.i64.wrap ((j : Int) + 1) = ((j + 1 : Nat) : Int) := by have := ZP.out; rw [IntKind.wrap_i64]; omega
                  obtain ⟨g, c2, hV⟩ := own_head (show wr.ownsRow base 5 1 (.slice pa pn pc) L2.P.length (L2.P.map (Value.int .u8)) from HO.out.p) (by have := HO.out.pl; dsimp at this; omega)
                  injection hV with hV1 hV2 hV3
                  subst hV1
                  clear hV2 hV3
                  have xq : wr.cell? ⟨g, j, none⟩ = some (.int .u8 (L2.P.getD j 0)) := by
                    have q := (own_slr (show wr.ownsRow base 5 1 (.slice (some ⟨g, 0, none⟩) L2.P.length pc) L2.P.length (L2.P.map (Value.int .u8)) from by have q : wr.ownsRow base 5 1 (.slice (some ⟨g, 0, none⟩) pn pc) L2.P.length (L2.P.map (Value.int .u8)) := HO.out.p; have e : L2.P.length = pn := HO.out.pl; rw [e] at q ⊢; exact q)).2.2 _ rfl j (.int .u8 (L2.P.getD j 0)) (by have e := HO.out.pl; dsimp at e; simp [e, hlt])
                    rw [addr0] at q
                    exact q
                  have xf : wr.frozen? ⟨g, j, none⟩ = false := by
                    obtain ⟨cs, ib⟩ := own_blk (show wr.ownsRow base 5 1 (.slice (some ⟨g, 0, none⟩) L2.P.length pc) L2.P.length (L2.P.map (Value.int .u8)) from by have q : wr.ownsRow base 5 1 (.slice (some ⟨g, 0, none⟩) pn pc) L2.P.length (L2.P.map (Value.int .u8)) := HO.out.p; have e : L2.P.length = pn := HO.out.pl; rw [e] at q ⊢; exact q)
                    exact ib.free j
                  have gT : g < top := HT.out.p g rfl
                  have gB : base ≤ g := (World.ownsRow.lt HO.out.p g rfl).1
                  generalize L2.P.getD j 0 = x at xq
                  have ON := Lib.hid (show OE (wr.setCell ⟨g, j, none⟩ (.int .u8 (IntKind.u8.wrap (x + 7)))) base _ _ Vs from sp_setp HO.out rfl (by rw [IntKind.wrap_u8]; omega))
                  have SN := Lib.hid (SpR.trans HS.out (SpR.row (gb_set wr g j (.int .u8 (IntKind.u8.wrap (x + 7)))) gB gT))
                  clear gT gB hlt
                  go_wp2
                  go_roundw
                  case rel => exact ⟨j + 1, by omega, by first | rfl | (congr 1), _, ON.out, SN.out⟩
                  case measure => simp [intOf]; omega
                · have i1 : ¬ (j : Int) < pn := by omega
                  obtain rfl : pn = j := by omega
                  clear hlt
                  go_wp2
                  skip
                  go_end0
                  exact ⟨rfl, ⟨_, HO.out⟩, G0.out.trans HS.out⟩
end Go.Proofs.Ytolifmpnhflegaa
