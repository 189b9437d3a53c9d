/- Tries: grow. -/
import Derived.Test.YtidjggaffioekaaLtH
namespace Go.Proofs.Ytidjggaffioekaa
open Go.RowKit
set_option linter.unusedVariables false

theorem put_sub : ∀ (T : Tr) (p : List Bool), inT T p → put T p (sub T p) = T
  | T, [], _ => by cases T <;> rfl
  | .nil, _ :: _, h => absurd h (by simp [inT])
  | .node b q st x l r, c :: t, h => by
    cases c
    · simp [put, sub, put_sub l t (by simpa [inT] using h)]
    · simp [put, sub, put_sub r t (by simpa [inT] using h)]
theorem put_perm {T N : Tr} {d : List Bool} {new : List Nat} (hi : inT T d) (hp : (blks N).Perm (new ++ blks (sub T d))) : (blks (put T d N)).Perm (new ++ blks T) := by
  obtain ⟨A, B, h1, h2⟩ := put_blks T d hi
  rw [h2, h1]
  rw [List.perm_iff_count] at *
  intro a
  have := hp a
  simp only [List.count_append] at *
  omega
theorem nodup_new {T : Tr} {new : List Nat} {N : Nat} (nd : (blks T).Nodup) (nn : new.Nodup) (lo : ∀ b ∈ blks T, b < N) (hi : ∀ b ∈ new, N ≤ b) : (new ++ blks T).Nodup := by
  rw [List.nodup_append]
  exact ⟨nn, nd, fun a ha b hb e => by have := lo b hb; have := hi a ha; omega⟩
theorem TN.lt {w : World} {wd : Nat} {T : Tr} (h : TN w wd T) : ∀ b ∈ blks T, b < w.heap.size := fun b m => by
  obtain ⟨cs, k⟩ := h.blk b m
  exact k.lt
/-- One block turns, in one of its cells. -/
structure Up (g i : Nat) (v : Value) (w w' : World) : Prop where
  fx : Fx (· = g) w w'
  at_ : ∀ t cs, IsB w g t cs → IsB w' g t (cs.setIfInBounds i v)
theorem Up.of {g i : Nat} {v : Value} {w : World} : Up g i v w (w.setCell ⟨g, i, none⟩ v) := ⟨Fx.set rfl, fun _ _ h => h.set i v⟩
theorem Up.grow {g i : Nat} {v : Value} {a b c : World} (h : a.grownBy b none) (k : Up g i v b c) : Up g i v a c := ⟨(Fx.of h).trans k.fx, fun _ _ q => k.at_ _ _ (q.keep0 h)⟩
theorem Up.more {g i : Nat} {v : Value} {a b c : World} (h : Up g i v a b) (k : b.grownBy c none) : Up g i v a c := ⟨h.fx.trans (Fx.of k), fun _ _ q => (h.at_ _ _ q).keep0 k⟩
theorem Up.far {g i k j : Nat} {v u : Value} {a b : World} (h : Up g i v a b) (hk : a.heap.size ≤ k) (hg : g < a.heap.size) : Up g i v a (b.setCell ⟨k, j, none⟩ u) :=
  ⟨⟨h.fx.os, h.fx.tape, h.fx.output, by simpa [World.setCell] using h.fx.size, fun x hx hn => (Below.heap_setCell b ⟨k, j, none⟩ u x (by show x ≠ k; omega)).trans (h.fx.block x hx hn)⟩,
   fun _ _ q => (h.at_ _ _ q).set_far (by omega) j u⟩
theorem Up.again {g i : Nat} {v u : Value} {a b : World} (h : Up g i v a b) : Up g i u a (b.setCell ⟨g, i, none⟩ u) :=
  ⟨h.fx.trans (Fx.set rfl), fun _ _ q => by have := (h.at_ _ _ q).set i u; rwa [Array.setIfInBounds_setIfInBounds] at this⟩
/-- Something new hangs at p's place. -/
theorem LS.hang {W w w' : World} {q s wd : Nat} {T N : Tr} {p : List Bool} {new : List Nat} (h : LS W q s wd T w) (hU : Up (hole s 1 T (desc p T)).1 (hole s 1 T (desc p T)).2 (ptr N) w w')
    (tn : TN w' wd N) (hp : (blks N).Perm (new ++ blks (sub T (desc p T)))) (nn : new.Nodup) (hn : ∀ b ∈ new, w.heap.size ≤ b) (he : ents N = ents (sub T (desc p T))) (ok : Ok wd [] (put T (desc p T) N)) :
    LS W q s wd (put T (desc p T) N) w' ∧ Fx (Bs s T) w w' := by
  have hi := desc_in p T
  have pp := put_perm (N := N) hi hp
  have hin := hole_in s 1 T (desc p T) hi
  obtain ⟨A, B, h1, h2⟩ := put_ents T (desc p T) hi
  have hE : ents (put T (desc p T) N) = ents T := by rw [h2, h1, he]
  have hq : q ≠ (hole s 1 T (desc p T)).1 := by
    rcases hin with ⟨e, _⟩ | e
    · rw [e]; exact h.ne
    · exact fun k => h.qb (by rw [k]; exact e)
  have low : W.heap.size ≤ (hole s 1 T (desc p T)).1 := by
    rcases hin with ⟨e, _⟩ | e
    · rw [e]; exact h.lows
    · exact h.lowb _ e
  refine ⟨⟨hU.fx.isb h.qv hq, ?_, ?_, ?_, ok, h.w1, h.w2, Fx.gbW h.grown hU.fx (fun k e => by rw [e]; exact low), h.lowq, h.lows, fun b m => ?_⟩, hU.fx.mono fun g _ e => ?_⟩
  · rw [hE]
    cases hd : desc p T with
    | nil =>
      rw [hd] at hU
      have e1 : hole s 1 T [] = (s, 1) := by cases T <;> rfl
      rw [e1] at hU
      have := hU.at_ _ _ h.sv
      have e2 : put T [] N = N := by cases T <;> rfl
      rw [e2]
      simpa using this
    | cons c t =>
      rw [hd] at hU hin
      rw [ptr_put]
      rcases hin with ⟨_, e⟩ | e
      · cases e
      · exact hU.fx.isb h.sv (fun k => h.sb (by rw [k]; exact e))
  · exact put_tn T (desc p T) s 1 hi h.tn h.nd (fun g t cs k _ e _ => hU.fx.isb k e) (fun t cs k _ => hU.at_ _ _ k) tn
  · exact pp.nodup_iff.2 (nodup_new h.nd nn h.tn.lt hn)
  · rcases List.mem_append.1 (pp.mem_iff.1 m) with m | m
    · exact Nat.le_trans h.grown.size (hn b m)
    · exact h.lowb b m
  · rcases hin with ⟨k, _⟩ | k
    · exact .inl (e.trans k)
    · exact .inr (by rw [e]; exact k)
theorem cmpn_no {eq e ql pl : Int} (h : eq ≠ e ∨ ql ≠ pl) (w : World) : Sem.run Try.prog (binOp BinOp.neq 79 (.agg #[.int .u32 eq, .int .i64 ql]) (.agg #[.int .u32 e, .int .i64 pl])) w = .ok (.bool true) w := by
  by_cases h1 : eq = e
  · have h2 : (ql == pl) = false := by rw [beq_eq_false_iff_ne]; exact h.resolve_left (fun k => k h1)
    go_simp
  · have h2 : (eq == e) = false := by rw [beq_eq_false_iff_ne]; exact h1
    go_simp
def RetN (W : World) (q s wd : Nat) (p : List Bool) (T : Tr) (w : World) (e : Ending) (w' : World) : Prop :=
  ∃ a f, e = .returned (.pointer (some ⟨gblk a p (sub T (desc p T)), 0, none⟩)) ∧ LS W q s wd (put T (desc p T) (graft a f p (sub T (desc p T)))) w' ∧ Fx (Bs s T) w w' ∧ w.heap.size ≤ a ∧ w.heap.size ≤ f
theorem hole_sub : ∀ (T : Tr) (p : List Bool) (s o : Nat), inT T p → (blks T).Nodup → s ∉ blks T → (hole s o T p).1 ∉ blks (sub T p)
  | T, [], s, o, _, _, h => by cases T <;> exact h
  | .nil, _ :: _, _, _, h, _, _ => absurd h (by simp [inT])
  | .node b q st x l r, c :: t, s, o, h, nd, _ => by
    simp only [blks, List.nodup_cons, List.mem_append, not_or, List.nodup_append] at nd
    cases c
    · simpa [hole, sub] using hole_sub l t b 4 (by simpa [inT] using h) nd.2.1 nd.1.1
    · simpa [hole, sub] using hole_sub r t b 5 (by simpa [inT] using h) nd.2.2.1 nd.1.2
theorem cell_other {w : World} {g i s j : Nat} {t : TypeId} {cs : Array Value} {u v x : Value} (hb : IsB w g t cs) (h1 : w.cell? ⟨g, i, none⟩ = some u) (h2 : w.cell? ⟨s, j, none⟩ = some v) (hn : u ≠ v) : (w.setCell ⟨g, i, none⟩ x).cell? ⟨s, j, none⟩ = some v := by
  by_cases e : s = g
  · subst e
    have hij : i ≠ j := fun k => by rw [k, h2] at h1; injection h1 with h1; exact hn h1.symm
    rw [(hb.set i x).cell j, Array.getElem?_setIfInBounds_ne hij, ← hb.cell j]; exact h2
  · have := Below.heap_setCell w ⟨g, i, none⟩ x s (by exact e)
    unfold World.cell? at h2 ⊢
    rw [this]; exact h2
theorem Up.cell {g i : Nat} {t : TypeId} {cs : Array Value} {u v : Value} {w w' : World} (h : Up g i v w w') (hb : IsB w g t cs) (h1 : w.cell? ⟨g, i, none⟩ = some u) : w'.cell? ⟨g, i, none⟩ = some v := by
  have k := h.at_ _ _ hb
  rw [k.cell i]
  rw [hb.cell i] at h1
  have := (Array.getElem?_eq_some_iff.1 h1).1
  simp [this]
theorem Up.free {g i : Nat} {t : TypeId} {cs : Array Value} {v : Value} {w w' : World} (h : Up g i v w w') (hb : IsB w g t cs) (j : Nat) : w'.frozen? ⟨g, j, none⟩ = false := (h.at_ _ _ hb).free j
theorem Up.other {g i s j : Nat} {t t2 : TypeId} {cs cs2 : Array Value} {u v x : Value} {w w' : World} (h : Up g i v w w') (hb : IsB w g t cs) (h1 : w.cell? ⟨g, i, none⟩ = some u) (k : IsB w s t2 cs2) (h2 : w.cell? ⟨s, j, none⟩ = some x) (hn : u ≠ x) : w'.cell? ⟨s, j, none⟩ = some x := by
  by_cases e : s = g
  · subst e
    have hij : i ≠ j := fun q => by rw [q, h2] at h1; injection h1 with h1; exact hn h1.symm
    rw [(h.at_ _ _ hb).cell j, Array.getElem?_setIfInBounds_ne hij, ← hb.cell j]; exact h2
  · rw [(h.fx.isb k e).cell j, ← k.cell j]; exact h2
theorem halt_len {p q : List Bool} {b : Nat} {st : Bool} {x : Int} {l r : Tr} (hh : Halt p (.node b q st x l r)) (hl : lcp p q ≠ p) : (lcp p q).length < p.length ∧ (lcp p q).length < q.length := by
  have L1 := lcp_left p q
  have L2 := lcp_right p q
  have k1 : (lcp p q).length < p.length := by
    have := L1.length_le
    rcases Nat.lt_or_ge (lcp p q).length p.length with k | k
    · exact k
    · exact absurd (L1.eq_of_length (by omega)) hl
  refine ⟨k1, ?_⟩
  have := L2.length_le
  rcases Nat.lt_or_ge (lcp p q).length q.length with k | k
  · exact k
  · have e2 := L2.eq_of_length (by omega)
    rw [e2] at L1 k1
    exact absurd ⟨k1, L1⟩ hh
set_option maxRecDepth 100000 in
set_option maxHeartbeats 4000000 in
theorem grow_any (W w : World) (q s wd : Nat) (p : List Bool) (T : Tr) (h : LS W q s wd T w) (hp : p.length ≤ wd) :
    Calls Try.prog 33 #[.pointer (some ⟨s, 0, none⟩), .agg #[.int .u32 (E wd p), .int .i64 p.length]] w (RetN W q s wd p T w) := by
  have HH := Lib.hid h
  have HP := Lib.hid hp
  have hi := desc_in p T
  have PL := Lib.hid (fun (W2 : World) (k : w.grownBy W2 none) => place_any W2 s wd p T ((h.keep0 k).sv.cell 0) ((h.keep0 k).sv.cell 1) (h.keep0 k).tn h.ok h.w1 h.w2 hp)
  have hc0 := hole_cell T (desc p T) s 1 hi h.tn (h.sv.cell 1)
  have HS := Lib.hid (hole_sub T (desc p T) s 1 hi h.nd h.sb)
  have HHB := Lib.hid (show ∃ t cs, IsB w (hole s 1 T (desc p T)).1 t cs by
    rcases hole_in s 1 T (desc p T) hi with ⟨e, _⟩ | e
    · rw [e]; exact ⟨_, _, h.sv⟩
    · obtain ⟨cs, k⟩ := h.tn.blk _ e; exact ⟨_, cs, k⟩)
  have HT := Lib.hid (desc_halt p T)
  have TS := Lib.hid (sub_tn T (desc p T) h.tn)
  obtain ⟨q2, k1, k2, k3⟩ := put_ok p T [] h.ok List.nil_prefix
  have KO := Lib.hid (fun a f => k3 _ (graft_ok a f k1 hp k2 (desc_halt p T)))
  have SO := Lib.hid k2
  have HG := Lib.hid (fun (w' : World) (N : Tr) (new : List Nat) (hU : Up (hole s 1 T (desc p T)).1 (hole s 1 T (desc p T)).2 (ptr N) w w') tn hp nn hn he ok => h.hang (w' := w') (N := N) (new := new) hU tn hp nn hn he ok)
  have PS := Lib.hid (put_sub T (desc p T) hi)
  unfold RetN
  obtain ⟨P1, hP1⟩ : ∃ x, x = (hole s 1 T (desc p T)).1 := ⟨_, rfl⟩
  obtain ⟨P2, hP2⟩ : ∃ x, x = (hole s 1 T (desc p T)).2 := ⟨_, rfl⟩
  rw [← hP1] at HS HHB
  rw [← hP1, ← hP2] at PL HG hc0
  obtain ⟨ht, hcs, hHB⟩ := HHB.out
  have HB := Lib.hid hHB
  have PLT := Lib.hid hHB.lt
  have HC := Lib.hid hc0
  generalize hD : put T (desc p T) = PT at *
  generalize hS : sub T (desc p T) = S at *
  have CC := Lib.hid (fun (W2 : World) (k : w.grownBy W2 none) => (k.cell HC.out (by simp) : W2.cell? ⟨P1, P2, none⟩ = some (ptr S)))
  clear h hp hi hc0 HHB hHB k1 k2 k3 hP1 hP2 hD hS
  have G1 := Lib.hid (gb_alloc w (.cells #[.int .u32 (E wd p), .int .i64 p.length] 79) none)
  have B1 := Lib.hid (IsB.new w 79 #[.int .u32 (E wd p), .int .i64 p.length])
  go_enter Try.func33, Try.ntmps33
  go_upto_region 1 with fail
  generalize w.alloc (.cells #[.int .u32 (E wd p), .int .i64 p.length] 79) = w1 at *
  obtain ⟨z, hz⟩ : ∃ z, z = w.heap.size := ⟨_, rfl⟩
  have Lz := Lib.hid (show w.heap.size ≤ z by rw [hz]; exact Nat.le_refl _)
  rw [← hz] at B1 ⊢
  clear hz
  have b0 := B1.out.cell 0
  have b1 := B1.out.cell 1
  dsimp at b0 b1
  go_wp2_with fail
  refine (PL.out _ G1.out).mono ?_
  rintro e w2 ⟨rfl, g⟩
  have G2 := Lib.hid (gb_trans G1.out g)
  have B2 := Lib.hid (B1.out.keep0 g)
  clear g b0 b1
  have c := CC.out _ G2.out
  have d0 := B2.out.cell 0
  have d1 := B2.out.cell 1
  dsimp at d0 d1
  cases S with
  | nil =>
    rw [show ptr Tr.nil = .pointer none from rfl] at c
    go_upto_region 3 with fail
    go_quiet (fail)
    have G3 := Lib.hid (gb_trans G2.out (gb_drewN w2 nq none))
    have c3 := CC.out _ G3.out
    rw [show ptr Tr.nil = .pointer none from rfl] at c3
    have GA := Lib.hid (gb_trans G3.out (gb_alloc (w2.drewN nq) (.cells #[.int .u32 (E wd p), .int .i64 p.length, .bool false, .int .i64 0, .pointer none, .pointer none] 82) none))
    have cA := CC.out _ GA.out
    rw [show ptr Tr.nil = .pointer none from rfl] at cA
    have fA := (HB.out.keep0 GA.out).free P2
    have NA := Lib.hid (IsB.new (w2.drewN nq) 82 #[.int .u32 (E wd p), .int .i64 p.length, .bool false, .int .i64 0, .pointer none, .pointer none])
    go_wp2
    go_ret
    have GAs := GA.out.size
    have ha : w.heap.size ≤ w2.heap.size := Nat.le_trans G2.out.size (Nat.le_refl _)
    obtain ⟨r1, r2⟩ := HG.out _ (.node w2.heap.size p false 0 .nil .nil) [w2.heap.size] (Up.grow GA.out Up.of) ⟨NA.out.set_far (by have := PLT.out; show w2.heap.size ≠ P1; omega) P2 _, trivial, trivial⟩ (by simp [blks]) (by simp) (by simpa using ha) rfl (KO.out w2.heap.size w2.heap.size)
    exact ⟨w2.heap.size, w2.heap.size, rfl, r1, r2, ha, ha⟩
  | node b q1 st x l r =>
    rw [show ptr (.node b q1 st x l r) = .pointer (some ⟨b, 0, none⟩) from rfl] at c
    have n0 := (TS.out.1.keep0 G2.out).cell 0
    have n1 := (TS.out.1.keep0 G2.out).cell 1
    dsimp at n0 n1
    by_cases hq : q1 = p
    · subst hq
      go_upto_region 3 with fail
      go_quiet (fail)
      have G3 := Lib.hid (gb_trans G2.out (gb_drewN w2 nq none))
      go_wp2
      go_ret
      refine ⟨w.heap.size, w.heap.size, by simp [gblk], ?_, Fx.of G3.out, Nat.le_refl _, Nat.le_refl _⟩
      rw [show graft w.heap.size w.heap.size q1 (.node b q1 st x l r) = .node b q1 st x l r by simp [graft], PS.out]
      exact HH.out.keep0 G3.out
    · have X := fun W => cmp_no (eq := E wd q1) (e := E wd p) (ql := q1.length) (pl := p.length) (by
        rcases ne_parts HP.out SO.out.2.1 hq with k | ⟨_, k⟩
        · exact .inr (by omega)
        · exact .inl k) W
      go_upto_region 3 with fail
      go_quiet (fail)
      have G3 := Lib.hid (gb_trans G2.out (gb_drewN w2 nq none))
      have GA := Lib.hid (gb_trans G3.out (gb_alloc (w2.drewN nq) (.cells #[.int .u32 (E wd p), .int .i64 p.length, .bool false, .int .i64 0, .pointer none, .pointer none] 82) none))
      have cA := CC.out _ GA.out
      rw [show ptr (.node b q1 st x l r) = .pointer (some ⟨b, 0, none⟩) from rfl] at cA
      have fA := (HB.out.keep0 GA.out).free P2
      have NA0 := Lib.hid (IsB.new (w2.drewN nq) 82 #[.int .u32 (E wd p), .int .i64 p.length, .bool false, .int .i64 0, .pointer none, .pointer none])
      go_upto_region 9 with fail
      obtain ⟨a, hae⟩ : ∃ x, x = w2.heap.size := ⟨_, rfl⟩
      have AL := Lib.hid (show w.heap.size ≤ a by rw [hae]; exact G2.out.size)
      have UP5 := Lib.hid (Up.grow GA.out (Up.of (g := P1) (i := P2) (v := .pointer (some ⟨a, 0, none⟩)) (w := (w2.drewN nq).alloc (.cells #[.int .u32 (E wd p), .int .i64 p.length, .bool false, .int .i64 0, .pointer none, .pointer none] 82))))
      have NA5 := Lib.hid (show IsB (((w2.drewN nq).alloc (.cells #[.int .u32 (E wd p), .int .i64 p.length, .bool false, .int .i64 0, .pointer none, .pointer none] 82)).setCell ⟨P1, P2, none⟩ (.pointer (some ⟨a, 0, none⟩))) a 82 #[.int .u32 (E wd p), .int .i64 p.length, .bool false, .int .i64 0, .pointer none, .pointer none] by
        rw [hae]
        exact NA0.out.set_far (by have := PLT.out; have := G2.out.size; show w2.heap.size ≠ P1; omega) P2 _)
      have BZ5 := Lib.hid (show IsB (((w2.drewN nq).alloc (.cells #[.int .u32 (E wd p), .int .i64 p.length, .bool false, .int .i64 0, .pointer none, .pointer none] 82)).setCell ⟨P1, P2, none⟩ (.pointer (some ⟨a, 0, none⟩))) z 79 #[.int .u32 (E wd p), .int .i64 p.length] from ((B2.out.keep0 (gb_trans (gb_drewN w2 nq none) (gb_alloc _ _ none))).set_far (by have := PLT.out; have := Lz.out; omega) P2 _))
      rw [← hae]
      generalize ((w2.drewN nq).alloc (.cells #[.int .u32 (E wd p), .int .i64 p.length, .bool false, .int .i64 0, .pointer none, .pointer none] 82)).setCell ⟨P1, P2, none⟩ (.pointer (some ⟨a, 0, none⟩)) = w5 at *
      clear hae NA0 cA fA X d0 d1 n0 n1 c B2 GA G3 CC
      have SZ5 := Lib.hid UP5.out.fx.size
      have TB5 := Lib.hid (UP5.out.fx.tn TS.out (fun g m e => HS.out (by rw [← e]; exact m)))
      have SC := Lib.hid (fun (W : World) (k : w5.grownBy W none) => (k.cell (UP5.out.other HB.out HC.out HH.out.sv (HH.out.sv.cell 0) (by simp [ptr])) (by simp) : W.cell? ⟨s, 0, none⟩ = some (.int .i64 wd)))
      have CM := Lib.hid (fun (W : World) (k : w5.grownBy W none) => common_any W s wd p q1 (SC.out W k) HH.out.w1 HH.out.w2 HP.out SO.out.2.1)
      unfold RetP at CM
      have BITS := Lib.hid (fun (W : World) (k : W.cell? ⟨s, 0, none⟩ = some (.int .i64 wd)) (u : List Bool) (hu : u.length ≤ wd) (j : Nat) (hj : j ≤ wd) (c : Bool) (hc : u.getD j false = c) => show Calls Try.prog 42 #[.pointer (some ⟨s, 0, none⟩), .int .u32 (E wd u), .int .i64 j] W (RetV (.int .u32 (kI c)) W) from bit_any W s wd (enc wd u) j c (by rw [bits_pad hu]; exact hc) k HH.out.w1 HH.out.w2 (enc_lt wd u) hj)
      unfold RetV at BITS
      have LLE := Lib.hid (lcp_len p q1)
      have HL := Lib.hid (halt_len (p := p) HT.out)
      have LNX := Lib.hid (lcp_next p q1)
      have HQ := Lib.hid hq
      obtain ⟨L, hL⟩ : ∃ x, x = lcp p q1 := ⟨_, rfl⟩
      have HLL := Lib.hid hL
      rw [← hL] at CM LLE HL LNX
      clear hq hL
      go_cut [8] from 36 to 42 (fun s8 wx => ∃ y : Nat, s8 = .pointer (some ⟨y, 0, none⟩) ∧ IsB wx y 79 #[.int .u32 (E wd L), .int .i64 L.length] ∧ w5.grownBy wx none ∧ w5.heap.size ≤ y)
      case first =>
        have KS := Lib.hid (fun (w' : World) (q0 : w5.grownBy w' none) => (⟨(BZ5.out.keep0 q0).cell 0, (BZ5.out.keep0 q0).cell 1, (TB5.out.1.keep0 q0).cell 0, (TB5.out.1.keep0 q0).cell 1, q0⟩ : (fun w' : World => w'.cell? ⟨z, 0, none⟩ = some (.int .u32 (E wd p)) ∧ w'.cell? ⟨z, 1, none⟩ = some (.int .i64 p.length) ∧ w'.cell? ⟨b, 0, none⟩ = some (.int .u32 (E wd q1)) ∧ w'.cell? ⟨b, 1, none⟩ = some (.int .i64 q1.length) ∧ w5.grownBy w' none) w'))
        have H0 := Lib.hid (gb_drew w5 none)
        refine wp_region_held_drew (S := (fun w' : World => w'.cell? ⟨z, 0, none⟩ = some (.int .u32 (E wd p)) ∧ w'.cell? ⟨z, 1, none⟩ = some (.int .i64 p.length) ∧ w'.cell? ⟨b, 0, none⟩ = some (.int .u32 (E wd q1)) ∧ w'.cell? ⟨b, 1, none⟩ = some (.int .i64 q1.length) ∧ w5.grownBy w' none)) (by kernel_rfl) (KS.out _ H0.out) (fun hH0 => ?_)
        refine wpAnyH_take (i := 0) (v := ?v1) rfl (by kernel_rfl) (by kernel_rfl) (by kernel_rfl) (fun _ _ _ h => h) (Or.inl ⟨by rfl, ?hy1⟩) (by assumption) ?rest1
        case hy1 => (intro wz hSw; (try dsimp only at hSw); first | (go_simp; done) | (go_simp; with_reducible rfl))
        try simp only [Act.put, List.getElem_toArray, List.getElem_cons_zero, List.setIfInBounds_toArray, List.set_cons_zero, List.set_cons_succ]
        refine wpAnyH_take (i := 1) (v := ?v2) rfl (by kernel_rfl) (by kernel_rfl) (by kernel_rfl) (fun _ _ _ h => h) (Or.inl ⟨by rfl, ?hy2⟩) (by assumption) ?rest2
        case hy2 => (intro wz hSw; (try dsimp only at hSw); first | (go_simp; done) | (go_simp; with_reducible rfl))
        try simp only [Act.put, List.getElem_toArray, List.getElem_cons_succ, List.getElem_cons_zero, List.setIfInBounds_toArray, List.set_cons_zero, List.set_cons_succ]
        refine wpAnyH_take (i := 2) (v := ?v3) rfl (by kernel_rfl) (by kernel_rfl) (by kernel_rfl) (fun _ _ _ h => h) (Or.inl ⟨by rfl, ?hy3⟩) (by assumption) ?rest3
        case hy3 => (intro wz hSw; (try dsimp only at hSw); first | (go_simp; done) | (go_simp; with_reducible rfl))
        try simp only [Act.put, List.getElem_toArray, List.getElem_cons_succ, List.getElem_cons_zero, List.setIfInBounds_toArray, List.set_cons_zero, List.set_cons_succ]
        refine wpAnyH_take (i := 3) (v := ?v4) rfl (by kernel_rfl) (by kernel_rfl) (by kernel_rfl) (fun _ _ _ h => h) (Or.inl ⟨by rfl, ?hy4⟩) (by assumption) ?rest4
        case hy4 => (intro wz hSw; (try dsimp only at hSw); first | (go_simp; done) | (go_simp; with_reducible rfl))
        try simp only [Act.put, List.getElem_toArray, List.getElem_cons_succ, List.getElem_cons_zero, List.setIfInBounds_toArray, List.set_cons_zero, List.set_cons_succ]
        refine wpAnyH_take (i := 4) (v := ?v5) rfl (by kernel_rfl) (by kernel_rfl) (by kernel_rfl) (fun _ _ _ h => h) (Or.inl ⟨by rfl, ?hy5⟩) (by assumption) ?rest5
        case hy5 => (intro wz hSw; (try dsimp only at hSw); first | (go_simp; done) | (go_simp; with_reducible rfl))
        try simp only [Act.put, List.getElem_toArray, List.getElem_cons_succ, List.getElem_cons_zero, List.setIfInBounds_toArray, List.set_cons_zero, List.set_cons_succ]
        refine wpAnyH_take (i := 5) (v := ?v6) rfl (by kernel_rfl) (by kernel_rfl) (by kernel_rfl) (fun _ _ _ h => h) (Or.inl ⟨by rfl, ?hy6⟩) (by assumption) ?rest6
        case hy6 => (intro wz hSw; (try dsimp only at hSw); first | (go_simp; done) | (go_simp; with_reducible rfl))
        try simp only [Act.put, List.getElem_toArray, List.getElem_cons_succ, List.getElem_cons_zero, List.setIfInBounds_toArray, List.set_cons_zero, List.set_cons_succ]
        refine wpAnyH_ready (rs := [6, 7]) (by kernel_rfl) (by simp) ?_
        refine AllReadyH.cons (o := _) rfl (fun K hK => ?_) (AllReadyH.cons (o := _) rfl (fun K hK => ?_) AllReadyH.nil)
        · go_simp
          (with_reducible refine (CM.out _ H0.out).mono ?_)
          rintro e hw1 ⟨rfl, g⟩
          have H1 := Lib.hid (gb_trans H0.out g)
          clear g
          try dsimp only
          refine hK.out _ _ (KS.out _ H1.out) (fun hH1 => ?_)
          clear hK K hH0
          try simp only [Act.put, List.getElem_toArray, List.getElem_cons_succ, List.getElem_cons_zero, List.setIfInBounds_toArray, List.set_cons_zero, List.set_cons_succ]
          refine wpAnyH_ready (rs := [7]) (by kernel_rfl) (by simp) ?_
          refine AllReadyH.cons (o := _) rfl (fun K hK => ?_) AllReadyH.nil
          go_simp
          try dsimp only
          refine hK.out _ _ (KS.out _ (gb_trans H1.out (gb_alloc _ _ none))) (fun hH2 => ?_)
          clear hK K hH1
          try simp only [Act.put, List.getElem_toArray, List.getElem_cons_succ, List.getElem_cons_zero, List.setIfInBounds_toArray, List.set_cons_zero, List.set_cons_succ]
          have I := Lib.hid (IsB.new hw1 79 #[.int .u32 0, .int .i64 0])
          have H2 := Lib.hid (gb_trans H1.out (gb_alloc hw1 (.cells #[.int .u32 0, .int .i64 0] 79) none))
          have le := H1.out.size
          have i0 := I.out.cell 0
          have i1 := I.out.cell 1
          have f0 := I.out.free 0
          have f1 := I.out.free 1
          dsimp at i0 i1
          refine wpAnyH_ready (rs := [8]) (by kernel_rfl) (by simp) ?_
          refine AllReadyH.cons (o := _) rfl (fun K hK => ?_) AllReadyH.nil
          go_simp
          try dsimp only
          refine hK.out _ _ (KS.out _ (gb_trans H1.out (gb_alloc _ _ none))) (fun hH3 => ?_)
          clear hK K hH2
          try simp only [Act.put, List.getElem_toArray, List.getElem_cons_succ, List.getElem_cons_zero, List.setIfInBounds_toArray, List.set_cons_zero, List.set_cons_succ]
          refine wpAnyH_done (by kernel_rfl) ?_ _
          clear hH3
          go_wp2_with fail
          go_meet
          exact ⟨_, rfl, IsB.new _ _ _, gb_trans H1.out (gb_alloc _ _ none), le⟩
        · go_simp
          try dsimp only
          refine hK.out _ _ (KS.out _ (gb_trans H0.out (gb_alloc _ _ none))) (fun hH1 => ?_)
          clear hK K hH0
          try simp only [Act.put, List.getElem_toArray, List.getElem_cons_succ, List.getElem_cons_zero, List.setIfInBounds_toArray, List.set_cons_zero, List.set_cons_succ]
          have I0 := Lib.hid ((IsB.new w5 79 #[.int .u32 0, .int .i64 0]).keep0 (gb_drew _ none))
          have H1 := Lib.hid (gb_trans (gb_alloc w5 (.cells #[.int .u32 0, .int .i64 0] 79) none) (gb_drew _ none))
          have le := H0.out.size
          refine wpAnyH_ready (rs := [6]) (by kernel_rfl) (by simp) ?_
          refine AllReadyH.cons (o := _) rfl (fun K hK => ?_) AllReadyH.nil
          go_simp
          (with_reducible refine (CM.out _ H1.out).mono ?_)
          rintro e hw2 ⟨rfl, g⟩
          have H2 := Lib.hid (gb_trans H1.out g)
          have I := Lib.hid (I0.out.keep0 g)
          clear g
          try dsimp only
          refine hK.out _ _ (KS.out _ H2.out) (fun hH2 => ?_)
          clear hK K hH1
          try simp only [Act.put, List.getElem_toArray, List.getElem_cons_succ, List.getElem_cons_zero, List.setIfInBounds_toArray, List.set_cons_zero, List.set_cons_succ]
          have i0 := I.out.cell 0
          have i1 := I.out.cell 1
          have f0 := I.out.free 0
          have f1 := I.out.free 1
          dsimp at i0 i1
          refine wpAnyH_ready (rs := [8]) (by kernel_rfl) (by simp) ?_
          refine AllReadyH.cons (o := _) rfl (fun K hK => ?_) AllReadyH.nil
          go_simp
          try dsimp only
          refine hK.out _ _ (KS.out _ (gb_put (gb_put H2.out le) le)) (fun hH3 => ?_)
          clear hK K hH2
          try simp only [Act.put, List.getElem_toArray, List.getElem_cons_succ, List.getElem_cons_zero, List.setIfInBounds_toArray, List.set_cons_zero, List.set_cons_succ]
          refine wpAnyH_done (by kernel_rfl) ?_ _
          clear hH3
          go_wp2_with fail
          go_meet
          exact ⟨_, rfl, (I.out.set 0 _).set 1 _, gb_put (gb_put H2.out le) le, le⟩
      case rest =>
        obtain ⟨y, rfl, iy, gy, ly⟩ := hcut
        have IY := Lib.hid iy
        have GY := Lib.hid gy
        have LY := Lib.hid ly
        have SCY := Lib.hid (SC.out wc gy)
        have UPC := Lib.hid (UP5.out.more gy)
        have NAC := Lib.hid (NA5.out.keep0 gy)
        have BZC := Lib.hid (BZ5.out.keep0 gy)
        have TBC := Lib.hid (TB5.out.keep0 gy)
        have CP := Lib.hid (UPC.out.cell HB.out HC.out)
        have z0 := BZC.out.cell 0
        have z1 := BZC.out.cell 1
        have y0 := IY.out.cell 0
        have y1 := IY.out.cell 1
        dsimp at z0 z1 y0 y1
        clear iy gy ly UP5 NA5 BZ5 TB5
        have ANB := Lib.hid (show a ∉ blks (.node b q1 st x l r) from fun m => by have := TS.out.lt a m; have := AL.out; omega)
        by_cases hl : L = p
        · subst hl
          go_upto_region 14 with fail
          cases hb : q1.getD L.length false
          · have SCX := SCY
            have UPX := UPC
            have NAX := NAC
            have TBX := TBC
            have IYX := IY
            have BT := Lib.hid (fun (W : World) (k : wc.grownBy W none) => show Calls Try.prog 42 #[.pointer (some ⟨s, 0, none⟩), .int .u32 (E wd q1), .int .i64 L.length] W (fun e w' => e = .returned (.int .u32 0) ∧ W.grownBy w' none) from BITS.out W (k.cell SCX.out (by simp)) q1 SO.out.2.1 L.length (Nat.le_trans LLE.out.1 HP.out) false hb)
            have GE := Lib.hid (show graft a a L (.node b q1 st x l r) = .node a L false 0 (.node b q1 st x l r) .nil by simp only [graft]; rw [if_neg HQ.out, if_pos HLL.out.symm, hb]; rfl)
            clear hb
            go_upto_region 14 with fail
            have hF0 : (fun w' : World => w'.cell? ⟨P1, P2, none⟩ = some (.pointer (some ⟨a, 0, none⟩)) ∧ w'.cell? ⟨b, 0, none⟩ = some (.int .u32 (E wd q1)) ∧ w'.cell? ⟨y, 1, none⟩ = some (.int .i64 L.length)) wc.drew := ⟨(UPX.out.more (gb_drew _ none)).cell HB.out HC.out, (TBX.out.1.keep0 (gb_drew _ none)).cell 0, (IYX.out.keep0 (gb_drew _ none)).cell 1⟩
            refine wp_region_S (fun w' : World => w'.cell? ⟨P1, P2, none⟩ = some (.pointer (some ⟨a, 0, none⟩)) ∧ w'.cell? ⟨b, 0, none⟩ = some (.int .u32 (E wd q1)) ∧ w'.cell? ⟨y, 1, none⟩ = some (.int .i64 L.length)) 16 (by kernel_rfl) ?_
            refine wpAnyS_pure (i := 0) (v := ?v7) rfl (by kernel_rfl) (by kernel_rfl) (by kernel_rfl) (by decide) (fun _ _ _ h => h) (Or.inl ⟨by rfl, ?hy7⟩) (Or.inr (by assumption)) ?rest7
            case hy7 => (intro wz hSw; (try dsimp only at hSw); first | (go_simp; done) | (go_simp; with_reducible rfl))
            try simp only [Act.put, List.getElem_toArray, List.getElem_cons_zero, List.setIfInBounds_toArray, List.set_cons_zero, List.set_cons_succ]
            refine wpAnyS_pure (i := 1) (v := ?v8) rfl (by kernel_rfl) (by kernel_rfl) (by kernel_rfl) (by decide) (fun _ _ _ h => h) (Or.inl ⟨by rfl, ?hy8⟩) (Or.inr (by assumption)) ?rest8
            case hy8 => (intro wz hSw; (try dsimp only at hSw); first | (go_simp; done) | (go_simp; with_reducible rfl))
            try simp only [Act.put, List.getElem_toArray, List.getElem_cons_succ, List.getElem_cons_zero, List.setIfInBounds_toArray, List.set_cons_zero, List.set_cons_succ]
            refine wpAnyS_load 15 (i := 2) (v := ?v9) rfl (by kernel_rfl) (by kernel_rfl) (by kernel_rfl) (by kernel_rfl) (fun _ _ _ h => h) (Or.inl ⟨by rfl, ?hy9⟩) (by assumption) ?rest9
            case hy9 => (intro wz hSw; (try dsimp only at hSw); first | (go_simp; done) | (go_simp; with_reducible rfl))
            try simp only [Act.put, List.getElem_toArray, List.getElem_cons_succ, List.getElem_cons_zero, List.setIfInBounds_toArray, List.set_cons_zero, List.set_cons_succ]
            refine wpAnyS_pure (i := 3) (v := ?v10) rfl (by kernel_rfl) (by kernel_rfl) (by kernel_rfl) (by decide) (fun _ _ _ h => h) (Or.inl ⟨by rfl, ?hy10⟩) (Or.inr (by assumption)) ?rest10
            case hy10 => (intro wz hSw; (try dsimp only at hSw); first | (go_simp; done) | (go_simp; with_reducible rfl))
            try simp only [Act.put, List.getElem_toArray, List.getElem_cons_succ, List.getElem_cons_zero, List.setIfInBounds_toArray, List.set_cons_zero, List.set_cons_succ]
            refine wpAnyS_pure (i := 4) (v := ?v11) rfl (by kernel_rfl) (by kernel_rfl) (by kernel_rfl) (by decide) (fun _ _ _ h => h) (Or.inl ⟨by rfl, ?hy11⟩) (Or.inr (by assumption)) ?rest11
            case hy11 => (intro wz hSw; (try dsimp only at hSw); first | (go_simp; done) | (go_simp; with_reducible rfl))
            try simp only [Act.put, List.getElem_toArray, List.getElem_cons_succ, List.getElem_cons_zero, List.setIfInBounds_toArray, List.set_cons_zero, List.set_cons_succ]
            refine wpAnyS_pure (i := 5) (v := ?v12) rfl (by kernel_rfl) (by kernel_rfl) (by kernel_rfl) (by decide) (fun _ _ _ h => h) (Or.inl ⟨by rfl, ?hy12⟩) (Or.inr (by assumption)) ?rest12
            case hy12 => (intro wz hSw; (try dsimp only at hSw); first | (go_simp; done) | (go_simp; with_reducible rfl))
            try simp only [Act.put, List.getElem_toArray, List.getElem_cons_succ, List.getElem_cons_zero, List.setIfInBounds_toArray, List.set_cons_zero, List.set_cons_succ]
            refine wpAnyS_pure (i := 6) (v := ?v13) rfl (by kernel_rfl) (by kernel_rfl) (by kernel_rfl) (by decide) (fun _ _ _ h => h) (Or.inl ⟨by rfl, ?hy13⟩) (Or.inr (by assumption)) ?rest13
            case hy13 => (intro wz hSw; (try dsimp only at hSw); first | (go_simp; done) | (go_simp; with_reducible rfl))
            try simp only [Act.put, List.getElem_toArray, List.getElem_cons_succ, List.getElem_cons_zero, List.setIfInBounds_toArray, List.set_cons_zero, List.set_cons_succ]
            refine wpAnyS_pure (i := 7) (v := ?v14) rfl (by kernel_rfl) (by kernel_rfl) (by kernel_rfl) (by decide) (fun _ _ _ h => h) (Or.inl ⟨by rfl, ?hy14⟩) (Or.inr (by assumption)) ?rest14
            case hy14 => (intro wz hSw; (try dsimp only at hSw); first | (go_simp; done) | (go_simp; with_reducible rfl))
            try simp only [Act.put, List.getElem_toArray, List.getElem_cons_succ, List.getElem_cons_zero, List.setIfInBounds_toArray, List.set_cons_zero, List.set_cons_succ]
            refine wpAnyS_load 11 (i := 8) (v := ?v15) rfl (by kernel_rfl) (by kernel_rfl) (by kernel_rfl) (by kernel_rfl) (fun _ _ _ h => h) (Or.inl ⟨by rfl, ?hy15⟩) (by assumption) ?rest15
            case hy15 => (intro wz hSw; (try dsimp only at hSw); first | (go_simp; done) | (go_simp; with_reducible rfl))
            try simp only [Act.put, List.getElem_toArray, List.getElem_cons_succ, List.getElem_cons_zero, List.setIfInBounds_toArray, List.set_cons_zero, List.set_cons_succ]
            refine wpAnyS_pure (i := 9) (v := ?v16) rfl (by kernel_rfl) (by kernel_rfl) (by kernel_rfl) (by decide) (fun _ _ _ h => h) (Or.inl ⟨by rfl, ?hy16⟩) (Or.inr (by assumption)) ?rest16
            case hy16 => (intro wz hSw; (try dsimp only at hSw); first | (go_simp; done) | (go_simp; with_reducible rfl))
            try simp only [Act.put, List.getElem_toArray, List.getElem_cons_succ, List.getElem_cons_zero, List.setIfInBounds_toArray, List.set_cons_zero, List.set_cons_succ]
            refine wpAnyS_load 11 (i := 10) (v := ?v17) rfl (by kernel_rfl) (by kernel_rfl) (by kernel_rfl) (by kernel_rfl) (fun _ _ _ h => h) (Or.inl ⟨by rfl, ?hy17⟩) (by assumption) ?rest17
            case hy17 => (intro wz hSw; (try dsimp only at hSw); first | (go_simp; done) | (go_simp; with_reducible rfl))
            try simp only [Act.put, List.getElem_toArray, List.getElem_cons_succ, List.getElem_cons_zero, List.setIfInBounds_toArray, List.set_cons_zero, List.set_cons_succ]
            refine wpAnyS_pure (i := 12) (v := ?v18) rfl (by kernel_rfl) (by kernel_rfl) (by kernel_rfl) (by decide) (fun _ _ _ h => h) (Or.inl ⟨by rfl, ?hy18⟩) (Or.inr (by assumption)) ?rest18
            case hy18 => (intro wz hSw; (try dsimp only at hSw); first | (go_simp; done) | (go_simp; with_reducible rfl))
            try simp only [Act.put, List.getElem_toArray, List.getElem_cons_succ, List.getElem_cons_zero, List.setIfInBounds_toArray, List.set_cons_zero, List.set_cons_succ]
            refine wpAnyS_pure (i := 13) (v := ?v19) rfl (by kernel_rfl) (by kernel_rfl) (by kernel_rfl) (by decide) (fun _ _ _ h => h) (Or.inl ⟨by rfl, ?hy19⟩) (Or.inr (by assumption)) ?rest19
            case hy19 => (intro wz hSw; (try dsimp only at hSw); first | (go_simp; done) | (go_simp; with_reducible rfl))
            try simp only [Act.put, List.getElem_toArray, List.getElem_cons_succ, List.getElem_cons_zero, List.setIfInBounds_toArray, List.set_cons_zero, List.set_cons_succ]
            refine wpAnyS_pure (i := 14) (v := ?v20) rfl (by kernel_rfl) (by kernel_rfl) (by kernel_rfl) (by decide) (fun _ _ _ h => h) (Or.inl ⟨by rfl, ?hy20⟩) (Or.inr (by assumption)) ?rest20
            case hy20 => (intro wz hSw; (try dsimp only at hSw); first | (go_simp; done) | (go_simp; with_reducible rfl))
            try simp only [Act.put, List.getElem_toArray, List.getElem_cons_succ, List.getElem_cons_zero, List.setIfInBounds_toArray, List.set_cons_zero, List.set_cons_succ]
            refine wpAnyS_one (i := 11) (o := _) (by kernel_rfl) rfl (fun K hK => ?_)
            go_simp
            (with_reducible refine (BT.out _ (gb_drew wc none)).mono ?_)
            rintro e jw1 ⟨rfl, g⟩
            have GJ := Lib.hid (gb_trans (gb_drew wc none) g)
            have UP2 := Lib.hid (UPX.out.more GJ.out)
            have NA2 := Lib.hid (NAX.out.keep0 GJ.out)
            have f4 := NA2.out.free 4
            have c4 := NA2.out.cell 4
            dsimp at c4
            clear g
            clear hF0
            have hF1 : (fun w' : World => w'.cell? ⟨P1, P2, none⟩ = some (.pointer (some ⟨a, 0, none⟩)) ∧ w'.cell? ⟨b, 0, none⟩ = some (.int .u32 (E wd q1)) ∧ w'.cell? ⟨y, 1, none⟩ = some (.int .i64 L.length)) jw1 := ⟨UP2.out.cell HB.out HC.out, (TBX.out.1.keep0 GJ.out).cell 0, (IYX.out.keep0 GJ.out).cell 1⟩
            try dsimp only
            refine hK.out _ _ (Or.inr hF1) (fun _ => ?_)
            clear hK K
            try simp only [Act.put, List.getElem_toArray, List.getElem_cons_succ, List.getElem_cons_zero, List.setIfInBounds_toArray, List.set_cons_zero, List.set_cons_succ]
            refine wpAnyS_pure (i := 15) (v := ?v21) rfl (by kernel_rfl) (by kernel_rfl) (by kernel_rfl) (by decide) (fun _ _ _ h => h) (Or.inl ⟨by rfl, ?hy21⟩) (Or.inr (by assumption)) ?rest21
            case hy21 => (intro wz hSw; (try dsimp only at hSw); first | (go_simp; done) | (go_simp; with_reducible rfl))
            try simp only [Act.put, List.getElem_toArray, List.getElem_cons_succ, List.getElem_cons_zero, List.setIfInBounds_toArray, List.set_cons_zero, List.set_cons_succ]
            refine wpAnyS_one (i := 16) (o := _) (by kernel_rfl) rfl (fun K hK => ?_)
            go_simp
            refine hK.out _ _ (Or.inl (by kernel_rfl)) (fun _ => ?_)
            clear hK K
            try simp only [Act.put, List.getElem_toArray, List.getElem_cons_succ, List.getElem_cons_zero, List.setIfInBounds_toArray, List.set_cons_zero, List.set_cons_succ]
            refine wpAnyS_done (by kernel_rfl) ?_ _
            clear hF1
            go_wp2
            go_ret
            obtain ⟨r1, r2⟩ := HG.out _ (.node a L false 0 (.node b q1 st x l r) .nil) [a] (UP2.out.far (k := a) (j := 4) (u := .pointer (some ⟨b, 0, none⟩)) AL.out PLT.out) ⟨by simpa [ptr] using NA2.out.set 4 (.pointer (some ⟨b, 0, none⟩)), (TBC.out.keep0 GJ.out).far ANB.out, trivial⟩ (by simp [blks]) (by simp) (by simpa using AL.out) (by simp [ents]) (by rw [← GE.out]; exact KO.out a a)
            exact ⟨a, a, by rw [show gblk a L (.node b q1 st x l r) = a from if_neg HQ.out]; rfl, by rw [GE.out]; exact r1, r2, AL.out, AL.out⟩
          · have SCX := SCY
            have UPX := UPC
            have NAX := NAC
            have TBX := TBC
            have IYX := IY
            have BT := Lib.hid (fun (W : World) (k : wc.grownBy W none) => show Calls Try.prog 42 #[.pointer (some ⟨s, 0, none⟩), .int .u32 (E wd q1), .int .i64 L.length] W (fun e w' => e = .returned (.int .u32 1) ∧ W.grownBy w' none) from BITS.out W (k.cell SCX.out (by simp)) q1 SO.out.2.1 L.length (Nat.le_trans LLE.out.1 HP.out) true hb)
            have GE := Lib.hid (show graft a a L (.node b q1 st x l r) = .node a L false 0 .nil (.node b q1 st x l r) by simp only [graft]; rw [if_neg HQ.out, if_pos HLL.out.symm, hb]; rfl)
            clear hb
            go_upto_region 14 with fail
            have hF0 : (fun w' : World => w'.cell? ⟨P1, P2, none⟩ = some (.pointer (some ⟨a, 0, none⟩)) ∧ w'.cell? ⟨b, 0, none⟩ = some (.int .u32 (E wd q1)) ∧ w'.cell? ⟨y, 1, none⟩ = some (.int .i64 L.length)) wc.drew := ⟨(UPX.out.more (gb_drew _ none)).cell HB.out HC.out, (TBX.out.1.keep0 (gb_drew _ none)).cell 0, (IYX.out.keep0 (gb_drew _ none)).cell 1⟩
            refine wp_region_S (fun w' : World => w'.cell? ⟨P1, P2, none⟩ = some (.pointer (some ⟨a, 0, none⟩)) ∧ w'.cell? ⟨b, 0, none⟩ = some (.int .u32 (E wd q1)) ∧ w'.cell? ⟨y, 1, none⟩ = some (.int .i64 L.length)) 16 (by kernel_rfl) ?_
            refine wpAnyS_pure (i := 0) (v := ?v22) rfl (by kernel_rfl) (by kernel_rfl) (by kernel_rfl) (by decide) (fun _ _ _ h => h) (Or.inl ⟨by rfl, ?hy22⟩) (Or.inr (by assumption)) ?rest22
            case hy22 => (intro wz hSw; (try dsimp only at hSw); first | (go_simp; done) | (go_simp; with_reducible rfl))
            try simp only [Act.put, List.getElem_toArray, List.getElem_cons_zero, List.setIfInBounds_toArray, List.set_cons_zero, List.set_cons_succ]
            refine wpAnyS_pure (i := 1) (v := ?v23) rfl (by kernel_rfl) (by kernel_rfl) (by kernel_rfl) (by decide) (fun _ _ _ h => h) (Or.inl ⟨by rfl, ?hy23⟩) (Or.inr (by assumption)) ?rest23
            case hy23 => (intro wz hSw; (try dsimp only at hSw); first | (go_simp; done) | (go_simp; with_reducible rfl))
            try simp only [Act.put, List.getElem_toArray, List.getElem_cons_succ, List.getElem_cons_zero, List.setIfInBounds_toArray, List.set_cons_zero, List.set_cons_succ]
            refine wpAnyS_load 15 (i := 2) (v := ?v24) rfl (by kernel_rfl) (by kernel_rfl) (by kernel_rfl) (by kernel_rfl) (fun _ _ _ h => h) (Or.inl ⟨by rfl, ?hy24⟩) (by assumption) ?rest24
            case hy24 => (intro wz hSw; (try dsimp only at hSw); first | (go_simp; done) | (go_simp; with_reducible rfl))
            try simp only [Act.put, List.getElem_toArray, List.getElem_cons_succ, List.getElem_cons_zero, List.setIfInBounds_toArray, List.set_cons_zero, List.set_cons_succ]
            refine wpAnyS_pure (i := 3) (v := ?v25) rfl (by kernel_rfl) (by kernel_rfl) (by kernel_rfl) (by decide) (fun _ _ _ h => h) (Or.inl ⟨by rfl, ?hy25⟩) (Or.inr (by assumption)) ?rest25
            case hy25 => (intro wz hSw; (try dsimp only at hSw); first | (go_simp; done) | (go_simp; with_reducible rfl))
            try simp only [Act.put, List.getElem_toArray, List.getElem_cons_succ, List.getElem_cons_zero, List.setIfInBounds_toArray, List.set_cons_zero, List.set_cons_succ]
            refine wpAnyS_pure (i := 4) (v := ?v26) rfl (by kernel_rfl) (by kernel_rfl) (by kernel_rfl) (by decide) (fun _ _ _ h => h) (Or.inl ⟨by rfl, ?hy26⟩) (Or.inr (by assumption)) ?rest26
            case hy26 => (intro wz hSw; (try dsimp only at hSw); first | (go_simp; done) | (go_simp; with_reducible rfl))
            try simp only [Act.put, List.getElem_toArray, List.getElem_cons_succ, List.getElem_cons_zero, List.setIfInBounds_toArray, List.set_cons_zero, List.set_cons_succ]
            refine wpAnyS_pure (i := 5) (v := ?v27) rfl (by kernel_rfl) (by kernel_rfl) (by kernel_rfl) (by decide) (fun _ _ _ h => h) (Or.inl ⟨by rfl, ?hy27⟩) (Or.inr (by assumption)) ?rest27
            case hy27 => (intro wz hSw; (try dsimp only at hSw); first | (go_simp; done) | (go_simp; with_reducible rfl))
            try simp only [Act.put, List.getElem_toArray, List.getElem_cons_succ, List.getElem_cons_zero, List.setIfInBounds_toArray, List.set_cons_zero, List.set_cons_succ]
            refine wpAnyS_pure (i := 6) (v := ?v28) rfl (by kernel_rfl) (by kernel_rfl) (by kernel_rfl) (by decide) (fun _ _ _ h => h) (Or.inl ⟨by rfl, ?hy28⟩) (Or.inr (by assumption)) ?rest28
            case hy28 => (intro wz hSw; (try dsimp only at hSw); first | (go_simp; done) | (go_simp; with_reducible rfl))
            try simp only [Act.put, List.getElem_toArray, List.getElem_cons_succ, List.getElem_cons_zero, List.setIfInBounds_toArray, List.set_cons_zero, List.set_cons_succ]
            refine wpAnyS_pure (i := 7) (v := ?v29) rfl (by kernel_rfl) (by kernel_rfl) (by kernel_rfl) (by decide) (fun _ _ _ h => h) (Or.inl ⟨by rfl, ?hy29⟩) (Or.inr (by assumption)) ?rest29
            case hy29 => (intro wz hSw; (try dsimp only at hSw); first | (go_simp; done) | (go_simp; with_reducible rfl))
            try simp only [Act.put, List.getElem_toArray, List.getElem_cons_succ, List.getElem_cons_zero, List.setIfInBounds_toArray, List.set_cons_zero, List.set_cons_succ]
            refine wpAnyS_load 11 (i := 8) (v := ?v30) rfl (by kernel_rfl) (by kernel_rfl) (by kernel_rfl) (by kernel_rfl) (fun _ _ _ h => h) (Or.inl ⟨by rfl, ?hy30⟩) (by assumption) ?rest30
            case hy30 => (intro wz hSw; (try dsimp only at hSw); first | (go_simp; done) | (go_simp; with_reducible rfl))
            try simp only [Act.put, List.getElem_toArray, List.getElem_cons_succ, List.getElem_cons_zero, List.setIfInBounds_toArray, List.set_cons_zero, List.set_cons_succ]
            refine wpAnyS_pure (i := 9) (v := ?v31) rfl (by kernel_rfl) (by kernel_rfl) (by kernel_rfl) (by decide) (fun _ _ _ h => h) (Or.inl ⟨by rfl, ?hy31⟩) (Or.inr (by assumption)) ?rest31
            case hy31 => (intro wz hSw; (try dsimp only at hSw); first | (go_simp; done) | (go_simp; with_reducible rfl))
            try simp only [Act.put, List.getElem_toArray, List.getElem_cons_succ, List.getElem_cons_zero, List.setIfInBounds_toArray, List.set_cons_zero, List.set_cons_succ]
            refine wpAnyS_load 11 (i := 10) (v := ?v32) rfl (by kernel_rfl) (by kernel_rfl) (by kernel_rfl) (by kernel_rfl) (fun _ _ _ h => h) (Or.inl ⟨by rfl, ?hy32⟩) (by assumption) ?rest32
            case hy32 => (intro wz hSw; (try dsimp only at hSw); first | (go_simp; done) | (go_simp; with_reducible rfl))
            try simp only [Act.put, List.getElem_toArray, List.getElem_cons_succ, List.getElem_cons_zero, List.setIfInBounds_toArray, List.set_cons_zero, List.set_cons_succ]
            refine wpAnyS_pure (i := 12) (v := ?v33) rfl (by kernel_rfl) (by kernel_rfl) (by kernel_rfl) (by decide) (fun _ _ _ h => h) (Or.inl ⟨by rfl, ?hy33⟩) (Or.inr (by assumption)) ?rest33
            case hy33 => (intro wz hSw; (try dsimp only at hSw); first | (go_simp; done) | (go_simp; with_reducible rfl))
            try simp only [Act.put, List.getElem_toArray, List.getElem_cons_succ, List.getElem_cons_zero, List.setIfInBounds_toArray, List.set_cons_zero, List.set_cons_succ]
            refine wpAnyS_pure (i := 13) (v := ?v34) rfl (by kernel_rfl) (by kernel_rfl) (by kernel_rfl) (by decide) (fun _ _ _ h => h) (Or.inl ⟨by rfl, ?hy34⟩) (Or.inr (by assumption)) ?rest34
            case hy34 => (intro wz hSw; (try dsimp only at hSw); first | (go_simp; done) | (go_simp; with_reducible rfl))
            try simp only [Act.put, List.getElem_toArray, List.getElem_cons_succ, List.getElem_cons_zero, List.setIfInBounds_toArray, List.set_cons_zero, List.set_cons_succ]
            refine wpAnyS_pure (i := 14) (v := ?v35) rfl (by kernel_rfl) (by kernel_rfl) (by kernel_rfl) (by decide) (fun _ _ _ h => h) (Or.inl ⟨by rfl, ?hy35⟩) (Or.inr (by assumption)) ?rest35
            case hy35 => (intro wz hSw; (try dsimp only at hSw); first | (go_simp; done) | (go_simp; with_reducible rfl))
            try simp only [Act.put, List.getElem_toArray, List.getElem_cons_succ, List.getElem_cons_zero, List.setIfInBounds_toArray, List.set_cons_zero, List.set_cons_succ]
            refine wpAnyS_one (i := 11) (o := _) (by kernel_rfl) rfl (fun K hK => ?_)
            go_simp
            (with_reducible refine (BT.out _ (gb_drew wc none)).mono ?_)
            rintro e jw1 ⟨rfl, g⟩
            have GJ := Lib.hid (gb_trans (gb_drew wc none) g)
            have UP2 := Lib.hid (UPX.out.more GJ.out)
            have NA2 := Lib.hid (NAX.out.keep0 GJ.out)
            have f4 := NA2.out.free 5
            have c4 := NA2.out.cell 5
            dsimp at c4
            clear g
            clear hF0
            have hF1 : (fun w' : World => w'.cell? ⟨P1, P2, none⟩ = some (.pointer (some ⟨a, 0, none⟩)) ∧ w'.cell? ⟨b, 0, none⟩ = some (.int .u32 (E wd q1)) ∧ w'.cell? ⟨y, 1, none⟩ = some (.int .i64 L.length)) jw1 := ⟨UP2.out.cell HB.out HC.out, (TBX.out.1.keep0 GJ.out).cell 0, (IYX.out.keep0 GJ.out).cell 1⟩
            try dsimp only
            refine hK.out _ _ (Or.inr hF1) (fun _ => ?_)
            clear hK K
            try simp only [Act.put, List.getElem_toArray, List.getElem_cons_succ, List.getElem_cons_zero, List.setIfInBounds_toArray, List.set_cons_zero, List.set_cons_succ]
            refine wpAnyS_pure (i := 15) (v := ?v36) rfl (by kernel_rfl) (by kernel_rfl) (by kernel_rfl) (by decide) (fun _ _ _ h => h) (Or.inl ⟨by rfl, ?hy36⟩) (Or.inr (by assumption)) ?rest36
            case hy36 => (intro wz hSw; (try dsimp only at hSw); first | (go_simp; done) | (go_simp; with_reducible rfl))
            try simp only [Act.put, List.getElem_toArray, List.getElem_cons_succ, List.getElem_cons_zero, List.setIfInBounds_toArray, List.set_cons_zero, List.set_cons_succ]
            refine wpAnyS_one (i := 16) (o := _) (by kernel_rfl) rfl (fun K hK => ?_)
            go_simp
            refine hK.out _ _ (Or.inl (by kernel_rfl)) (fun _ => ?_)
            clear hK K
            try simp only [Act.put, List.getElem_toArray, List.getElem_cons_succ, List.getElem_cons_zero, List.setIfInBounds_toArray, List.set_cons_zero, List.set_cons_succ]
            refine wpAnyS_done (by kernel_rfl) ?_ _
            clear hF1
            go_wp2
            go_ret
            obtain ⟨r1, r2⟩ := HG.out _ (.node a L false 0 .nil (.node b q1 st x l r)) [a] (UP2.out.far (k := a) (j := 5) (u := .pointer (some ⟨b, 0, none⟩)) AL.out PLT.out) ⟨by simpa [ptr] using NA2.out.set 5 (.pointer (some ⟨b, 0, none⟩)), trivial, (TBC.out.keep0 GJ.out).far ANB.out⟩ (by simp [blks]) (by simp) (by simpa using AL.out) (by simp [ents]) (by rw [← GE.out]; exact KO.out a a)
            exact ⟨a, a, by rw [show gblk a L (.node b q1 st x l r) = a from if_neg HQ.out]; rfl, by rw [GE.out]; exact r1, r2, AL.out, AL.out⟩
        · have X := fun W => cmpn_no (eq := E wd L) (e := E wd p) (ql := L.length) (pl := p.length) (by
            rcases ne_parts HP.out (Nat.le_trans LLE.out.1 HP.out) hl with k | ⟨_, k⟩
            · exact .inr (by omega)
            · exact .inl k) W
          have LN := LNX.out (HL.out hl).1 (HL.out hl).2
          have G8 := Lib.hid (gb_alloc wc (.cells #[.int .u32 (E wd L), .int .i64 L.length, .bool false, .int .i64 0, .pointer none, .pointer none] 82) none)
          have NF8 := Lib.hid (IsB.new wc 82 #[.int .u32 (E wd L), .int .i64 L.length, .bool false, .int .i64 0, .pointer none, .pointer none])
          go_upto_region 12 with fail
          clear X z0 z1 y0 y1
          generalize wc.alloc (.cells #[.int .u32 (E wd L), .int .i64 L.length, .bool false, .int .i64 0, .pointer none, .pointer none] 82) = w8 at *
          obtain ⟨f, hf⟩ : ∃ x, x = wc.heap.size := ⟨_, rfl⟩
          have FL := Lib.hid (show w.heap.size ≤ f by rw [hf]; exact UPC.out.fx.size)
          have AF := Lib.hid (show a ≠ f by have := NAC.out.lt; omega)
          have YF := Lib.hid (show y ≠ f by have := IY.out.lt; omega)
          have YL := Lib.hid (show w.heap.size ≤ y by have := LY.out; have := UPC.out.fx.size; have := Nat.le_trans SZ5.out LY.out; omega)
          have FNB := Lib.hid (show f ∉ blks (.node b q1 st x l r) from fun m => by have := TS.out.lt f m; have := FL.out; omega)
          rw [← hf] at NF8 ⊢
          have UP8 := Lib.hid (UPC.out.more G8.out)
          have NA8 := Lib.hid (NAC.out.keep0 G8.out)
          have BZ8 := Lib.hid (BZC.out.keep0 G8.out)
          have IY8 := Lib.hid (IY.out.keep0 G8.out)
          have TB8 := Lib.hid (TBC.out.keep0 G8.out)
          have SC8 := Lib.hid (G8.out.cell SCY.out (by simp))
          clear hf UPC NAC BZC IY TBC CP SCY
          cases hb : p.getD L.length false
          · have hd : q1.getD L.length false = true := by
              have := LN
              rw [hb] at this
              revert this
              cases q1.getD L.length false <;> simp
            have SCX := SC8
            have BT := Lib.hid (fun (W : World) (k : w8.grownBy W none) => show Calls Try.prog 42 #[.pointer (some ⟨s, 0, none⟩), .int .u32 (E wd p), .int .i64 L.length] W (fun e w' => e = .returned (.int .u32 0) ∧ W.grownBy w' none) from BITS.out W (k.cell SCX.out (by simp)) p HP.out L.length (Nat.le_trans LLE.out.1 HP.out) false hb)
            have GE := Lib.hid (show graft a f p (.node b q1 st x l r) = .node f L false 0 (.node a p false 0 .nil .nil) (.node b q1 st x l r) by simp only [graft]; rw [← HLL.out, if_neg HQ.out, if_neg hl, hb]; rfl)
            have HD := Lib.hid hd
            clear hb hd LN hl SCX
            have hF0 : (fun w' : World => w'.cell? ⟨z, 0, none⟩ = some (.int .u32 (E wd p)) ∧ w'.cell? ⟨y, 1, none⟩ = some (.int .i64 L.length)) w8.drew := ⟨(BZ8.out.keep0 (gb_drew _ none)).cell 0, (IY8.out.keep0 (gb_drew _ none)).cell 1⟩
            refine wp_region_S (fun w' : World => w'.cell? ⟨z, 0, none⟩ = some (.int .u32 (E wd p)) ∧ w'.cell? ⟨y, 1, none⟩ = some (.int .i64 L.length)) 11 (by kernel_rfl) ?_
            refine wpAnyS_pure (i := 0) (v := ?v37) rfl (by kernel_rfl) (by kernel_rfl) (by kernel_rfl) (by decide) (fun _ _ _ h => h) (Or.inl ⟨by rfl, ?hy37⟩) (Or.inr (by assumption)) ?rest37
            case hy37 => (intro wz hSw; (try dsimp only at hSw); first | (go_simp; done) | (go_simp; with_reducible rfl))
            try simp only [Act.put, List.getElem_toArray, List.getElem_cons_zero, List.setIfInBounds_toArray, List.set_cons_zero, List.set_cons_succ]
            refine wpAnyS_pure (i := 1) (v := ?v38) rfl (by kernel_rfl) (by kernel_rfl) (by kernel_rfl) (by decide) (fun _ _ _ h => h) (Or.inl ⟨by rfl, ?hy38⟩) (Or.inr (by assumption)) ?rest38
            case hy38 => (intro wz hSw; (try dsimp only at hSw); first | (go_simp; done) | (go_simp; with_reducible rfl))
            try simp only [Act.put, List.getElem_toArray, List.getElem_cons_succ, List.getElem_cons_zero, List.setIfInBounds_toArray, List.set_cons_zero, List.set_cons_succ]
            refine wpAnyS_pure (i := 2) (v := ?v39) rfl (by kernel_rfl) (by kernel_rfl) (by kernel_rfl) (by decide) (fun _ _ _ h => h) (Or.inl ⟨by rfl, ?hy39⟩) (Or.inr (by assumption)) ?rest39
            case hy39 => (intro wz hSw; (try dsimp only at hSw); first | (go_simp; done) | (go_simp; with_reducible rfl))
            try simp only [Act.put, List.getElem_toArray, List.getElem_cons_succ, List.getElem_cons_zero, List.setIfInBounds_toArray, List.set_cons_zero, List.set_cons_succ]
            refine wpAnyS_load 6 (i := 3) (v := ?v40) rfl (by kernel_rfl) (by kernel_rfl) (by kernel_rfl) (by kernel_rfl) (fun _ _ _ h => h) (Or.inl ⟨by rfl, ?hy40⟩) (by assumption) ?rest40
            case hy40 => (intro wz hSw; (try dsimp only at hSw); first | (go_simp; done) | (go_simp; with_reducible rfl))
            try simp only [Act.put, List.getElem_toArray, List.getElem_cons_succ, List.getElem_cons_zero, List.setIfInBounds_toArray, List.set_cons_zero, List.set_cons_succ]
            refine wpAnyS_pure (i := 4) (v := ?v41) rfl (by kernel_rfl) (by kernel_rfl) (by kernel_rfl) (by decide) (fun _ _ _ h => h) (Or.inl ⟨by rfl, ?hy41⟩) (Or.inr (by assumption)) ?rest41
            case hy41 => (intro wz hSw; (try dsimp only at hSw); first | (go_simp; done) | (go_simp; with_reducible rfl))
            try simp only [Act.put, List.getElem_toArray, List.getElem_cons_succ, List.getElem_cons_zero, List.setIfInBounds_toArray, List.set_cons_zero, List.set_cons_succ]
            refine wpAnyS_load 6 (i := 5) (v := ?v42) rfl (by kernel_rfl) (by kernel_rfl) (by kernel_rfl) (by kernel_rfl) (fun _ _ _ h => h) (Or.inl ⟨by rfl, ?hy42⟩) (by assumption) ?rest42
            case hy42 => (intro wz hSw; (try dsimp only at hSw); first | (go_simp; done) | (go_simp; with_reducible rfl))
            try simp only [Act.put, List.getElem_toArray, List.getElem_cons_succ, List.getElem_cons_zero, List.setIfInBounds_toArray, List.set_cons_zero, List.set_cons_succ]
            refine wpAnyS_pure (i := 7) (v := ?v43) rfl (by kernel_rfl) (by kernel_rfl) (by kernel_rfl) (by decide) (fun _ _ _ h => h) (Or.inl ⟨by rfl, ?hy43⟩) (Or.inr (by assumption)) ?rest43
            case hy43 => (intro wz hSw; (try dsimp only at hSw); first | (go_simp; done) | (go_simp; with_reducible rfl))
            try simp only [Act.put, List.getElem_toArray, List.getElem_cons_succ, List.getElem_cons_zero, List.setIfInBounds_toArray, List.set_cons_zero, List.set_cons_succ]
            refine wpAnyS_pure (i := 8) (v := ?v44) rfl (by kernel_rfl) (by kernel_rfl) (by kernel_rfl) (by decide) (fun _ _ _ h => h) (Or.inl ⟨by rfl, ?hy44⟩) (Or.inr (by assumption)) ?rest44
            case hy44 => (intro wz hSw; (try dsimp only at hSw); first | (go_simp; done) | (go_simp; with_reducible rfl))
            try simp only [Act.put, List.getElem_toArray, List.getElem_cons_succ, List.getElem_cons_zero, List.setIfInBounds_toArray, List.set_cons_zero, List.set_cons_succ]
            refine wpAnyS_pure (i := 9) (v := ?v45) rfl (by kernel_rfl) (by kernel_rfl) (by kernel_rfl) (by decide) (fun _ _ _ h => h) (Or.inl ⟨by rfl, ?hy45⟩) (Or.inr (by assumption)) ?rest45
            case hy45 => (intro wz hSw; (try dsimp only at hSw); first | (go_simp; done) | (go_simp; with_reducible rfl))
            try simp only [Act.put, List.getElem_toArray, List.getElem_cons_succ, List.getElem_cons_zero, List.setIfInBounds_toArray, List.set_cons_zero, List.set_cons_succ]
            refine wpAnyS_one (i := 6) (o := _) (by kernel_rfl) rfl (fun K hK => ?_)
            go_simp
            (with_reducible refine (BT.out _ (gb_drew w8 none)).mono ?_)
            rintro e mw1 ⟨rfl, g⟩
            have GM := Lib.hid (gb_trans (gb_drew w8 none) g)
            have NF9 := Lib.hid (NF8.out.keep0 GM.out)
            have f4 := NF9.out.free 4
            have c4 := NF9.out.cell 4
            dsimp at c4
            clear g
            clear hF0
            have hF1 : (fun w' : World => w'.cell? ⟨z, 0, none⟩ = some (.int .u32 (E wd p)) ∧ w'.cell? ⟨y, 1, none⟩ = some (.int .i64 L.length)) mw1 := ⟨(BZ8.out.keep0 GM.out).cell 0, (IY8.out.keep0 GM.out).cell 1⟩
            try dsimp only
            refine hK.out _ _ (Or.inr hF1) (fun _ => ?_)
            clear hK K
            try simp only [Act.put, List.getElem_toArray, List.getElem_cons_succ, List.getElem_cons_zero, List.setIfInBounds_toArray, List.set_cons_zero, List.set_cons_succ]
            refine wpAnyS_pure (i := 10) (v := ?v46) rfl (by kernel_rfl) (by kernel_rfl) (by kernel_rfl) (by decide) (fun _ _ _ h => h) (Or.inl ⟨by rfl, ?hy46⟩) (Or.inr (by assumption)) ?rest46
            case hy46 => (intro wz hSw; (try dsimp only at hSw); first | (go_simp; done) | (go_simp; with_reducible rfl))
            try simp only [Act.put, List.getElem_toArray, List.getElem_cons_succ, List.getElem_cons_zero, List.setIfInBounds_toArray, List.set_cons_zero, List.set_cons_succ]
            refine wpAnyS_one (i := 11) (o := _) (by kernel_rfl) rfl (fun K hK => ?_)
            go_simp
            refine hK.out _ _ (Or.inl (by kernel_rfl)) (fun _ => ?_)
            clear hK K
            try simp only [Act.put, List.getElem_toArray, List.getElem_cons_succ, List.getElem_cons_zero, List.setIfInBounds_toArray, List.set_cons_zero, List.set_cons_succ]
            refine wpAnyS_done (by kernel_rfl) ?_ _
            clear hF1
            clear f4 c4 BT
            have NF10 := Lib.hid (show IsB (mw1.setCell ⟨f, 4, none⟩ (.pointer (some ⟨a, 0, none⟩))) f 82 #[.int .u32 (E wd L), .int .i64 L.length, .bool false, .int .i64 0, .pointer (some ⟨a, 0, none⟩), .pointer none] by simpa using NF9.out.set 4 (.pointer (some ⟨a, 0, none⟩)))
            have UP10 := Lib.hid ((UP8.out.more GM.out).far (k := f) (j := 4) (u := .pointer (some ⟨a, 0, none⟩)) FL.out PLT.out)
            have NA10 := Lib.hid ((NA8.out.keep0 GM.out).set_far AF.out 4 (.pointer (some ⟨a, 0, none⟩)))
            have IY10 := Lib.hid ((IY8.out.keep0 GM.out).set_far YF.out 4 (.pointer (some ⟨a, 0, none⟩)))
            have TB10 := Lib.hid ((TB8.out.keep0 GM.out).far (g := f) (i := 4) (v := .pointer (some ⟨a, 0, none⟩)) FNB.out)
            clear UP8 NA8 IY8 TB8 NF8 BZ8 SC8 NF9
            generalize mw1.setCell ⟨f, 4, none⟩ (.pointer (some ⟨a, 0, none⟩)) = w10 at *
            have cp := UP10.out.cell HB.out HC.out
            have fp := UP10.out.free HB.out P2
            have UPX := Lib.hid (UP10.out.again (u := .pointer (some ⟨f, 0, none⟩)))
            have NAX := Lib.hid (NF10.out.set_far (show f ≠ P1 by have := PLT.out; have := FL.out; omega) P2 (.pointer (some ⟨f, 0, none⟩)))
            have NBX := Lib.hid (NA10.out.set_far (show a ≠ P1 by have := PLT.out; have := AL.out; omega) P2 (.pointer (some ⟨f, 0, none⟩)))
            have IYX := Lib.hid (IY10.out.set_far (show y ≠ P1 by have := PLT.out; have := YL.out; omega) P2 (.pointer (some ⟨f, 0, none⟩)))
            have TBX := Lib.hid (TB10.out.far (g := P1) (i := P2) (v := .pointer (some ⟨f, 0, none⟩)) HS.out)
            go_upto_region 14 with fail
            clear cp fp UP10 NF10 NA10 IY10 TB10
            generalize w10.setCell ⟨P1, P2, none⟩ (.pointer (some ⟨f, 0, none⟩)) = w11 at *
            have SCX := Lib.hid (UPX.out.other HB.out HC.out HH.out.sv (HH.out.sv.cell 0) (by simp [ptr]))
            have BT := Lib.hid (fun (W : World) (k : w11.grownBy W none) => show Calls Try.prog 42 #[.pointer (some ⟨s, 0, none⟩), .int .u32 (E wd q1), .int .i64 L.length] W (fun e w' => e = .returned (.int .u32 1) ∧ W.grownBy w' none) from BITS.out W (k.cell SCX.out (by simp)) q1 SO.out.2.1 L.length (Nat.le_trans LLE.out.1 HP.out) true HD.out)
            have hF0 : (fun w' : World => w'.cell? ⟨P1, P2, none⟩ = some (.pointer (some ⟨f, 0, none⟩)) ∧ w'.cell? ⟨b, 0, none⟩ = some (.int .u32 (E wd q1)) ∧ w'.cell? ⟨y, 1, none⟩ = some (.int .i64 L.length)) w11.drew := ⟨(UPX.out.more (gb_drew _ none)).cell HB.out HC.out, (TBX.out.1.keep0 (gb_drew _ none)).cell 0, (IYX.out.keep0 (gb_drew _ none)).cell 1⟩
            refine wp_region_S (fun w' : World => w'.cell? ⟨P1, P2, none⟩ = some (.pointer (some ⟨f, 0, none⟩)) ∧ w'.cell? ⟨b, 0, none⟩ = some (.int .u32 (E wd q1)) ∧ w'.cell? ⟨y, 1, none⟩ = some (.int .i64 L.length)) 16 (by kernel_rfl) ?_
            refine wpAnyS_pure (i := 0) (v := ?v47) rfl (by kernel_rfl) (by kernel_rfl) (by kernel_rfl) (by decide) (fun _ _ _ h => h) (Or.inl ⟨by rfl, ?hy47⟩) (Or.inr (by assumption)) ?rest47
            case hy47 => (intro wz hSw; (try dsimp only at hSw); first | (go_simp; done) | (go_simp; with_reducible rfl))
            try simp only [Act.put, List.getElem_toArray, List.getElem_cons_zero, List.setIfInBounds_toArray, List.set_cons_zero, List.set_cons_succ]
            refine wpAnyS_pure (i := 1) (v := ?v48) rfl (by kernel_rfl) (by kernel_rfl) (by kernel_rfl) (by decide) (fun _ _ _ h => h) (Or.inl ⟨by rfl, ?hy48⟩) (Or.inr (by assumption)) ?rest48
            case hy48 => (intro wz hSw; (try dsimp only at hSw); first | (go_simp; done) | (go_simp; with_reducible rfl))
            try simp only [Act.put, List.getElem_toArray, List.getElem_cons_succ, List.getElem_cons_zero, List.setIfInBounds_toArray, List.set_cons_zero, List.set_cons_succ]
            refine wpAnyS_load 15 (i := 2) (v := ?v49) rfl (by kernel_rfl) (by kernel_rfl) (by kernel_rfl) (by kernel_rfl) (fun _ _ _ h => h) (Or.inl ⟨by rfl, ?hy49⟩) (by assumption) ?rest49
            case hy49 => (intro wz hSw; (try dsimp only at hSw); first | (go_simp; done) | (go_simp; with_reducible rfl))
            try simp only [Act.put, List.getElem_toArray, List.getElem_cons_succ, List.getElem_cons_zero, List.setIfInBounds_toArray, List.set_cons_zero, List.set_cons_succ]
            refine wpAnyS_pure (i := 3) (v := ?v50) rfl (by kernel_rfl) (by kernel_rfl) (by kernel_rfl) (by decide) (fun _ _ _ h => h) (Or.inl ⟨by rfl, ?hy50⟩) (Or.inr (by assumption)) ?rest50
            case hy50 => (intro wz hSw; (try dsimp only at hSw); first | (go_simp; done) | (go_simp; with_reducible rfl))
            try simp only [Act.put, List.getElem_toArray, List.getElem_cons_succ, List.getElem_cons_zero, List.setIfInBounds_toArray, List.set_cons_zero, List.set_cons_succ]
            refine wpAnyS_pure (i := 4) (v := ?v51) rfl (by kernel_rfl) (by kernel_rfl) (by kernel_rfl) (by decide) (fun _ _ _ h => h) (Or.inl ⟨by rfl, ?hy51⟩) (Or.inr (by assumption)) ?rest51
            case hy51 => (intro wz hSw; (try dsimp only at hSw); first | (go_simp; done) | (go_simp; with_reducible rfl))
            try simp only [Act.put, List.getElem_toArray, List.getElem_cons_succ, List.getElem_cons_zero, List.setIfInBounds_toArray, List.set_cons_zero, List.set_cons_succ]
            refine wpAnyS_pure (i := 5) (v := ?v52) rfl (by kernel_rfl) (by kernel_rfl) (by kernel_rfl) (by decide) (fun _ _ _ h => h) (Or.inl ⟨by rfl, ?hy52⟩) (Or.inr (by assumption)) ?rest52
            case hy52 => (intro wz hSw; (try dsimp only at hSw); first | (go_simp; done) | (go_simp; with_reducible rfl))
            try simp only [Act.put, List.getElem_toArray, List.getElem_cons_succ, List.getElem_cons_zero, List.setIfInBounds_toArray, List.set_cons_zero, List.set_cons_succ]
            refine wpAnyS_pure (i := 6) (v := ?v53) rfl (by kernel_rfl) (by kernel_rfl) (by kernel_rfl) (by decide) (fun _ _ _ h => h) (Or.inl ⟨by rfl, ?hy53⟩) (Or.inr (by assumption)) ?rest53
            case hy53 => (intro wz hSw; (try dsimp only at hSw); first | (go_simp; done) | (go_simp; with_reducible rfl))
            try simp only [Act.put, List.getElem_toArray, List.getElem_cons_succ, List.getElem_cons_zero, List.setIfInBounds_toArray, List.set_cons_zero, List.set_cons_succ]
            refine wpAnyS_pure (i := 7) (v := ?v54) rfl (by kernel_rfl) (by kernel_rfl) (by kernel_rfl) (by decide) (fun _ _ _ h => h) (Or.inl ⟨by rfl, ?hy54⟩) (Or.inr (by assumption)) ?rest54
            case hy54 => (intro wz hSw; (try dsimp only at hSw); first | (go_simp; done) | (go_simp; with_reducible rfl))
            try simp only [Act.put, List.getElem_toArray, List.getElem_cons_succ, List.getElem_cons_zero, List.setIfInBounds_toArray, List.set_cons_zero, List.set_cons_succ]
            refine wpAnyS_load 11 (i := 8) (v := ?v55) rfl (by kernel_rfl) (by kernel_rfl) (by kernel_rfl) (by kernel_rfl) (fun _ _ _ h => h) (Or.inl ⟨by rfl, ?hy55⟩) (by assumption) ?rest55
            case hy55 => (intro wz hSw; (try dsimp only at hSw); first | (go_simp; done) | (go_simp; with_reducible rfl))
            try simp only [Act.put, List.getElem_toArray, List.getElem_cons_succ, List.getElem_cons_zero, List.setIfInBounds_toArray, List.set_cons_zero, List.set_cons_succ]
            refine wpAnyS_pure (i := 9) (v := ?v56) rfl (by kernel_rfl) (by kernel_rfl) (by kernel_rfl) (by decide) (fun _ _ _ h => h) (Or.inl ⟨by rfl, ?hy56⟩) (Or.inr (by assumption)) ?rest56
            case hy56 => (intro wz hSw; (try dsimp only at hSw); first | (go_simp; done) | (go_simp; with_reducible rfl))
            try simp only [Act.put, List.getElem_toArray, List.getElem_cons_succ, List.getElem_cons_zero, List.setIfInBounds_toArray, List.set_cons_zero, List.set_cons_succ]
            refine wpAnyS_load 11 (i := 10) (v := ?v57) rfl (by kernel_rfl) (by kernel_rfl) (by kernel_rfl) (by kernel_rfl) (fun _ _ _ h => h) (Or.inl ⟨by rfl, ?hy57⟩) (by assumption) ?rest57
            case hy57 => (intro wz hSw; (try dsimp only at hSw); first | (go_simp; done) | (go_simp; with_reducible rfl))
            try simp only [Act.put, List.getElem_toArray, List.getElem_cons_succ, List.getElem_cons_zero, List.setIfInBounds_toArray, List.set_cons_zero, List.set_cons_succ]
            refine wpAnyS_pure (i := 12) (v := ?v58) rfl (by kernel_rfl) (by kernel_rfl) (by kernel_rfl) (by decide) (fun _ _ _ h => h) (Or.inl ⟨by rfl, ?hy58⟩) (Or.inr (by assumption)) ?rest58
            case hy58 => (intro wz hSw; (try dsimp only at hSw); first | (go_simp; done) | (go_simp; with_reducible rfl))
            try simp only [Act.put, List.getElem_toArray, List.getElem_cons_succ, List.getElem_cons_zero, List.setIfInBounds_toArray, List.set_cons_zero, List.set_cons_succ]
            refine wpAnyS_pure (i := 13) (v := ?v59) rfl (by kernel_rfl) (by kernel_rfl) (by kernel_rfl) (by decide) (fun _ _ _ h => h) (Or.inl ⟨by rfl, ?hy59⟩) (Or.inr (by assumption)) ?rest59
            case hy59 => (intro wz hSw; (try dsimp only at hSw); first | (go_simp; done) | (go_simp; with_reducible rfl))
            try simp only [Act.put, List.getElem_toArray, List.getElem_cons_succ, List.getElem_cons_zero, List.setIfInBounds_toArray, List.set_cons_zero, List.set_cons_succ]
            refine wpAnyS_pure (i := 14) (v := ?v60) rfl (by kernel_rfl) (by kernel_rfl) (by kernel_rfl) (by decide) (fun _ _ _ h => h) (Or.inl ⟨by rfl, ?hy60⟩) (Or.inr (by assumption)) ?rest60
            case hy60 => (intro wz hSw; (try dsimp only at hSw); first | (go_simp; done) | (go_simp; with_reducible rfl))
            try simp only [Act.put, List.getElem_toArray, List.getElem_cons_succ, List.getElem_cons_zero, List.setIfInBounds_toArray, List.set_cons_zero, List.set_cons_succ]
            refine wpAnyS_one (i := 11) (o := _) (by kernel_rfl) rfl (fun K hK => ?_)
            go_simp
            (with_reducible refine (BT.out _ (gb_drew w11 none)).mono ?_)
            rintro e jw1 ⟨rfl, g⟩
            have GJ := Lib.hid (gb_trans (gb_drew w11 none) g)
            have UP2 := Lib.hid (UPX.out.more GJ.out)
            have NA2 := Lib.hid (NAX.out.keep0 GJ.out)
            have f4 := NA2.out.free 5
            have c4 := NA2.out.cell 5
            dsimp at c4
            clear g
            clear hF0
            have hF1 : (fun w' : World => w'.cell? ⟨P1, P2, none⟩ = some (.pointer (some ⟨f, 0, none⟩)) ∧ w'.cell? ⟨b, 0, none⟩ = some (.int .u32 (E wd q1)) ∧ w'.cell? ⟨y, 1, none⟩ = some (.int .i64 L.length)) jw1 := ⟨UP2.out.cell HB.out HC.out, (TBX.out.1.keep0 GJ.out).cell 0, (IYX.out.keep0 GJ.out).cell 1⟩
            try dsimp only
            refine hK.out _ _ (Or.inr hF1) (fun _ => ?_)
            clear hK K
            try simp only [Act.put, List.getElem_toArray, List.getElem_cons_succ, List.getElem_cons_zero, List.setIfInBounds_toArray, List.set_cons_zero, List.set_cons_succ]
            refine wpAnyS_pure (i := 15) (v := ?v61) rfl (by kernel_rfl) (by kernel_rfl) (by kernel_rfl) (by decide) (fun _ _ _ h => h) (Or.inl ⟨by rfl, ?hy61⟩) (Or.inr (by assumption)) ?rest61
            case hy61 => (intro wz hSw; (try dsimp only at hSw); first | (go_simp; done) | (go_simp; with_reducible rfl))
            try simp only [Act.put, List.getElem_toArray, List.getElem_cons_succ, List.getElem_cons_zero, List.setIfInBounds_toArray, List.set_cons_zero, List.set_cons_succ]
            refine wpAnyS_one (i := 16) (o := _) (by kernel_rfl) rfl (fun K hK => ?_)
            go_simp
            refine hK.out _ _ (Or.inl (by kernel_rfl)) (fun _ => ?_)
            clear hK K
            try simp only [Act.put, List.getElem_toArray, List.getElem_cons_succ, List.getElem_cons_zero, List.setIfInBounds_toArray, List.set_cons_zero, List.set_cons_succ]
            refine wpAnyS_done (by kernel_rfl) ?_ _
            clear hF1
            go_wp2
            go_ret
            obtain ⟨r1, r2⟩ := HG.out _ (.node f L false 0 (.node a p false 0 .nil .nil) (.node b q1 st x l r)) [f, a] (UP2.out.far (k := f) (j := 5) (u := .pointer (some ⟨b, 0, none⟩)) FL.out PLT.out) ⟨by simpa [ptr] using NA2.out.set 5 (.pointer (some ⟨b, 0, none⟩)), ⟨(NBX.out.keep0 GJ.out).set_far AF.out _ _, trivial, trivial⟩, (TBX.out.keep0 GJ.out).far FNB.out⟩ (by rw [List.perm_iff_count]; intro k; simp [blks, List.count_append, List.count_cons]; try omega) (by simpa using Ne.symm AF.out) (by simpa using ⟨FL.out, AL.out⟩) (by simp [ents]) (by rw [← GE.out]; exact KO.out a f)
            exact ⟨a, f, by rw [show gblk a p (.node b q1 st x l r) = a from if_neg HQ.out]; rfl, by rw [GE.out]; exact r1, r2, AL.out, FL.out⟩
          · have hd : q1.getD L.length false = false := by
              have := LN
              rw [hb] at this
              revert this
              cases q1.getD L.length false <;> simp
            have SCX := SC8
            have BT := Lib.hid (fun (W : World) (k : w8.grownBy W none) => show Calls Try.prog 42 #[.pointer (some ⟨s, 0, none⟩), .int .u32 (E wd p), .int .i64 L.length] W (fun e w' => e = .returned (.int .u32 1) ∧ W.grownBy w' none) from BITS.out W (k.cell SCX.out (by simp)) p HP.out L.length (Nat.le_trans LLE.out.1 HP.out) true hb)
            have GE := Lib.hid (show graft a f p (.node b q1 st x l r) = .node f L false 0 (.node b q1 st x l r) (.node a p false 0 .nil .nil) by simp only [graft]; rw [← HLL.out, if_neg HQ.out, if_neg hl, hb]; rfl)
            have HD := Lib.hid hd
            clear hb hd LN hl SCX
            have hF0 : (fun w' : World => w'.cell? ⟨z, 0, none⟩ = some (.int .u32 (E wd p)) ∧ w'.cell? ⟨y, 1, none⟩ = some (.int .i64 L.length)) w8.drew := ⟨(BZ8.out.keep0 (gb_drew _ none)).cell 0, (IY8.out.keep0 (gb_drew _ none)).cell 1⟩
            refine wp_region_S (fun w' : World => w'.cell? ⟨z, 0, none⟩ = some (.int .u32 (E wd p)) ∧ w'.cell? ⟨y, 1, none⟩ = some (.int .i64 L.length)) 11 (by kernel_rfl) ?_
            refine wpAnyS_pure (i := 0) (v := ?v62) rfl (by kernel_rfl) (by kernel_rfl) (by kernel_rfl) (by decide) (fun _ _ _ h => h) (Or.inl ⟨by rfl, ?hy62⟩) (Or.inr (by assumption)) ?rest62
            case hy62 => (intro wz hSw; (try dsimp only at hSw); first | (go_simp; done) | (go_simp; with_reducible rfl))
            try simp only [Act.put, List.getElem_toArray, List.getElem_cons_zero, List.setIfInBounds_toArray, List.set_cons_zero, List.set_cons_succ]
            refine wpAnyS_pure (i := 1) (v := ?v63) rfl (by kernel_rfl) (by kernel_rfl) (by kernel_rfl) (by decide) (fun _ _ _ h => h) (Or.inl ⟨by rfl, ?hy63⟩) (Or.inr (by assumption)) ?rest63
            case hy63 => (intro wz hSw; (try dsimp only at hSw); first | (go_simp; done) | (go_simp; with_reducible rfl))
            try simp only [Act.put, List.getElem_toArray, List.getElem_cons_succ, List.getElem_cons_zero, List.setIfInBounds_toArray, List.set_cons_zero, List.set_cons_succ]
            refine wpAnyS_pure (i := 2) (v := ?v64) rfl (by kernel_rfl) (by kernel_rfl) (by kernel_rfl) (by decide) (fun _ _ _ h => h) (Or.inl ⟨by rfl, ?hy64⟩) (Or.inr (by assumption)) ?rest64
            case hy64 => (intro wz hSw; (try dsimp only at hSw); first | (go_simp; done) | (go_simp; with_reducible rfl))
            try simp only [Act.put, List.getElem_toArray, List.getElem_cons_succ, List.getElem_cons_zero, List.setIfInBounds_toArray, List.set_cons_zero, List.set_cons_succ]
            refine wpAnyS_load 6 (i := 3) (v := ?v65) rfl (by kernel_rfl) (by kernel_rfl) (by kernel_rfl) (by kernel_rfl) (fun _ _ _ h => h) (Or.inl ⟨by rfl, ?hy65⟩) (by assumption) ?rest65
            case hy65 => (intro wz hSw; (try dsimp only at hSw); first | (go_simp; done) | (go_simp; with_reducible rfl))
            try simp only [Act.put, List.getElem_toArray, List.getElem_cons_succ, List.getElem_cons_zero, List.setIfInBounds_toArray, List.set_cons_zero, List.set_cons_succ]
            refine wpAnyS_pure (i := 4) (v := ?v66) rfl (by kernel_rfl) (by kernel_rfl) (by kernel_rfl) (by decide) (fun _ _ _ h => h) (Or.inl ⟨by rfl, ?hy66⟩) (Or.inr (by assumption)) ?rest66
            case hy66 => (intro wz hSw; (try dsimp only at hSw); first | (go_simp; done) | (go_simp; with_reducible rfl))
            try simp only [Act.put, List.getElem_toArray, List.getElem_cons_succ, List.getElem_cons_zero, List.setIfInBounds_toArray, List.set_cons_zero, List.set_cons_succ]
            refine wpAnyS_load 6 (i := 5) (v := ?v67) rfl (by kernel_rfl) (by kernel_rfl) (by kernel_rfl) (by kernel_rfl) (fun _ _ _ h => h) (Or.inl ⟨by rfl, ?hy67⟩) (by assumption) ?rest67
            case hy67 => (intro wz hSw; (try dsimp only at hSw); first | (go_simp; done) | (go_simp; with_reducible rfl))
            try simp only [Act.put, List.getElem_toArray, List.getElem_cons_succ, List.getElem_cons_zero, List.setIfInBounds_toArray, List.set_cons_zero, List.set_cons_succ]
            refine wpAnyS_pure (i := 7) (v := ?v68) rfl (by kernel_rfl) (by kernel_rfl) (by kernel_rfl) (by decide) (fun _ _ _ h => h) (Or.inl ⟨by rfl, ?hy68⟩) (Or.inr (by assumption)) ?rest68
            case hy68 => (intro wz hSw; (try dsimp only at hSw); first | (go_simp; done) | (go_simp; with_reducible rfl))
            try simp only [Act.put, List.getElem_toArray, List.getElem_cons_succ, List.getElem_cons_zero, List.setIfInBounds_toArray, List.set_cons_zero, List.set_cons_succ]
            refine wpAnyS_pure (i := 8) (v := ?v69) rfl (by kernel_rfl) (by kernel_rfl) (by kernel_rfl) (by decide) (fun _ _ _ h => h) (Or.inl ⟨by rfl, ?hy69⟩) (Or.inr (by assumption)) ?rest69
            case hy69 => (intro wz hSw; (try dsimp only at hSw); first | (go_simp; done) | (go_simp; with_reducible rfl))
            try simp only [Act.put, List.getElem_toArray, List.getElem_cons_succ, List.getElem_cons_zero, List.setIfInBounds_toArray, List.set_cons_zero, List.set_cons_succ]
            refine wpAnyS_pure (i := 9) (v := ?v70) rfl (by kernel_rfl) (by kernel_rfl) (by kernel_rfl) (by decide) (fun _ _ _ h => h) (Or.inl ⟨by rfl, ?hy70⟩) (Or.inr (by assumption)) ?rest70
            case hy70 => (intro wz hSw; (try dsimp only at hSw); first | (go_simp; done) | (go_simp; with_reducible rfl))
            try simp only [Act.put, List.getElem_toArray, List.getElem_cons_succ, List.getElem_cons_zero, List.setIfInBounds_toArray, List.set_cons_zero, List.set_cons_succ]
            refine wpAnyS_one (i := 6) (o := _) (by kernel_rfl) rfl (fun K hK => ?_)
            go_simp
            (with_reducible refine (BT.out _ (gb_drew w8 none)).mono ?_)
            rintro e mw1 ⟨rfl, g⟩
            have GM := Lib.hid (gb_trans (gb_drew w8 none) g)
            have NF9 := Lib.hid (NF8.out.keep0 GM.out)
            have f4 := NF9.out.free 5
            have c4 := NF9.out.cell 5
            dsimp at c4
            clear g
            clear hF0
            have hF1 : (fun w' : World => w'.cell? ⟨z, 0, none⟩ = some (.int .u32 (E wd p)) ∧ w'.cell? ⟨y, 1, none⟩ = some (.int .i64 L.length)) mw1 := ⟨(BZ8.out.keep0 GM.out).cell 0, (IY8.out.keep0 GM.out).cell 1⟩
            try dsimp only
            refine hK.out _ _ (Or.inr hF1) (fun _ => ?_)
            clear hK K
            try simp only [Act.put, List.getElem_toArray, List.getElem_cons_succ, List.getElem_cons_zero, List.setIfInBounds_toArray, List.set_cons_zero, List.set_cons_succ]
            refine wpAnyS_pure (i := 10) (v := ?v71) rfl (by kernel_rfl) (by kernel_rfl) (by kernel_rfl) (by decide) (fun _ _ _ h => h) (Or.inl ⟨by rfl, ?hy71⟩) (Or.inr (by assumption)) ?rest71
            case hy71 => (intro wz hSw; (try dsimp only at hSw); first | (go_simp; done) | (go_simp; with_reducible rfl))
            try simp only [Act.put, List.getElem_toArray, List.getElem_cons_succ, List.getElem_cons_zero, List.setIfInBounds_toArray, List.set_cons_zero, List.set_cons_succ]
            refine wpAnyS_one (i := 11) (o := _) (by kernel_rfl) rfl (fun K hK => ?_)
            go_simp
            refine hK.out _ _ (Or.inl (by kernel_rfl)) (fun _ => ?_)
            clear hK K
            try simp only [Act.put, List.getElem_toArray, List.getElem_cons_succ, List.getElem_cons_zero, List.setIfInBounds_toArray, List.set_cons_zero, List.set_cons_succ]
            refine wpAnyS_done (by kernel_rfl) ?_ _
            clear hF1
            clear f4 c4 BT
            have NF10 := Lib.hid (show IsB (mw1.setCell ⟨f, 5, none⟩ (.pointer (some ⟨a, 0, none⟩))) f 82 #[.int .u32 (E wd L), .int .i64 L.length, .bool false, .int .i64 0, .pointer none, .pointer (some ⟨a, 0, none⟩)] by simpa using NF9.out.set 5 (.pointer (some ⟨a, 0, none⟩)))
            have UP10 := Lib.hid ((UP8.out.more GM.out).far (k := f) (j := 5) (u := .pointer (some ⟨a, 0, none⟩)) FL.out PLT.out)
            have NA10 := Lib.hid ((NA8.out.keep0 GM.out).set_far AF.out 5 (.pointer (some ⟨a, 0, none⟩)))
            have IY10 := Lib.hid ((IY8.out.keep0 GM.out).set_far YF.out 5 (.pointer (some ⟨a, 0, none⟩)))
            have TB10 := Lib.hid ((TB8.out.keep0 GM.out).far (g := f) (i := 5) (v := .pointer (some ⟨a, 0, none⟩)) FNB.out)
            clear UP8 NA8 IY8 TB8 NF8 BZ8 SC8 NF9
            generalize mw1.setCell ⟨f, 5, none⟩ (.pointer (some ⟨a, 0, none⟩)) = w10 at *
            have cp := UP10.out.cell HB.out HC.out
            have fp := UP10.out.free HB.out P2
            have UPX := Lib.hid (UP10.out.again (u := .pointer (some ⟨f, 0, none⟩)))
            have NAX := Lib.hid (NF10.out.set_far (show f ≠ P1 by have := PLT.out; have := FL.out; omega) P2 (.pointer (some ⟨f, 0, none⟩)))
            have NBX := Lib.hid (NA10.out.set_far (show a ≠ P1 by have := PLT.out; have := AL.out; omega) P2 (.pointer (some ⟨f, 0, none⟩)))
            have IYX := Lib.hid (IY10.out.set_far (show y ≠ P1 by have := PLT.out; have := YL.out; omega) P2 (.pointer (some ⟨f, 0, none⟩)))
            have TBX := Lib.hid (TB10.out.far (g := P1) (i := P2) (v := .pointer (some ⟨f, 0, none⟩)) HS.out)
            go_upto_region 14 with fail
            clear cp fp UP10 NF10 NA10 IY10 TB10
            generalize w10.setCell ⟨P1, P2, none⟩ (.pointer (some ⟨f, 0, none⟩)) = w11 at *
            have SCX := Lib.hid (UPX.out.other HB.out HC.out HH.out.sv (HH.out.sv.cell 0) (by simp [ptr]))
            have BT := Lib.hid (fun (W : World) (k : w11.grownBy W none) => show Calls Try.prog 42 #[.pointer (some ⟨s, 0, none⟩), .int .u32 (E wd q1), .int .i64 L.length] W (fun e w' => e = .returned (.int .u32 0) ∧ W.grownBy w' none) from BITS.out W (k.cell SCX.out (by simp)) q1 SO.out.2.1 L.length (Nat.le_trans LLE.out.1 HP.out) false HD.out)
            have hF0 : (fun w' : World => w'.cell? ⟨P1, P2, none⟩ = some (.pointer (some ⟨f, 0, none⟩)) ∧ w'.cell? ⟨b, 0, none⟩ = some (.int .u32 (E wd q1)) ∧ w'.cell? ⟨y, 1, none⟩ = some (.int .i64 L.length)) w11.drew := ⟨(UPX.out.more (gb_drew _ none)).cell HB.out HC.out, (TBX.out.1.keep0 (gb_drew _ none)).cell 0, (IYX.out.keep0 (gb_drew _ none)).cell 1⟩
            refine wp_region_S (fun w' : World => w'.cell? ⟨P1, P2, none⟩ = some (.pointer (some ⟨f, 0, none⟩)) ∧ w'.cell? ⟨b, 0, none⟩ = some (.int .u32 (E wd q1)) ∧ w'.cell? ⟨y, 1, none⟩ = some (.int .i64 L.length)) 16 (by kernel_rfl) ?_
            refine wpAnyS_pure (i := 0) (v := ?v72) rfl (by kernel_rfl) (by kernel_rfl) (by kernel_rfl) (by decide) (fun _ _ _ h => h) (Or.inl ⟨by rfl, ?hy72⟩) (Or.inr (by assumption)) ?rest72
            case hy72 => (intro wz hSw; (try dsimp only at hSw); first | (go_simp; done) | (go_simp; with_reducible rfl))
            try simp only [Act.put, List.getElem_toArray, List.getElem_cons_zero, List.setIfInBounds_toArray, List.set_cons_zero, List.set_cons_succ]
            refine wpAnyS_pure (i := 1) (v := ?v73) rfl (by kernel_rfl) (by kernel_rfl) (by kernel_rfl) (by decide) (fun _ _ _ h => h) (Or.inl ⟨by rfl, ?hy73⟩) (Or.inr (by assumption)) ?rest73
            case hy73 => (intro wz hSw; (try dsimp only at hSw); first | (go_simp; done) | (go_simp; with_reducible rfl))
            try simp only [Act.put, List.getElem_toArray, List.getElem_cons_succ, List.getElem_cons_zero, List.setIfInBounds_toArray, List.set_cons_zero, List.set_cons_succ]
            refine wpAnyS_load 15 (i := 2) (v := ?v74) rfl (by kernel_rfl) (by kernel_rfl) (by kernel_rfl) (by kernel_rfl) (fun _ _ _ h => h) (Or.inl ⟨by rfl, ?hy74⟩) (by assumption) ?rest74
            case hy74 => (intro wz hSw; (try dsimp only at hSw); first | (go_simp; done) | (go_simp; with_reducible rfl))
            try simp only [Act.put, List.getElem_toArray, List.getElem_cons_succ, List.getElem_cons_zero, List.setIfInBounds_toArray, List.set_cons_zero, List.set_cons_succ]
            refine wpAnyS_pure (i := 3) (v := ?v75) rfl (by kernel_rfl) (by kernel_rfl) (by kernel_rfl) (by decide) (fun _ _ _ h => h) (Or.inl ⟨by rfl, ?hy75⟩) (Or.inr (by assumption)) ?rest75
            case hy75 => (intro wz hSw; (try dsimp only at hSw); first | (go_simp; done) | (go_simp; with_reducible rfl))
            try simp only [Act.put, List.getElem_toArray, List.getElem_cons_succ, List.getElem_cons_zero, List.setIfInBounds_toArray, List.set_cons_zero, List.set_cons_succ]
            refine wpAnyS_pure (i := 4) (v := ?v76) rfl (by kernel_rfl) (by kernel_rfl) (by kernel_rfl) (by decide) (fun _ _ _ h => h) (Or.inl ⟨by rfl, ?hy76⟩) (Or.inr (by assumption)) ?rest76
            case hy76 => (intro wz hSw; (try dsimp only at hSw); first | (go_simp; done) | (go_simp; with_reducible rfl))
            try simp only [Act.put, List.getElem_toArray, List.getElem_cons_succ, List.getElem_cons_zero, List.setIfInBounds_toArray, List.set_cons_zero, List.set_cons_succ]
            refine wpAnyS_pure (i := 5) (v := ?v77) rfl (by kernel_rfl) (by kernel_rfl) (by kernel_rfl) (by decide) (fun _ _ _ h => h) (Or.inl ⟨by rfl, ?hy77⟩) (Or.inr (by assumption)) ?rest77
            case hy77 => (intro wz hSw; (try dsimp only at hSw); first | (go_simp; done) | (go_simp; with_reducible rfl))
            try simp only [Act.put, List.getElem_toArray, List.getElem_cons_succ, List.getElem_cons_zero, List.setIfInBounds_toArray, List.set_cons_zero, List.set_cons_succ]
            refine wpAnyS_pure (i := 6) (v := ?v78) rfl (by kernel_rfl) (by kernel_rfl) (by kernel_rfl) (by decide) (fun _ _ _ h => h) (Or.inl ⟨by rfl, ?hy78⟩) (Or.inr (by assumption)) ?rest78
            case hy78 => (intro wz hSw; (try dsimp only at hSw); first | (go_simp; done) | (go_simp; with_reducible rfl))
            try simp only [Act.put, List.getElem_toArray, List.getElem_cons_succ, List.getElem_cons_zero, List.setIfInBounds_toArray, List.set_cons_zero, List.set_cons_succ]
            refine wpAnyS_pure (i := 7) (v := ?v79) rfl (by kernel_rfl) (by kernel_rfl) (by kernel_rfl) (by decide) (fun _ _ _ h => h) (Or.inl ⟨by rfl, ?hy79⟩) (Or.inr (by assumption)) ?rest79
            case hy79 => (intro wz hSw; (try dsimp only at hSw); first | (go_simp; done) | (go_simp; with_reducible rfl))
            try simp only [Act.put, List.getElem_toArray, List.getElem_cons_succ, List.getElem_cons_zero, List.setIfInBounds_toArray, List.set_cons_zero, List.set_cons_succ]
            refine wpAnyS_load 11 (i := 8) (v := ?v80) rfl (by kernel_rfl) (by kernel_rfl) (by kernel_rfl) (by kernel_rfl) (fun _ _ _ h => h) (Or.inl ⟨by rfl, ?hy80⟩) (by assumption) ?rest80
            case hy80 => (intro wz hSw; (try dsimp only at hSw); first | (go_simp; done) | (go_simp; with_reducible rfl))
            try simp only [Act.put, List.getElem_toArray, List.getElem_cons_succ, List.getElem_cons_zero, List.setIfInBounds_toArray, List.set_cons_zero, List.set_cons_succ]
            refine wpAnyS_pure (i := 9) (v := ?v81) rfl (by kernel_rfl) (by kernel_rfl) (by kernel_rfl) (by decide) (fun _ _ _ h => h) (Or.inl ⟨by rfl, ?hy81⟩) (Or.inr (by assumption)) ?rest81
            case hy81 => (intro wz hSw; (try dsimp only at hSw); first | (go_simp; done) | (go_simp; with_reducible rfl))
            try simp only [Act.put, List.getElem_toArray, List.getElem_cons_succ, List.getElem_cons_zero, List.setIfInBounds_toArray, List.set_cons_zero, List.set_cons_succ]
            refine wpAnyS_load 11 (i := 10) (v := ?v82) rfl (by kernel_rfl) (by kernel_rfl) (by kernel_rfl) (by kernel_rfl) (fun _ _ _ h => h) (Or.inl ⟨by rfl, ?hy82⟩) (by assumption) ?rest82
            case hy82 => (intro wz hSw; (try dsimp only at hSw); first | (go_simp; done) | (go_simp; with_reducible rfl))
            try simp only [Act.put, List.getElem_toArray, List.getElem_cons_succ, List.getElem_cons_zero, List.setIfInBounds_toArray, List.set_cons_zero, List.set_cons_succ]
            refine wpAnyS_pure (i := 12) (v := ?v83) rfl (by kernel_rfl) (by kernel_rfl) (by kernel_rfl) (by decide) (fun _ _ _ h => h) (Or.inl ⟨by rfl, ?hy83⟩) (Or.inr (by assumption)) ?rest83
            case hy83 => (intro wz hSw; (try dsimp only at hSw); first | (go_simp; done) | (go_simp; with_reducible rfl))
            try simp only [Act.put, List.getElem_toArray, List.getElem_cons_succ, List.getElem_cons_zero, List.setIfInBounds_toArray, List.set_cons_zero, List.set_cons_succ]
            refine wpAnyS_pure (i := 13) (v := ?v84) rfl (by kernel_rfl) (by kernel_rfl) (by kernel_rfl) (by decide) (fun _ _ _ h => h) (Or.inl ⟨by rfl, ?hy84⟩) (Or.inr (by assumption)) ?rest84
            case hy84 => (intro wz hSw; (try dsimp only at hSw); first | (go_simp; done) | (go_simp; with_reducible rfl))
            try simp only [Act.put, List.getElem_toArray, List.getElem_cons_succ, List.getElem_cons_zero, List.setIfInBounds_toArray, List.set_cons_zero, List.set_cons_succ]
            refine wpAnyS_pure (i := 14) (v := ?v85) rfl (by kernel_rfl) (by kernel_rfl) (by kernel_rfl) (by decide) (fun _ _ _ h => h) (Or.inl ⟨by rfl, ?hy85⟩) (Or.inr (by assumption)) ?rest85
            case hy85 => (intro wz hSw; (try dsimp only at hSw); first | (go_simp; done) | (go_simp; with_reducible rfl))
            try simp only [Act.put, List.getElem_toArray, List.getElem_cons_succ, List.getElem_cons_zero, List.setIfInBounds_toArray, List.set_cons_zero, List.set_cons_succ]
            refine wpAnyS_one (i := 11) (o := _) (by kernel_rfl) rfl (fun K hK => ?_)
            go_simp
            (with_reducible refine (BT.out _ (gb_drew w11 none)).mono ?_)
            rintro e jw1 ⟨rfl, g⟩
            have GJ := Lib.hid (gb_trans (gb_drew w11 none) g)
            have UP2 := Lib.hid (UPX.out.more GJ.out)
            have NA2 := Lib.hid (NAX.out.keep0 GJ.out)
            have f4 := NA2.out.free 4
            have c4 := NA2.out.cell 4
            dsimp at c4
            clear g
            clear hF0
            have hF1 : (fun w' : World => w'.cell? ⟨P1, P2, none⟩ = some (.pointer (some ⟨f, 0, none⟩)) ∧ w'.cell? ⟨b, 0, none⟩ = some (.int .u32 (E wd q1)) ∧ w'.cell? ⟨y, 1, none⟩ = some (.int .i64 L.length)) jw1 := ⟨UP2.out.cell HB.out HC.out, (TBX.out.1.keep0 GJ.out).cell 0, (IYX.out.keep0 GJ.out).cell 1⟩
            try dsimp only
            refine hK.out _ _ (Or.inr hF1) (fun _ => ?_)
            clear hK K
            try simp only [Act.put, List.getElem_toArray, List.getElem_cons_succ, List.getElem_cons_zero, List.setIfInBounds_toArray, List.set_cons_zero, List.set_cons_succ]
            refine wpAnyS_pure (i := 15) (v := ?v86) rfl (by kernel_rfl) (by kernel_rfl) (by kernel_rfl) (by decide) (fun _ _ _ h => h) (Or.inl ⟨by rfl, ?hy86⟩) (Or.inr (by assumption)) ?rest86
            case hy86 => (intro wz hSw; (try dsimp only at hSw); first | (go_simp; done) | (go_simp; with_reducible rfl))
            try simp only [Act.put, List.getElem_toArray, List.getElem_cons_succ, List.getElem_cons_zero, List.setIfInBounds_toArray, List.set_cons_zero, List.set_cons_succ]
            refine wpAnyS_one (i := 16) (o := _) (by kernel_rfl) rfl (fun K hK => ?_)
            go_simp
            refine hK.out _ _ (Or.inl (by kernel_rfl)) (fun _ => ?_)
            clear hK K
            try simp only [Act.put, List.getElem_toArray, List.getElem_cons_succ, List.getElem_cons_zero, List.setIfInBounds_toArray, List.set_cons_zero, List.set_cons_succ]
            refine wpAnyS_done (by kernel_rfl) ?_ _
            clear hF1
            go_wp2
            go_ret
            obtain ⟨r1, r2⟩ := HG.out _ (.node f L false 0 (.node b q1 st x l r) (.node a p false 0 .nil .nil)) [f, a] (UP2.out.far (k := f) (j := 4) (u := .pointer (some ⟨b, 0, none⟩)) FL.out PLT.out) ⟨by simpa [ptr] using NA2.out.set 4 (.pointer (some ⟨b, 0, none⟩)), (TBX.out.keep0 GJ.out).far FNB.out, ⟨(NBX.out.keep0 GJ.out).set_far AF.out _ _, trivial, trivial⟩⟩ (by rw [List.perm_iff_count]; intro k; simp [blks, List.count_append, List.count_cons]; try omega) (by simpa using Ne.symm AF.out) (by simpa using ⟨FL.out, AL.out⟩) (by simp [ents]) (by rw [← GE.out]; exact KO.out a f)
            exact ⟨a, f, by rw [show gblk a p (.node b q1 st x l r) = a from if_neg HQ.out]; rfl, by rw [GE.out]; exact r1, r2, AL.out, FL.out⟩
end Go.Proofs.Ytidjggaffioekaa
