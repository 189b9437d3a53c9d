/- Tries in memory; prefixOf, made, needed. -/
import Derived.Test.YtidjggaffioekaaLtA
namespace Go.Proofs.Ytidjggaffioekaa
open Go.RowKit
set_option linter.unusedVariables false

def ptr : Tr → Value
  | .nil => .pointer none
  | .node b _ _ _ _ _ => .pointer (some ⟨b, 0, none⟩)
/-- The nodes of a trie lie in memory. -/
def TN (w : World) (wd : Nat) : Tr → Prop
  | .nil => True
  | .node b p st x l r => IsB w b 82 #[.int .u32 (E wd p), .int .i64 p.length, .bool st, .int .i64 x, ptr l, ptr r] ∧ TN w wd l ∧ TN w wd r
theorem TN.keep {w w2 : World} {wd : Nat} : ∀ {T : Tr}, TN w wd T → (∀ g t cs, IsB w g t cs → g ∈ blks T → IsB w2 g t cs) → TN w2 wd T
  | .nil, _, _ => trivial
  | .node b p st x l r, h, k => ⟨k _ _ _ h.1 (by simp [blks]), TN.keep h.2.1 fun g t cs q m => k g t cs q (by simp [blks, m]), TN.keep h.2.2 fun g t cs q m => k g t cs q (by simp [blks, m])⟩
theorem TN.keep0 {w w2 : World} {wd : Nat} {T : Tr} (h : TN w wd T) (k : w.grownBy w2 none) : TN w2 wd T := h.keep fun _ _ _ q _ => q.keep0 k
theorem TN.blk {w : World} {wd : Nat} : ∀ {T : Tr}, TN w wd T → ∀ b ∈ blks T, ∃ cs, IsB w b 82 cs
  | .nil, _, b, hb => by simp [blks] at hb
  | .node b p st x l r, h, c, hc => by
    simp only [blks, List.mem_cons, List.mem_append] at hc
    rcases hc with rfl | hc | hc
    · exact ⟨_, h.1⟩
    · exact TN.blk h.2.1 c hc
    · exact TN.blk h.2.2 c hc
/-- All blocks but B are as they were. -/
structure Fx (B : Nat → Prop) (w w2 : World) : Prop where
  os : w2.os = w.os
  tape : w2.tape = w.tape
  output : w2.output = w.output
  size : w.heap.size ≤ w2.heap.size
  block : ∀ g, g < w.heap.size → ¬ B g → w2.heap[g]? = w.heap[g]?
theorem Fx.refl (B : Nat → Prop) (w : World) : Fx B w w := ⟨rfl, rfl, rfl, Nat.le_refl _, fun _ _ _ => rfl⟩
theorem Fx.trans {B : Nat → Prop} {a b c : World} (h : Fx B a b) (k : Fx B b c) : Fx B a c :=
  ⟨k.os.trans h.os, k.tape.trans h.tape, k.output.trans h.output, Nat.le_trans h.size k.size, fun g hg hn => (k.block g (Nat.lt_of_lt_of_le hg h.size) hn).trans (h.block g hg hn)⟩
theorem Fx.of {B : Nat → Prop} {a b : World} (h : a.grownBy b none) : Fx B a b := ⟨h.os, h.tape, h.output, h.size, fun g hg _ => h.block g hg (by simp)⟩
theorem Fx.mono {B C : Nat → Prop} {a b : World} (h : Fx B a b) (k : ∀ g, g < a.heap.size → B g → C g) : Fx C a b := ⟨h.os, h.tape, h.output, h.size, fun g hg hn => h.block g hg fun q => hn (k g hg q)⟩
theorem Fx.isb {B : Nat → Prop} {a b : World} {g : Nat} {t : TypeId} {cs : Array Value} (h : Fx B a b) (k : IsB a g t cs) (hn : ¬ B g) : IsB b g t cs := (h.block g k.lt hn).trans k
theorem Fx.set {B : Nat → Prop} {a : World} {g i : Nat} {v : Value} (h : B g) : Fx B a (a.setCell ⟨g, i, none⟩ v) :=
  ⟨rfl, rfl, rfl, by simp [World.setCell], fun k _ hn => Below.heap_setCell _ _ _ _ (fun e => hn (by rw [e]; exact h))⟩
theorem Fx.gb {B : Nat → Prop} {a b : World} (h : Fx B a b) (hn : ∀ g, g < a.heap.size → ¬ B g) : a.grownBy b none := ⟨h.os, h.tape, h.output, h.size, fun g hg _ => h.block g hg (hn g hg)⟩
/-- From W grown to a, and on to b, where only what is new to W turns. -/
theorem Fx.gbW {B : Nat → Prop} {W a b : World} (g : W.grownBy a none) (h : Fx B a b) (hn : ∀ k, B k → W.heap.size ≤ k) : W.grownBy b none :=
  ⟨h.os.trans g.os, h.tape.trans g.tape, h.output.trans g.output, Nat.le_trans g.size h.size, fun k hk _ => (h.block k (Nat.lt_of_lt_of_le hk g.size) fun q => by have := hn k q; omega).trans (g.block k hk (by simp))⟩
theorem ptr_put (T : Tr) (c : Bool) (s : List Bool) (N : Tr) : ptr (put T (c :: s) N) = ptr T := by cases T <;> simp [put] <;> split <;> rfl
/-- The cell that leads to the place at the end of a way. -/
def hole (s o : Nat) : Tr → List Bool → Nat × Nat
  | _, [] => (s, o)
  | .nil, _ :: _ => (s, o)
  | .node b _ _ _ l r, c :: t => if c then hole b 5 r t else hole b 4 l t
theorem hole_in (s o : Nat) : ∀ (T : Tr) (p : List Bool), inT T p → (hole s o T p).1 = s ∧ p = [] ∨ (hole s o T p).1 ∈ blks T
  | T, [], _ => by cases T <;> exact .inl ⟨rfl, rfl⟩
  | .nil, _ :: _, h => absurd h (by simp [inT])
  | .node b q st x l r, c :: t, h => by
    refine .inr ?_
    cases c
    · rcases hole_in b 4 l t (by simpa [inT] using h) with ⟨e, _⟩ | e
      · simp [hole, e, blks]
      · simp [hole, e, blks]
    · rcases hole_in b 5 r t (by simpa [inT] using h) with ⟨e, _⟩ | e
      · simp [hole, e, blks]
      · simp [hole, e, blks]
theorem sub_blks : ∀ (T : Tr) (p : List Bool), ∀ b ∈ blks (sub T p), b ∈ blks T
  | T, [], b, h => by cases T <;> exact h
  | .nil, _ :: _, b, h => by simp [sub, blks] at h
  | .node g q st x l r, c :: t, b, h => by
    cases c
    · have := sub_blks l t b (by simpa [sub] using h); simp [blks, this]
    · have := sub_blks r t b (by simpa [sub] using h); simp [blks, this]
/-- The cell at the end of a way holds the pointer to what hangs there. -/
theorem hole_cell {w : World} {wd : Nat} : ∀ (T : Tr) (p : List Bool) (s o : Nat), inT T p → TN w wd T → w.cell? ⟨s, o, none⟩ = some (ptr T) → w.cell? ⟨(hole s o T p).1, (hole s o T p).2, none⟩ = some (ptr (sub T p))
  | T, [], s, o, _, _, hc => by cases T <;> exact hc
  | .nil, _ :: _, _, _, h, _, _ => absurd h (by simp [inT])
  | .node b q st x l r, c :: t, s, o, h, k, _ => by
    cases c
    · simpa [hole, sub] using hole_cell l t b 4 (by simpa [inT] using h) k.2.1 (k.1.cell 4)
    · simpa [hole, sub] using hole_cell r t b 5 (by simpa [inT] using h) k.2.2 (k.1.cell 5)
theorem put_tn {w w2 : World} {wd : Nat} {N : Tr} : ∀ (T : Tr) (p : List Bool) (s o : Nat), inT T p → TN w wd T → (blks T).Nodup →
    (∀ g t cs, IsB w g t cs → g ∈ blks T → g ≠ (hole s o T p).1 → g ∉ blks (sub T p) → IsB w2 g t cs) →
    (∀ t cs, IsB w (hole s o T p).1 t cs → p ≠ [] → IsB w2 (hole s o T p).1 t (cs.setIfInBounds (hole s o T p).2 (ptr N))) → TN w2 wd N → TN w2 wd (put T p N)
  | T, [], s, o, _, _, _, _, _, hn => by cases T <;> exact hn
  | .nil, _ :: _, _, _, h, _, _, _, _, _ => absurd h (by simp [inT])
  | .node b q st x l r, c :: t, s, o, h, k, nd, k1, k2, hn => by
    simp only [blks, List.nodup_cons, List.mem_append, not_or, List.nodup_append] at nd
    obtain ⟨⟨nl, nr⟩, dl, dr, dlr⟩ := nd
    cases c
    · have h' : inT l t := by simpa [inT] using h
      simp only [hole, Bool.false_eq_true, if_false, sub] at k1 k2
      have hi := hole_in b 4 l t h'
      have kl : TN w2 wd (put l t N) := put_tn l t b 4 h' k.2.1 dl (fun g ty cs q m e f => k1 g ty cs q (by simp [blks, m]) e f) (fun ty cs q _ => k2 ty cs q (by simp)) hn
      have kr : TN w2 wd r := k.2.2.keep fun g ty cs q m => k1 g ty cs q (by simp [blks, m]) (by
        rcases hi with ⟨e, _⟩ | e
        · rw [e]; exact fun e => nr (by rw [← e]; exact m)
        · exact fun e2 => dlr _ (by rw [e2]; exact e) _ m rfl) (fun f => dlr _ (sub_blks l t g f) _ m rfl)
      have kb : IsB w2 b 82 #[.int .u32 (E wd q), .int .i64 q.length, .bool st, .int .i64 x, ptr (put l t N), ptr r] := by
        cases t with
        | nil =>
          have := k2 _ _ (by simpa [hole] using k.1) (by simp)
          cases l <;> simpa [hole, put] using this
        | cons d t =>
          rw [ptr_put]
          refine k1 _ _ _ k.1 (by simp [blks]) ?_ (fun f => nl (sub_blks l _ b f))
          rcases hi with ⟨_, e⟩ | e
          · cases e
          · exact fun e2 => nl (by rw [e2]; exact e)
      simpa [put, TN] using ⟨kb, kl, kr⟩
    · have h' : inT r t := by simpa [inT] using h
      simp only [hole, if_true, sub] at k1 k2
      have hi := hole_in b 5 r t h'
      have kr : TN w2 wd (put r t N) := put_tn r t b 5 h' k.2.2 dr (fun g ty cs q m e f => k1 g ty cs q (by simp [blks, m]) e f) (fun ty cs q _ => k2 ty cs q (by simp)) hn
      have kl : TN w2 wd l := k.2.1.keep fun g ty cs q m => k1 g ty cs q (by simp [blks, m]) (by
        rcases hi with ⟨e, _⟩ | e
        · rw [e]; exact fun e => nl (by rw [← e]; exact m)
        · exact fun e2 => dlr _ m _ (by rw [e2]; exact e) rfl) (fun f => dlr _ m _ (sub_blks r t g f) rfl)
      have kb : IsB w2 b 82 #[.int .u32 (E wd q), .int .i64 q.length, .bool st, .int .i64 x, ptr l, ptr (put r t N)] := by
        cases t with
        | nil =>
          have := k2 _ _ (by simpa [hole] using k.1) (by simp)
          cases r <;> simpa [hole, put] using this
        | cons d t =>
          rw [ptr_put]
          refine k1 _ _ _ k.1 (by simp [blks]) ?_ (fun f => nr (sub_blks r _ b f))
          rcases hi with ⟨_, e⟩ | e
          · cases e
          · exact fun e2 => nr (by rw [e2]; exact e)
      simpa [put, TN] using ⟨kb, kl, kr⟩
theorem put_blks : ∀ (T : Tr) (s : List Bool), inT T s → ∃ A B, blks T = A ++ blks (sub T s) ++ B ∧ ∀ N, blks (put T s N) = A ++ blks N ++ B
  | T, [], _ => ⟨[], [], by simp [sub], fun N => by cases T <;> simp [put]⟩
  | .nil, _ :: _, h => absurd h (by simp [inT])
  | .node b q st x l r, c :: s, h => by
    cases c
    · obtain ⟨A, B, h1, h2⟩ := put_blks l s (by simpa [inT] using h)
      exact ⟨b :: A, B ++ blks r, by simp [blks, sub, h1], fun N => by simp [put, blks, h2]⟩
    · obtain ⟨A, B, h1, h2⟩ := put_blks r s (by simpa [inT] using h)
      exact ⟨b :: (blks l ++ A), B, by simp [blks, sub, h1], fun N => by simp [put, blks, h2]⟩
/-- What hangs at a place is exchanged, its own blocks alone turn. -/
theorem put_tn2 {w w2 : World} {wd : Nat} {G K : Tr} (hp : ptr K = ptr G) : ∀ (T : Tr) (p : List Bool), inT T p → TN w wd (put T p G) → (blks (put T p G)).Nodup →
    (∀ g t cs, IsB w g t cs → g ∉ blks G → IsB w2 g t cs) → TN w2 wd K → TN w2 wd (put T p K)
  | T, [], _, _, _, _, hn => by cases T <;> exact hn
  | .nil, _ :: _, h, _, _, _, _ => absurd h (by simp [inT])
  | .node b q st x l r, c :: t, h, k, nd, k1, hn => by
    have pp : ∀ (L : Tr), ptr (put L t K) = ptr (put L t G) := fun L => by
      cases t with
      | nil => cases L <;> exact hp
      | cons d t => rw [ptr_put, ptr_put]
    cases c
    · have h' : inT l t := by simpa [inT] using h
      simp only [put, Bool.false_eq_true, if_false, TN, blks, List.nodup_cons, List.mem_append, not_or, List.nodup_append] at k nd ⊢
      obtain ⟨⟨nl, nr⟩, dl, dr, dlr⟩ := nd
      obtain ⟨A, B, _, h2⟩ := put_blks l t h'
      have hs : ∀ g, g ∈ blks G → g ∈ blks (put l t G) := fun g q => by rw [h2]; simp [q]
      refine ⟨by rw [pp]; exact k1 _ _ _ k.1 fun f => nl (hs _ f), put_tn2 hp l t h' k.2.1 dl k1 hn, k.2.2.keep fun g ty cs q m => k1 _ _ _ q fun f => dlr _ (hs _ f) _ m rfl⟩
    · have h' : inT r t := by simpa [inT] using h
      simp only [put, if_true, TN, blks, List.nodup_cons, List.mem_append, not_or, List.nodup_append] at k nd ⊢
      obtain ⟨⟨nl, nr⟩, dl, dr, dlr⟩ := nd
      obtain ⟨A, B, _, h2⟩ := put_blks r t h'
      have hs : ∀ g, g ∈ blks G → g ∈ blks (put r t G) := fun g q => by rw [h2]; simp [q]
      refine ⟨by rw [pp]; exact k1 _ _ _ k.1 fun f => nr (hs _ f), k.2.1.keep fun g ty cs q m => k1 _ _ _ q fun f => dlr _ m _ (hs _ f) rfl, put_tn2 hp r t h' k.2.2 dr k1 hn⟩
/-- A trie that New made: its blocks, its tree. -/
structure LS (W : World) (q s wd : Nat) (T : Tr) (w : World) : Prop where
  qv : IsB w q 61 #[.pointer (some ⟨s, 0, none⟩)]
  sv : IsB w s 66 #[.int .i64 wd, ptr T, .int .i64 (ents T).length]
  tn : TN w wd T
  nd : (blks T).Nodup
  ok : Ok wd [] T
  w1 : 1 ≤ wd
  w2 : wd ≤ 32
  grown : W.grownBy w none
  lowq : W.heap.size ≤ q
  lows : W.heap.size ≤ s
  lowb : ∀ b ∈ blks T, W.heap.size ≤ b
theorem LS.keep0 {W w w2 : World} {q s wd : Nat} {T : Tr} (h : LS W q s wd T w) (k : w.grownBy w2 none) : LS W q s wd T w2 :=
  ⟨h.qv.keep0 k, h.sv.keep0 k, h.tn.keep0 k, h.nd, h.ok, h.w1, h.w2, gb_trans h.grown k, h.lowq, h.lows, h.lowb⟩
theorem LS.ne {W w : World} {q s wd : Nat} {T : Tr} (h : LS W q s wd T w) : q ≠ s := IsB.ne h.qv h.sv (by decide)
theorem LS.qb {W w : World} {q s wd : Nat} {T : Tr} (h : LS W q s wd T w) : q ∉ blks T := fun m => by
  obtain ⟨cs, k⟩ := h.tn.blk q m
  exact IsB.ne h.qv k (by decide) rfl
theorem LS.sb {W w : World} {q s wd : Nat} {T : Tr} (h : LS W q s wd T w) : s ∉ blks T := fun m => by
  obtain ⟨cs, k⟩ := h.tn.blk s m
  exact IsB.ne h.sv k (by decide) rfl
set_option maxRecDepth 100000 in
theorem made_yes (w : World) (q s : Nat) (h : IsB w q 61 #[.pointer (some ⟨s, 0, none⟩)]) : Calls Try.prog 28 #[.pointer (some ⟨q, 0, none⟩)] w (RetS (.bool true) w) := by
  have c0 : w.cell? ⟨q, 0, none⟩ = some (.pointer (some ⟨s, 0, none⟩)) := h.cell 0
  go_enter Try.func28, Try.ntmps28
  go_wp2
  go_ret
  exact ⟨rfl, rfl⟩
set_option maxRecDepth 100000 in
theorem made_zq (w : World) (q : Nat) (h : IsB w q 61 #[.pointer none]) : Calls Try.prog 28 #[.pointer (some ⟨q, 0, none⟩)] w (RetS (.bool false) w) := by
  have c0 : w.cell? ⟨q, 0, none⟩ = some (.pointer none) := h.cell 0
  go_enter Try.func28, Try.ntmps28
  go_wp2
  go_ret
  exact ⟨rfl, rfl⟩
set_option maxRecDepth 100000 in
theorem made_nil (w : World) : Calls Try.prog 28 #[.pointer none] w (RetS (.bool false) w) := by
  go_enter Try.func28, Try.ntmps28
  go_wp2
  go_ret
  exact ⟨rfl, rfl⟩
theorem fits_yes {v wd : Nat} (h1 : 1 ≤ wd) (h2 : wd ≤ 32) (h : v < 2 ^ wd) : fitsB v wd = true := by
  unfold fitsB
  have e : ((wd : Int)).toNat = wd := by omega
  rw [e]
  exact decide_eq_true ⟨by omega, by omega, by exact_mod_cast h⟩
theorem fits_no {v wd : Nat} (h : ¬ v < 2 ^ wd) : fitsB v wd = false := by
  unfold fitsB
  have e : ((wd : Int)).toNat = wd := by omega
  rw [e]
  exact decide_eq_false fun k => h (by exact_mod_cast k.2.2)
set_option maxRecDepth 100000 in
set_option maxHeartbeats 4000000 in
theorem pre_bad (w : World) (s wd v : Nat) (n : Int) (hs : w.cell? ⟨s, 0, none⟩ = some (.int .i64 wd)) (h1 : 1 ≤ wd) (h2 : wd ≤ 32) (h : ¬ (v < 2 ^ wd ∧ 0 ≤ n ∧ n ≤ wd)) : Calls Try.prog 32 #[.pointer (some ⟨s, 0, none⟩), .int .u32 v, .int .i64 n] w (RetV (.tuple #[.agg #[.int .u32 0, .int .i64 0], .bool false]) w) := by
  have CS := Lib.hid (fun (w' : World) (g : w.grownBy w' none) => (g.cell hs (by simp) : w'.cell? ⟨s, 0, none⟩ = some (.int .i64 wd)))
  have FT := Lib.hid (fun W => (fits_any v wd W).mono fun _ _ k => (⟨k.1, gb_gr k.2 none⟩ : RetV _ W _ _))
  have A0 : ∀ o : Obj, (w.alloc o).cell? ⟨s, 0, none⟩ = some (.int .i64 wd) := fun o => CS.out _ (gb_alloc _ _ none)
  have BX := Lib.hid (IsB.new w 79 #[.int .u32 0, .int .i64 0])
  by_cases hv : v < 2 ^ wd
  · rw [fits_yes h1 h2 hv] at FT
    by_cases hn : n < 0
    · clear h h1 h2 hv
      go_enter Try.func32, Try.ntmps32
      go_wp2_with (first | (go_at_call 22; refine (FT.out _).mono ?_; rintro e w2 ⟨rfl, g2⟩; have G2 := Lib.hid g2; clear g2; have c2 := CS.out _ (gb_trans (gb_alloc _ _ none) G2.out); have B2 := Lib.hid (BX.out.keep0 G2.out); have z0 := B2.out.cell 0; have z1 := B2.out.cell 1; have f0 := B2.out.free 0; have f1 := B2.out.free 1; have L2 := Lib.hid (gb_trans (gb_alloc w _ none) G2.out); have S2 := Lib.hid (Nat.le_refl w.heap.size)))
      (try simp only [Exit.inBlock, Exit.then])
      refine bodyPost_ret (v := .tuple #[.agg #[.int .u32 0, .int .i64 0], .bool false]) (by rw [results_cell_tmp rfl]; go_simp; try rfl) rfl ⟨rfl, gb_put (gb_put L2.out (Nat.le_refl _)) (Nat.le_refl _)⟩
    · have hw : (wd : Int) < n := by omega
      clear h h1 h2 hv
      go_enter Try.func32, Try.ntmps32
      go_wp2_with (first | (go_at_call 22; refine (FT.out _).mono ?_; rintro e w2 ⟨rfl, g2⟩; have G2 := Lib.hid g2; clear g2; have c2 := CS.out _ (gb_trans (gb_alloc _ _ none) G2.out); have B2 := Lib.hid (BX.out.keep0 G2.out); have z0 := B2.out.cell 0; have z1 := B2.out.cell 1; have f0 := B2.out.free 0; have f1 := B2.out.free 1; have L2 := Lib.hid (gb_trans (gb_alloc w _ none) G2.out); have S2 := Lib.hid (Nat.le_refl w.heap.size)))
      (try simp only [Exit.inBlock, Exit.then])
      refine bodyPost_ret (v := .tuple #[.agg #[.int .u32 0, .int .i64 0], .bool false]) (by rw [results_cell_tmp rfl]; go_simp; try rfl) rfl ⟨rfl, gb_put (gb_put L2.out (Nat.le_refl _)) (Nat.le_refl _)⟩
  · rw [fits_no hv] at FT
    clear h h1 h2 hv
    go_enter Try.func32, Try.ntmps32
    go_wp2_with (first | (go_at_call 22; refine (FT.out _).mono ?_; rintro e w2 ⟨rfl, g2⟩; have G2 := Lib.hid g2; clear g2; have c2 := CS.out _ (gb_trans (gb_alloc _ _ none) G2.out); have B2 := Lib.hid (BX.out.keep0 G2.out); have z0 := B2.out.cell 0; have z1 := B2.out.cell 1; have f0 := B2.out.free 0; have f1 := B2.out.free 1; have L2 := Lib.hid (gb_trans (gb_alloc w _ none) G2.out); have S2 := Lib.hid (Nat.le_refl w.heap.size)))
    (try simp only [Exit.inBlock, Exit.then])
    refine bodyPost_ret (v := .tuple #[.agg #[.int .u32 0, .int .i64 0], .bool false]) (by rw [results_cell_tmp rfl]; go_simp; try rfl) rfl ⟨rfl, gb_put (gb_put L2.out (Nat.le_refl _)) (Nat.le_refl _)⟩
set_option maxRecDepth 100000 in
set_option maxHeartbeats 4000000 in
theorem pre_ok (w : World) (s wd v : Nat) (n : Nat) (hs : w.cell? ⟨s, 0, none⟩ = some (.int .i64 wd)) (h1 : 1 ≤ wd) (h2 : wd ≤ 32) (hv : v < 2 ^ wd) (hn : n ≤ wd) : Calls Try.prog 32 #[.pointer (some ⟨s, 0, none⟩), .int .u32 v, .int .i64 n] w (RetV (.tuple #[.agg #[.int .u32 (E wd ((bitsN wd v).take n)), .int .i64 n], .bool true]) w) := by
  have CS := Lib.hid (fun (w' : World) (g : w.grownBy w' none) => (g.cell hs (by simp) : w'.cell? ⟨s, 0, none⟩ = some (.int .i64 wd)))
  have FT := Lib.hid (fun W => (fits_any v wd W).mono fun _ _ k => (⟨k.1, gb_gr k.2 none⟩ : RetV _ W _ _))
  have A0 : ∀ o : Obj, (w.alloc o).cell? ⟨s, 0, none⟩ = some (.int .i64 wd) := fun o => CS.out _ (gb_alloc _ _ none)
  have BX := Lib.hid (IsB.new w 79 #[.int .u32 0, .int .i64 0])
  have AP := Lib.hid (and_pm v n wd hn h1 h2 hv)
  have PM := Lib.hid (fun W => (pmask_any n wd W).mono fun _ _ k => (⟨k.1, gb_gr k.2 none⟩ : RetV _ W _ _))
  rw [fits_yes h1 h2 hv] at FT
  generalize pmB n wd = pm at *
  generalize E wd ((bitsN wd v).take n) = m at *
  have hn1 : ¬ (n : Int) < 0 := by omega
  have hn2 : ¬ (wd : Int) < n := by omega
  clear h1 h2 hv hn
  go_enter Try.func32, Try.ntmps32
  go_wp2_with (first | (go_at_call 22; refine (FT.out _).mono ?_; rintro e w2 ⟨rfl, g2⟩; have G2 := Lib.hid g2; clear g2; have c2 := CS.out _ (gb_trans (gb_alloc _ _ none) G2.out); have B2 := Lib.hid (BX.out.keep0 G2.out); have z0 := B2.out.cell 0; have z1 := B2.out.cell 1; have f0 := B2.out.free 0; have f1 := B2.out.free 1; have L2 := Lib.hid (gb_trans (gb_alloc w _ none) G2.out); have S2 := Lib.hid (Nat.le_refl w.heap.size)) | (go_at_call 40; refine (PM.out _).mono ?_; rintro e w3 ⟨rfl, g3⟩; have G3 := Lib.hid g3; clear g3; have B3 := Lib.hid (B2.out.keep0 G3.out); have y0 := B3.out.cell 0; have y1 := B3.out.cell 1; have k0 := B3.out.free 0; have k1 := B3.out.free 1; have L3 := Lib.hid (gb_trans L2.out G3.out); have ap := AP.out))
  (try simp only [Exit.inBlock, Exit.then])
  refine bodyPost_ret (v := .tuple #[.agg #[.int .u32 m, .int .i64 n], .bool true]) (by rw [results_cell_tmp rfl]; go_simp; try rfl) rfl ⟨rfl, gb_put (gb_put L3.out (Nat.le_refl _)) (Nat.le_refl _)⟩
end Go.Proofs.Ytidjggaffioekaa
