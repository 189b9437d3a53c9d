/- Tries: two tries in one world; lists of acts whose insertions all succeed. -/
import Derived.Test.YtidjggaffioekaaLuP
import Derived.Laws.AppendOwnNone
namespace Go.Proofs.Ytidjggaffioekaa
open Go.RowKit
set_option linter.unusedVariables false

def RetK2 (W : World) (q s wd : Nat) (p : List Bool) (x : Int) (T : Tr) (w : World) (e : Ending) (w' : World) : Prop := ∃ a f, e = .returned (.int .i64 0) ∧ LS W q s wd (insT a f p x T) w' ∧ Fx (Bs s T) w w' ∧ w.heap.size ≤ a ∧ w.heap.size ≤ f
set_option maxRecDepth 100000 in
set_option maxHeartbeats 4000000 in
theorem ins_ok2 (W w : World) (q s wd v n : Nat) (T : Tr) (p : List Bool) (x : Int) (h : LS W q s wd T w) (hv : v < 2 ^ wd) (hn : n ≤ wd) (hp : p = (bitsN wd v).take n) (hg : getT p T = none) (hN : (ents T).length ≤ 100000) :
    Calls Try.prog 17 #[.pointer (some ⟨q, 0, none⟩), .int .u32 v, .int .i64 n, .int .i64 x] w (RetK2 W q s wd p x T w) := by
  have pl : p.length = n := by rw [hp, List.length_take, bits_len]; omega
  have MD := Lib.hid (made_yes w q s h.qv)
  have c0 : w.cell? ⟨q, 0, none⟩ = some (.pointer (some ⟨s, 0, none⟩)) := h.qv.cell 0
  have PO := Lib.hid (pre_ok w s wd v n (h.sv.cell 0) h.w1 h.w2 hv hn)
  rw [← hp] at PO
  have HH := Lib.hid h
  have GR := Lib.hid (fun (W2 : World) (k : w.grownBy W2 none) => grow_any W W2 q s wd p T (h.keep0 k) (by omega))
  rw [pl] at GR
  unfold RetN at GR
  have HPL := Lib.hid (show p.length ≤ wd by omega)
  unfold RetK2
  have HG := Lib.hid hg
  have NN := Lib.hid hN
  generalize E wd p = ep at *
  clear h hv hn hp hg pl hN
  go_enter Try.func17, Try.ntmps17
  go_wp2_with fail
  refine MD.out.mono ?_
  rintro e w1 ⟨rfl, rfl⟩
  go_wp2_with fail
  refine PO.out.mono ?_
  rintro e w2 ⟨rfl, g⟩
  have G2 := Lib.hid (gb_trans g (gb_alloc _ (.cells #[.int .u32 ep, .int .i64 n] 79) none))
  have B2 := Lib.hid (IsB.new w2 79 #[.int .u32 ep, .int .i64 n])
  clear g c0
  go_upto_region 7 with fail
  generalize w2.alloc (.cells #[.int .u32 ep, .int .i64 n] 79) = w3 at *
  obtain ⟨z, hz⟩ : ∃ x, x = w2.heap.size := ⟨_, rfl⟩
  rw [← hz] at B2 ⊢
  have b0 := B2.out.cell 0
  have b1 := B2.out.cell 1
  dsimp at b0 b1
  clear hz
  go_wp2_with fail
  refine (GR.out _ G2.out).mono ?_
  rintro e w4 ⟨a, f, rfl, ls, fx, ha, hf⟩
  have HA2 := Lib.hid (Nat.le_trans G2.out.size ha)
  have HF2 := Lib.hid (Nat.le_trans G2.out.size hf)
  have L4 := Lib.hid ls
  have FX := Lib.hid ((Fx.of G2.out).trans fx)
  clear ls fx b0 b1
  have GT := Lib.hid (show gst p (sub T (desc p T)) = false by rw [getT_gst, HG.out]; rfl)
  obtain ⟨c0, c1, y, c4, c5, hB⟩ := gblk_cell (a := a) (f := f) (p := p) (B := sub T (desc p T)) (by
    have e : ∀ (T N : Tr) (d : List Bool), inT T d → sub (put T d N) d = N := by
      intro T N d
      induction d generalizing T with
      | nil => intro _; cases T <;> (cases N <;> rfl)
      | cons c t ih =>
        intro hi
        cases T with
        | nil => exact absurd hi (by simp [inT])
        | node b q st x l r => cases c <;> simp [put, sub] <;> exact ih _ (by simpa [inT] using hi)
    have k := sub_tn _ (desc p T) L4.out.tn
    rwa [e T _ _ (desc_in p T)] at k)
  rw [GT.out] at hB
  have LF := Lib.hid (L4.out.stored (x := x) HH.out.ok HPL.out HG.out)
  have gin := gblk_in a f p (sub T (desc p T))
  have hE : (ents (put T (desc p T) (graft a f p (sub T (desc p T))))).length = (ents T).length := by
    obtain ⟨A2, B2, g1, g2⟩ := put_ents T (desc p T) (desc_in p T)
    rw [g2, g1, graft_ents]
  have gs : s ≠ gblk a p (sub T (desc p T)) := fun e => L4.out.sb (by
    obtain ⟨A, B, h1, h2⟩ := put_blks T (desc p T) (desc_in p T)
    rw [h2, e]; simp [gin])
  have gB : w1.heap.size ≤ gblk a p (sub T (desc p T)) ∨ Bs s T (gblk a p (sub T (desc p T))) := by
    have k : gblk a p (sub T (desc p T)) = a ∨ gblk a p (sub T (desc p T)) ∈ blks (sub T (desc p T)) := by
      cases sub T (desc p T) with
      | nil => exact .inl rfl
      | node b q st y l r => simp only [gblk]; split <;> simp [blks]
    rcases k with k | k
    · rw [k]; exact .inl (Nat.le_trans G2.out.size ha)
    · exact .inr (.inr (sub_blks T (desc p T) _ k))
  have f2 := hB.free 2
  have f3 := hB.free 3
  have c2 := hB.cell 2
  have c3 := hB.cell 3
  dsimp at c2 c3
  have SV := L4.out.sv
  rw [hE] at SV
  have s2 := SV.cell 2
  have sf := SV.free 2
  dsimp at s2
  have GB := Lib.hid gB
  have GS := Lib.hid gs
  have c0' := L4.out.qv.cell 0
  generalize gblk a p (sub T (desc p T)) = g at *
  obtain ⟨m, hm⟩ : ∃ m, m = (ents T).length := ⟨_, rfl⟩
  rw [← hm] at s2 NN LF
  have hw : IntKind.i64.wrap ((m : Int) + 1) = ((m + 1 : Nat) : Int) := by have := NN.out; rw [IntKind.wrap_i64]; omega
  clear hB gin hE gB SV hm ha hf
  have gs' : ¬ s = g := GS.out
  have gs2 : ¬ g = s := fun e => GS.out e.symm
  go_wp2
  go_ret
  refine ⟨a, f, rfl, ?_, ?_, HA2.out, HF2.out⟩
  · simpa using LF.out
  · have far : ∀ (A C : World) (i : Nat) (u : Value), Fx (Bs s T) A C → A = w1 → Fx (Bs s T) A (C.setCell ⟨g, i, none⟩ u) := fun A C i u k e => by
      rcases GB.out with q | q
      · subst e
        exact ⟨k.os, k.tape, k.output, by simpa [World.setCell] using k.size, fun x hx hn => (Below.heap_setCell C ⟨g, i, none⟩ u x (by show x ≠ g; omega)).trans (k.block x hx hn)⟩
      · exact k.trans (Fx.set q)
    exact (far _ _ 3 _ (far _ _ 2 _ FX.out rfl) rfl).trans (Fx.set (.inl rfl))
theorem keep_in (a f : Nat) (p : List Bool) (x : Int) (B : Tr) : ∀ g ∈ blks (keep a f p x B), g ∈ blks B ∨ g = a ∨ g = f := by
  cases B with
  | nil => intro g hg; simp [keep, blks] at hg; exact .inr (.inl hg)
  | node b q st y l r =>
    intro g hg
    simp only [keep] at hg
    split at hg
    · exact .inl (by simpa [blks] using hg)
    · split at hg <;> split at hg <;> simp only [blks, List.mem_cons, List.mem_append, List.not_mem_nil] at hg ⊢ <;> grind
theorem ins_in (a f : Nat) (p : List Bool) (x : Int) (T : Tr) : ∀ g ∈ blks (insT a f p x T), g ∈ blks T ∨ g = a ∨ g = f := by
  obtain ⟨A, B, h1, h2⟩ := put_blks T (desc p T) (desc_in p T)
  unfold insT
  rw [h2, h1]
  intro g hg
  simp only [List.mem_append] at hg ⊢
  rcases hg with (hg | hg) | hg
  · exact .inl (.inl (.inl hg))
  · rcases keep_in a f p x _ g hg with k | k | k
    · exact .inl (.inl (.inr k))
    · exact .inr (.inl k)
    · exact .inr (.inr k)
  · exact .inl (.inr hg)
/-- A call on one trie leaves the other. -/
theorem LS.other {W w w2 : World} {qa sa qb sb wi : Nat} {TA TB : Tr} (hA : LS W qa sa wi TA w) (hB : LS W qb sb wi TB w) (ss : sa ≠ sb) (dj : ∀ g ∈ blks TA, g ∉ blks TB) (f : Fx (Bs sb TB) w w2) (g : W.grownBy w2 none) : LS W qa sa wi TA w2 := by
  have n1 : ¬ Bs sb TB qa := hB.not_bs hA.qv (by decide) (by decide)
  have n2 : ¬ Bs sb TB sa := by
    rintro (e | e)
    · exact ss e
    · obtain ⟨cs, k⟩ := hB.tn.blk sa e
      exact IsB.ne hA.sv k (by decide) rfl
  have n3 : ∀ x ∈ blks TA, ¬ Bs sb TB x := fun x hx => by
    rintro (e | e)
    · obtain ⟨cs, k⟩ := hA.tn.blk x hx
      exact IsB.ne k hB.sv (by decide) e
    · exact dj x hx e
  exact ⟨f.isb hA.qv n1, f.isb hA.sv n2, hA.tn.keep fun g t cs k m => f.isb k (n3 g m), hA.nd, hA.ok, hA.w1, hA.w2, g, hA.lowq, hA.lows, hA.lowb⟩
def GA (wi : Nat) (z : Ac) : Prop := z.2.1 < 2 ^ wi ∧ 0 ≤ z.2.2.1 ∧ z.2.2.1 ≤ wi
def eA (wi : Nat) (z : Ac) : Ent := ((bitsN wi z.2.1).take z.2.2.1.toNat, z.2.2.2)
structure DP (wi : Nat) (D : List Ac) (L : List Ent) : Prop where
  ga : ∀ z ∈ D, GA wi z
  ne : D.Pairwise fun y z => (eA wi y).1 ≠ (eA wi z).1
  mb : ∀ e, e ∈ L ↔ ∃ z ∈ D, eA wi z = e
theorem dp_nil (wi : Nat) : DP wi [] [] := ⟨(fun z h => by cases h), List.Pairwise.nil, (fun e => by simp)⟩
theorem DP.eq {wi : Nat} {D : List Ac} {A B : List Ent} (h : DP wi D A) (k : DP wi D B) (a : Srt wi A) (b : Srt wi B) : A = B :=
  srt_eq wi a b fun e => by rw [h.mb, k.mb]
theorem eA_len {wi : Nat} {z : Ac} (g : GA wi z) : (eA wi z).1.length ≤ wi := by
  unfold eA; rw [List.length_take, bits_len]; omega
theorem DP.snoc {wi : Nat} {D : List Ac} {T : Tr} {z : Ac} (h : DP wi D (ents T)) (ok : Ok wi [] T) (g : GA wi z) (hn : getT (eA wi z).1 T = none) : DP wi (D ++ [z]) (insL wi (eA wi z) (ents T)) := by
  refine ⟨fun y hy => ?_, ?_, fun e => ?_⟩
  · rcases List.mem_append.1 hy with m | m
    · exact h.ga y m
    · simp at m; subst m; exact g
  · rw [List.pairwise_append]
    refine ⟨h.ne, List.pairwise_singleton _ _, fun y hy x hx e => ?_⟩
    simp at hx; subst hx
    have m := (h.mb (eA wi y)).2 ⟨y, hy, rfl⟩
    have := (get_mem (eA wi y).1 (eA wi y).2 T ok).1 m
    rw [e, hn] at this
    cases this
  · rw [insL_mem, h.mb]
    constructor
    · rintro (rfl | ⟨y, hy, rfl⟩)
      · exact ⟨z, by simp, rfl⟩
      · exact ⟨y, by simp [hy], rfl⟩
    · rintro ⟨y, hy, rfl⟩
      rcases List.mem_append.1 hy with m | m
      · exact .inr ⟨y, m, rfl⟩
      · simp at m; subst m; exact .inl rfl
theorem DP.cons {wi : Nat} {D : List Ac} {T : Tr} {z : Ac} (h : DP wi D (ents T)) (ok : Ok wi [] T) (g : GA wi z) (hn : ∀ y ∈ D, (eA wi z).1 ≠ (eA wi y).1) : getT (eA wi z).1 T = none ∧ DP wi (z :: D) (insL wi (eA wi z) (ents T)) := by
  refine ⟨?_, fun y hy => ?_, List.pairwise_cons.2 ⟨hn, h.ne⟩, fun e => ?_⟩
  · cases k : getT (eA wi z).1 T with
    | none => rfl
    | some x =>
      obtain ⟨y, hy, e⟩ := (h.mb _).1 ((get_mem (eA wi z).1 x T ok).2 k)
      exact absurd (by rw [e]) (hn y hy)
  · rcases List.mem_cons.1 hy with rfl | m
    · exact g
    · exact h.ga y m
  · rw [insL_mem, h.mb]
    constructor
    · rintro (rfl | ⟨y, hy, rfl⟩)
      · exact ⟨z, by simp, rfl⟩
      · exact ⟨y, by simp [hy], rfl⟩
    · rintro ⟨y, hy, rfl⟩
      rcases List.mem_cons.1 hy with rfl | m
      · exact .inl rfl
      · exact .inr ⟨y, m, rfl⟩
theorem ins_two (W w : World) (q s wi : Nat) (z : Ac) (T : Tr) (a : Option Addr) (n c : Nat) (h : LS W q s wi T w) (hv : z.2.1 < 4294967296) (hN : (ents T).length ≤ 1000) (r : RI w 0 (.slice a n c) wi (ents T)) (hn : n = (ents T).length) :
    (∃ k : Int, k ≠ 0 ∧ ∀ w2, w.grownBy w2 none → Calls Try.prog 16 #[.agg #[.int .i64 wi, .slice a n c], .int .u32 (z.2.1 : Nat), .int .i64 z.2.2.1, .int .i64 z.2.2.2] w2 (RetR wi (ents T) (.int .i64 k) w2)) ∨
    (GA wi z ∧ getT (eA wi z).1 T = none ∧ ∀ w2, w.grownBy w2 none → Calls Try.prog 16 #[.agg #[.int .i64 wi, .slice a n c], .int .u32 (z.2.1 : Nat), .int .i64 z.2.2.1, .int .i64 z.2.2.2] w2 (RetR wi (insL wi (eA wi z) (ents T)) (.int .i64 0) w2)) := by
  obtain ⟨d, v, m, x⟩ := z
  dsimp only at hv ⊢
  by_cases hb : v < 2 ^ wi ∧ 0 ≤ m ∧ m ≤ wi
  · have GG : GA wi (d, v, m, x) := hb
    obtain ⟨hb1, hb2, hb3⟩ := hb
    obtain ⟨mm, rfl⟩ : ∃ k : Nat, m = k := ⟨m.toNat, by omega⟩
    have hm : mm ≤ wi := by omega
    cases hg : getT ((bitsN wi v).take mm) T with
    | some y =>
      have fs := find_some h.ok hg
      refine .inl ⟨7, by decide, fun w2 k => ?_⟩
      refine rins_dup w2 v wi mm x a n c (ents T) (r.keep0 k) hn h.w2 (by omega) (by omega) hb1 fun W2 k2 => ⟨findL ((bitsN wi v).take mm) (ents T), ?_⟩
      have q := rfind_any W2 v wi mm 0 a n c (ents T) _ h.w1 h.w2 hb1 hm rfl ((r.keep0 k).keep0 k2) hn h.ok.few (by omega)
      unfold fv at q
      rwa [if_pos fs] at q
    | none =>
      refine .inr ⟨GG, by simpa [eA] using hg, fun w2 k => ?_⟩
      refine rins_ok w2 v wi mm x a n c (ents T) _ (r.keep0 k) hn h.w1 h.w2 hm hb1 (by simp) (by omega) fun W2 k2 => ⟨-1, by omega, ?_⟩
      have q := rfind_any W2 v wi mm 0 a n c (ents T) _ h.w1 h.w2 hb1 hm rfl ((r.keep0 k).keep0 k2) hn h.ok.few (by omega)
      rwa [find_none h.ok hg] at q
  · exact .inl ⟨9, by decide, fun w2 k => rins_bad w2 v wi m x a n c (ents T) (r.keep0 k) hn h.w2 hv hb⟩
theorem ins_go (W w : World) (q s wi : Nat) (z : Ac) (T : Tr) (h : LS W q s wi T w) (g : GA wi z) (hg : getT (eA wi z).1 T = none) (hN : (ents T).length ≤ 100000) : Calls Try.prog 17 #[.pointer (some ⟨q, 0, none⟩), .int .u32 (z.2.1 : Nat), .int .i64 z.2.2.1, .int .i64 z.2.2.2] w (RetK2 W q s wi (eA wi z).1 z.2.2.2 T w) := by
  obtain ⟨d, v, m, x⟩ := z
  obtain ⟨hb1, hb2, hb3⟩ := g
  dsimp only at hb1 hb2 hb3 ⊢
  obtain ⟨mm, rfl⟩ : ∃ k : Nat, m = k := ⟨m.toNat, by omega⟩
  exact ins_ok2 W w q s wi v mm T (eA wi (d, v, (mm : Int), x)).1 x h hb1 (by omega) (by simp [eA]) hg hN
/-- Rows of acts of the call's own. -/
def itD (z : Ac) : List Value := [.int .i64 z.1, .int .u32 (z.2.1 : Nat), .int .i64 z.2.2.1, .int .i64 z.2.2.2]
def DR (w : World) (base : Nat) (V : Value) (D : List Ac) : Prop := w.ownsRow base 37 4 V D.length (D.flatMap itD)
theorem DR.nil (w : World) (base : Nat) : DR w base (.slice none 0 0) [] := World.ownsRow_nil _ _ _ _
theorem DR.keep0 {w w2 : World} {base : Nat} {V : Value} {D : List Ac} (h : DR w base V D) (k : w.grownBy w2 none) : DR w2 base V D := own_keep0 h k
theorem DR.shape {w : World} {base : Nat} {V : Value} {D : List Ac} (h : DR w base V D) : ∃ a c, V = .slice a D.length c := own_shape h
theorem infoAC : (Try.prog.info? 37).map (fun i => (i.zero, i.size, i.bytes)) = some (some (.agg #[.int .i64 0, .int .u32 0, .int .i64 0, .int .i64 0]), 4, 32) := by kernel_rfl
theorem itD_ones (L : List Ac) : ∀ u ∈ L.flatMap itD, u.oneCell' = true := by
  intro u hu
  obtain ⟨p, _, h⟩ := List.mem_flatMap.1 hu
  simp only [itD, List.mem_cons, List.not_mem_nil, or_false] at h
  rcases h with rfl | rfl | rfl | rfl <;> rfl
theorem itD_len (L : List Ac) : (L.flatMap itD).length = L.length * 4 := by
  induction L with
  | nil => rfl
  | cons t s ih => rw [List.flatMap_cons, List.length_append, ih]; simp [itD]; omega
theorem itD_at (L : List Ac) (j r : Nat) (hr : r < 4) (h : j < L.length) : (L.flatMap itD)[j * 4 + r]? = (itD (L.getD j az))[r]? := by
  induction L generalizing j with
  | nil => simp at h
  | cons t s ih =>
    rw [List.flatMap_cons]
    cases j with
    | zero => rw [Nat.zero_mul, Nat.zero_add, List.getElem?_append_left (by show r < 4; exact hr)]; rfl
    | succ j =>
      rw [List.getElem?_append_right (by show 4 ≤ _; omega), show (itD t).length = 4 from rfl, show (j + 1) * 4 + r - 4 = j * 4 + r by omega]
      simpa using ih j (by simpa using h)
theorem dr_sa {w : World} {base n c : Nat} {a : Option Addr} {D : List Ac} (hn : n = D.length) (h : DR w base (.slice a n c) D) (hr : ∀ x ∈ D, AcOk x) : SA w a n c D := by
  subst hn
  refine ⟨rfl, ?_, own_cap h, ?_, hr⟩
  · intro ha; subst ha
    rcases h.2 with ⟨k, h0⟩ | ⟨g, cap, cur, k, _⟩
    · injection k with _ _ kc; exact ⟨h0, kc⟩
    · injection k with k; cases k
  · intro ad ha j hj; subst ha
    rcases h.2 with ⟨k, _⟩ | ⟨g, cap, cur, k, _⟩
    · injection k with k; cases k
    · injection k with k; injection k with k; subst k
      have c : ∀ r, r < 4 → ∀ u, (itD (D.getD j az))[r]? = some u → w.cell? ((⟨g, 0, none⟩ : Addr).add (j * 4 + r)) = some u := fun r hr u hu => World.ownsRow.cells (g := g) h rfl _ u (by rw [itD_at D j r hr hj]; exact hu)
      rw [add_n', add_n2, add_n3]
      exact ⟨c 0 (by decide) _ rfl, c 1 (by decide) _ rfl, c 2 (by decide) _ rfl, c 3 (by decide) _ rfl⟩
theorem pushD {w : World} {ops : Array Oper} {rest : List Oper} {o : Oper} {a : Act} {Q : Exit → Act → World → Prop} (hgd : o.guard = none) (s x : Operand)
    (ho : o.op = .call { callee := .builtin .append, args := #[s, x], argTypes := #[22, 22] }) (base : Nat) (V : Value) (M : List Ac) (hs : a.eval s = V) (hown : DR w base V M)
    (ad : Addr) (c : Nat) (z : Ac) (hx : a.eval x = .slice (some ad) 1 c) (hT : ∀ j u, (itD z)[j]? = some u → w.cell? (ad.add j) = some u) (hlen : M.length ≤ 1000000) (hbase : base ≤ w.heap.size)
    (h : ∀ V' w', DR w' base V' (M ++ [z]) → w.grownBy w' V.ownBlock → wpList Try.prog ops Q rest (a.put o.dst V') w') : wpList Try.prog ops Q (o :: rest) a w := by
  obtain ⟨i0, hi, hz0, hz1, hz2⟩ := info_parts infoAC
  refine wpList_append_own w hgd s x 22 ho base 37 i0 _ 4 32 Try.underlying22 hi hz0 hz1 hz2 rfl (by decide) V M.length (M.flatMap itD) hs hown ad 1 c (itD z) hx rfl hT (by have := itD_ones [z]; simpa using this) (by unfold maxLen; omega) (by omega) hbase ?_
  intro V' w' h1 h2 h3
  refine h V' w' ?_ h2
  unfold DR
  rw [List.flatMap_append, List.length_append]
  simpa using h1
end Go.Proofs.Ytidjggaffioekaa
