/- Tries: the law's collect; iterators of tries that were not made. -/
import Derived.Test.YtidjggaffioekaaLtL
namespace Go.Proofs.Ytidjggaffioekaa
open Go.RowKit Go.Shelf
set_option linter.unusedVariables false
attribute [local go_sem] Oper.semAt_some

/-- The cells of a pair. -/
def itP (wi : Nat) (e : Ent) : List Value := [.int .u32 (E wi e.1), .int .u32 ((maskN e.1.length wi : Nat) : Int), .int .i64 e.2]
def RL (w : World) (base : Nat) (V : Value) (wi : Nat) (L : List Ent) : Prop := w.ownsRow base 47 3 V L.length (L.flatMap (itP wi))
theorem RL.nil (w : World) (base wi : Nat) : RL w base (.slice none 0 0) wi [] := World.ownsRow_nil _ _ _ _
theorem RL.keep0 {w w2 : World} {base wi : Nat} {V : Value} {L : List Ent} (h : RL w base V wi L) (k : w.grownBy w2 none) : RL w2 base V wi L := own_keep0 h k
theorem RL.shape {w : World} {base wi : Nat} {V : Value} {L : List Ent} (h : RL w base V wi L) : ∃ a c, V = .slice a L.length c := own_shape h
theorem infoRI : (Try.prog.info? 47).map (fun i => (i.zero, i.size, i.bytes)) = some (some (.agg #[.int .u32 0, .int .u32 0, .int .i64 0]), 3, 16) := by kernel_rfl
theorem itP_one (wi : Nat) (e : Ent) : ∀ u ∈ itP wi e, u.oneCell' = true := by
  intro u hu
  simp only [itP, List.mem_cons, List.not_mem_nil, or_false] at hu
  rcases hu with rfl | rfl | rfl <;> rfl
theorem itP_len (wi : Nat) (L : List Ent) : (L.flatMap (itP wi)).length = L.length * 3 := by
  induction L with
  | nil => rfl
  | cons t s ih => rw [List.flatMap_cons, List.length_append, ih]; simp [itP]; omega
theorem addr0 (g j : Nat) : ((⟨g, 0, none⟩ : Addr).add j) = ⟨g, j, none⟩ := by unfold Addr.add; split <;> simp_all
theorem new_cells (w : World) (t : TypeId) (g : Nat) (L : List Value) (cs : Array Value) (h : IsB w g t cs) (hc : cs.toList = L) : ∀ j u, L[j]? = some u → w.cell? ((⟨g, 0, none⟩ : Addr).add j) = some u := fun j u hu => by
  rw [addr0, h.cell j, ← hu, ← hc]; simp
theorem alloc_sz (w : World) (o : Obj) : (w.alloc o).heap.size = w.heap.size + 1 := sz_al w o
theorem LS.seqs0 (TL : TypeId → Prop) (t1 : ¬ TL 82) (t2 : ¬ TL 64) (t3 : ¬ TL 91) (t4 : ¬ TL 59) (t5 : ¬ TL 66) (t6 : ¬ TL 45) {W w : World} {q s wi : Nat} {T : Tr} (h : LS W q s wi T w) (hn : (blks T).length ≤ 10000) :
    ∀ n W2 B, 1 ≤ n → w.grownBy W2 none → IsB W2 B 24 #[.pointer (some ⟨q, 0, none⟩)] → SeqX Fence.wide n Try.prog 38 #[.pointer (some ⟨B, 0, none⟩)] (enE wi) TL TQ (ents T) W2 :=
  fun n W2 B h1 g hB => all_seq n h1 TL t1 t2 t3 t4 t5 t6 W W2 q s wi B T hB (h.keep0 g) hn
/-- What the law's loop turns. -/
def TL (t : TypeId) : Prop := t = 40 ∨ t = 47
theorem Kt.from_ {own : Nat → Obj → Prop} {w A C : World} (h : w.grownBy A none) (k : Kt own A C) (hn : ∀ i o, i < w.heap.size → ¬ own i o) : w.grownBy C none :=
  ⟨k.os.trans h.os, k.tape.trans h.tape, k.output.trans h.output, Nat.le_trans h.size k.size, fun i hi _ => by
    have hi2 : i < A.heap.size := Nat.lt_of_lt_of_le hi h.size
    have e := k.same i A.heap[i] (Array.getElem?_eq_getElem hi2) (hn _ _ hi)
    rw [e, ← Array.getElem?_eq_getElem hi2]
    exact h.block i hi (by simp)⟩
theorem RL.blk {w : World} {base g : Nat} {V : Value} {wi : Nat} {T : List Ent} (h : RL w base V wi T) (hg : V.ownBlock = some g) : ∃ cs, IsB w g 47 cs := by
  rcases h.2 with ⟨rfl, _⟩ | ⟨g1, cap, cur, rfl, _, hh, _⟩
  · cases hg
  · have e1 : g1 = g := by simpa [Value.ownBlock] using hg
    subst e1
    exact ⟨_, hh⟩
/-- An iterator of a queue that yields Z. -/
def Seqs (w : World) (p : Option Addr) (wi : Nat) (Z : List Ent) : Prop :=
  ∀ n W B, 1 ≤ n → w.grownBy W none → IsB W B 24 #[.pointer p] → SeqX Fence.wide n Try.prog 38 #[.pointer (some ⟨B, 0, none⟩)] (enE wi) TL TQ Z W
theorem Seqs.later {w w2 : World} {p : Option Addr} {wi : Nat} {Z : List Ent} (h : Seqs w p wi Z) (g : w.grownBy w2 none) : Seqs w2 p wi Z := fun n W B h1 g2 hB => h n W B h1 (gb_trans g g2) hB
set_option maxRecDepth 100000 in
set_option maxHeartbeats 4000000 in
/-- A queue that was not made yields nothing. -/
theorem none_seq (w : World) (p : Option Addr) (wi : Nat) (hm : ∀ W, w.grownBy W none → Calls Try.prog 28 #[.pointer p] W (RetS (.bool false) W)) : Seqs w p wi [] := by
  intro n W B h1 g hB l J Jx hJ hJx hY h0
  have HJ := Lib.hid hJ
  have H0 := Lib.hid h0
  have G1 := Lib.hid (gb_alloc W (.cells #[.func (.yield l) #[] #[]] 91) none)
  have b1 : (W.alloc (.cells #[.func (.yield l) #[] #[]] 91)).cell? ⟨B, 0, none⟩ = some (.pointer p) := (hB.keep0 G1.out).cell 0
  have MD := Lib.hid (hm _ (gb_trans g G1.out))
  clear hJ hJx hY h0 hB hm
  show CallsIn _ _ _ _ #[.func (.yield l) #[] #[], .pointer (some ⟨B, 0, none⟩)] _ _
  refine callsIn_of_wp Try.func38 rfl trivial ?_ rfl
  simp only [Try.ntmps38, List.size_toArray, List.length_cons, List.length_nil, Nat.reduceAdd, Nat.reduceSub, Array.replicate_succ, Array.replicate_zero, List.push_toArray, List.append_toArray, List.nil_append, List.cons_append]
  gi_wp2_with ((first | refine ⟨trivial, wd _, ?_⟩ | refine ⟨trivial, ?_⟩); gi_at_call 28; refine (callsIn_wide.2 MD.out).mono ?_; clear MD; rintro e w4 ⟨rfl, rfl⟩)
  (try simp only [Exit.inBlock, Exit.then])
  refine bodyPost_ret (results_none rfl _ _ _) rfl ?_
  exact ⟨⟨_, rfl⟩, .inl (HJ.out _ _ _ H0.out (Kt.of_gb G1.out))⟩
theorem Kt.of_own {B base : Nat} {A C : World} {V : Value} {wi : Nat} {T : List Ent} (h : RL A base V wi T) (g : A.grownBy C V.ownBlock) : Kt (KB TL B) A C := by
  cases e : V.ownBlock with
  | none => rw [e] at g; exact Kt.of_gb g
  | some k =>
    rw [e] at g
    obtain ⟨cs, hb⟩ := h.blk e
    exact Kt.of_row g fun o ho => by rw [show A.heap[k]? = _ from hb] at ho; cases ho; exact .inr rfl
theorem gb_lows {w A C : World} {r : Option Nat} (h : w.grownBy A none) (g : A.grownBy C r) (hr : ∀ k, r = some k → w.heap.size ≤ k) : w.grownBy C none :=
  ⟨g.os.trans h.os, g.tape.trans h.tape, g.output.trans h.output, Nat.le_trans h.size g.size, fun i hi _ => by
    rw [g.block i (Nat.lt_of_lt_of_le hi h.size) (fun e => by have := hr i e.symm; omega)]
    exact h.block i hi (by simp)⟩
/-- A returned list of items with true. -/
def RetI (wi : Nat) (Z : List Ent) (w : World) (e : Ending) (w' : World) : Prop := ∃ V, e = .returned (.tuple #[V, .bool true]) ∧ RL w' w.heap.size V wi Z ∧ w.grownBy w' none
theorem pushIn {n : Nat} {l : Nat} {w : World} {ops : Array Oper} {rest : List Oper} {o : Oper} {a : Act} {Q : Exit → Act → World → Prop} (hgd : o.guard = none) (s x : Operand)
    (ho : o.op = .call { callee := .builtin .append, args := #[s, x], argTypes := #[40, 40] }) (base : Nat) (V : Value) (wi : Nat) (M : List Ent) (hs : a.eval s = V) (hown : RL w base V wi M)
    (ad : Addr) (c : Nat) (T : Ent) (hx : a.eval x = .slice (some ad) 1 c) (hT : ∀ j u, (itP wi T)[j]? = some u → w.cell? (ad.add j) = some u) (hlen : M.length ≤ 1000000) (hbase : base ≤ w.heap.size)
    (h : ∀ V' w', RL w' base V' wi (M ++ [T]) → w.grownBy w' V.ownBlock → wpListIn (Fence.wide.inRound l) n Try.prog ops Q rest (a.put o.dst V') w') : wpListIn (Fence.wide.inRound l) n Try.prog ops Q (o :: rest) a w := by
  obtain ⟨i0, hi, hz0, hz1, hz2⟩ := info_parts infoRI
  refine wpListIn_append_own w hgd s x 40 ho base 47 i0 _ 3 16 Try.underlying40 hi hz0 hz1 hz2 rfl (by decide) V M.length (M.flatMap (itP wi)) hs hown ad 1 c (itP wi T) hx rfl hT (itP_one wi T) (by unfold maxLen; omega) (by omega) hbase ?_
  intro V' w' h1 h2 h3
  refine h V' w' ?_ h2
  unfold RL
  rw [List.flatMap_append, List.length_append]
  simpa using h1
theorem results2 {fn : Func} {s t : Tmp} (h : fn.results = #[.tmp s, .tmp t]) (tmps : Array Value) (P : Program) (w : World) : (results fn tmps).run P w = .ok (.tuple #[tmps.getD s undef, tmps.getD t undef]) w := by
  simp [results, h]
theorem fn_nil (w : World) (f : Nat) (c d : Array Value) : Sem.run Try.prog (binOp BinOp.eql 74 (.func (.func f) c d) .nilFunc) w = .ok (.bool false) w := by
  have u := Try.underlying74
  have e : Sem.run Try.prog (Op.equal 74 (.func (.func f) c d) .nilFunc) w = .ok false w := by
    unfold Op.equal
    rw [show Op.maxDepth = 9999 + 1 from rfl]
    unfold Op.equalIn
    rw [Sem.run_bind, run_underlying u]
    rfl
  simp [binOp, e, go_sem]
set_option maxRecDepth 100000 in
set_option maxHeartbeats 4000000 in
theorem collect_any (w : World) (p : Option Addr) (wi : Nat) (Z : List Ent) (m : Nat) (h : Seqs w p wi Z) (hm : m ≤ 100000) : Calls Try.prog 13 #[.pointer p, .int .i64 m] w (RetI wi (Z.take m) w) := by
  have HS := Lib.hid h
  have HM := Lib.hid hm
  have FN := fn_nil
  clear h hm
  refine (callsIn_wide (n := 5)).1 ?_
  refine callsIn_of_wp_marks Try.func13 rfl trivial ?_ rfl
  simp only [Try.ntmps13, List.size_toArray, List.length_cons, List.length_nil, Nat.reduceAdd, Nat.reduceSub, Array.replicate_succ, Array.replicate_zero, List.push_toArray, List.append_toArray, List.nil_append, List.cons_append]
  gi_wp2_with ((first | refine ⟨trivial, wd _, ?_⟩ | refine ⟨trivial, ?_⟩); gi_at_call 27; refine (callsIn_wide.2 (all_any _ _)).mono ?_; rintro e w4 ⟨rfl, rfl⟩)
  have G1 := Lib.hid (gb_alloc w (.cells #[.int .i64 m] 3) none)
  have M1 := Lib.hid (IsB.new w 3 #[.int .i64 m])
  obtain ⟨w1, hw1⟩ : ∃ w1, w1 = w.alloc (.cells #[.int .i64 m] 3) := ⟨_, rfl⟩
  have S1 : w1.heap.size = w.heap.size + 1 := by rw [hw1]; exact alloc_sz _ _
  have A2 := Lib.hid (IsB.new w1 24 #[.pointer p])
  have G2 := Lib.hid (gb_alloc w1 (.cells #[.pointer p] 24) none)
  rw [S1] at A2
  obtain ⟨w2, hw2⟩ : ∃ w2, w2 = w1.alloc (.cells #[.pointer p] 24) := ⟨_, rfl⟩
  have S2 : w2.heap.size = w.heap.size + 1 + 1 := by rw [hw2, alloc_sz, S1]
  have V3 := Lib.hid (IsB.new w2 40 #[.slice none 0 0])
  have G3 := Lib.hid (gb_alloc w2 (.cells #[.slice none 0 0] 40) none)
  rw [S2] at V3
  rw [← hw1, ← hw2]
  rw [← hw1] at G1 M1
  rw [← hw2] at A2 G2
  obtain ⟨w3, hw3⟩ : ∃ w3, w3 = w2.alloc (.cells #[.slice none 0 0] 40) := ⟨_, rfl⟩
  rw [← hw3] at V3 G3 ⊢
  have S3 : w.heap.size ≤ w3.heap.size := by rw [hw3, alloc_sz, S2]; omega
  have M3 := Lib.hid (M1.out.keep0 (gb_trans G2.out G3.out))
  have A3 := Lib.hid (A2.out.keep0 G3.out)
  have GG := Lib.hid (gb_trans (gb_trans G1.out G2.out) G3.out)
  have SS := Lib.hid S3
  clear hw1 hw2 hw3 S1 S2 S3 G1 M1 A2 G2 G3
  obtain ⟨z, hz⟩ : ∃ z, z = w.heap.size := ⟨_, rfl⟩
  have HZ := Lib.hid hz
  rw [← hz] at M3 A3 V3 SS ⊢
  clear hz
  have N1 := Lib.hid (fun (k b : Nat) (v : Value) (h : KI TQ b k (.cells #[v] 40 (0, 0))) => (show False by rcases h.2 with e | e <;> exact absurd e (by decide)))
  have N2 := Lib.hid (fun (k b : Nat) (v : Value) (h : KI TQ b k (.cells #[v] 3 (0, 0))) => (show False by rcases h.2 with e | e <;> exact absurd e (by decide)))
  have N3 := Lib.hid (fun (k b : Nat) (cs : Array Value) (h : KI TQ b k (.cells cs 47 (0, 0))) => (show False by rcases h.2 with e | e <;> exact absurd e (by decide)))
  have N4 := Lib.hid (fun (i b : Nat) (o : Obj) (hb : w.heap.size ≤ b) (hi : i < w.heap.size) (h : KI TQ b i o) => (show False by have := h.1; omega))
  refine wpIn_rangeX rfl (by omega) (gf := 38) (lb := #[.pointer (some ⟨z + 1, 0, none⟩)]) rfl trivial (enters_of Try.func38 (by kernel_rfl) rfl) (encs := enE wi) (TC := TL) (TI := TQ) (xs := Z)
    (fun W2 gW hsz => HS.out _ W2 (z + 1) (by omega) (gb_trans GG.out gW) (A3.out.keep0 gW)) (fun _ => rfl)
    (fun pre w5 => ∃ V, IsB w5 (z + 1 + 1) 40 #[V] ∧ RL w5 z V wi pre ∧ pre.length ≤ m ∧ IsB w5 z 3 #[.int .i64 m] ∧ w.grownBy w5 none)
    (fun c pre w5 => c = .exit 0 ∧ m ≤ pre.length ∧ ∃ V, IsB w5 (z + 1 + 1) 40 #[V] ∧ RL w5 z V wi (pre.take m) ∧ w.grownBy w5 none)
    (fun t A C h k => by
      obtain ⟨V, h1, h2, h3, h4, h5⟩ := h
      exact ⟨V, k.isb h1 (N1.out _ _ _), k.row h2 (fun _ _ => N3.out _ _ _), h3, k.isb h4 (N2.out _ _ _), k.from_ h5 (fun i o hi => N4.out _ _ _ (by rw [← HZ.out]; exact SS.out) hi)⟩)
    (fun c t A C h k => by
      obtain ⟨e, hl, V, h1, h2, h5⟩ := h
      exact ⟨e, hl, V, k.isb h1 (N1.out _ _ _), k.row h2 (fun _ _ => N3.out _ _ _), k.from_ h5 (fun i o hi => N4.out _ _ _ (by rw [← HZ.out]; exact SS.out) hi)⟩)
    ⟨_, V3.out, RL.nil _ _ _, Nat.zero_le _, M3.out, GG.out⟩ ?round ?done ?stop
  case round =>
    rintro l2 pre x W5 hp ⟨V, v5, r5, hm5, m5, g5⟩
    obtain ⟨a5, c5, rfl⟩ := r5.shape
    dsimp only [enE]
    gi_wp2
    refine ⟨gb_alloc _ _ none, fun W6 k6 kk6 => ?_⟩
    have X6 := Lib.hid (show IsB W6 W5.heap.size 45 #[.int .u32 (E wi x.1), .int .u32 ((maskN x.1.length wi : Nat) : Int)] from k6.isb (IsB.new _ _ _) id)
    have x0 := X6.out.cell 0
    have x1 := X6.out.cell 1
    dsimp at x0 x1
    have V6 := Lib.hid (kk6.isb v5 (N1.out _ _ _))
    have R6 := Lib.hid (show RL W6 z (.slice a5 pre.length c5) wi pre from kk6.row r5 (fun _ _ => N3.out _ _ _))
    have M6 := Lib.hid (kk6.isb m5 (N2.out _ _ _))
    have G6 := Lib.hid (kk6.from_ g5 (fun i o hi => N4.out _ _ _ (by rw [← HZ.out]; exact SS.out) hi))
    have c6 : W6.cell? ⟨z + 1 + 1, 0, none⟩ = some (.slice a5 pre.length c5) := V6.out.cell 0
    have d6 : W6.cell? ⟨z, 0, none⟩ = some (.int .i64 m) := M6.out.cell 0
    have HP := Lib.hid hp
    clear v5 r5 m5 g5 k6 kk6 hp
    by_cases hlt : pre.length < m
    · have i1 : ¬ (m : Int) ≤ (pre.length : Int) := by omega
      have f6 := V6.out.free 0
      have O1 := Lib.hid (own_ne R6.out V6.out (by decide))
      have O2 := Lib.hid (own_ne R6.out M6.out (by decide))
      gi_wp2_with (gi_at_builtin; refine pushIn rfl _ _ rfl z _ wi pre rfl (R6.out.keep0 (gb_alloc _ _ none)) ⟨W6.heap.size, 0, none⟩ 1 x rfl (new_cells _ _ _ (itP wi x) _ (IsB.new _ _ _) rfl) (by have := HM.out; omega) (by rw [alloc_sz, HZ.out]; exact Nat.le_succ_of_le G6.out.size) ?_; intro V7 w7 r7 g7; obtain ⟨a7, c7, rfl⟩ := r7.shape; rw [List.length_append, List.length_singleton] at r7; have R7 := Lib.hid r7; have G7 := Lib.hid g7; have V7 := Lib.hid ((V6.out.alloc (.cells #[.int .u32 (E wi x.1), .int .u32 ((maskN x.1.length wi : Nat) : Int), .int .i64 x.2] 47)).keep g7 (Ne.symm O1.out)); have f7 := V7.out.free 0; have e7 := V7.out.cell 0; clear r7 g7)
      have KA := (Kt.of_gb (own := KB TL w3.heap.size) (gb_alloc W6 (.cells #[.int .u32 (E wi x.1), .int .u32 ((maskN x.1.length wi : Nat) : Int), .int .i64 x.2] 47) none)).trans (Kt.of_own (R6.out.keep0 (gb_alloc _ _ none)) G7.out)
      have KB_ := KA.trans (Kt.of_row (gb_set w7 (z + 1 + 1) 0 (.slice a7 (pre.length + 1) c7)) fun o h => by rw [show w7.heap[z + 1 + 1]? = _ from V7.out] at h; cases h; exact .inl rfl)
      refine ⟨KB_, _, V7.out.set 0 _, ?_, by simp; omega, ?_, ?_⟩
      · exact World.ownsRow.kept R7.out (gb_set _ _ _ _) (.inr (own_ne R7.out V7.out (by decide)))
      · exact ((M6.out.alloc _).keep G7.out (Ne.symm O2.out)).set_far (by omega) _ _
      · refine gb_put (gb_lows (gb_trans G6.out (gb_alloc _ _ none)) G7.out fun g e => ?_) (by rw [HZ.out]; omega)
        rw [← HZ.out]; exact (World.ownsRow.lt R6.out g e).1
    · have i1 : (m : Int) ≤ (pre.length : Int) := by omega
      have e1 : pre.length = m := by omega
      have hm2 : (pre ++ [x]).take m = pre := by rw [List.take_append_of_le_length (by omega), List.take_of_length_le (by omega)]
      gi_wp2
      refine ⟨Kt.refl _ _, rfl, by simp; omega, _, V6.out, ?_, G6.out⟩
      rw [hm2]
      exact R6.out
  case done =>
    rintro D w5 hD ⟨V, v5, r5, hm5, m5, g5⟩ hK
    obtain ⟨a5, d5, rfl⟩ := r5.shape
    have c5 := v5.cell 0
    dsimp at c5
    gi_wp2
    refine ⟨by simp, .inl ⟨_, _, rfl, run_takeDeferred hK, ?_⟩⟩
    have k : Kt (KI TQ w3.heap.size) w5 (w5.putObj D (.deferred none)) := Kt.put _ fun o h => by rw [hK] at h; cases h; exact ⟨hD, trivial⟩
    refine ⟨_, results2 rfl _ _ _, _, rfl, ?_, k.from_ g5 (fun i o hi => N4.out _ _ _ (by rw [← HZ.out]; exact SS.out) hi)⟩
    rw [List.take_of_length_le hm5, ← HZ.out]
    exact k.row r5 (fun _ _ => N3.out _ _ _)
  case stop =>
    rintro D c pre w5 hD hp ⟨rfl, hl, V, v5, r5, g5⟩ hK
    obtain ⟨a5, d5, rfl⟩ := r5.shape
    have c5 := v5.cell 0
    dsimp at c5
    have e5 : pre.take m = Z.take m := by
      obtain ⟨t, rfl⟩ := hp
      rw [List.take_append_of_le_length hl]
    rw [e5] at r5
    rw [List.length_take] at r5
    gi_wp2
    refine ⟨by simp, .inl ⟨_, _, rfl, run_takeDeferred hK, ?_⟩⟩
    have k : Kt (KI TQ w3.heap.size) w5 (w5.putObj D (.deferred none)) := Kt.put _ fun o h => by rw [hK] at h; cases h; exact ⟨hD, trivial⟩
    refine ⟨_, results2 rfl _ _ _, _, rfl, ?_, k.from_ g5 (fun i o hi => N4.out _ _ _ (by rw [← HZ.out]; exact SS.out) hi)⟩
    rw [← HZ.out]
    exact k.row r5 (fun _ _ => N3.out _ _ _)
end Go.Proofs.Ytidjggaffioekaa
