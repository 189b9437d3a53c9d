/- The queue's iterators: inOrder and All. -/
import Derived.Test.YtmldoeigemippaaPqG
import Derived.Test.YtmldoeigemippaaRxA
namespace Go.Proofs.Ytmldoeigemippaa
open Go.RowKit Go.Shelf
set_option linter.unusedVariables false
attribute [local go_sem] Oper.semAt_some

theorem Kt.row {own : Nat → Obj → Prop} {w w2 : World} {base : Nat} {e : TypeId} {size n : Nat} {v : Value} {xs : List Value} (k : Kt own w w2) (h : w.ownsRow base e size v n xs) (hn : ∀ g cs, ¬ own g (.cells cs e (0, 0))) : w2.ownsRow base e size v n xs := by
  refine ⟨h.1, ?_⟩
  rcases h.2 with q | ⟨g, cap, cur, h1, h2, h3, h4⟩
  · exact .inl q
  · exact .inr ⟨g, cap, cur, h1, h2, k.same _ _ h3 (hn _ _), h4⟩
/-- A world without blocks. -/
def bare (w : World) : World := { w with heap := #[] }
theorem bare_gb (w : World) : (bare w).grownBy w none := ⟨rfl, rfl, rfl, Nat.zero_le _, fun i hi => absurd hi (Nat.not_lt_zero i)⟩
theorem Fr.kt {w w2 : World} {hb : Nat} {r : Option Nat} {own : Nat → Obj → Prop} (h : Fr w w2 hb r) (h1 : ∀ o, w.heap[hb]? = some o → own hb o) (h2 : ∀ g o, r = some g → w.heap[g]? = some o → own g o) : Kt own w w2 :=
  ⟨h.os, h.tape, h.output, h.size, fun i o hi ho => by
    have hl := (Array.getElem?_eq_some_iff.1 hi).1
    by_cases a : i = hb
    · subst a; exact absurd (h1 o hi) ho
    · by_cases b : r = some i
      · exact absurd (h2 i o b hi) ho
      · exact (h.block i hl a b).trans hi⟩
/-- What the queue's iterators turn. -/
def TQ (t : TypeId) : Prop := t = 60 ∨ t = 65
theorem wide_append_none {n : Nat} {w : World} {ops : Array Oper} {rest : List Oper} {o : Oper} {a : Act} {Q : Exit → Act → World → Prop} (hgd : o.guard = none) (s x : Operand) (t e : TypeId) (i : TypeInfo) (size : Nat)
    (ho : o.op = .call { callee := .builtin .append, args := #[s, x], argTypes := #[t, t] }) (ht : Try.prog.underlying t = some (.slice e)) (hi : Try.prog.info? e = some i) (hz : i.size = size)
    (hs : a.eval s = .slice none 0 0) (hx : a.eval x = .slice none 0 0) (h : wpListIn Fence.wide n Try.prog ops Q rest (a.put o.dst (.slice none 0 0)) w) : wpListIn Fence.wide n Try.prog ops Q (o :: rest) a w := by
  refine wpListIn_plain hgd fun K hK => ?_
  have hrun := run_append_owned_none (P := Try.prog) (w := w) 0 t o.type e i size ht hi (.slice none 0 0) 0 [] (World.ownsRow_nil w 0 e size)
  unfold Oper.wpIn
  refine ⟨?_, ?_⟩
  · simp [Oper.about, ho, resolve, Target.leads, Sem.run_pure]
  · rw [Oper.semAt_plain Fence.wide _ _ (by rw [ho]; intro c hc; cases hc)]
    simp [execOp, ho, resolve, invoke, builtin, hs, hx, hrun, Result.andThen]
    exact hK _ _ h
theorem itC_ones (E : Int → Int) (T : List Int) : ∀ u ∈ T.flatMap (itC E), u.oneCell' = true := by
  intro u hu
  obtain ⟨p, _, h⟩ := List.mem_flatMap.1 hu
  exact itC_one E p u h
/-- A whole row of items behind nil. -/
theorem pushAllI {n : Nat} {w : World} {ops : Array Oper} {rest : List Oper} {o : Oper} {a : Act} {Q : Exit → Act → World → Prop} (hgd : o.guard = none) (s x : Operand)
    (ho : o.op = .call { callee := .builtin .append, args := #[s, x], argTypes := #[60, 60] }) (hs : a.eval s = .slice none 0 0)
    (V : Value) (E : Int → Int) (L : List Int) (base : Nat) (hx : a.eval x = V) (hL : PL w base V E L) (hlen : L.length ≤ 1000000)
    (h : ∀ V' w', PL w' w.heap.size V' E L → w.grownBy w' none → wpListIn Fence.wide n Try.prog ops Q rest (a.put o.dst V') w') : wpListIn Fence.wide n Try.prog ops Q (o :: rest) a w := by
  obtain ⟨i0, hi, hz0, hz1, hz2⟩ := info_parts infoItem
  rcases hL.2 with ⟨rfl, h0⟩ | ⟨g, cap, cur, rfl, hr⟩
  · have hm : L = [] := List.length_eq_zero_iff.1 h0
    subst hm
    exact wide_append_none hgd s x _ _ i0 3 ho Try.underlying60 hi hz1 hs hx (h _ _ (PL.nil _ _ _) (gb_refl _ _))
  · refine wpListIn_append_own w hgd s x 60 ho w.heap.size 65 i0 _ 3 24 Try.underlying60 hi hz0 hz1 hz2 rfl (by decide) (.slice none 0 0) 0 [] hs (World.ownsRow_nil _ _ _ _) ⟨g, 0, none⟩ L.length cap (L.flatMap (itC E)) hx (it_len E L) (fun j u hu => ?_) (itC_ones E L) (by unfold maxLen; omega) (by omega) (Nat.le_refl _) ?_
    · exact World.ownsRow.cells hL (g := g) rfl j u hu
    · intro V' w' h1 h2 h3
      refine h V' w' ?_ h2
      unfold PL
      simpa using h1
set_option maxRecDepth 100000 in
theorem order_any (w : World) (a : Option Addr) (m c : Nat) : Calls Try.prog 29 #[.slice a m c] w (fun e w' => e = .returned (.func (.func 30) #[] #[.pointer (some ⟨w.heap.size, 0, none⟩)]) ∧ w' = w.alloc (.cells #[.slice a m c] 60)) := by
  go_enter Try.func29, Try.ntmps29
  go_wp2
  go_ret
  exact ⟨rfl, rfl⟩
set_option maxRecDepth 100000 in
theorem all_any (w : World) (p : Option Addr) : Calls Try.prog 24 #[.pointer p] w (fun e w' => e = .returned (.func (.func 28) #[] #[.pointer (some ⟨w.heap.size, 0, none⟩)]) ∧ w' = w.alloc (.cells #[.pointer p] 24)) := by
  go_enter Try.func24, Try.ntmps24
  go_wp2
  go_ret
  exact ⟨rfl, rfl⟩
/-- How the codes of a heap are handed to a round. -/
def enI (E : Int → Int) (x : Int) : Array Value := #[.agg #[.int .i64 (kC x), .int .u64 (tC x), .int .i64 (E (tC x))]]
theorem HQ.mk_ {b q : Nat} {V : Value} {E : Int → Int} {H : List Int} {w : World} (h1 : IsB w b 60 #[V]) (h2 : PL w q V E H) : HQ (bare w) b 0 60 #[V] q V E H w := ⟨h1, rfl, h2, bare_gb w, Nat.zero_le _, Nat.zero_le _⟩
def kLen (w : World) (ob : Nat) : Nat := match w.cell? ⟨ob, 0, none⟩ with | some (.slice _ k _) => k | _ => 0
theorem kLen_is {b : Nat} {a : Option Addr} {k c : Nat} {t : TypeId} {w : World} (h : IsB w b t #[.slice a k c]) : kLen w b = k := by
  have h2 : w.cell? ⟨b, 0, none⟩ = some (.slice a k c) := h.cell 0
  unfold kLen
  rw [h2]
theorem count_pop {H : List Int} (hc : ∀ x, H.count x ≤ 1) (h : 0 < H.length) (x : Int) : (popL H).count x ≤ 1 := by
  have a := popL_count H x h
  have b := hc x
  split at a <;> omega
/-- The heap's iterator. -/
theorem ord_seq (n : Nat) (TC : TypeId → Prop) (hT1 : ¬ TC 60) (hT2 : ¬ TC 65) (W : World) (B base : Nat) (V : Value) (E : Int → Int) (H : List Int) (hB : IsB W B 60 #[V]) (hP : PL W base V E H) (hc : ∀ x, H.count x ≤ 1) (hn : H.length ≤ 100000) :
    SeqX Fence.wide n Try.prog 30 #[.pointer (some ⟨B, 0, none⟩)] (enI E) TC TQ (drH H.length H) W := by
  intro l J Jx hJ hJx hY h0
  obtain ⟨q, hq⟩ : ∃ q, q = W.heap.size := ⟨_, rfl⟩
  rw [← hq] at hJ hJx hY
  have HJ := Lib.hid hJ
  have HJx := Lib.hid hJx
  have HY := Lib.hid hY
  have H0 := Lib.hid h0
  have HP := Lib.hid hP
  have HC := Lib.hid hc
  have HN := Lib.hid hn
  have HT1 := Lib.hid hT1
  have HT2 := Lib.hid hT2
  have c0 : W.cell? ⟨B, 0, none⟩ = some V := hB.cell 0
  obtain ⟨Z, hZ⟩ : ∃ Z, Z = drH H.length H := ⟨_, rfl⟩
  rw [← hZ] at HY ⊢
  have HZ := Lib.hid hZ
  have HQ' := Lib.hid hq
  clear hJ hJx hY h0 hP hn hc hT1 hT2 hZ hq hB
  show CallsIn _ _ _ _ #[.func (.yield l) #[] #[], .pointer (some ⟨B, 0, none⟩)] _ _
  refine callsIn_of_wp Try.func30 rfl trivial ?_ rfl
  simp only [Try.ntmps30, List.size_toArray, List.length_cons, List.length_nil, Nat.reduceAdd, Nat.reduceSub, Array.replicate_succ, Array.replicate_zero, List.push_toArray, List.append_toArray, List.nil_append, List.cons_append]
  gi_wp2_with (gi_at_builtin; refine pushAllI rfl _ _ rfl rfl V E H base rfl HP.out (by have := HN.out; omega) ?_; intro V2 w2 P2 g2; obtain ⟨a2, d2, rfl⟩ := P2.shape; have G2 := Lib.hid g2; have P2 := Lib.hid P2; clear g2)
  have B3 := Lib.hid (IsB.new w2 60 #[.slice a2 H.length d2])
  have P3 := Lib.hid (P2.out.keep0 (gb_alloc w2 (.cells #[.slice a2 H.length d2] 60) none))
  have G3 := Lib.hid (gb_trans G2.out (gb_alloc w2 (.cells #[.slice a2 H.length d2] 60) none))
  obtain ⟨b, hb⟩ : ∃ b, b = w2.heap.size := ⟨_, rfl⟩
  have HB := Lib.hid hb
  have QB := Lib.hid (show q ≤ b by rw [HQ'.out, hb]; exact G2.out.size)
  rw [← HQ'.out] at P3
  rw [← hb] at B3 ⊢
  generalize w2.alloc (.cells #[.slice a2 H.length d2] 60) = w3 at *
  have J3 := Lib.hid (HJ.out _ _ _ H0.out (Kt.of_gb G3.out))
  clear hb
  gi_loopw [] (fun wr => ∃ (pre K : List Int) (a : Option Addr) (c : Nat), IsB wr b 60 #[.slice a K.length c] ∧ PL wr q (.slice a K.length c) E K ∧ Z = pre ++ drH K.length K ∧ (∀ x, K.count x ≤ 1) ∧ K.length ≤ 100000 ∧ J pre wr) (fun wr => kLen wr b)
  case atStart => exact ⟨[], H, a2, d2, B3.out, P3.out, HZ.out, HC.out, HN.out, J3.out⟩
  case round =>
    obtain ⟨pre, K, a, c, hb, hp, hz, hc, hn, hj⟩ := hrel
    have c3 : wr.cell? ⟨b, 0, none⟩ = some (.slice a K.length c) := hb.cell 0
    have BB := Lib.hid hb
    have PP := Lib.hid hp
    have ZZ := Lib.hid hz
    have CC := Lib.hid hc
    have JJ := Lib.hid hj
    clear B3 P3 HZ HC HN J3 hb hp hz hc hj H0 HP
    by_cases hk : 0 < K.length
    · have i0 : (0 : Int) < (K.length : Int) := by omega
      obtain ⟨x, hx⟩ : ∃ x, x = K.getD 0 0 := ⟨_, rfl⟩
      have PO := Lib.hid (pop_any (bare wr) wr b 0 60 _ q _ E K (HQ.mk_ BB.out PP.out) (by decide) hk hn (dist_of_count CC.out))
      rw [← hx] at PO
      have Z2 := Lib.hid (show Z = (pre ++ [x]) ++ drH (popL K).length (popL K) by rw [ZZ.out, drH_step K hk, ← hx]; simp)
      have PX := Lib.hid (show pre ++ [x] <+: Z from ⟨_, Z2.out.symm⟩)
      have C2 := Lib.hid (count_pop CC.out hk)
      have L2 := Lib.hid (popL_len K hk)
      have ML := Lib.hid (kLen_is BB.out)
      clear hx
      have BT := Lib.hid (fun (o : Obj) (h : wr.heap[b]? = some o) => (show KI TQ q b o by rw [show wr.heap[b]? = _ from BB.out] at h; cases h; exact ⟨QB.out, .inl rfl⟩))
      have RT := Lib.hid (fun (g : Nat) (o : Obj) (e : (Value.slice a K.length c).ownBlock = some g) (h : wr.heap[g]? = some o) => (show KI TQ q g o by
        obtain ⟨a1, d1, e1⟩ := PP.out.headn (n := K.length) rfl hk
        have hq1 := (World.ownsRow.lt PP.out g e).1
        obtain ⟨cs, hcs⟩ := own_blk (g := a1) (c := d1) (by rw [← e1]; exact PP.out)
        have e2 : g = a1 := by rw [e1] at e; injection e with e; exact e.symm
        subst e2
        rw [show wr.heap[g]? = _ from hcs] at h; cases h; exact ⟨hq1, .inr rfl⟩))
      gi_wp2_with (first
        | (refine ⟨trivial, wd _, ?_⟩; gi_at_call 23; refine (callsIn_wide.2 PO.out).mono ?_; rintro e w4 ⟨rfl, V4, Q4, -, F4⟩; obtain ⟨a4, c4, rfl⟩ := Q4.row.shape; have J4 := HJ.out _ _ _ JJ.out (F4.kt BT.out RT.out); have Q4 := Lib.hid Q4; obtain ⟨fn, tmps, assign, body, hy, hR⟩ := HY.out pre x w4 PX.out J4; dsimp only [enI] at hy; clear F4 J4)
        | ((try refine ⟨trivial, ?_⟩); (try refine ⟨wd _, ?_⟩); refine hR.mono ?_; clear hR; rintro e w5 (⟨rfl, j5, k5⟩ | ⟨rfl, j5, k5⟩)))
      · go_roundw
        case rel =>
          exact ⟨pre ++ [x], popL K, a4, c4, k5.isb Q4.out.var HT1.out, k5.row Q4.out.row fun _ _ => HT2.out, Z2.out, C2.out, by rw [L2.out]; omega, j5⟩
        case measure =>
          rw [kLen_is (k5.isb Q4.out.var HT1.out), ML.out, L2.out]
          omega
      · (try simp only [Exit.inBlock, Exit.then])
        refine bodyPost_ret (results_none rfl _ _ _) rfl ?_
        exact ⟨⟨_, rfl⟩, .inr ⟨_, PX.out, j5⟩⟩
    · have i0 : ¬ (0 : Int) < (K.length : Int) := by omega
      have EK : drH K.length K = [] := by rw [show K.length = 0 by omega]; rfl
      have FIN := Lib.hid (show J Z wr by rw [ZZ.out, EK, List.append_nil]; exact JJ.out)
      gi_wp2
      go_end0
      exact ⟨⟨_, rfl⟩, .inl FIN.out⟩
end Go.Proofs.Ytmldoeigemippaa
