/- Tries: the nodes' iterator. -/
import Derived.Test.YtidjggaffioekaaLtJ
import Derived.Test.YtidjggaffioekaaRxA
import Derived.Test.YtidjggaffioekaaOrI
import Derived.Laws.OwnMore
import Derived.Shelf.RegionOpen
namespace Go.Proofs.Ytidjggaffioekaa
open Go.RowKit Go.Shelf
set_option linter.unusedVariables false
attribute [local go_sem] Oper.semAt_some

theorem Kt.row {own : Nat → Obj → Prop} {w w2 : World} {base : Nat} {e : TypeId} {size n : Nat} {v : Value} {xs : List Value} (k : Kt own w w2) (h : w.ownsRow base e size v n xs) (hn : ∀ g cs, ¬ own g (.cells cs e (0, 0))) : w2.ownsRow base e size v n xs := by
  refine ⟨h.1, ?_⟩
  rcases h.2 with q | ⟨g, cap, cur, h1, h2, h3, h4⟩
  · exact .inl q
  · exact .inr ⟨g, cap, cur, h1, h2, k.same _ _ h3 (hn _ _), h4⟩
theorem Kt.tn {own : Nat → Obj → Prop} {w w2 : World} {wd : Nat} {T : Tr} (k : Kt own w w2) (h : TN w wd T) (hn : ∀ g cs, ¬ own g (.cells cs 82 (0, 0))) : TN w2 wd T := by
  induction T with
  | nil => trivial
  | node b p st x l r il ir => exact ⟨k.isb h.1 (hn _ _), il h.2.1, ir h.2.2⟩
/-- What the trie's iterators turn. -/
def TQ (t : TypeId) : Prop := t = 64
theorem infoPN : (Try.prog.info? 64).map (fun i => (i.zero, i.size, i.bytes)) = some (some (.pointer none), 1, 8) := by kernel_rfl
theorem stepF_push {F : Fence} {n : Nat} {ops : Array Oper} {o : Oper} {a : Act} {w : World} {K : Act → World → Prop} {Q : Exit → Act → World → Prop} {Z : Prop} (hgd : o.guard = none) (s x : Operand)
    (ho : o.op = .call { callee := .builtin .append, args := #[s, x], argTypes := #[103, 103] }) (base : Nat) (V : Value) (k : Nat) (M : List Value) (hs : a.eval s = V) (hown : w.ownsRow base 64 1 V k M)
    (ad : Addr) (c m : Nat) (N : List Value) (hx : a.eval x = .slice (some ad) m c) (hl : N.length = m * 1) (hN : ∀ j u, N[j]? = some u → w.cell? (ad.add j) = some u) (h1 : ∀ u ∈ N, u.oneCell' = true) (hlen : k + m ≤ 1000000) (hbase : base ≤ w.heap.size)
    (h : ∀ V' w', w'.ownsRow base 64 1 V' (k + m) (M ++ N) → w.grownBy w' V.ownBlock → K (a.put o.dst V') w') : if Region.wanted o (yielded ops a.tmps) = true then Oper.wpIn F n Try.prog o a w K Q else Z := by
  have hw : Region.wanted o (yielded ops a.tmps) = true := by simp [Region.wanted, hgd]
  rw [if_pos hw]
  obtain ⟨i0, hi, hz0, hz1, hz2⟩ := info_parts infoPN
  obtain ⟨V', w', hr, r1, r2, _⟩ := run_append_own (P := Try.prog) (w := w) base 103 o.type 64 i0 _ 1 8 Try.underlying103 hi hz0 hz1 hz2 rfl (by decide) V k M hown ad m c N hl hN h1 (by unfold maxLen; omega) (by omega) hbase
  unfold Oper.wpIn
  refine ⟨by simp [Oper.about, ho, resolve, Target.leads, Sem.run_pure], ?_⟩
  rw [Oper.semAt_eq _ _ _ (by rw [ho]; intro c hc; cases hc)]
  simp [execOp, ho, resolve, invoke, builtin, hs, hx, hr, Result.andThen]
  exact h V' w' r1 r2
theorem opF_plain {F : Fence} {n : Nat} {P : Program} {ops : Array Oper} {o : Oper} {a : Act} {w w1 : World} {v : Value} {K : Act → World → Prop} {Q : Exit → Act → World → Prop} {Z : Prop} (hgd : o.guard = none) (nd : ∀ c, o.op ≠ .defer c) (ha : o.about P w a.eval = none)
    (hr : (execOp a.eval o).run P w = .ok (.value v) w1) (h : K (a.put o.dst v) w1) : if Region.wanted o (yielded ops a.tmps) = true then Oper.wpIn F n P o a w K Q else Z := by
  have hw : Region.wanted o (yielded ops a.tmps) = true := by simp [Region.wanted, hgd]
  rw [if_pos hw]
  unfold Oper.wpIn
  refine ⟨fun f hf => (by rw [ha] at hf; cases hf), ?_⟩
  rw [Oper.semAt_eq _ _ _ nd, hr]
  exact h
theorem own_isb {w : World} {base g n c : Nat} {e : TypeId} {size : Nat} {xs : List Value} (h : w.ownsRow base e size (.slice (some ⟨g, 0, none⟩) n c) n xs) : ∃ cs, IsB w g e cs := own_blk h
theorem own_pre {w : World} {base g n c m : Nat} {e : TypeId} {xs : List Value} (h : w.ownsRow base e 1 (.slice (some ⟨g, 0, none⟩) n c) n xs) (hm : m ≤ n) : w.ownsRow base e 1 (.slice (some ⟨g, 0, none⟩) m c) m (xs.take m) := by
  rcases h.2 with ⟨h1, _⟩ | ⟨g2, cap, cur, h1, h2, h3, h4, h5, h6, h7⟩
  · injection h1 with h1; cases h1
  · cases h1
    refine ⟨by rw [List.length_take, h.1]; omega, Or.inr ⟨g, c, cur, rfl, h2, h3, by omega, h5, h6, ?_⟩⟩
    rw [← h7, List.take_take]; congr 1; omega
theorem ptr_one (T : Tr) : (ptr T).oneCell' = true := by cases T <;> rfl
/-- How often the loop goes round for a trie. -/
def sz : Tr → Nat
  | .nil => 1
  | .node _ _ _ _ l r => 2 + sz l + sz r
def dep : Tr → Nat
  | .nil => 0
  | .node _ _ _ _ l r => 1 + max (dep l) (dep r)
def cnt : Nat → World → Value → Nat
  | 0, _, _ => 0
  | f + 1, w, .pointer (some a) => 2 + cnt f w ((w.cell? ⟨a.block, 4, none⟩).getD undef) + cnt f w ((w.cell? ⟨a.block, 5, none⟩).getD undef)
  | _ + 1, _, _ => 1
theorem cnt_is {w : World} {wd : Nat} : ∀ (f : Nat) (T : Tr), dep T < f → TN w wd T → cnt f w (ptr T) = sz T
  | 0, T, h, _ => by omega
  | f + 1, .nil, _, _ => rfl
  | f + 1, .node b p st x l r, h, k => by
    have c4 : w.cell? ⟨b, 4, none⟩ = some (ptr l) := k.1.cell 4
    have c5 : w.cell? ⟨b, 5, none⟩ = some (ptr r) := k.1.cell 5
    simp only [dep] at h
    show cnt (f + 1) w (.pointer (some ⟨b, 0, none⟩)) = _
    simp only [cnt, c4, c5, Option.getD_some, sz]
    rw [cnt_is f l (by omega) k.2.1, cnt_is f r (by omega) k.2.2]
/-- The same of what waits. -/
def stk (f : Nat) (w : World) (v : Value) : Nat := match v with
  | .slice (some a) n _ => ((List.range n).map fun j => cnt f w ((w.cell? ⟨a.block, j, none⟩).getD undef)).sum
  | _ => 0
theorem stk_is {w : World} {wd f base g n c : Nat} {K : List Tr} (h : w.ownsRow base 64 1 (.slice (some ⟨g, 0, none⟩) n c) n (K.map ptr)) (hn : n = K.length) (ht : ∀ T ∈ K, TN w wd T ∧ dep T < f) : stk f w (.slice (some ⟨g, 0, none⟩) n c) = (K.map sz).sum := by
  subst hn
  unfold stk
  simp only
  have e : (List.range K.length).map (fun j => cnt f w ((w.cell? ⟨g, j, none⟩).getD undef)) = K.map sz := by
    apply List.ext_getElem (by simp)
    intro j h1 h2
    have hj : j < K.length := by simpa using h2
    have c := h.cellAt j (by omega)
    simp only [List.getElem_map, List.getElem_range]
    rw [c]
    simp only [List.getElem?_map, List.getElem?_eq_getElem hj, Option.map_some, Option.getD_some]
    exact cnt_is f _ (ht _ (List.getElem_mem hj)).2 (ht _ (List.getElem_mem hj)).1
  rw [e]
/-- The nodes that are still to come. -/
def rem (K : List Tr) : List Nat := K.reverse.flatMap blks
theorem rem_nil (K : List Tr) : rem (K ++ [.nil]) = rem K := by simp [rem, blks]
theorem rem_node (K : List Tr) (b : Nat) (p : List Bool) (st : Bool) (x : Int) (l r : Tr) : rem (K ++ [.node b p st x l r]) = b :: rem (K ++ [r, l]) := by simp [rem, blks]
set_option maxRecDepth 100000 in
theorem order_any (w : World) (p : Option Addr) : Calls Try.prog 39 #[.pointer p] w (fun e w' => e = .returned (.func (.func 46) #[] #[.pointer (some ⟨w.heap.size, 0, none⟩)]) ∧ w' = w.alloc (.cells #[.pointer p] 59)) := by
  go_enter Try.func39, Try.ntmps39
  go_wp2
  go_ret
  exact ⟨rfl, rfl⟩
set_option maxRecDepth 100000 in
theorem all_any (w : World) (p : Option Addr) : Calls Try.prog 27 #[.pointer p] w (fun e w' => e = .returned (.func (.func 38) #[] #[.pointer (some ⟨w.heap.size, 0, none⟩)]) ∧ w' = w.alloc (.cells #[.pointer p] 24)) := by
  go_enter Try.func27, Try.ntmps27
  go_wp2
  go_ret
  exact ⟨rfl, rfl⟩
/-- How a node is handed to a round. -/
def enN (b : Nat) : Array Value := #[.pointer (some ⟨b, 0, none⟩)]
set_option maxRecDepth 100000 in
set_option maxHeartbeats 4000000 in
theorem ord_seq (n : Nat) (TC : TypeId → Prop) (hT1 : ¬ TC 82) (hT2 : ¬ TC 64) (W : World) (B s wi : Nat) (V2 : Value) (T : Tr) (hB : IsB W B 59 #[.pointer (some ⟨s, 0, none⟩)]) (hs : IsB W s 66 #[.int .i64 wi, ptr T, V2]) (tn : TN W wi T) (hn : (blks T).length ≤ 10000) :
    SeqX Fence.wide n Try.prog 46 #[.pointer (some ⟨B, 0, none⟩)] enN TC TQ (blks T) W := by
  intro l J Jx hJ hJx hY h0
  obtain ⟨q, hq⟩ : ∃ q, q = W.heap.size := ⟨_, rfl⟩
  rw [← hq] at hJ hJx hY
  have HJ := Lib.hid hJ
  have HY := Lib.hid hY
  have H0 := Lib.hid h0
  have TT := Lib.hid tn
  have HN := Lib.hid hn
  have HT1 := Lib.hid hT1
  have HT2 := Lib.hid hT2
  have c0 : W.cell? ⟨B, 0, none⟩ = some (.pointer (some ⟨s, 0, none⟩)) := hB.cell 0
  have c1 : W.cell? ⟨s, 1, none⟩ = some (ptr T) := hs.cell 1
  obtain ⟨Z, hZ⟩ : ∃ Z, Z = blks T := ⟨_, rfl⟩
  rw [← hZ] at HY HN ⊢
  have HZ := Lib.hid hZ
  have HQ' := Lib.hid hq
  obtain ⟨po, hpo⟩ := ptr_pad T
  have HPO := Lib.hid hpo
  rw [hpo] at c1
  clear hJ hJx hY h0 tn hn hT1 hT2 hZ hB hs hpo
  show CallsIn _ _ _ _ #[.func (.yield l) #[] #[], .pointer (some ⟨B, 0, none⟩)] _ _
  refine callsIn_of_wp Try.func46 rfl trivial ?_ rfl
  simp only [Try.ntmps46, List.size_toArray, List.length_cons, List.length_nil, Nat.reduceAdd, Nat.reduceSub, Array.replicate_succ, Array.replicate_zero, List.push_toArray, List.append_toArray, List.nil_append, List.cons_append]
  have P3 := Lib.hid (show World.ownsRow (W.alloc (.cells #[.pointer po] 64)) q 64 1 (.slice (some ⟨W.heap.size, 0, none⟩) 1 1) 1 ([T].map ptr) from ⟨by simp, .inr ⟨W.heap.size, 1, #[.pointer po], rfl, by have := HQ'.out; omega, IsB.new _ _ _, Nat.le_refl _, by unfold maxLen; omega, by simp, by simp [HPO.out]⟩⟩)
  have G3 := Lib.hid (gb_alloc W (.cells #[.pointer po] 64) none)
  gi_wp2
  generalize W.alloc (.cells #[.pointer po] 64) = w3 at *
  have J3 := Lib.hid (HJ.out _ _ _ H0.out (Kt.of_gb G3.out))
  have T3 := Lib.hid (TT.out.keep0 G3.out)
  obtain ⟨g0, hg0⟩ : ∃ g, g = W.heap.size := ⟨_, rfl⟩
  rw [← hg0] at P3 ⊢
  obtain ⟨f, hf⟩ : ∃ f, f = dep T + 1 := ⟨_, rfl⟩
  have DF := Lib.hid (show dep T < f by omega)
  clear c0 c1 hg0 hf
  gi_loopw [3] (fun v wr => ∃ (pre : List Nat) (K : List Tr) (g c : Nat), v = .slice (some ⟨g, 0, none⟩) K.length c ∧ wr.ownsRow q 64 1 (.slice (some ⟨g, 0, none⟩) K.length c) K.length (K.map ptr) ∧ Z = pre ++ rem K ∧ (∀ T ∈ K, TN wr wi T ∧ dep T < f) ∧ K.length ≤ pre.length + 1 ∧ q ≤ wr.heap.size ∧ J pre wr) (fun v wr => stk f wr v)
  case atStart => exact ⟨[], [T], g0, 1, rfl, P3.out, by rw [HZ.out]; simp [rem], by intro T' h; simp at h; subst h; exact ⟨T3.out, DF.out⟩, Nat.le_refl _, by rw [HQ'.out]; exact G3.out.size, J3.out⟩
  case round =>
    obtain ⟨pre, K, g, c, rfl, ho, hz, ht, hk, hq2, hj⟩ := hrel
    have OO := Lib.hid ho
    have ZZ := Lib.hid hz
    have TS := Lib.hid ht
    have JJ := Lib.hid hj
    have KL := Lib.hid hk
    have QS := Lib.hid hq2
    clear P3 G3 J3 T3 DF TT H0 ho hz ht hj hk hq2
    rcases List.eq_nil_or_concat K with rfl | ⟨K, T', rfl⟩
    · have i0 : ¬ (0 : Int) < (([] : List Tr).length : Int) := by simp
      have FIN := Lib.hid (show J Z wr by rw [ZZ.out]; simpa [rem] using JJ.out)
      gi_wp2
      go_end0
      exact ⟨⟨_, rfl⟩, .inl FIN.out⟩
    · rw [List.concat_eq_append] at *
      obtain ⟨m, hm⟩ : ∃ m, m = K.length := ⟨_, rfl⟩
      have e1 : (K ++ [T']).length = m + 1 := by simp [hm]
      have ML := Lib.hid (stk_is OO.out rfl TS.out)
      have CP := own_cap OO.out
      have cP0 := World.ownsRow.cellAt OO.out m (by rw [e1]; omega)
      have cP : wr.cell? ⟨g, m, none⟩ = some (ptr T') := by rw [cP0, List.map_append, List.getElem?_append_right (by simp [hm])]; simp [hm]
      have PRE := Lib.hid (own_pre (m := m) OO.out (by rw [e1]; omega))
      have ZL := Lib.hid (show m ≤ 10000 by
        have k1 := KL.out
        have k2 := HN.out
        have k3 := congrArg List.length ZZ.out
        rw [List.length_append] at k3
        omega)
      rw [e1] at CP
      have MK := Lib.hid (show ((K ++ [T']).map ptr).take m = K.map ptr by rw [List.map_append, List.take_append_of_le_length (by simp [hm]), List.take_of_length_le (by simp [hm])])
      rw [MK.out] at PRE
      rw [e1] at ML
      have KL2 := KL.out
      rw [e1] at KL2
      have KL3 := Lib.hid KL2
      rw [e1]
      have HM := Lib.hid hm
      have i0 : (0 : Int) < ((m + 1 : Nat) : Int) := by omega
      have i1 : (m : Int) < ((m + 1 : Nat) : Int) := by omega
      have i2 : (0 : Int) ≤ (m : Int) := by omega
      have i3 : (m : Int) ≤ (c : Int) := by omega
      have hw3 : wrap64 (m : Int) = (m : Int) := by have := ZL.out; exact IntWalk.wrap64_in _ (by omega)
      have hw : IntKind.i64.wrap (((m + 1 : Nat) : Int) - 1) = (m : Int) := by have := ZL.out; rw [IntKind.wrap_i64]; omega
      clear cP0 hm e1 KL2 KL CP
      cases T' with
      | nil =>
        rw [show ptr Tr.nil = .pointer none from rfl] at cP
        gi_wp2
        go_roundw
        case rel => exact ⟨pre, K, g, c, by rw [HM.out], by rw [← HM.out]; exact PRE.out, by rw [ZZ.out, rem_nil], fun T h => TS.out T (by simp [h]), by rw [← HM.out]; have := KL3.out; omega, QS.out, JJ.out⟩
        case measure =>
          rw [ML.out, stk_is (K := K) PRE.out HM.out (fun T h => TS.out T (by simp [h]))]
          simp [sz]
      | node b p st x l2 r2 =>
        rw [show ptr (.node b p st x l2 r2) = .pointer (some ⟨b, 0, none⟩) from rfl] at cP
        have Z2 := Lib.hid (show Z = (pre ++ [b]) ++ rem (K ++ [r2, l2]) by rw [ZZ.out, rem_node]; simp)
        have PX := Lib.hid (show pre ++ [b] <+: Z from ⟨_, Z2.out.symm⟩)
        obtain ⟨fn, tmps, assign, body, hy, hR⟩ := HY.out pre b wr PX.out JJ.out
        dsimp only [enN] at hy
        have TB := Lib.hid (TS.out (.node b p st x l2 r2) (by simp))
        gi_wp2_with ((try refine ⟨trivial, ?_⟩); (try refine ⟨wd _, ?_⟩); refine hR.mono ?_; clear hR; rintro e w5 (⟨rfl, j5, k5⟩ | ⟨rfl, j5, k5⟩))
        · have O5 := Lib.hid (k5.row PRE.out fun _ _ => HT2.out)
          have T5 := Lib.hid (k5.tn TB.out.1 fun _ _ => HT1.out)
          have TK5 := Lib.hid (fun T (h : T ∈ K) => (⟨k5.tn (TS.out T (by simp [h])).1 fun _ _ => HT1.out, (TS.out T (by simp [h])).2⟩ : TN w5 wi T ∧ dep T < f))
          have Q5 := Lib.hid (Nat.le_trans QS.out k5.size)
          have J5 := Lib.hid j5
          obtain ⟨pl, hpl⟩ := ptr_pad l2
          obtain ⟨pr, hpr⟩ := ptr_pad r2
          have x4 : w5.cell? ⟨b, 4, none⟩ = some (.pointer pl) := by rw [← hpl]; exact T5.out.1.cell 4
          have x5 : w5.cell? ⟨b, 5, none⟩ = some (.pointer pr) := by rw [← hpr]; exact T5.out.1.cell 5
          have HPL := Lib.hid hpl
          have HPR := Lib.hid hpr
          clear j5 k5 hpl hpr cP hy
          have hS0 : (fun w' : World => w'.cell? ⟨b, 4, none⟩ = some (.pointer pl) ∧ w'.cell? ⟨b, 5, none⟩ = some (.pointer pr)) w5.drew := ⟨x4, x5⟩
          refine wpIn_region_F (S := (fun w' : World => w'.cell? ⟨b, 4, none⟩ = some (.pointer pl) ∧ w'.cell? ⟨b, 5, none⟩ = some (.pointer pr))) (by kernel_rfl) hS0 (fun hH0 => ?_)
          clear hS0
          refine wpAnyF_take (i := 0) (v := ?v301) rfl (by kernel_rfl) (by kernel_rfl) (by kernel_rfl) (by kernel_rfl) (fun _ _ _ h => h) (Or.inl ⟨by rfl, ?hy301⟩) (fun _ => rfl) (by assumption) ?rest301
          case hy301 => (intro wz hSw; (try dsimp only at hSw); first | (go_simp; done) | (go_simp; with_reducible rfl))
          try simp only [Act.put, List.getElem_toArray, List.getElem_cons_zero, List.setIfInBounds_toArray, List.set_cons_zero, List.set_cons_succ]
          refine wpAnyF_take (i := 1) (v := ?v302) rfl (by kernel_rfl) (by kernel_rfl) (by kernel_rfl) (by kernel_rfl) (fun _ _ _ h => h) (Or.inl ⟨by rfl, ?hy302⟩) (fun _ => rfl) (by assumption) ?rest302
          case hy302 => (intro wz hSw; (try dsimp only at hSw); first | (go_simp; done) | (go_simp; with_reducible rfl))
          try simp only [Act.put, List.getElem_toArray, List.getElem_cons_succ, List.getElem_cons_zero, List.setIfInBounds_toArray, List.set_cons_zero, List.set_cons_succ]
          refine wpAnyF_take (i := 2) (v := ?v303) rfl (by kernel_rfl) (by kernel_rfl) (by kernel_rfl) (by kernel_rfl) (fun _ _ _ h => h) (Or.inl ⟨by rfl, ?hy303⟩) (fun _ => rfl) (by assumption) ?rest303
          case hy303 => (intro wz hSw; (try dsimp only at hSw); first | (go_simp; done) | (go_simp; with_reducible rfl))
          try simp only [Act.put, List.getElem_toArray, List.getElem_cons_succ, List.getElem_cons_zero, List.setIfInBounds_toArray, List.set_cons_zero, List.set_cons_succ]
          refine wpAnyF_take (i := 3) (v := ?v304) rfl (by kernel_rfl) (by kernel_rfl) (by kernel_rfl) (by kernel_rfl) (fun _ _ _ h => h) (Or.inl ⟨by rfl, ?hy304⟩) (fun _ => rfl) (by assumption) ?rest304
          case hy304 => (intro wz hSw; (try dsimp only at hSw); first | (go_simp; done) | (go_simp; with_reducible rfl))
          try simp only [Act.put, List.getElem_toArray, List.getElem_cons_succ, List.getElem_cons_zero, List.setIfInBounds_toArray, List.set_cons_zero, List.set_cons_succ]
          refine wpAnyF_take (i := 4) (v := ?v305) rfl (by kernel_rfl) (by kernel_rfl) (by kernel_rfl) (by kernel_rfl) (fun _ _ _ h => h) (Or.inl ⟨by rfl, ?hy305⟩) (fun _ => rfl) (by assumption) ?rest305
          case hy305 => (intro wz hSw; (try dsimp only at hSw); first | (go_simp; done) | (go_simp; with_reducible rfl))
          try simp only [Act.put, List.getElem_toArray, List.getElem_cons_succ, List.getElem_cons_zero, List.setIfInBounds_toArray, List.set_cons_zero, List.set_cons_succ]
          refine wpAnyF_take (i := 5) (v := ?v306) rfl (by kernel_rfl) (by kernel_rfl) (by kernel_rfl) (by kernel_rfl) (fun _ _ _ h => h) (Or.inl ⟨by rfl, ?hy306⟩) (fun _ => rfl) (by assumption) ?rest306
          case hy306 => (intro wz hSw; (try dsimp only at hSw); first | (go_simp; done) | (go_simp; with_reducible rfl))
          try simp only [Act.put, List.getElem_toArray, List.getElem_cons_succ, List.getElem_cons_zero, List.setIfInBounds_toArray, List.set_cons_zero, List.set_cons_succ]
          refine wpAnyF_take (i := 6) (v := ?v307) rfl (by kernel_rfl) (by kernel_rfl) (by kernel_rfl) (by kernel_rfl) (fun _ _ _ h => h) (Or.inl ⟨by rfl, ?hy307⟩) (fun _ => rfl) (by assumption) ?rest307
          case hy307 => (intro wz hSw; (try dsimp only at hSw); first | (go_simp; done) | (go_simp; with_reducible rfl))
          try simp only [Act.put, List.getElem_toArray, List.getElem_cons_succ, List.getElem_cons_zero, List.setIfInBounds_toArray, List.set_cons_zero, List.set_cons_succ]
          refine wpAnyF_take (i := 7) (v := ?v308) rfl (by kernel_rfl) (by kernel_rfl) (by kernel_rfl) (by kernel_rfl) (fun _ _ _ h => h) (Or.inl ⟨by rfl, ?hy308⟩) (fun _ => rfl) (by assumption) ?rest308
          case hy308 => (intro wz hSw; (try dsimp only at hSw); first | (go_simp; done) | (go_simp; with_reducible rfl))
          try simp only [Act.put, List.getElem_toArray, List.getElem_cons_succ, List.getElem_cons_zero, List.setIfInBounds_toArray, List.set_cons_zero, List.set_cons_succ]
          refine wpAnyF_take (i := 8) (v := ?v309) rfl (by kernel_rfl) (by kernel_rfl) (by kernel_rfl) (by kernel_rfl) (fun _ _ _ h => h) (Or.inl ⟨by rfl, ?hy309⟩) (fun _ => rfl) (by assumption) ?rest309
          case hy309 => (intro wz hSw; (try dsimp only at hSw); first | (go_simp; done) | (go_simp; with_reducible rfl))
          try simp only [Act.put, List.getElem_toArray, List.getElem_cons_succ, List.getElem_cons_zero, List.setIfInBounds_toArray, List.set_cons_zero, List.set_cons_succ]
          refine wpAnyF_take (i := 9) (v := ?v310) rfl (by kernel_rfl) (by kernel_rfl) (by kernel_rfl) (by kernel_rfl) (fun _ _ _ h => h) (Or.inl ⟨by rfl, ?hy310⟩) (fun _ => rfl) (by assumption) ?rest310
          case hy310 => (intro wz hSw; (try dsimp only at hSw); first | (go_simp; done) | (go_simp; with_reducible rfl))
          try simp only [Act.put, List.getElem_toArray, List.getElem_cons_succ, List.getElem_cons_zero, List.setIfInBounds_toArray, List.set_cons_zero, List.set_cons_succ]
          refine wpAnyF_take (i := 10) (v := ?v311) rfl (by kernel_rfl) (by kernel_rfl) (by kernel_rfl) (by kernel_rfl) (fun _ _ _ h => h) (Or.inl ⟨by rfl, ?hy311⟩) (fun _ => rfl) (by assumption) ?rest311
          case hy311 => (intro wz hSw; (try dsimp only at hSw); first | (go_simp; done) | (go_simp; with_reducible rfl))
          try simp only [Act.put, List.getElem_toArray, List.getElem_cons_succ, List.getElem_cons_zero, List.setIfInBounds_toArray, List.set_cons_zero, List.set_cons_succ]
          refine wpAnyF_ready (rs := [11]) (by kernel_rfl) (by simp) ?_
          refine AllF.cons (o := _) rfl (fun K' hK => ?_) AllF.nil
          refine opF_plain (v := .slice (some ⟨w5.heap.size, 0, none⟩) 2 2) (w1 := (w5.alloc (.cells #[.pointer pr, .pointer pl] 64)).drew) rfl (by intro c hc; cases hc) rfl (by go_simp) ?_
          have y4 := (gb_alloc w5 (.cells #[.pointer pr, .pointer pl] 64) none).cell x4 (by simp)
          have y5 := (gb_alloc w5 (.cells #[.pointer pr, .pointer pl] 64) none).cell x5 (by simp)
          have I6 := Lib.hid (IsB.new w5 64 #[.pointer pr, .pointer pl])
          have O6 := Lib.hid (own_keep0 O5.out (gb_alloc w5 (.cells #[.pointer pr, .pointer pl] 64) none))
          have T6 := Lib.hid (T5.out.keep0 (gb_alloc w5 (.cells #[.pointer pr, .pointer pl] 64) none))
          have TK6 := Lib.hid (fun T (h : T ∈ K) => (⟨(TK5.out T h).1.keep0 (gb_alloc w5 (.cells #[.pointer pr, .pointer pl] 64) none), (TK5.out T h).2⟩ : TN (w5.alloc (.cells #[.pointer pr, .pointer pl] 64)) wi T ∧ dep T < f))
          have Q6 := Lib.hid (Nat.le_trans Q5.out (gb_alloc w5 (.cells #[.pointer pr, .pointer pl] 64) none).size)
          have J6 := Lib.hid (HJ.out _ _ _ J5.out (Kt.of_gb (gb_trans (gb_alloc w5 (.cells #[.pointer pr, .pointer pl] 64) none) (gb_drew _ none))))
          refine hK.out _ _ (⟨y4, y5⟩ : (fun w' : World => w'.cell? ⟨b, 4, none⟩ = some (.pointer pl) ∧ w'.cell? ⟨b, 5, none⟩ = some (.pointer pr)) _) (fun hH1 => ?_)
          clear hK K' hH0 x4 x5 O5 T5 TK5 Q5 J5
          obtain ⟨z, hzz⟩ : ∃ z, z = w5.heap.size := ⟨_, rfl⟩
          rw [← hzz] at I6 ⊢
          clear hzz
          generalize w5.alloc (.cells #[.pointer pr, .pointer pl] 64) = w6 at *
          try simp only [Act.put, List.getElem_toArray, List.getElem_cons_succ, List.getElem_cons_zero, List.setIfInBounds_toArray, List.set_cons_zero, List.set_cons_succ]
          refine wpAnyF_ready (rs := [12]) (by kernel_rfl) (by simp) ?_
          refine AllF.cons (o := _) rfl (fun K' hK => ?_) AllF.nil
          refine stepF_push rfl _ _ rfl q _ m (K.map ptr) rfl (own_keep0 O6.out (gb_drew _ none)) ⟨z, 0, none⟩ 2 2 [.pointer pr, .pointer pl] rfl rfl (fun j u hu => ?_) (by intro u hu; simp at hu; rcases hu with rfl | rfl <;> rfl) (by have := ZL.out; omega) Q6.out ?_
          · have k := (I6.out.keep0 (gb_drew w6 none)).cell j
            rw [show ((⟨z, 0, none⟩ : Addr).add j) = ⟨z, j, none⟩ by unfold Addr.add; split <;> simp_all, k]
            simpa using hu
          intro V8 w8 o8 g8
          obtain ⟨ob, hob⟩ := own_isb O6.out
          have OB := Lib.hid hob
          have N8 : ∀ cs, IsB w6.drew b 82 cs → IsB w8 b 82 cs := fun cs k => k.keepS g8 (OB.out.keep0 (gb_drew _ none)) (by decide)
          refine hK.out _ _ (⟨(N8 _ (T6.out.1.keep0 (gb_drew _ none))).cell 4 |>.trans (by simp [HPL.out]), (N8 _ (T6.out.1.keep0 (gb_drew _ none))).cell 5 |>.trans (by simp [HPR.out])⟩ : (fun w' : World => w'.cell? ⟨b, 4, none⟩ = some (.pointer pl) ∧ w'.cell? ⟨b, 5, none⟩ = some (.pointer pr)) _) (fun hH2 => ?_)
          clear hK K' hH1
          try simp only [Act.put, List.getElem_toArray, List.getElem_cons_succ, List.getElem_cons_zero, List.setIfInBounds_toArray, List.set_cons_zero, List.set_cons_succ]
          refine wpAnyF_take (i := 13) (v := ?v312) rfl (by kernel_rfl) (by kernel_rfl) (by kernel_rfl) (by kernel_rfl) (fun _ _ _ h => h) (Or.inl ⟨by rfl, ?hy312⟩) (fun _ => rfl) (by assumption) ?rest312
          case hy312 => (intro wz hSw; (try dsimp only at hSw); first | (go_simp; done) | (go_simp; with_reducible rfl))
          try simp only [Act.put, List.getElem_toArray, List.getElem_cons_succ, List.getElem_cons_zero, List.setIfInBounds_toArray, List.set_cons_zero, List.set_cons_succ]
          refine wpAnyF_done (by kernel_rfl) ?_ _
          clear hH2
          have GT8 := Lib.hid (fun (T : Tr) (h : TN w6 wi T) => (h.keep0 (gb_drew w6 none)).keep (w2 := w8) fun k t cs q m => q.keepS g8 (OB.out.keep0 (gb_drew _ none)) (by
            obtain ⟨cs2, k2⟩ := (h.keep0 (gb_drew w6 none)).blk k m
            have e : t = 82 := by
              have k3 : (w6.drew).heap[k]? = _ := q
              rw [show (w6.drew).heap[k]? = _ from k2] at k3
              cases k3; rfl
            rw [e]; decide))
          have KT8 := Lib.hid (show Kt (KI TQ q) w6.drew w8 from Kt.of_row g8 fun o ho => by
            rw [show w6.drew.heap[g]? = _ from OB.out.keep0 (gb_drew _ none)] at ho; cases ho
            exact ⟨(World.ownsRow.lt O6.out g rfl).1, rfl⟩)
          have J8 := HJ.out _ _ _ J6.out KT8.out
          have O8 := Lib.hid o8
          have G8 := Lib.hid g8
          clear o8 g8 N8
          obtain ⟨h8, c8, rfl⟩ := own_head O8.out (by omega)
          have e8 : (K ++ [r2, l2]).length = m + 2 := by simp [HM.out]
          have O9 := Lib.hid (show w8.ownsRow q 64 1 (.slice (some ⟨h8, 0, none⟩) (m + 2) c8) (m + 2) ((K ++ [r2, l2]).map ptr) by
            have k := O8.out
            rw [List.map_append]
            simpa [HPL.out, HPR.out] using k)
          have TK9 := Lib.hid (show ∀ T ∈ K ++ [r2, l2], TN w8 wi T ∧ dep T < f from fun T h => by
            rcases List.mem_append.1 h with h | h
            · exact ⟨GT8.out T (TK6.out T h).1, (TK6.out T h).2⟩
            · have d := TB.out.2
              simp only [dep] at d
              simp at h
              rcases h with rfl | rfl
              · exact ⟨GT8.out _ T6.out.2.2, by omega⟩
              · exact ⟨GT8.out _ T6.out.2.1, by omega⟩)
          have Z3 := Lib.hid Z2.out
          clear e8
          gi_wp2
          go_roundw
          case rel => exact ⟨pre ++ [b], K ++ [r2, l2], h8, c8, by simp [HM.out], by have k := O9.out; rwa [show m + 2 = (K ++ [r2, l2]).length by simp [HM.out]] at k, Z3.out, TK9.out, by have := KL3.out; simp; have := HM.out; omega, Nat.le_trans Q6.out G8.out.size, J8⟩
          case measure =>
            have k := stk_is (K := K ++ [r2, l2]) O9.out (by simp [HM.out]) TK9.out
            rw [ML.out, k]
            simp [sz]
            omega
        · (try simp only [Exit.inBlock, Exit.then])
          refine bodyPost_ret (results_none rfl _ _ _) rfl ?_
          exact ⟨⟨_, rfl⟩, .inr ⟨_, PX.out, j5⟩⟩
end Go.Proofs.Ytidjggaffioekaa
