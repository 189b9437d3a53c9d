/- Control: all nodes are gone through by a recursion that hands them on; no condition but that the tree lies in memory. -/
import Derived.Test.YtfjeonoihdgdoaaCnA
import Derived.Test.YtfjeonoihdgdoaaRxA
namespace Go.Proofs.Ytfjeonoihdgdoaa
open Go.RowKit Go.Shelf
set_option linter.unusedVariables false
attribute [local go_sem] Oper.semAt_some

theorem kc_kt {A W W2 : World} {own : Nat → Obj → Prop} (h : Kc A W) (k : Kt own W W2) (hn : ∀ k cs t m, k < A.heap.size → ¬ own k (.cells cs t m)) : Kc A W2 := by
  intro p v q
  have lt : p.block < A.heap.size := by
    rcases Nat.lt_or_ge p.block A.heap.size with hl | hl
    · exact hl
    · unfold World.cell? at q; rw [Array.getElem?_eq_none hl] at q; cases q
  have r := h p v q
  cases e : W.heap[p.block]? with
  | none => unfold World.cell? at r; rw [e] at r; cases r
  | some o =>
    cases o with
    | cells c t m =>
      have s := k.same _ _ e (hn _ _ _ _ lt)
      unfold World.cell? at r ⊢
      rw [s]; rw [e] at r; exact r
    | _ => unfold World.cell? at r; rw [e] at r; cases r
/-- The iterator itself turns no cells. -/
def TZ (_ : TypeId) : Prop := False
/-- How a node is handed to a round. -/
def enC (x : CV) : Array Value := #[.agg x.cs]
set_option maxRecDepth 100000 in
set_option maxHeartbeats 4000000 in
theorem visit_any (W0 : World) (l : Nat) (TC : Nat → TypeId → Prop) (B : Nat) (hT0 : ∀ k t, k < W0.heap.size → ¬ TC k t) (hT1 : ∀ k, B ≤ k → ¬ TC k 63)
    (J Jx : List CV → World → Prop) (hJ : ∀ s A C, J s A → Kt (KI TZ B) A C → J s C) (Z : List CV)
    (hY : ∀ m pre x W1, pre ++ [x] <+: Z → J pre W1 → YieldAt Fence.wide m Try.prog l (enC x) W1 fun e W2 =>
      (e = .returned (.bool true) ∧ J (pre ++ [x]) W2 ∧ Kt (KB TC B) W1 W2) ∨ (e = .returned (.bool false) ∧ Jx (pre ++ [x]) W2 ∧ Kt (KB TC B) W1 W2)) :
    ∀ (m : Nat) (T : CT) (s : Sl) (n : Nat) (pre0 : List CV) (W : World), T.cnt < m → T.cnt ≤ 1000000 → ST W0 s T → Kc W0 W → B ≤ W.heap.size → J pre0 W → pre0 ++ T.pre <+: Z →
      CallsIn Fence.wide n Try.prog 76 #[.slice s.a s.n s.c, .func (.yield l) #[] #[]] W fun e W2 =>
        (e = .returned (.bool true) ∧ J (pre0 ++ T.pre) W2 ∧ Kt (KB TC B) W W2) ∨ (e = .returned (.bool false) ∧ ∃ p, p <+: Z ∧ Jx p W2) := by
  intro m
  induction m with
  | zero => intro T s n pre0 W h; omega
  | succ m ih =>
    intro T s n pre0 W hm hlen hS hk hB h0 hZ
    obtain ⟨sa, sn, sc⟩ := s
    have IH := Lib.hid ih
    have HY := Lib.hid hY
    have HJ := Lib.hid hJ
    have HS := Lib.hid hS
    have HK := Lib.hid hk
    have H0 := Lib.hid h0
    have HZ := Lib.hid hZ
    have HM := Lib.hid hm
    have HT0 := Lib.hid hT0
    have HT1 := Lib.hid hT1
    have HB := Lib.hid hB
    have SL := Lib.hid hS.len
    have scap : sn ≤ sc := hS.cap
    have SB := Lib.hid (show sn ≤ 1000000 by have := hS.len; have := CT.len_cnt T; dsimp only at *; omega)
    have HL := Lib.hid hlen
    clear ih hY hJ hS hk h0 hZ hm hT0 hT1 hB hlen
    dsimp only at *
    refine callsIn_of_wp Try.func76 rfl trivial ?_ rfl
    simp only [Try.ntmps76, List.size_toArray, List.length_cons, List.length_nil, Nat.reduceAdd, Nat.reduceSub, Array.replicate_succ, Array.replicate_zero, List.push_toArray, List.append_toArray, List.nil_append, List.cons_append]
    gi_wp2
    gi_loopw [9] (fun v wr => ∃ (j : Nat) (pre : List CV), v = .int .i64 j ∧ j ≤ sn ∧ Kc W0 wr ∧ B ≤ wr.heap.size ∧ Kt (KB TC B) W wr ∧ J pre wr ∧ pre ++ (T.drop j).pre = pre0 ++ T.pre) (fun v _ => sn - (intOf v).toNat)
    case atStart => exact ⟨0, pre0, rfl, Nat.zero_le _, HK.out, HB.out, Kt.refl _ _, H0.out, by rw [CT.drop_zero]⟩
    case round =>
      obtain ⟨j, pre, rfl, hj, kc, hb, kt, jp, he⟩ := hrel
      have KC := Lib.hid kc
      have KT := Lib.hid kt
      have JP := Lib.hid jp
      have HE := Lib.hid he
      have HBW := Lib.hid hb
      clear kc kt jp he hb H0 HK HB
      by_cases hlt : j < sn
      · have i1 : (j : Int) < sn := by omega
        have i0 : (0 : Int) ≤ (j : Int) := by omega
        obtain ⟨x, ad, hsa, hd, ⟨c0, c1, c2, c3, c4⟩, vm⟩ := HS.out.at_ j hlt
        dsimp only at hsa
        subst hsa
        have HD := Lib.hid hd
        have VMx := Lib.hid vm
        have hcn := cnt_th hd
        have hth : x.th.cnt ≤ 1000000 ∧ x.el.cnt ≤ 1000000 := by have := HL.out; omega
        replace c0 := KC.out _ _ c0
        replace c1 := KC.out _ _ c1
        replace c2 := KC.out _ _ c2
        replace c3 := KC.out _ _ c3
        replace c4 := KC.out _ _ c4
        have PZ := Lib.hid (show pre ++ [x] <+: Z by
          refine List.IsPrefix.trans ?_ HZ.out
          rw [← HE.out, pre_at HD.out]
          exact ⟨x.th.pre ++ (x.el.pre ++ (T.drop (j + 1)).pre), by simp⟩)
        have YY := HY.out (n - 1) pre x (wr.alloc (.cells x.cs 63)) PZ.out (HJ.out _ _ _ JP.out (Kt.of_gb (gb_alloc _ _ none)))
        have BX := Lib.hid (IsB.new wr 63 x.cs)
        have KA := Lib.hid (KC.out.trans (Kc.of_gb (gb_alloc wr (.cells x.cs 63) none)))
        have KTA := Lib.hid (KT.out.trans (Kt.of_gb (gb_alloc wr (.cells x.cs 63) none)))
        have own0 : ∀ k cs t q, k < W0.heap.size → ¬ KB TC B k (.cells cs t q) := fun k cs t q h => HT0.out k t h
        have OWN0 := Lib.hid own0
        have ownx : ∀ cs q, ¬ KB TC B wr.heap.size (.cells cs 63 q) := fun cs q => HT1.out _ HBW.out
        have OWNX := Lib.hid ownx
        have IH1 := Lib.hid (fun (W1 : World) (k1 : Kc W0 W1) (b1 : B ≤ W1.heap.size) (j1 : J (pre ++ [x]) W1) => IH.out x.th x.s (n - 1) (pre ++ [x]) W1 (by have := HM.out; omega) hth.1 VMx.out.s k1 b1 j1 (by
          refine List.IsPrefix.trans ?_ HZ.out
          rw [← HE.out, pre_at HD.out]
          exact ⟨x.el.pre ++ (T.drop (j + 1)).pre, by simp⟩))
        have IH2 := Lib.hid (fun (W1 : World) (k1 : Kc W0 W1) (b1 : B ≤ W1.heap.size) (j1 : J (pre ++ [x] ++ x.th.pre) W1) => IH.out x.el x.u (n - 1) (pre ++ [x] ++ x.th.pre) W1 (by have := HM.out; omega) hth.2 VMx.out.u k1 b1 j1 (by
          refine List.IsPrefix.trans ?_ HZ.out
          rw [← HE.out, pre_at HD.out]
          exact ⟨(T.drop (j + 1)).pre, by simp⟩))
        have NX := Lib.hid (show pre ++ [x] ++ x.th.pre ++ x.el.pre ++ (T.drop (j + 1)).pre = pre0 ++ T.pre by
          rw [← HE.out, pre_at HD.out]; simp)
        clear own0 ownx hcn hth hd vm
        obtain ⟨xk, xt, ⟨ca, cn, cc⟩, N, ⟨ta, tn, tc⟩, th, ⟨ea, en, ec⟩, el⟩ := x
        dsimp only [enC, CV.cs, Sl.v] at *
        obtain ⟨fn, tmps, assign, body, hy, hR⟩ := YY
        gi_wp2_with (first
          | ((try refine ⟨trivial, ?_⟩); (try refine ⟨wd _, ?_⟩); refine hR.mono ?_; clear hR; rintro e w5 h5; rcases h5 with ⟨rfl, j5, k5⟩ | ⟨rfl, j5, k5⟩
             have B5 := Lib.hid (k5.isb BX.out (OWNX.out _ _)); have K5 := Lib.hid (kc_kt KA.out k5 OWN0.out); have S5 := Lib.hid (Nat.le_trans HBW.out (Nat.le_trans (gb_alloc wr _ none).size k5.size)); have T5 := Lib.hid (KTA.out.trans k5); have x3 := B5.out.cell 3; have x4 := B5.out.cell 4; dsimp at x3 x4
             have ih1 := IH1.out w5 K5.out S5.out j5; clear IH1 k5 j5 BX KA KTA hy c0 c1 c2 c3 c4)
          | ((try refine ⟨trivial, ?_⟩); (try refine ⟨wd _, ?_⟩); gi_at_call 76; refine ih1.mono ?_; clear ih1; rintro e w6 h6; rcases h6 with ⟨rfl, j6, k6⟩ | ⟨rfl, q6, hq6, j6⟩
             have B6 := Lib.hid (k6.isb B5.out (OWNX.out _ _)); have K6 := Lib.hid (kc_kt K5.out k6 OWN0.out); have S6 := Lib.hid (Nat.le_trans S5.out k6.size); have T6 := Lib.hid (T5.out.trans k6); clear x3 x4; have x4 := B6.out.cell 4; dsimp at x4
             have ih2 := IH2.out w6 K6.out S6.out j6; clear IH2 k6 j6 B5 K5 S5 T5)
          | ((try refine ⟨trivial, ?_⟩); (try refine ⟨wd _, ?_⟩); gi_at_call 76; refine ih2.mono ?_; clear ih2; rintro e w7 h7; rcases h7 with ⟨rfl, j7, k7⟩ | ⟨rfl, q7, hq7, j7⟩
             have K7 := Lib.hid (kc_kt K6.out k7 OWN0.out); have S7 := Lib.hid (Nat.le_trans S6.out k7.size); have T7 := Lib.hid (T6.out.trans k7); clear x4; have J7 := Lib.hid j7; clear k7 j7))
        · have hwj : wrap64 ((j : Int) + 1) = ((j + 1 : Nat) : Int) := by have := SB.out; rw [IntWalk.wrap64_in _ (by omega)]; omega
          rw [hwj]
          refine ⟨⟨j + 1, pre ++ [⟨xk, xt, ⟨ca, cn, cc⟩, N, ⟨ta, tn, tc⟩, th, ⟨ea, en, ec⟩, el⟩] ++ th.pre ++ el.pre, rfl, by omega, K7.out, S7.out, T7.out, J7.out, NX.out⟩, ?_⟩
          simp [intOf]; omega
        · go_ret
          exact .inr ⟨rfl, q7, hq7, j7⟩
        · refine ⟨trivial, ?_⟩
          gi_wp2
          go_ret
          exact .inr ⟨rfl, q6, hq6, j6⟩
        · refine ⟨trivial, ?_⟩
          gi_wp2_with (refine ⟨trivial, ?_⟩)
          go_ret
          exact .inr ⟨rfl, _, PZ.out, j5⟩
      · have hje : j = sn := by omega
        have i1 : ¬ (j : Int) < sn := by omega
        have FI := Lib.hid (show pre = pre0 ++ T.pre by
          have h := HE.out
          rw [CT.drop_all T j (by rw [SL.out]; omega)] at h
          simpa [CT.pre] using h)
        gi_wp2
        go_ret
        exact .inl ⟨rfl, by rw [← FI.out]; exact JP.out, KT.out⟩
set_option maxRecDepth 100000 in
theorem preo_any (w : World) (a : Option Addr) (n c : Nat) : Calls Try.prog 49 #[.slice a n c] w (fun e w' => e = .returned (.func (.func 75) #[] #[.pointer (some ⟨w.heap.size, 0, none⟩)]) ∧ w' = w.alloc (.cells #[.slice a n c] 28)) := by
  go_enter Try.func49, Try.ntmps49
  go_wp2
  go_ret
  exact ⟨rfl, rfl⟩
set_option maxRecDepth 100000 in
set_option maxHeartbeats 4000000 in
/-- The iterator hands on all nodes. -/
theorem preo_seq (W0 W : World) (n : Nat) (TC : Nat → TypeId → Prop) (hT0 : ∀ k t, k < W0.heap.size → ¬ TC k t) (hT1 : ∀ k, W.heap.size ≤ k → ¬ TC k 63)
    (s : Sl) (T : CT) (hc : T.cnt ≤ 1000000) (hS : ST W0 s T) (hk : Kc W0 W) (b : Nat) (hb : IsB W b 28 #[.slice s.a s.n s.c]) :
    SeqX Fence.wide n Try.prog 75 #[.pointer (some ⟨b, 0, none⟩)] enC TC TZ T.pre W := by
  intro l J Jx hJ hJx hY h0
  have V := Lib.hid (visit_any W0 l TC W.heap.size hT0 hT1 J Jx hJ T.pre (fun m pre x W1 hp hj => yield_any m (hY pre x W1 hp hj)) (T.cnt + 1) T s (n - 1) [] W (by omega) hc hS hk (Nat.le_refl _) h0 (by simp))
  have c0 := hb.cell 0
  dsimp at c0
  clear hJ hJx hY h0 hS hk hb
  show CallsIn _ _ _ _ #[.func (.yield l) #[] #[], .pointer (some ⟨b, 0, none⟩)] _ _
  refine callsIn_of_wp Try.func75 rfl trivial ?_ rfl
  simp only [Try.ntmps75, List.size_toArray, List.length_cons, List.length_nil, Nat.reduceAdd, Nat.reduceSub, Array.replicate_succ, Array.replicate_zero, List.push_toArray, List.append_toArray, List.nil_append, List.cons_append]
  gi_wp2_with ((try refine ⟨trivial, ?_⟩); (try refine ⟨wd _, ?_⟩); gi_at_call 76; refine V.out.mono ?_; rintro e w6 h6; rcases h6 with ⟨rfl, j6, k6⟩ | ⟨rfl, q6, hq6, j6⟩)
  · go_end0
    exact ⟨⟨_, rfl⟩, .inl (by simpa using j6)⟩
  · go_end0
    exact ⟨⟨_, rfl⟩, .inr ⟨q6, hq6, j6⟩⟩
end Go.Proofs.Ytfjeonoihdgdoaa
