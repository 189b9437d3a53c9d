/- The program's search of a graph: what it does to the marks; the walk of search. -/
import Derived.Test.YtaikpjnegopelaaDgA
import Derived.Test.YtaikpjnegopelaaGrE
import Derived.WalkMore
namespace Go.Proofs.Ytaikpjnegopelaa
open Go.RowKit
set_option linter.unusedVariables false

/-- The successors of v, one after the other: the marks, the queue, and whether the goal is met. -/
def innerB (n : Nat) (goal : Int) (val : List Int → Nat → Int) (v : Nat) : List Int → List Int → List Int → List Int × List Int × Bool
  | [], S, Q => (S, Q, false)
  | x :: t, S, Q =>
    if 0 ≤ x ∧ x < (n : Int) then
      (if S.getD x.toNat 0 = -1 then (if x = goal then (S.set x.toNat (val S v), Q, true) else innerB n goal val v t (S.set x.toNat (val S v)) (Q ++ [x]))
       else innerB n goal val v t S Q)
    else innerB n goal val v t S Q
def outerB (g : List (List Int)) (goal : Int) (val : List Int → Nat → Int) : Nat → Nat → List Int → List Int → List Int
  | 0, _, S, _ => S
  | k + 1, i, S, Q =>
    if i < Q.length then
      (if (innerB g.length goal val (Q.getD i 0).toNat (g.getD (Q.getD i 0).toNat []) S Q).2.2 = true then (innerB g.length goal val (Q.getD i 0).toNat (g.getD (Q.getD i 0).toNat []) S Q).1
       else outerB g goal val k (i + 1) (innerB g.length goal val (Q.getD i 0).toNat (g.getD (Q.getD i 0).toNat []) S Q).1 (innerB g.length goal val (Q.getD i 0).toNat (g.getD (Q.getD i 0).toNat []) S Q).2.1)
    else S
theorem innerB_cons (n : Nat) (goal : Int) (val : List Int → Nat → Int) (v : Nat) (x : Int) (t S Q : List Int) : innerB n goal val v (x :: t) S Q =
    if 0 ≤ x ∧ x < (n : Int) then
      (if S.getD x.toNat 0 = -1 then (if x = goal then (S.set x.toNat (val S v), Q, true) else innerB n goal val v t (S.set x.toNat (val S v)) (Q ++ [x]))
       else innerB n goal val v t S Q)
    else innerB n goal val v t S Q := rfl
theorem cnt_set (S : List Int) : ∀ (x : Nat) (v : Int), x < S.length → S.getD x 0 = -1 → v ≠ -1 → (S.set x v).count (-1) + 1 = S.count (-1) := by
  induction S with
  | nil => intro x v h; simp at h
  | cons y t ih =>
    intro x v hx hy hv
    cases x with
    | zero =>
      have e : y = -1 := by simpa using hy
      subst e
      rw [List.set_cons_zero, List.count_cons_self, List.count_cons_of_ne hv]
    | succ x =>
      have k := ih x v (by simpa using hx) (by simpa using hy) hv
      rw [List.set_cons_succ]
      by_cases e : y = -1
      · subst e; rw [List.count_cons_self, List.count_cons_self]; omega
      · rw [List.count_cons_of_ne e, List.count_cons_of_ne e]; exact k
/-- What the marking closure does, and what the walk may rely on. -/
structure Marks (W0 w : World) (f : Nat) (cp : Array Value) (n db : Nat) (val : List Int → Nat → Int) (J : List Int → World → Prop) : Prop where
  grown : ∀ S w', J S w' → W0.grownBy w' none
  keep : ∀ S w1 w2 row, J S w1 → w1.grownBy w2 row → (∀ q, row = some q → w.heap.size ≤ q) → J S w2
  enter : ∀ (args : Array Value) (w : World), (callFunc f args).run Try.prog w = .ok (.enter f args) w
  low : db < w.heap.size
  step : ∀ S w1 (v x : Nat), v < n → x < n → S.length = n → S.getD v 0 ≠ -1 → J S w1 →
    (S.getD x 0 = -1 → val S v ≠ -1) ∧ Calls Try.prog f (#[.int .i64 v, .int .i64 x] ++ cp) w1 fun e w2 => e = .returned (.bool (decide (S.getD x 0 = -1))) ∧ w1.grownBy w2 (some db) ∧ J (if S.getD x 0 = -1 then S.set x (val S v) else S) w2
/-- What holds of the marks and the queue. -/
structure SQ (n : Nat) (S Q : List Int) : Prop where
  len : S.length = n
  node : ∀ x ∈ Q, 0 ≤ x ∧ x < (n : Int) ∧ S.getD x.toNat 0 ≠ -1
  cnt : Q.length + S.count (-1) ≤ n
theorem getD_mem {Q : List Int} {i : Nat} (h : i < Q.length) : Q.getD i 0 ∈ Q := by simp [h]
theorem SQ.push {n : Nat} {S Q : List Int} (h : SQ n S Q) {x v : Int} (h0 : 0 ≤ x) (h1 : x < (n : Int)) (hx : S.getD x.toNat 0 = -1) (hv : v ≠ -1) : SQ n (S.set x.toNat v) (Q ++ [x]) := by
  have hl : x.toNat < S.length := by rw [h.len]; omega
  refine ⟨by simp [h.len], ?_, ?_⟩
  · intro y hy
    rcases List.mem_append.1 hy with hy | hy
    · have k := h.node y hy
      refine ⟨k.1, k.2.1, ?_⟩
      by_cases e : y.toNat = x.toNat
      · rw [e]; simp [hl, hv]
      · have e2 : (S.set x.toNat v).getD y.toNat 0 = S.getD y.toNat 0 := by simp [List.getD_eq_getElem?_getD, List.getElem?_set_ne (Ne.symm e)]
        rw [e2]; exact k.2.2
    · simp at hy
      subst hy
      exact ⟨h0, h1, by simp [hl, hv]⟩
  · have k := cnt_set S x.toNat v hl hx hv
    have c := h.cnt
    rw [List.length_append, List.length_singleton]
    omega
theorem nl_new (w : World) (x : Int) : NL (w.alloc (.cells #[.int .i64 x] 3)) w.heap.size (.slice (some ⟨w.heap.size, 0, none⟩) 1 1) [x] :=
  ⟨rfl, Or.inr ⟨w.heap.size, 1, #[.int .i64 x], rfl, Nat.le_refl _, IsB.new w _ _, Nat.le_refl _, by decide, rfl, rfl⟩⟩

set_option maxRecDepth 100000 in
set_option maxHeartbeats 4000000 in
theorem search_any (W0 w : World) (a : Option Addr) (c : Nat) (g : List (List Int)) (h : SlG W0 a g.length c g) (hn : g.length ≤ 100000) (start : Nat) (goal : Int) (f : Nat) (cp : Array Value) (val : List Int → Nat → Int) (S0 : List Int) (J : List Int → World → Prop) (db : Nat)
    (hst : start < g.length) (hS : S0.length = g.length) (hs0 : S0.getD start 0 ≠ -1) (hcnt : 1 + S0.count (-1) ≤ g.length) (hJ : J S0 w) (hM : Marks W0 w f cp g.length db val J) :
    Calls Try.prog 43 #[.slice a g.length c, .int .i64 start, .int .i64 goal, .func (.func f) #[] cp] w fun e w' => e = .returned (.tuple #[]) ∧ J (outerB g goal val (g.length + 1) 0 S0 [(start : Int)]) w' := by
  have HH := Lib.hid h
  have MK := Lib.hid hM
  have J0 := Lib.hid hJ
  have SQ0 := Lib.hid (show SQ g.length S0 [(start : Int)] from ⟨hS, by intro x hx; simp at hx; subst hx; exact ⟨by omega, by omega, by simpa using hs0⟩, by simpa using hcnt⟩)
  have N0 := Lib.hid (nl_new w start)
  have K0 := Lib.hid (hM.keep S0 w _ none hJ (gb_alloc w (.cells #[.int .i64 start] 3) none) (by intro q hq; cases hq))
  have hcf := hM.enter
  have L0 := Lib.hid (show w.heap.size ≤ (w.alloc (.cells #[.int .i64 start] 3)).heap.size from (gb_alloc w (.cells #[.int .i64 start] 3) none).size)
  clear h hM hJ hS hs0 hcnt
  go_enter Try.func43, Try.ntmps43
  go_wp2
  go_step3
  go_wp2
  go_step3
  go_wp2
  go_loopw [8, 9] (fun q i wr => ∃ (k m : Nat) (S Q : List Int), g.length + 1 ≤ m + k ∧ outerB g goal val m k S Q = outerB g goal val (g.length + 1) 0 S0 [(start : Int)] ∧ i = .int .i64 k ∧ k ≤ Q.length ∧ NL wr w.heap.size q Q ∧ w.heap.size ≤ wr.heap.size ∧ J S wr ∧ SQ g.length S Q) (fun _ i _ => g.length + 1 - (intOf i).toNat)
  case atStart => exact ⟨0, g.length + 1, S0, [(start : Int)], by omega, rfl, rfl, by simp, N0.out, L0.out, K0.out, SQ0.out⟩
  case round =>
    obtain ⟨k, m, S, Q, hkm, hout, rfl, hkQ, hnl, hsz, hj, hsq⟩ := hrel
    have NQ := Lib.hid hnl
    have SZ := Lib.hid hsz
    have JS := Lib.hid hj
    have SQS := Lib.hid hsq
    have OUT := Lib.hid hout
    have hq := hsq.cnt
    clear hnl hsz hj hsq hout N0 L0 K0
    obtain ⟨qa, qc, rfl⟩ := NQ.out.shape
    by_cases hlt : k < Q.length
    · have hi : (k : Int) < Q.length := by omega
      obtain ⟨qg, qd, hh⟩ := NQ.out.headn rfl (by omega)
      cases hh
      have cq := NQ.out.at_ rfl k hlt
      have hv := SQS.out.node _ (getD_mem hlt)
      obtain ⟨v, hvv⟩ : ∃ v : Nat, Q.getD k 0 = v := ⟨(Q.getD k 0).toNat, by omega⟩
      rw [hvv] at cq hv
      have hvn : v < g.length := by omega
      have hvi : (v : Int) < g.length := by omega
      have hSv : S.getD v 0 ≠ -1 := by simpa using hv.2.2
      cases a with
      | none => exact absurd (HH.out.2.1 rfl).1 (by omega)
      | some ad =>
        have OUT2 := Lib.hid (show outerB g goal val m k S Q = if (innerB g.length goal val v (g.getD v []) S Q).2.2 = true then (innerB g.length goal val v (g.getD v []) S Q).1 else outerB g goal val (m - 1) (k + 1) (innerB g.length goal val v (g.getD v []) S Q).1 (innerB g.length goal val v (g.getD v []) S Q).2.1 by
          obtain ⟨m', rfl⟩ : ∃ m', m = m' + 1 := ⟨m - 1, by omega⟩
          show (if _ then _ else _) = _
          rw [if_pos hlt, hvv]
          rfl)
        rw [OUT.out] at OUT2
        obtain ⟨A, C, c0, r0, l1⟩ := HH.out.row v hvn
        have c1 := (MK.out.grown _ _ JS.out).cell c0 (by simp)
        obtain ⟨zs, hz⟩ : ∃ zs, zs = g.getD v [] := ⟨_, rfl⟩
        rw [← hz] at c1 r0 l1 OUT2
        obtain ⟨R, hR⟩ : ∃ R, R = innerB g.length goal val v zs S Q := ⟨_, rfl⟩
        rw [← hR] at OUT2
        have HR := Lib.hid hR
        have R0 := Lib.hid r0
        clear r0 hR hz c0 hvv
        go_wp2
        go_loopw [8, 30] (fun q i wr2 => ∃ (j : Nat) (S2 Q2 : List Int), j ≤ zs.length ∧ innerB g.length goal val v (zs.drop j) S2 Q2 = R ∧ i = .int .i64 j ∧ NL wr2 w.heap.size q Q2 ∧ w.heap.size ≤ wr2.heap.size ∧ J S2 wr2 ∧ SQ g.length S2 Q2 ∧ S2.getD v 0 ≠ -1 ∧ k + 1 ≤ Q2.length) (fun _ i _ => zs.length - (intOf i).toNat)
        case atStart => exact ⟨0, S, Q, Nat.zero_le _, by rw [List.drop_zero]; exact HR.out.symm, rfl, NQ.out, SZ.out, JS.out, SQS.out, hSv, hlt⟩
        case round =>
          obtain ⟨j, S2, Q2, hj, hin, rfl, hnl, hsz, hjs, hsq, hsv2, hkQ2⟩ := hrel
          clear NQ SZ JS SQS
          have NQ := Lib.hid hnl
          have SZ := Lib.hid hsz
          have JS := Lib.hid hjs
          have SQS := Lib.hid hsq
          have IN := Lib.hid hin
          have hq2 := hsq.cnt
          clear hnl hsz hjs hsq hin
          by_cases hjt : j < zs.length
          · have i3 : (j : Int) < zs.length := by omega
            cases A with
            | none => exact absurd (R0.out.2.1 rfl).1 (by omega)
            | some ar =>
              have c2 := (R0.out.keep0 (MK.out.grown _ _ JS.out)).cellAt j hjt
              have IN2 := Lib.hid IN.out
              rw [show zs.drop j = zs.getD j 0 :: zs.drop (j + 1) by rw [List.drop_eq_getElem_cons hjt]; simp [hjt], innerB_cons] at IN2
              obtain ⟨x, hx⟩ : ∃ x, x = zs.getD j 0 := ⟨_, rfl⟩
              rw [← hx] at c2 IN2
              clear hx
              have HI := Lib.hid (fun w => isNode_any w (some ad) g.length c x)
              by_cases hnode : 0 ≤ x ∧ x < (g.length : Int)
              · simp only [decide_eq_true hnode] at HI
                rw [if_pos hnode] at IN2
                obtain ⟨xn, rfl⟩ : ∃ xn : Nat, x = (xn : Int) := ⟨x.toNat, by omega⟩
                have hxn : xn < g.length := by omega
                rw [Int.toNat_natCast] at IN2
                have ST := MK.out.step S2 _ v xn hvn hxn SQS.out.len hsv2 JS.out
                have HC := Lib.hid ST.2
                have HV := Lib.hid ST.1
                clear ST
                by_cases hm1 : S2.getD xn 0 = -1
                · rw [if_pos hm1] at IN2
                  have HV2 := Lib.hid (HV.out hm1)
                  simp only [decide_eq_true hm1, if_pos hm1] at HC
                  have HM1 := Lib.hid hm1
                  clear hm1 HV
                  by_cases hg : (xn : Int) = goal
                  · rw [if_pos hg] at IN2
                    have ig : ((xn : Int) == goal) = true := by rw [beq_iff_eq]; exact hg
                    clear hg
                    go_wp2_with fail
                    refine (HI.out _).mono ?_
                    rintro e w3 ⟨rfl, rfl⟩
                    go_wp2_with fail
                    refine HC.out.mono ?_
                    rintro e w3 ⟨rfl, g3, j3⟩
                    have J3 := Lib.hid (show J (outerB g goal val (g.length + 1) 0 S0 [(start : Int)]) w3 by
                      rw [OUT2.out, ← IN2.out]; exact j3)
                    clear g3 j3 HC IN2
                    go_wp2
                    rw [Exit.noGoto_normal]
                    go_end0
                    exact ⟨rfl, J3.out⟩
                  · rw [if_neg hg] at IN2
                    have ig : ((xn : Int) == goal) = false := by rw [beq_eq_false_iff_ne]; exact hg
                    have SQ3 := Lib.hid (SQS.out.push (x := (xn : Int)) (by omega) (by omega) (by simpa using HM1.out) HV2.out)
                    rw [Int.toNat_natCast] at SQ3
                    have hsv3 : (S2.set xn (val S2 v)).getD v 0 ≠ -1 := by
                      by_cases e : v = xn
                      · subst e; exact absurd HM1.out hsv2
                      · have e2 : (S2.set xn (val S2 v)).getD v 0 = S2.getD v 0 := by simp [List.getD_eq_getElem?_getD, List.getElem?_set_ne (Ne.symm e)]
                        rw [e2]; exact hsv2
                    clear hg
                    go_wp2_with fail
                    refine (HI.out _).mono ?_
                    rintro e w3 ⟨rfl, rfl⟩
                    go_wp2_with fail
                    refine HC.out.mono ?_
                    rintro e w3 ⟨rfl, g3, j3⟩
                    have N3 := Lib.hid (show NL w3 w.heap.size _ Q2 from World.ownsRow.kept NQ.out g3 (Or.inr (own_far NQ.out MK.out.low)))
                    have S3 := Lib.hid (show w.heap.size ≤ w3.heap.size from Nat.le_trans SZ.out g3.size)
                    have J3 := Lib.hid j3
                    clear g3 j3 HC
                    go_wp2_with (at_builtin; refine npush_any rfl _ _ rfl w.heap.size _ _ rfl (N3.out.keep0 (gb_alloc _ _ _)) _ _ _ [(xn : Int)] rfl (slr_one _ _ _ _ _ rfl) (by rw [List.length_singleton]; omega) (Nat.le_trans S3.out (gb_alloc _ _ none).size) ?_)
                    intro V4 w4 o4 g4
                    have O4 := Lib.hid o4
                    have J4 := Lib.hid (MK.out.keep _ _ _ _ (MK.out.keep _ _ _ none J3.out (gb_alloc w3 (.cells #[.int .i64 xn] 3) none) (by intro q hq; cases hq)) g4 (fun q hq => (World.ownsRow.lt N3.out q hq).1))
                    have S4 := Lib.hid (show w.heap.size ≤ w4.heap.size from Nat.le_trans S3.out (Nat.le_trans (gb_alloc _ _ none).size g4.size))
                    clear o4 g4
                    go_wp2
                    go_roundw
                    case rel => exact ⟨j + 1, _, _, by omega, IN2.out, by go_num, O4.out, S4.out, J4.out, SQ3.out, hsv3, by simp; omega⟩
                    case measure => simp [intOf]; omega
                · rw [if_neg hm1] at IN2
                  simp only [decide_eq_false hm1, if_neg hm1] at HC
                  clear hm1 HV
                  go_wp2_with fail
                  refine (HI.out _).mono ?_
                  rintro e w3 ⟨rfl, rfl⟩
                  go_wp2_with fail
                  refine HC.out.mono ?_
                  rintro e w3 ⟨rfl, g3, j3⟩
                  have N3 := Lib.hid (show NL w3 w.heap.size _ Q2 from World.ownsRow.kept NQ.out g3 (Or.inr (own_far NQ.out MK.out.low)))
                  have S3 := Lib.hid (show w.heap.size ≤ w3.heap.size from Nat.le_trans SZ.out g3.size)
                  have J3 := Lib.hid j3
                  clear g3 j3 HC
                  go_wp2
                  go_roundw
                  case rel => exact ⟨j + 1, S2, Q2, by omega, IN2.out, by go_num, N3.out, S3.out, J3.out, SQS.out, hsv2, hkQ2⟩
                  case measure => simp [intOf]; omega
              · simp only [decide_eq_false hnode] at HI
                rw [if_neg hnode] at IN2
                clear hnode
                go_wp2_with fail
                refine (HI.out _).mono ?_
                rintro e w3 ⟨rfl, rfl⟩
                go_wp2
                go_roundw
                case rel => exact ⟨j + 1, S2, Q2, by omega, IN2.out, by go_num, NQ.out, SZ.out, JS.out, SQS.out, hsv2, hkQ2⟩
                case measure => simp [intOf]; omega
          · have hje : j = zs.length := by omega
            have i3 : ¬ (j : Int) < zs.length := by omega
            have OUT3 := Lib.hid (show outerB g goal val (m - 1) (k + 1) S2 Q2 = outerB g goal val (g.length + 1) 0 S0 [(start : Int)] by
              have e : R = (S2, Q2, false) := by rw [← IN.out, hje, List.drop_length]; rfl
              rw [OUT2.out, e]
              rfl)
            subst hje
            go_wp2
            go_roundw
            case rel => exact ⟨k + 1, m - 1, S2, Q2, by omega, OUT3.out, by go_num, hkQ2, NQ.out, SZ.out, JS.out, SQS.out⟩
            case measure => simp [intOf]; omega
    · have hke : k = Q.length := by omega
      have hi : ¬ (k : Int) < Q.length := by omega
      have HF := Lib.hid (show J (outerB g goal val (g.length + 1) 0 S0 [(start : Int)]) wr by
        rw [← OUT.out]
        obtain ⟨m', rfl⟩ : ∃ m', m = m' + 1 := ⟨m - 1, by omega⟩
        show J (if _ then _ else _) wr
        rw [if_neg hlt]
        exact JS.out)
      subst hke
      go_wp2
      (try rw [Exit.noGoto_normal])
      go_end0
      exact ⟨rfl, HF.out⟩
end Go.Proofs.Ytaikpjnegopelaa
