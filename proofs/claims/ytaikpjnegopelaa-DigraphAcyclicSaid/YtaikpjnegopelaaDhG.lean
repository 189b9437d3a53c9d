/- Reverse and the search once more: the graph's rows lie in blocks of their own, beside the marks. -/
import Derived.Test.YtaikpjnegopelaaDgE
namespace Go.Proofs.Ytaikpjnegopelaa
open Go.RowKit
set_option linter.unusedVariables false

/-- What the marking closure does, and what the walk may rely on. -/
structure Marks2 (w : World) (ad : Addr) (f : Nat) (cp : Array Value) (g : List (List Int)) (db : Nat) (val : List Int → Nat → Int) (J : List Int → World → Prop) : Prop where
  graph : ∀ v, v < g.length → ∃ A C, (g.getD v []).length ≤ 9223372036854775807 ∧ ∀ S w', J S w' → w'.cell? (ad.add v) = some (.slice A (g.getD v []).length C) ∧ SlR w' A (g.getD v []).length C ((g.getD v []).map (Value.int .i64))
  keep : ∀ S w1 w2 row, J S w1 → w1.grownBy w2 row → (∀ q, row = some q → w.heap.size ≤ q) → J S w2
  enter : ∀ (args : Array Value) (w : World), (callFunc f args).run Try.prog w = .ok (.enter f args) w
  low : db < w.heap.size
  step : ∀ S w1 (v x : Nat), v < g.length → x < g.length → S.length = g.length → S.getD v 0 ≠ -1 → J S w1 →
    (S.getD x 0 = -1 → val S v ≠ -1) ∧ Calls Try.prog f (#[.int .i64 v, .int .i64 x] ++ cp) w1 fun e w2 => e = .returned (.bool (decide (S.getD x 0 = -1))) ∧ w1.grownBy w2 (some db) ∧ J (if S.getD x 0 = -1 then S.set x (val S v) else S) w2

set_option maxRecDepth 100000 in
set_option maxHeartbeats 4000000 in
theorem search_rr (w : World) (ad : Addr) (c : Nat) (g : List (List Int)) (hn : g.length ≤ 100000) (start : Nat) (goal : Int) (f : Nat) (cp : Array Value) (val : List Int → Nat → Int) (S0 : List Int) (J : List Int → World → Prop) (db : Nat)
    (hst : start < g.length) (hS : S0.length = g.length) (hs0 : S0.getD start 0 ≠ -1) (hcnt : 1 + S0.count (-1) ≤ g.length) (hJ : J S0 w) (hM : Marks2 w ad f cp g db val J) :
    Calls Try.prog 43 #[.slice (some ad) g.length c, .int .i64 start, .int .i64 goal, .func (.func f) #[] cp] w fun e w' => e = .returned (.tuple #[]) ∧ J (outerB g goal val (g.length + 1) 0 S0 [(start : Int)]) w' := by
  have MK := Lib.hid hM
  have J0 := Lib.hid hJ
  have SQ0 := Lib.hid (show SQ g.length S0 [(start : Int)] from ⟨hS, by intro x hx; simp at hx; subst hx; exact ⟨by omega, by omega, by simpa using hs0⟩, by simpa using hcnt⟩)
  have N0 := Lib.hid (nl_new w start)
  have K0 := Lib.hid (hM.keep S0 w _ none hJ (gb_alloc w (.cells #[.int .i64 start] 3) none) (by intro q hq; cases hq))
  have hcf := hM.enter
  have L0 := Lib.hid (show w.heap.size ≤ (w.alloc (.cells #[.int .i64 start] 3)).heap.size from (gb_alloc w (.cells #[.int .i64 start] 3) none).size)
  clear hM hJ hS hs0 hcnt
  go_enter Try.func43, Try.ntmps43
  go_wp2
  go_step3
  go_wp2
  go_step3
  go_wp2
  go_loopw [8, 9] (fun q i wr => ∃ (k m : Nat) (S Q : List Int), g.length + 1 ≤ m + k ∧ outerB g goal val m k S Q = outerB g goal val (g.length + 1) 0 S0 [(start : Int)] ∧ i = .int .i64 k ∧ k ≤ Q.length ∧ NL wr w.heap.size q Q ∧ w.heap.size ≤ wr.heap.size ∧ J S wr ∧ SQ g.length S Q) (fun _ i _ => g.length + 1 - (intOf i).toNat)
  case atStart => exact ⟨0, g.length + 1, S0, [(start : Int)], by omega, rfl, rfl, by simp, N0.out, L0.out, K0.out, SQ0.out⟩
  case round =>
    obtain ⟨k, m, S, Q, hkm, hout, rfl, hkQ, hnl, hsz, hj, hsq⟩ := hrel
    have NQ := Lib.hid hnl
    have SZ := Lib.hid hsz
    have JS := Lib.hid hj
    have SQS := Lib.hid hsq
    have OUT := Lib.hid hout
    have hq := hsq.cnt
    clear hnl hsz hj hsq hout N0 L0 K0
    obtain ⟨qa, qc, rfl⟩ := NQ.out.shape
    by_cases hlt : k < Q.length
    · have hi : (k : Int) < Q.length := by omega
      obtain ⟨qg, qd, hh⟩ := NQ.out.headn rfl (by omega)
      cases hh
      have cq := NQ.out.at_ rfl k hlt
      have hv := SQS.out.node _ (getD_mem hlt)
      obtain ⟨v, hvv⟩ : ∃ v : Nat, Q.getD k 0 = v := ⟨(Q.getD k 0).toNat, by omega⟩
      rw [hvv] at cq hv
      have hvn : v < g.length := by omega
      have hvi : (v : Int) < g.length := by omega
      have hSv : S.getD v 0 ≠ -1 := by simpa using hv.2.2
      · have OUT2 := Lib.hid (show outerB g goal val m k S Q = if (innerB g.length goal val v (g.getD v []) S Q).2.2 = true then (innerB g.length goal val v (g.getD v []) S Q).1 else outerB g goal val (m - 1) (k + 1) (innerB g.length goal val v (g.getD v []) S Q).1 (innerB g.length goal val v (g.getD v []) S Q).2.1 by
          obtain ⟨m', rfl⟩ : ∃ m', m = m' + 1 := ⟨m - 1, by omega⟩
          show (if _ then _ else _) = _
          rw [if_pos hlt, hvv]
          rfl)
        rw [OUT.out] at OUT2
        obtain ⟨A, C, l1, r0⟩ := MK.out.graph v hvn
        have c1 := (r0 _ _ JS.out).1
        obtain ⟨zs, hz⟩ : ∃ zs, zs = g.getD v [] := ⟨_, rfl⟩
        rw [← hz] at c1 r0 l1 OUT2
        obtain ⟨R, hR⟩ : ∃ R, R = innerB g.length goal val v zs S Q := ⟨_, rfl⟩
        rw [← hR] at OUT2
        have HR := Lib.hid hR
        have R0 := Lib.hid r0
        clear r0 hR hz hvv
        go_wp2
        go_loopw [8, 30] (fun q i wr2 => ∃ (j : Nat) (S2 Q2 : List Int), j ≤ zs.length ∧ innerB g.length goal val v (zs.drop j) S2 Q2 = R ∧ i = .int .i64 j ∧ NL wr2 w.heap.size q Q2 ∧ w.heap.size ≤ wr2.heap.size ∧ J S2 wr2 ∧ SQ g.length S2 Q2 ∧ S2.getD v 0 ≠ -1 ∧ k + 1 ≤ Q2.length) (fun _ i _ => zs.length - (intOf i).toNat)
        case atStart => exact ⟨0, S, Q, Nat.zero_le _, by rw [List.drop_zero]; exact HR.out.symm, rfl, NQ.out, SZ.out, JS.out, SQS.out, hSv, hlt⟩
        case round =>
          obtain ⟨j, S2, Q2, hj, hin, rfl, hnl, hsz, hjs, hsq, hsv2, hkQ2⟩ := hrel
          clear NQ SZ JS SQS
          have NQ := Lib.hid hnl
          have SZ := Lib.hid hsz
          have JS := Lib.hid hjs
          have SQS := Lib.hid hsq
          have IN := Lib.hid hin
          have hq2 := hsq.cnt
          clear hnl hsz hjs hsq hin
          by_cases hjt : j < zs.length
          · have i3 : (j : Int) < zs.length := by omega
            cases A with
            | none => exact absurd ((R0.out _ _ JS.out).2.2.1 rfl).1 (by omega)
            | some ar =>
              have c2 := (R0.out _ _ JS.out).2.cellAt j hjt
              have IN2 := Lib.hid IN.out
              rw [show zs.drop j = zs.getD j 0 :: zs.drop (j + 1) by rw [List.drop_eq_getElem_cons hjt]; simp [hjt], innerB_cons] at IN2
              obtain ⟨x, hx⟩ : ∃ x, x = zs.getD j 0 := ⟨_, rfl⟩
              rw [← hx] at c2 IN2
              clear hx
              have HI := Lib.hid (fun w => isNode_any w (some ad) g.length c x)
              by_cases hnode : 0 ≤ x ∧ x < (g.length : Int)
              · simp only [decide_eq_true hnode] at HI
                rw [if_pos hnode] at IN2
                obtain ⟨xn, rfl⟩ : ∃ xn : Nat, x = (xn : Int) := ⟨x.toNat, by omega⟩
                have hxn : xn < g.length := by omega
                rw [Int.toNat_natCast] at IN2
                have ST := MK.out.step S2 _ v xn hvn hxn SQS.out.len hsv2 JS.out
                have HC := Lib.hid ST.2
                have HV := Lib.hid ST.1
                clear ST
                by_cases hm1 : S2.getD xn 0 = -1
                · rw [if_pos hm1] at IN2
                  have HV2 := Lib.hid (HV.out hm1)
                  simp only [decide_eq_true hm1, if_pos hm1] at HC
                  have HM1 := Lib.hid hm1
                  clear hm1 HV
                  by_cases hg : (xn : Int) = goal
                  · rw [if_pos hg] at IN2
                    have ig : ((xn : Int) == goal) = true := by rw [beq_iff_eq]; exact hg
                    clear hg
                    go_wp2_with fail
                    refine (HI.out _).mono ?_
                    rintro e w3 ⟨rfl, rfl⟩
                    go_wp2_with fail
                    refine HC.out.mono ?_
                    rintro e w3 ⟨rfl, g3, j3⟩
                    have J3 := Lib.hid (show J (outerB g goal val (g.length + 1) 0 S0 [(start : Int)]) w3 by
                      rw [OUT2.out, ← IN2.out]; exact j3)
                    clear g3 j3 HC IN2
                    go_wp2
                    rw [Exit.noGoto_normal]
                    go_end0
                    exact ⟨rfl, J3.out⟩
                  · rw [if_neg hg] at IN2
                    have ig : ((xn : Int) == goal) = false := by rw [beq_eq_false_iff_ne]; exact hg
                    have SQ3 := Lib.hid (SQS.out.push (x := (xn : Int)) (by omega) (by omega) (by simpa using HM1.out) HV2.out)
                    rw [Int.toNat_natCast] at SQ3
                    have hsv3 : (S2.set xn (val S2 v)).getD v 0 ≠ -1 := by
                      by_cases e : v = xn
                      · subst e; exact absurd HM1.out hsv2
                      · have e2 : (S2.set xn (val S2 v)).getD v 0 = S2.getD v 0 := by simp [List.getD_eq_getElem?_getD, List.getElem?_set_ne (Ne.symm e)]
                        rw [e2]; exact hsv2
                    clear hg
                    go_wp2_with fail
                    refine (HI.out _).mono ?_
                    rintro e w3 ⟨rfl, rfl⟩
                    go_wp2_with fail
                    refine HC.out.mono ?_
                    rintro e w3 ⟨rfl, g3, j3⟩
                    have N3 := Lib.hid (show NL w3 w.heap.size _ Q2 from World.ownsRow.kept NQ.out g3 (Or.inr (own_far NQ.out MK.out.low)))
                    have S3 := Lib.hid (show w.heap.size ≤ w3.heap.size from Nat.le_trans SZ.out g3.size)
                    have J3 := Lib.hid j3
                    clear g3 j3 HC
                    go_wp2_with (at_builtin; refine npush_any rfl _ _ rfl w.heap.size _ _ rfl (N3.out.keep0 (gb_alloc _ _ _)) _ _ _ [(xn : Int)] rfl (slr_one _ _ _ _ _ rfl) (by rw [List.length_singleton]; omega) (Nat.le_trans S3.out (gb_alloc _ _ none).size) ?_)
                    intro V4 w4 o4 g4
                    have O4 := Lib.hid o4
                    have J4 := Lib.hid (MK.out.keep _ _ _ _ (MK.out.keep _ _ _ none J3.out (gb_alloc w3 (.cells #[.int .i64 xn] 3) none) (by intro q hq; cases hq)) g4 (fun q hq => (World.ownsRow.lt N3.out q hq).1))
                    have S4 := Lib.hid (show w.heap.size ≤ w4.heap.size from Nat.le_trans S3.out (Nat.le_trans (gb_alloc _ _ none).size g4.size))
                    clear o4 g4
                    go_wp2
                    go_roundw
                    case rel => exact ⟨j + 1, _, _, by omega, IN2.out, by go_num, O4.out, S4.out, J4.out, SQ3.out, hsv3, by simp; omega⟩
                    case measure => simp [intOf]; omega
                · rw [if_neg hm1] at IN2
                  simp only [decide_eq_false hm1, if_neg hm1] at HC
                  clear hm1 HV
                  go_wp2_with fail
                  refine (HI.out _).mono ?_
                  rintro e w3 ⟨rfl, rfl⟩
                  go_wp2_with fail
                  refine HC.out.mono ?_
                  rintro e w3 ⟨rfl, g3, j3⟩
                  have N3 := Lib.hid (show NL w3 w.heap.size _ Q2 from World.ownsRow.kept NQ.out g3 (Or.inr (own_far NQ.out MK.out.low)))
                  have S3 := Lib.hid (show w.heap.size ≤ w3.heap.size from Nat.le_trans SZ.out g3.size)
                  have J3 := Lib.hid j3
                  clear g3 j3 HC
                  go_wp2
                  go_roundw
                  case rel => exact ⟨j + 1, S2, Q2, by omega, IN2.out, by go_num, N3.out, S3.out, J3.out, SQS.out, hsv2, hkQ2⟩
                  case measure => simp [intOf]; omega
              · simp only [decide_eq_false hnode] at HI
                rw [if_neg hnode] at IN2
                clear hnode
                go_wp2_with fail
                refine (HI.out _).mono ?_
                rintro e w3 ⟨rfl, rfl⟩
                go_wp2
                go_roundw
                case rel => exact ⟨j + 1, S2, Q2, by omega, IN2.out, by go_num, NQ.out, SZ.out, JS.out, SQS.out, hsv2, hkQ2⟩
                case measure => simp [intOf]; omega
          · have hje : j = zs.length := by omega
            have i3 : ¬ (j : Int) < zs.length := by omega
            have OUT3 := Lib.hid (show outerB g goal val (m - 1) (k + 1) S2 Q2 = outerB g goal val (g.length + 1) 0 S0 [(start : Int)] by
              have e : R = (S2, Q2, false) := by rw [← IN.out, hje, List.drop_length]; rfl
              rw [OUT2.out, e]
              rfl)
            subst hje
            go_wp2
            go_roundw
            case rel => exact ⟨k + 1, m - 1, S2, Q2, by omega, OUT3.out, by go_num, hkQ2, NQ.out, SZ.out, JS.out, SQS.out⟩
            case measure => simp [intOf]; omega
    · have hke : k = Q.length := by omega
      have hi : ¬ (k : Int) < Q.length := by omega
      have HF := Lib.hid (show J (outerB g goal val (g.length + 1) 0 S0 [(start : Int)]) wr by
        rw [← OUT.out]
        obtain ⟨m', rfl⟩ : ∃ m', m = m' + 1 := ⟨m - 1, by omega⟩
        show J (if _ then _ else _) wr
        rw [if_neg hlt]
        exact JS.out)
      subst hke
      go_wp2
      (try rw [Exit.noGoto_normal])
      go_end0
      exact ⟨rfl, HF.out⟩
set_option maxRecDepth 100000 in
set_option maxHeartbeats 4000000 in
theorem rev_rr (w : World) (a : Option Addr) (n c : Nat) (g : List (List Int)) (h : SlG w a n c g) (hn : n ≤ 100000) :
    Calls Try.prog 29 #[.slice a n c] w fun e w' => ∃ (b : Nat) (Vs : List Value), e = .returned (.slice (some ⟨b, 0, none⟩) n n) ∧ RR w b n (revG g) Vs w' := by
  obtain ⟨i0, hi, hz0, hz1, hz2⟩ := info_parts infoInts
  have HI := Lib.hid hi
  have HH := Lib.hid h
  have hl := h.1
  clear hi h
  subst hl
  go_enter Try.func29, Try.ntmps29
  go_wp2_with (at_make; refine wpList_make_full _ rfl _ _ 22 rfl w.heap.size 31 i0 (.slice none 0 0) 1 Try.underlying22 HI.out hz0 hz1 .i64 .i64 _ _ g.length rfl rfl ?c1 ?c2 ?c3 ?c4 ?c5 ?_)
  case c1 => first | rfl | omega
  case c2 => first | rfl | omega
  case c3 => rw [hz2]; omega
  case c4 => unfold maxLen; omega
  case c5 => simp
  intro w2 hown hg
  have N1 := Lib.hid (show RR w w.heap.size g.length (rowsP g 0 []) (List.replicate g.length nilV) w2 by
    rcases hown.2 with ⟨h1, _⟩ | ⟨b, cap, cur, h1, h2, h3, h4, h5, h6, h7⟩
    · injection h1 with h1; cases h1
    · injection h1 with h1 _ h8
      injection h1 with h1; injection h1 with h1
      subst h1; subst h8
      rw [made_zero] at h7
      have e : cur = (List.replicate g.length (Value.slice none 0 0)).toArray := by
        apply Array.toList_inj.1
        rw [← h7, List.take_of_length_le]
        rw [Array.length_toList, h6]; exact Nat.le_refl _
      subst e
      have ev : ∀ x, x < g.length → (List.replicate g.length nilV).getD x nilV = nilV := fun x hx => by simp [hx]
      refine ⟨h3, by simp, by rw [rowsP_len], ?_, ?_, hg, Nat.le_refl _⟩
      · intro x hx
        rw [ev x hx, rowsP_start]
        have e2 : (List.replicate g.length ([] : List Int)).getD x [] = [] := by simp [hx]
        rw [e2]
        exact NL.nil _ _
      · intro x y hx hy _ q hq
        rw [ev x hx] at hq
        cases hq)
  clear hown hg
  go_wp2_with fail
  go_loopw [14] (fun i wr => ∃ (v : Nat) (Vs : List Value), v ≤ g.length ∧ i = .int .i64 v ∧ RR w w.heap.size g.length (rowsP g v []) Vs wr) (fun i _ => g.length - (intOf i).toNat)
  case atStart => exact ⟨0, _, Nat.zero_le _, rfl, N1.out⟩
  case round =>
    obtain ⟨v, Vs, hv, rfl, q1⟩ := hrel
    clear N1
    have N1 := Lib.hid q1
    clear q1
    by_cases hvt : v < g.length
    · have i1 : (v : Int) < g.length := by omega
      cases a with
      | none => exact absurd (HH.out.2.1 rfl).1 (by omega)
      | some ad =>
        obtain ⟨A, C, c0, r0, l1⟩ := HH.out.row v hvt
        have c1 := N1.out.grown.cell c0 (by simp)
        have NX := Lib.hid (rowsP_next g v hvt)
        obtain ⟨zs, hz⟩ : ∃ zs, zs = g.getD v [] := ⟨_, rfl⟩
        rw [← hz] at c1 r0 l1 NX
        have R0 := Lib.hid r0
        clear r0 hz c0
        go_wp2
        go_loopw [21] (fun i wr => ∃ (j : Nat) (Vs2 : List Value), j ≤ zs.length ∧ i = .int .i64 j ∧ RR w w.heap.size g.length (rowsP g v (zs.take j)) Vs2 wr) (fun i _ => zs.length - (intOf i).toNat)
        case atStart => exact ⟨0, Vs, Nat.zero_le _, rfl, N1.out⟩
        case round =>
          obtain ⟨j, Vs2, hj, rfl, q1⟩ := hrel
          clear N1
          have N1 := Lib.hid q1
          clear q1
          by_cases hjt : j < zs.length
          · have i2 : (j : Int) < zs.length := by omega
            cases A with
            | none => exact absurd (R0.out.2.1 rfl).1 (by omega)
            | some ar =>
              have c2 := (R0.out.keep0 N1.out.grown).cellAt j hjt
              have TS := Lib.hid (show zs.take (j + 1) = zs.take j ++ [zs.getD j 0] by rw [List.take_add_one, List.getElem?_eq_getElem hjt]; simp [hjt])
              obtain ⟨x, hx⟩ : ∃ x, x = zs.getD j 0 := ⟨_, rfl⟩
              rw [← hx] at c2 TS
              clear hx
              have HN := Lib.hid (fun w => isNode_any w (some ad) g.length c x)
              by_cases hnode : 0 ≤ x ∧ x < (g.length : Int)
              · simp only [decide_eq_true hnode] at HN
                obtain ⟨xn, rfl⟩ : ∃ xn : Nat, x = (xn : Int) := ⟨x.toNat, by omega⟩
                have hxn : xn < g.length := by omega
                have ix : (xn : Int) < g.length := by omega
                have cr := N1.out.cell xn hxn
                have fr := N1.out.blk.free xn
                have ow := N1.out.own xn hxn
                have LA := Lib.hid (rowsP_last g v (zs.take j) xn hxn)
                have hsm := rowsP_small g v (zs.take j) xn hxn
                have NW1 := Lib.hid (rowsP_new g v (zs.take j) xn hxn)
                have OLD := Lib.hid (rowsP_old g v (zs.take j) (xn : Int))
                obtain ⟨L, hL⟩ : ∃ L, L = (rowsP g v (zs.take j)).getD xn [] := ⟨_, rfl⟩
                rw [← hL] at ow LA hsm NW1
                obtain ⟨la, lc, hlv⟩ := ow.shape
                rw [hlv] at cr ow
                have OW1 := Lib.hid ow
                have HLV := Lib.hid hlv
                have HLE := Lib.hid hL
                clear hnode hL hlv ow
                by_cases hemp : L.length = 0
                · obtain rfl : L = [] := List.eq_nil_of_length_eq_zero hemp
                  have hnm : ¬ (xn : Int) ∈ zs.take j := fun hm => by
                    have e := HLE.out
                    rw [rowsP_at _ _ _ _ hxn, if_pos hm] at e
                    simp at e
                  have NA := Lib.hid (N1.out.keep (gb_alloc wr (.cells #[.int .i64 v] 3) none))
                  have SZ := Lib.hid (show w.heap.size + 1 ≤ (wr.alloc (.cells #[.int .i64 v] 3)).heap.size from NA.out.blk.lt)
                  go_wp2_with fail
                  refine (HN.out _).mono ?_
                  rintro e w3 ⟨rfl, rfl⟩
                  go_wp2_with (at_builtin; refine npush_fresh rfl _ _ rfl (w.heap.size + 1) _ [] rfl (OW1.out.keep0 (gb_alloc _ _ none)) _ _ (v : Int) rfl (slr_one _ _ _ _ _ rfl) (by simp) SZ.out ?_)
                  intro V4 w4 o4 g4 b4
                  obtain ⟨va, vc, rfl⟩ := o4.shape
                  have ST := Lib.hid (NA.out.step xn hxn _ _ o4 (by rw [HLV.out]; exact g4) (by rw [HLV.out, alloc_size]; exact b4))
                  have NWX := NW1.out hnm
                  rw [List.nil_append] at NWX
                  rw [NWX, ← TS.out] at ST
                  have hkb : some w.heap.size ≠ (Value.slice la ([] : List Int).length lc).ownBlock := fun e => by
                    have := (World.ownsRow.lt OW1.out w.heap.size e.symm).1
                    omega
                  have B4 := NA.out.blk.keep g4 hkb
                  have f4 := B4.free xn
                  have c4 : w4.cell? ⟨w.heap.size, xn, none⟩ = some (.slice la 0 lc) := by
                    have hq : Vs2.toArray[xn]? = some (Vs2.getD xn nilV) := by simp [NA.out.nV, hxn]
                    rw [B4.cell xn, hq, HLV.out]
                    rfl
                  clear o4 g4 b4 B4 hkb NA SZ cr fr
                  go_wp2
                  go_roundw
                  case rel => exact ⟨j + 1, _, by omega, by go_num, ST.out⟩
                  case measure => simp [intOf]; omega
                · obtain ⟨lg, ld, hh⟩ := OW1.out.headn rfl (by omega)
                  cases hh
                  obtain ⟨p, hp⟩ : ∃ p, L.length = p + 1 := ⟨L.length - 1, by omega⟩
                  have cl := OW1.out.at_ rfl p (by omega)
                  have LA2 := Lib.hid (LA.out (by intro h; rw [h] at hp; simp at hp))
                  rw [hp, Nat.add_sub_cancel] at LA2
                  obtain ⟨y, hy⟩ : ∃ y, y = L.getD p 0 := ⟨_, rfl⟩
                  rw [← hy] at cl LA2
                  have hsub : (L.length : Int) - 1 = (p : Int) := by omega
                  have hpl : p < L.length := by omega
                  have hl0 : ((L.length : Int) == 0) = false := by rw [beq_eq_false_iff_ne]; omega
                  clear hy hemp hp
                  by_cases hyv : y = (v : Int)
                  · have ROW := Lib.hid (show rowsP g v (zs.take (j + 1)) = rowsP g v (zs.take j) by rw [TS.out]; exact OLD.out (LA2.out.1 hyv))
                    have d1 : (y == (v : Int)) = true := by rw [beq_iff_eq]; exact hyv
                    clear hyv LA2 OLD
                    go_wp2_with fail
                    refine (HN.out _).mono ?_
                    rintro e w3 ⟨rfl, rfl⟩
                    go_wp2
                    go_roundw
                    case rel => exact ⟨j + 1, Vs2, by omega, by go_num, by rw [ROW.out]; exact N1.out⟩
                    case measure => simp [intOf]; omega
                  · have hnm : ¬ (xn : Int) ∈ zs.take j := fun hm => hyv (LA2.out.2 hm)
                    have d1 : (y == (v : Int)) = false := by rw [beq_eq_false_iff_ne]; exact hyv
                    clear hyv LA2 OLD
                    have NA := Lib.hid (N1.out.keep (gb_alloc wr (.cells #[.int .i64 v] 3) none))
                    have SZ := Lib.hid (show w.heap.size + 1 ≤ (wr.alloc (.cells #[.int .i64 v] 3)).heap.size from NA.out.blk.lt)
                    go_wp2_with fail
                    refine (HN.out _).mono ?_
                    rintro e w3 ⟨rfl, rfl⟩
                    go_wp2_with (at_builtin; refine npush_fresh rfl _ _ rfl (w.heap.size + 1) _ L rfl (OW1.out.keep0 (gb_alloc _ _ none)) _ _ (v : Int) rfl (slr_one _ _ _ _ _ rfl) (by omega) SZ.out ?_)
                    intro V4 w4 o4 g4 b4
                    obtain ⟨va, vc, rfl⟩ := o4.shape
                    have ST := Lib.hid (NA.out.step xn hxn _ _ o4 (by rw [HLV.out]; exact g4) (by rw [HLV.out, alloc_size]; exact b4))
                    rw [NW1.out hnm, ← TS.out, show (L ++ [(v : Int)]).length = L.length + 1 by simp] at ST
                    have hkb : some w.heap.size ≠ (Value.slice (some ⟨lg, 0, none⟩) L.length lc).ownBlock := fun e => by
                      have := (World.ownsRow.lt OW1.out w.heap.size e.symm).1
                      omega
                    have B4 := NA.out.blk.keep g4 hkb
                    have f4 := B4.free xn
                    have c4 : w4.cell? ⟨w.heap.size, xn, none⟩ = some (.slice (some ⟨lg, 0, none⟩) L.length lc) := by
                      have hq : Vs2.toArray[xn]? = some (Vs2.getD xn nilV) := by simp [NA.out.nV, hxn]
                      rw [B4.cell xn, hq, HLV.out]
                    clear o4 g4 b4 B4 hkb NA SZ cr fr
                    go_wp2
                    go_roundw
                    case rel => exact ⟨j + 1, _, by omega, by go_num, ST.out⟩
                    case measure => simp [intOf]; omega
              · simp only [decide_eq_false hnode] at HN
                have ROW := Lib.hid (show rowsP g v (zs.take (j + 1)) = rowsP g v (zs.take j) by rw [TS.out]; exact rowsP_off g v _ x hnode)
                clear hnode
                go_wp2_with fail
                refine (HN.out _).mono ?_
                rintro e w3 ⟨rfl, rfl⟩
                go_wp2
                go_roundw
                case rel => exact ⟨j + 1, Vs2, by omega, by go_num, by rw [ROW.out]; exact N1.out⟩
                case measure => simp [intOf]; omega
          · have hje : j = zs.length := by omega
            have ROW := Lib.hid (show rowsP g v (zs.take j) = rowsP g (v + 1) [] by rw [hje, List.take_length]; exact NX.out)
            rw [ROW.out] at N1
            subst hje
            go_wp2
            go_roundw
            case rel => exact ⟨v + 1, Vs2, by omega, by go_num, N1.out⟩
            case measure => simp [intOf]; omega
    · have hve : v = g.length := by omega
      have ROW := Lib.hid (show rowsP g v [] = revG g by rw [hve]; exact rowsP_end g)
      subst hve
      rw [ROW.out] at N1
      go_wp2
      go_ret
      exact ⟨_, _, rfl, N1.out⟩
end Go.Proofs.Ytaikpjnegopelaa
