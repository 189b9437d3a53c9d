/- The texts CoH, CoI, CoJ in one; no condition. -/
import Derived.Test.YtdbjeihbfooipaaMgc
section
/- Control: Walk with a nil callback, or two; no condition but that the tree lies in memory and is not large. -/
namespace Go.Proofs.Ytdbjeihbfooipaa
open Go.RowKit
set_option linter.unusedVariables false
set_option maxRecDepth 100000 in
theorem nil1_any (w : World) (t : Int) : Calls Try.prog 79 #[.int .i64 t] w (RetV (.bool false) w) := by
  go_enter Try.func79, Try.ntmps79
  go_wp2
  go_ret
  exact ⟨rfl, gb_refl _ _⟩
set_option maxRecDepth 100000 in
theorem nil2_any (w : World) (a : Option Addr) (n c : Nat) : Calls Try.prog 80 #[.slice a n c] w (RetV (.bool false) w) := by
  go_enter Try.func80, Try.ntmps80
  go_wp2
  go_ret
  exact ⟨rfl, gb_refl _ _⟩
/-- The second callback is nil; the first is. -/
def CA (L : List Bool) : CBS WS := { CW L with ts := fun _ st => (false, st) }
def CT2 (L : List Bool) : CBS WS := { CW L with ap := fun _ st => (false, st) }
def C00 : CBS Unit := ⟨fun _ s => (false, s), fun _ s => (false, s), fun _ => 0⟩
set_option maxRecDepth 100000 in
theorem ca_cbi (w0 : World) (b z : Nat) (s : Sl) (L : List Bool) (hL : SB w0 s.a s.n s.c L) (h0 : w0.heap.size ≤ b) (hz : b < z) (hs : s.n ≤ 1000000) :
    CBI (CA L) (OwW b z) (fun q w => WI w0 w b z s L q) 41 80 #[.pointer (some ⟨b, 0, none⟩)] #[] :=
  have I := cw_cbi w0 b z s L hL h0 hz hs
  { e1 := I.e1, e2 := fun args w => by kernel_rfl, ow := I.ow, keep := I.keep, ap := I.ap, sz1 := I.sz1,
    ts := fun st w a n c h q hn => (nil2_any w a n c).mono (fun e w' hq => ⟨hq.1, h.keep0 hq.2, Kt.of_gb hq.2⟩),
    sz2 := fun n st => Nat.le_succ _ }
set_option maxRecDepth 100000 in
theorem ct_cbi (w0 : World) (b z : Nat) (s : Sl) (L : List Bool) (hL : SB w0 s.a s.n s.c L) (h0 : w0.heap.size ≤ b) (hz : b < z) (hs : s.n ≤ 1000000) :
    CBI (CT2 L) (OwW b z) (fun q w => WI w0 w b z s L q) 79 42 #[] #[.pointer (some ⟨b, 0, none⟩)] :=
  have I := cw_cbi w0 b z s L hL h0 hz hs
  { e2 := I.e2, e1 := fun args w => by kernel_rfl, ow := I.ow, keep := I.keep, ts := I.ts, sz2 := I.sz2,
    ap := fun st w t h q => (nil1_any w t).mono (fun e w' hq => ⟨hq.1, h.keep0 hq.2, Kt.of_gb hq.2⟩),
    sz1 := fun n st => Nat.le_succ _ }
set_option maxRecDepth 100000 in
theorem c0_cbi : CBI C00 (fun _ _ => False) (fun _ _ => True) 79 80 #[] #[] :=
  { e1 := fun args w => by kernel_rfl, e2 := fun args w => by kernel_rfl, ow := fun k cs t m q => q.elim, keep := fun _ _ _ _ _ => trivial,
    ap := fun st w t h q => (nil1_any w t).mono (fun e w' hq => ⟨hq.1, trivial, Kt.of_gb hq.2⟩),
    ts := fun st w a n c h q hn => (nil2_any w a n c).mono (fun e w' hq => ⟨hq.1, trivial, Kt.of_gb hq.2⟩),
    sz1 := fun _ _ => Nat.le_succ _, sz2 := fun _ _ => Nat.le_succ _ }
set_option maxRecDepth 100000 in
set_option maxHeartbeats 8000000 in
theorem walk_n2 {σ : Type} {C : CBS σ} {own : Nat → Obj → Prop} {Inv : σ → World → Prop} {f1 : Nat} {r1 : Array Value} (I : CBI C own Inv f1 80 r1 #[]) (w0 : World) (hown : ∀ k cs t m, k < w0.heap.size → ¬ own k (.cells cs t m)) (T : CT) (s : Sl) (w : World) (st : σ)
    (hc : T.cnt ≤ 1000) (hS : ST w0 s T) (hcd : Cnd T) (hk : Kc w0 w) (h : Inv st w) (hz : C.sz st + T.cnt ≤ 10000) :
    Calls Try.prog 40 #[.slice s.a s.n s.c, .func (.func f1) r1 #[], .nilFunc] w (RetR own Inv (runT C T st) w) := by
  have RR := Lib.hid (run_rec I w0 hown (T.cnt + 1) T s w st (by omega) hc hS hcd hk h hz)
  unfold RetR at RR
  have q1 : ∀ w, Sem.run Try.prog (binOp BinOp.eql 78 (Value.func (Fn.func f1) r1 #[]) Value.nilFunc) w = .ok (.bool false) w := fun w => by rfl
  have q2 : ∀ w, Sem.run Try.prog (binOp BinOp.eql 79 Value.nilFunc Value.nilFunc) w = .ok (.bool true) w := fun w => by rfl
  clear hS hk h hown
  go_enter Try.func40, Try.ntmps40
  go_wp2_with (go_at_call 81; refine RR.out.mono ?_; clear RR; rintro e w5 ⟨⟨v, rfl⟩, i, k⟩; have I5 := Lib.hid i; have K5 := Lib.hid k; clear i k)
  refine bodyPost_end (results_none rfl _ _ _) rfl ⟨⟨_, rfl⟩, I5.out, K5.out⟩
set_option maxRecDepth 100000 in
set_option maxHeartbeats 8000000 in
theorem walk_n1 {σ : Type} {C : CBS σ} {own : Nat → Obj → Prop} {Inv : σ → World → Prop} {f2 : Nat} {r2 : Array Value} (I : CBI C own Inv 79 f2 #[] r2) (w0 : World) (hown : ∀ k cs t m, k < w0.heap.size → ¬ own k (.cells cs t m)) (T : CT) (s : Sl) (w : World) (st : σ)
    (hc : T.cnt ≤ 1000) (hS : ST w0 s T) (hcd : Cnd T) (hk : Kc w0 w) (h : Inv st w) (hz : C.sz st + T.cnt ≤ 10000) :
    Calls Try.prog 40 #[.slice s.a s.n s.c, .nilFunc, .func (.func f2) r2 #[]] w (RetR own Inv (runT C T st) w) := by
  have RR := Lib.hid (run_rec I w0 hown (T.cnt + 1) T s w st (by omega) hc hS hcd hk h hz)
  unfold RetR at RR
  have q1 : ∀ w, Sem.run Try.prog (binOp BinOp.eql 78 Value.nilFunc Value.nilFunc) w = .ok (.bool true) w := fun w => by rfl
  have q2 : ∀ w, Sem.run Try.prog (binOp BinOp.eql 79 (Value.func (Fn.func f2) r2 #[]) Value.nilFunc) w = .ok (.bool false) w := fun w => by rfl
  clear hS hk h hown
  go_enter Try.func40, Try.ntmps40
  go_wp2_with (go_at_call 81; refine RR.out.mono ?_; clear RR; rintro e w5 ⟨⟨v, rfl⟩, i, k⟩; have I5 := Lib.hid i; have K5 := Lib.hid k; clear i k)
  refine bodyPost_end (results_none rfl _ _ _) rfl ⟨⟨_, rfl⟩, I5.out, K5.out⟩
set_option maxRecDepth 100000 in
set_option maxHeartbeats 8000000 in
theorem walk_n0 {σ : Type} {C : CBS σ} {own : Nat → Obj → Prop} {Inv : σ → World → Prop}  (I : CBI C own Inv 79 80 #[] #[]) (w0 : World) (hown : ∀ k cs t m, k < w0.heap.size → ¬ own k (.cells cs t m)) (T : CT) (s : Sl) (w : World) (st : σ)
    (hc : T.cnt ≤ 1000) (hS : ST w0 s T) (hcd : Cnd T) (hk : Kc w0 w) (h : Inv st w) (hz : C.sz st + T.cnt ≤ 10000) :
    Calls Try.prog 40 #[.slice s.a s.n s.c, .nilFunc, .nilFunc] w (RetR own Inv (runT C T st) w) := by
  have RR := Lib.hid (run_rec I w0 hown (T.cnt + 1) T s w st (by omega) hc hS hcd hk h hz)
  unfold RetR at RR
  have q1 : ∀ w, Sem.run Try.prog (binOp BinOp.eql 78 Value.nilFunc Value.nilFunc) w = .ok (.bool true) w := fun w => by rfl
  have q2 : ∀ w, Sem.run Try.prog (binOp BinOp.eql 79 Value.nilFunc Value.nilFunc) w = .ok (.bool true) w := fun w => by rfl
  clear hS hk h hown
  go_enter Try.func40, Try.ntmps40
  go_wp2_with (go_at_call 81; refine RR.out.mono ?_; clear RR; rintro e w5 ⟨⟨v, rfl⟩, i, k⟩; have I5 := Lib.hid i; have K5 := Lib.hid k; clear i k)
  refine bodyPost_end (results_none rfl _ _ _) rfl ⟨⟨_, rfl⟩, I5.out, K5.out⟩

end Go.Proofs.Ytdbjeihbfooipaa
end
section
/- Control: how many answers an execution uses, as the law counts; no condition but that the tree is not large. -/
namespace Go.Proofs.Ytdbjeihbfooipaa
open Go.RowKit
set_option linter.unusedVariables false
/-- How many answers are used behind an execution in which every condition is false; in which every table is a miss. -/
def oaT (A : List Bool) : CT → Nat → Nat
  | .nil, u => u
  | .cons k t c N s th v el r, u => oaT A r (if k = 1 then u + 1 else if k = 3 then (if ansB A u = true then oaT A th (u + 1) else oaT A el (u + 1)) else if k = 2 then oaT A el u else u)
def otT (A : List Bool) : CT → Nat → Nat
  | .nil, u => u
  | .cons k t c N s th v el r, u => otT A r (if k = 2 then (if ansB A u = true then otT A th (u + 1) else otT A el (u + 1)) else if k = 3 then otT A el u else u)
theorem oa_le (A : List Bool) : ∀ (T : CT) (u : Nat), oaT A T u ≤ u + T.cnt
  | .nil, u => Nat.le_add_right _ _
  | .cons k t c N s th v el r, u => by
    have e : (CT.cons k t c N s th v el r).cnt = 1 + th.cnt + el.cnt + r.cnt := CV.cnt_ct ⟨k, t, c, N, s, th, v, el⟩ r
    rw [oaT, e]
    refine Nat.le_trans (oa_le A r _) ?_
    have t1 := oa_le A th (u + 1)
    have t2 := oa_le A el (u + 1)
    have t3 := oa_le A el u
    repeat' split
    all_goals omega
theorem ot_le (A : List Bool) : ∀ (T : CT) (u : Nat), otT A T u ≤ u + T.cnt
  | .nil, u => Nat.le_add_right _ _
  | .cons k t c N s th v el r, u => by
    have e : (CT.cons k t c N s th v el r).cnt = 1 + th.cnt + el.cnt + r.cnt := CV.cnt_ct ⟨k, t, c, N, s, th, v, el⟩ r
    rw [otT, e]
    refine Nat.le_trans (ot_le A r _) ?_
    have t1 := ot_le A th (u + 1)
    have t2 := ot_le A el (u + 1)
    have t3 := ot_le A el u
    repeat' split
    all_goals omega
theorem oa_run (A : List Bool) : ∀ (T : CT) (st : WS), (runT (CA A) T st).nx = oaT A T st.nx
  | .nil, st => rfl
  | .cons k t c N s th v el r, st => by
    have e1 : ((CA A).ap t st) = (ansB A st.nx, ⟨st.nx + 1, st.tb ++ [t], st.cd ++ [-1]⟩) := rfl
    have e2 : ((CA A).ts N.length st) = (false, st) := rfl
    rw [runT, oaT, oa_run A r, e1, e2]
    dsimp only
    congr 1
    by_cases h1 : k = 1
    · rw [if_pos h1, if_pos h1]
    rw [if_neg h1, if_neg h1]
    by_cases h3 : k = 3
    · rw [if_pos h3, if_pos h3]
      by_cases hb : ansB A st.nx = true
      · rw [if_pos hb, if_pos hb, oa_run A th]
      · rw [if_neg hb, if_neg hb, oa_run A el]
    rw [if_neg h3, if_neg h3]
    by_cases h2 : k = 2
    · rw [if_pos h2, if_pos h2, if_neg (by decide), oa_run A el]
    · rw [if_neg h2, if_neg h2]
theorem ot_run (A : List Bool) : ∀ (T : CT) (st : WS), (runT (CT2 A) T st).nx = otT A T st.nx
  | .nil, st => rfl
  | .cons k t c N s th v el r, st => by
    have e1 : ((CT2 A).ap t st) = (false, st) := rfl
    have e2 : ((CT2 A).ts N.length st) = (ansB A st.nx, ⟨st.nx + 1, st.tb, st.cd ++ [(N.length : Int)]⟩) := rfl
    rw [runT, otT, ot_run A r, e1, e2]
    dsimp only
    congr 1
    by_cases h1 : k = 1
    · rw [if_pos h1, if_neg (show ¬ k = 2 by omega), if_neg (show ¬ k = 3 by omega)]
    rw [if_neg h1]
    by_cases h3 : k = 3
    · rw [if_pos h3, if_neg (show ¬ (false = true) by decide), if_neg (show ¬ k = 2 by omega), if_pos h3, ot_run A el]
    rw [if_neg h3]
    by_cases h2 : k = 2
    · rw [if_pos h2, if_pos h2]
      by_cases hb : ansB A st.nx = true
      · rw [if_pos hb, if_pos hb, ot_run A th]
      · rw [if_neg hb, if_neg hb, ot_run A el]
    · rw [if_neg h2, if_neg h2, if_neg h3]
set_option maxRecDepth 100000 in
set_option maxHeartbeats 16000000 in
theorem oa_rec (a : Sl) (A : List Bool) (han : a.n ≤ 1000000) : ∀ (m : Nat) (T : CT) (s : Sl) (w : World) (u : Nat), T.cnt < m → T.cnt ≤ 1000 → ST w s T → SB w a.a a.n a.c A → u + T.cnt ≤ 10000 →
    Calls Try.prog 44 #[.slice s.a s.n s.c, .slice a.a a.n a.c, .int .i64 (u : Int)] w (RetV (.int .i64 (oaT A T u : Int)) w) := by
  intro m
  induction m with
  | zero => intro T s w u h; omega
  | succ m ih =>
    intro T s w u hm hc hS hA hu
    have IH := Lib.hid ih
    have HS := Lib.hid hS
    have HA := Lib.hid hA
    have HM := Lib.hid hm
    have HC := Lib.hid hc
    have HU := Lib.hid hu
    have SL := Lib.hid hS.len
    have scap : s.n ≤ s.c := hS.cap
    have SB := Lib.hid (show s.n ≤ 1000 by have := hS.len; have := CT.len_cnt T; omega)
    have AL := Lib.hid hA.len
    have acap := hA.cap
    unfold RetV at IH
    clear ih hS hm hc hu hA
    obtain ⟨sa, sn, sc⟩ := s
    obtain ⟨aa, an, ac⟩ := a
    dsimp only at *
    go_enter Try.func44, Try.ntmps44
    go_wp2
    go_loopw [2, 7, 8] (fun s2 s7 s8 wr => ∃ (j u1 : Nat), s7 = .int .i64 (j : Int) ∧ s2 = .int .i64 (u1 : Int) ∧ j ≤ sn ∧ oaT A (T.drop j) u1 = oaT A T u ∧ u1 + (T.drop j).cnt ≤ 10000 ∧ w.grownBy wr none) (fun _ s7 _ _ => sn - (intOf s7).toNat)
    case atStart => exact ⟨0, u, rfl, rfl, Nat.zero_le _, by rw [CT.drop_zero], by rw [CT.drop_zero]; exact HU.out, gb_refl _ _⟩
    case round =>
      obtain ⟨j, u1, rfl, rfl, hj, hr, hu, hg⟩ := hrel
      have HR := Lib.hid hr
      have HU1 := Lib.hid hu
      have GR := Lib.hid hg
      clear hr hu hg
      by_cases hlt : j < sn
      · have i1 : (j : Int) < sn := by omega
        have i0 : (0 : Int) ≤ (j : Int) := by omega
        obtain ⟨x, ad, hsa, hd, ⟨c0, c1, c2, c3, c4⟩, vm⟩ := HS.out.at_ j hlt
        dsimp only at hsa
        subst hsa
        dsimp only [Sl.v] at c3 c4
        have x0 := GR.out.cell c0 (by simp)
        have x3 := GR.out.cell c3 (by simp)
        have x4 := GR.out.cell c4 (by simp)
        have hwj : IntKind.i64.wrap ((j : Int) + 1) = ((j + 1 : Nat) : Int) := by have := SB.out; rw [IntKind.wrap_i64]; omega
        have hwu : IntKind.i64.wrap ((u1 : Int) + 1) = ((u1 + 1 : Nat) : Int) := by have := HU1.out; rw [IntKind.wrap_i64]; omega
        have VX := Lib.hid vm
        have CTh := Lib.hid (cnt_th hd)
        have CAt := Lib.hid (cnt_at hd)
        have RN := Lib.hid (show oaT A (x.ct (T.drop (j + 1))) u1 = oaT A T u by rw [← hd]; exact HR.out)
        clear c0 c1 c2 c3 c4 vm hd HR
        have LE := Lib.hid (fun (B : CT) (q : Nat) => oa_le A B q)
        have RNX := Lib.hid (show oaT A (T.drop (j + 1)) (if x.k = 1 then u1 + 1 else if x.k = 3 then (if ansB A u1 = true then oaT A x.th (u1 + 1) else oaT A x.el (u1 + 1)) else if x.k = 2 then oaT A x.el u1 else u1) = oaT A T u from RN.out)
        have CALL := Lib.hid (fun (B : CT) (sb : Sl) (q : Nat) (h1 : B.cnt ≤ x.th.cnt + x.el.cnt) (h2 : ST w sb B) (h3 : q ≤ u1 + 1) => IH.out B sb wr q (by have := HM.out; have := CAt.out; have := CT.drop_cnt T j; omega) (by have := HC.out; have := CAt.out; have := CT.drop_cnt T j; omega) (h2.keep0 GR.out) (HA.out.keep0 GR.out) (by have := HU1.out; have := CAt.out; omega))
        clear RN IH
        by_cases h1 : x.k = 1
        · have K := Lib.hid h1
          rw [h1] at x0
          have RX := Lib.hid (show oaT A (T.drop (j + 1)) (oaT A .nil (u1 + 1)) = oaT A T u by rw [← RNX.out]; rw [if_pos K.out]; rfl)
          have LX := Lib.hid (LE.out .nil (u1 + 1))
          have IX := Lib.hid (CALL.out .nil ⟨none, 0, 0⟩ (u1 + 1) (by first | exact Nat.zero_le _ | exact Nat.le_add_right _ _ | exact Nat.le_add_left _ _) (ST.nilv _) (by omega))
          have BX := Lib.hid (show oaT A .nil (u1 + 1) + (T.drop (j + 1)).cnt ≤ 10000 by
            have := LX.out; have := HU1.out; have := CAt.out; have : (CT.nil).cnt = 0 := CT.cnt_nil; omega)
          try dsimp only at IX
          clear CALL RNX LE LX h1
          generalize oaT A .nil (u1 + 1) = fin at *
          go_wp2_with (go_at_call 44; refine IX.out.mono ?_; clear IX; rintro e w5 ⟨rfl, g5⟩; have G5 := Lib.hid (gb_trans GR.out g5); clear g5 x0 x3 x4)
          go_roundw
          case rel => exact ⟨j + 1, fin, by go_num, rfl, by omega, RX.out, BX.out, G5.out⟩
          case measure => simp [intOf]; omega
        by_cases h3 : x.k = 3
        · have K := Lib.hid h3
          have K1 := Lib.hid h1
          rw [h3] at x0
          clear h1 h3
          by_cases hp : 0 < an
          · obtain ⟨aad, rfl⟩ : ∃ ad, aa = some ad := by
              cases aa with
              | none => have := (HA.out.nil rfl).1; omega
              | some ad => exact ⟨ad, rfl⟩
            have ca := GR.out.cell (HA.out.cells aad rfl (u1 % an) (Nat.mod_lt _ hp)) (by simp)
            have AN := Lib.hid (show ansB A u1 = A.getD (u1 % an) false by unfold ansB; rw [AL.out, decide_eq_true hp, Bool.true_and])
            obtain ⟨r, hr⟩ : ∃ r, r = A.getD (u1 % an) false := ⟨_, rfl⟩
            rw [← hr] at ca AN
            have j0 : (0 : Int) < an := by omega
            have dt : decide ((0 : Int) < (an : Int)) = true := decide_eq_true j0
            have md : ((u1 : Int).tmod (an : Int)) = ((u1 % an : Nat) : Int) := by rw [Int.tmod_eq_emod_of_nonneg (by omega)]; omega
            have m1 : (((u1 % an : Nat) : Int)) < an := by have := Nat.mod_lt u1 hp; omega
            have m0 : (0 : Int) ≤ ((u1 % an : Nat) : Int) := by omega
            clear hr HA
            cases r with
            | true =>
              have RX := Lib.hid (show oaT A (T.drop (j + 1)) (oaT A x.th (u1 + 1)) = oaT A T u by rw [← RNX.out]; rw [if_neg K1.out, if_pos K.out, if_pos AN.out])
              have LX := Lib.hid (LE.out x.th (u1 + 1))
              have IX := Lib.hid (CALL.out x.th x.s (u1 + 1) (by first | exact Nat.zero_le _ | exact Nat.le_add_right _ _ | exact Nat.le_add_left _ _) VX.out.s (by omega))
              have BX := Lib.hid (show oaT A x.th (u1 + 1) + (T.drop (j + 1)).cnt ≤ 10000 by
                have := LX.out; have := HU1.out; have := CAt.out; have : (CT.nil).cnt = 0 := CT.cnt_nil; omega)
              try dsimp only at IX
              clear CALL RNX LE LX AN
              generalize u1 % an = qq at *
              generalize oaT A x.th (u1 + 1) = fin at *
              go_wp2_with (go_at_call 44; refine IX.out.mono ?_; clear IX; rintro e w5 ⟨rfl, g5⟩; have G5 := Lib.hid (gb_trans GR.out g5); clear g5 x0 x3 x4)
              go_roundw
              case rel => exact ⟨j + 1, fin, by go_num, rfl, by omega, RX.out, BX.out, G5.out⟩
              case measure => simp [intOf]; omega
            | false =>
              have RX := Lib.hid (show oaT A (T.drop (j + 1)) (oaT A x.el (u1 + 1)) = oaT A T u by rw [← RNX.out]; rw [if_neg K1.out, if_pos K.out, if_neg (by rw [AN.out]; decide)])
              have LX := Lib.hid (LE.out x.el (u1 + 1))
              have IX := Lib.hid (CALL.out x.el x.u (u1 + 1) (by first | exact Nat.zero_le _ | exact Nat.le_add_right _ _ | exact Nat.le_add_left _ _) VX.out.u (by omega))
              have BX := Lib.hid (show oaT A x.el (u1 + 1) + (T.drop (j + 1)).cnt ≤ 10000 by
                have := LX.out; have := HU1.out; have := CAt.out; have : (CT.nil).cnt = 0 := CT.cnt_nil; omega)
              try dsimp only at IX
              clear CALL RNX LE LX AN
              generalize u1 % an = qq at *
              generalize oaT A x.el (u1 + 1) = fin at *
              go_wp2_with (go_at_call 44; refine IX.out.mono ?_; clear IX; rintro e w5 ⟨rfl, g5⟩; have G5 := Lib.hid (gb_trans GR.out g5); clear g5 x0 x3 x4)
              go_roundw
              case rel => exact ⟨j + 1, fin, by go_num, rfl, by omega, RX.out, BX.out, G5.out⟩
              case measure => simp [intOf]; omega
          · have AN := Lib.hid (show ansB A u1 = false by unfold ansB; rw [AL.out, decide_eq_false hp, Bool.false_and])
            have dt : decide ((0 : Int) < (an : Int)) = false := decide_eq_false (by omega)
            have j0 : ¬ (0 : Int) < an := by omega
            have RX := Lib.hid (show oaT A (T.drop (j + 1)) (oaT A x.el (u1 + 1)) = oaT A T u by rw [← RNX.out]; rw [if_neg K1.out, if_pos K.out, if_neg (by rw [AN.out]; decide)])
            have LX := Lib.hid (LE.out x.el (u1 + 1))
            have IX := Lib.hid (CALL.out x.el x.u (u1 + 1) (by first | exact Nat.zero_le _ | exact Nat.le_add_right _ _ | exact Nat.le_add_left _ _) VX.out.u (by omega))
            have BX := Lib.hid (show oaT A x.el (u1 + 1) + (T.drop (j + 1)).cnt ≤ 10000 by
              have := LX.out; have := HU1.out; have := CAt.out; have : (CT.nil).cnt = 0 := CT.cnt_nil; omega)
            try dsimp only at IX
            clear CALL RNX LE LX AN
            generalize oaT A x.el (u1 + 1) = fin at *
            go_wp2_with (go_at_call 44; refine IX.out.mono ?_; clear IX; rintro e w5 ⟨rfl, g5⟩; have G5 := Lib.hid (gb_trans GR.out g5); clear g5 x0 x3 x4)
            go_roundw
            case rel => exact ⟨j + 1, fin, by go_num, rfl, by omega, RX.out, BX.out, G5.out⟩
            case measure => simp [intOf]; omega
        by_cases h2 : x.k = 2
        · have K := Lib.hid h2
          have K1 := Lib.hid h1
          have K3 := Lib.hid h3
          rw [h2] at x0
          have RX := Lib.hid (show oaT A (T.drop (j + 1)) (oaT A x.el (u1)) = oaT A T u by rw [← RNX.out]; rw [if_neg K1.out, if_neg K3.out, if_pos K.out])
          have LX := Lib.hid (LE.out x.el (u1))
          have IX := Lib.hid (CALL.out x.el x.u (u1) (by first | exact Nat.zero_le _ | exact Nat.le_add_right _ _ | exact Nat.le_add_left _ _) VX.out.u (by omega))
          have BX := Lib.hid (show oaT A x.el (u1) + (T.drop (j + 1)).cnt ≤ 10000 by
            have := LX.out; have := HU1.out; have := CAt.out; have : (CT.nil).cnt = 0 := CT.cnt_nil; omega)
          try dsimp only at IX
          clear CALL RNX LE LX h1 h2 h3
          generalize oaT A x.el (u1) = fin at *
          go_wp2_with (go_at_call 44; refine IX.out.mono ?_; clear IX; rintro e w5 ⟨rfl, g5⟩; have G5 := Lib.hid (gb_trans GR.out g5); clear g5 x0 x3 x4)
          go_roundw
          case rel => exact ⟨j + 1, fin, by go_num, rfl, by omega, RX.out, BX.out, G5.out⟩
          case measure => simp [intOf]; omega
        · have K := Lib.hid h2
          have K1 := Lib.hid h1
          have K3 := Lib.hid h3
          have RX := Lib.hid (show oaT A (T.drop (j + 1)) (oaT A .nil (u1)) = oaT A T u by rw [← RNX.out]; rw [if_neg K1.out, if_neg K3.out, if_neg K.out]; rfl)
          have LX := Lib.hid (LE.out .nil (u1))
          have IX := Lib.hid (CALL.out .nil ⟨none, 0, 0⟩ (u1) (by first | exact Nat.zero_le _ | exact Nat.le_add_right _ _ | exact Nat.le_add_left _ _) (ST.nilv _) (by omega))
          have BX := Lib.hid (show oaT A .nil (u1) + (T.drop (j + 1)).cnt ≤ 10000 by
            have := LX.out; have := HU1.out; have := CAt.out; have : (CT.nil).cnt = 0 := CT.cnt_nil; omega)
          try dsimp only at IX
          clear CALL RNX LE LX
          generalize oaT A .nil (u1) = fin at *
          go_wp2_with (go_at_call 44; refine IX.out.mono ?_; clear IX; rintro e w5 ⟨rfl, g5⟩; have G5 := Lib.hid (gb_trans GR.out g5); clear g5 x0 x3 x4)
          go_roundw
          case rel => exact ⟨j + 1, fin, by go_num, rfl, by omega, RX.out, BX.out, G5.out⟩
          case measure => simp [intOf]; omega
      · have hje : j = sn := by omega
        have i1 : ¬ (j : Int) < sn := by omega
        have FI := Lib.hid (show u1 = oaT A T u by
          have h := HR.out
          rw [CT.drop_all T j (by rw [SL.out]; omega)] at h
          exact h)
        clear HR
        go_wp2
        go_ret
        exact ⟨by rw [← FI.out] <;> rfl, GR.out⟩
set_option maxRecDepth 100000 in
set_option maxHeartbeats 16000000 in
theorem ot_rec (a : Sl) (A : List Bool) (han : a.n ≤ 1000000) : ∀ (m : Nat) (T : CT) (s : Sl) (w : World) (u : Nat), T.cnt < m → T.cnt ≤ 1000 → ST w s T → SB w a.a a.n a.c A → u + T.cnt ≤ 10000 →
    Calls Try.prog 45 #[.slice s.a s.n s.c, .slice a.a a.n a.c, .int .i64 (u : Int)] w (RetV (.int .i64 (otT A T u : Int)) w) := by
  intro m
  induction m with
  | zero => intro T s w u h; omega
  | succ m ih =>
    intro T s w u hm hc hS hA hu
    have IH := Lib.hid ih
    have HS := Lib.hid hS
    have HA := Lib.hid hA
    have HM := Lib.hid hm
    have HC := Lib.hid hc
    have HU := Lib.hid hu
    have SL := Lib.hid hS.len
    have scap : s.n ≤ s.c := hS.cap
    have SB := Lib.hid (show s.n ≤ 1000 by have := hS.len; have := CT.len_cnt T; omega)
    have AL := Lib.hid hA.len
    have acap := hA.cap
    unfold RetV at IH
    clear ih hS hm hc hu hA
    obtain ⟨sa, sn, sc⟩ := s
    obtain ⟨aa, an, ac⟩ := a
    dsimp only at *
    go_enter Try.func45, Try.ntmps45
    go_wp2
    go_loopw [2, 7, 8] (fun s2 s7 s8 wr => ∃ (j u1 : Nat), s7 = .int .i64 (j : Int) ∧ s2 = .int .i64 (u1 : Int) ∧ j ≤ sn ∧ otT A (T.drop j) u1 = otT A T u ∧ u1 + (T.drop j).cnt ≤ 10000 ∧ w.grownBy wr none) (fun _ s7 _ _ => sn - (intOf s7).toNat)
    case atStart => exact ⟨0, u, rfl, rfl, Nat.zero_le _, by rw [CT.drop_zero], by rw [CT.drop_zero]; exact HU.out, gb_refl _ _⟩
    case round =>
      obtain ⟨j, u1, rfl, rfl, hj, hr, hu, hg⟩ := hrel
      have HR := Lib.hid hr
      have HU1 := Lib.hid hu
      have GR := Lib.hid hg
      clear hr hu hg
      by_cases hlt : j < sn
      · have i1 : (j : Int) < sn := by omega
        have i0 : (0 : Int) ≤ (j : Int) := by omega
        obtain ⟨x, ad, hsa, hd, ⟨c0, c1, c2, c3, c4⟩, vm⟩ := HS.out.at_ j hlt
        dsimp only at hsa
        subst hsa
        dsimp only [Sl.v] at c3 c4
        have x0 := GR.out.cell c0 (by simp)
        have x3 := GR.out.cell c3 (by simp)
        have x4 := GR.out.cell c4 (by simp)
        have hwj : IntKind.i64.wrap ((j : Int) + 1) = ((j + 1 : Nat) : Int) := by have := SB.out; rw [IntKind.wrap_i64]; omega
        have hwu : IntKind.i64.wrap ((u1 : Int) + 1) = ((u1 + 1 : Nat) : Int) := by have := HU1.out; rw [IntKind.wrap_i64]; omega
        have VX := Lib.hid vm
        have CTh := Lib.hid (cnt_th hd)
        have CAt := Lib.hid (cnt_at hd)
        have RN := Lib.hid (show otT A (x.ct (T.drop (j + 1))) u1 = otT A T u by rw [← hd]; exact HR.out)
        clear c0 c1 c2 c3 c4 vm hd HR
        have LE := Lib.hid (fun (B : CT) (q : Nat) => ot_le A B q)
        have RNX := Lib.hid (show otT A (T.drop (j + 1)) (if x.k = 2 then (if ansB A u1 = true then otT A x.th (u1 + 1) else otT A x.el (u1 + 1)) else if x.k = 3 then otT A x.el u1 else u1) = otT A T u from RN.out)
        have CALL := Lib.hid (fun (B : CT) (sb : Sl) (q : Nat) (h1 : B.cnt ≤ x.th.cnt + x.el.cnt) (h2 : ST w sb B) (h3 : q ≤ u1 + 1) => IH.out B sb wr q (by have := HM.out; have := CAt.out; have := CT.drop_cnt T j; omega) (by have := HC.out; have := CAt.out; have := CT.drop_cnt T j; omega) (h2.keep0 GR.out) (HA.out.keep0 GR.out) (by have := HU1.out; have := CAt.out; omega))
        clear RN IH
        by_cases h2 : x.k = 2
        · have K := Lib.hid h2
          rw [h2] at x0
          clear h2
          by_cases hp : 0 < an
          · obtain ⟨aad, rfl⟩ : ∃ ad, aa = some ad := by
              cases aa with
              | none => have := (HA.out.nil rfl).1; omega
              | some ad => exact ⟨ad, rfl⟩
            have ca := GR.out.cell (HA.out.cells aad rfl (u1 % an) (Nat.mod_lt _ hp)) (by simp)
            have AN := Lib.hid (show ansB A u1 = A.getD (u1 % an) false by unfold ansB; rw [AL.out, decide_eq_true hp, Bool.true_and])
            obtain ⟨r, hr⟩ : ∃ r, r = A.getD (u1 % an) false := ⟨_, rfl⟩
            rw [← hr] at ca AN
            have j0 : (0 : Int) < an := by omega
            have dt : decide ((0 : Int) < (an : Int)) = true := decide_eq_true j0
            have md : ((u1 : Int).tmod (an : Int)) = ((u1 % an : Nat) : Int) := by rw [Int.tmod_eq_emod_of_nonneg (by omega)]; omega
            have m1 : (((u1 % an : Nat) : Int)) < an := by have := Nat.mod_lt u1 hp; omega
            have m0 : (0 : Int) ≤ ((u1 % an : Nat) : Int) := by omega
            clear hr HA
            cases r with
            | true =>
              have RX := Lib.hid (show otT A (T.drop (j + 1)) (otT A x.th (u1 + 1)) = otT A T u by rw [← RNX.out]; rw [if_pos K.out, if_pos AN.out])
              have LX := Lib.hid (LE.out x.th (u1 + 1))
              have IX := Lib.hid (CALL.out x.th x.s (u1 + 1) (by first | exact Nat.zero_le _ | exact Nat.le_add_right _ _ | exact Nat.le_add_left _ _) VX.out.s (by omega))
              have BX := Lib.hid (show otT A x.th (u1 + 1) + (T.drop (j + 1)).cnt ≤ 10000 by
                have := LX.out; have := HU1.out; have := CAt.out; have : (CT.nil).cnt = 0 := CT.cnt_nil; omega)
              try dsimp only at IX
              clear CALL RNX LE LX AN
              generalize u1 % an = qq at *
              generalize otT A x.th (u1 + 1) = fin at *
              go_wp2_with (go_at_call 45; refine IX.out.mono ?_; clear IX; rintro e w5 ⟨rfl, g5⟩; have G5 := Lib.hid (gb_trans GR.out g5); clear g5 x0 x3 x4)
              go_roundw
              case rel => exact ⟨j + 1, fin, by go_num, rfl, by omega, RX.out, BX.out, G5.out⟩
              case measure => simp [intOf]; omega
            | false =>
              have RX := Lib.hid (show otT A (T.drop (j + 1)) (otT A x.el (u1 + 1)) = otT A T u by rw [← RNX.out]; rw [if_pos K.out, if_neg (by rw [AN.out]; decide)])
              have LX := Lib.hid (LE.out x.el (u1 + 1))
              have IX := Lib.hid (CALL.out x.el x.u (u1 + 1) (by first | exact Nat.zero_le _ | exact Nat.le_add_right _ _ | exact Nat.le_add_left _ _) VX.out.u (by omega))
              have BX := Lib.hid (show otT A x.el (u1 + 1) + (T.drop (j + 1)).cnt ≤ 10000 by
                have := LX.out; have := HU1.out; have := CAt.out; have : (CT.nil).cnt = 0 := CT.cnt_nil; omega)
              try dsimp only at IX
              clear CALL RNX LE LX AN
              generalize u1 % an = qq at *
              generalize otT A x.el (u1 + 1) = fin at *
              go_wp2_with (go_at_call 45; refine IX.out.mono ?_; clear IX; rintro e w5 ⟨rfl, g5⟩; have G5 := Lib.hid (gb_trans GR.out g5); clear g5 x0 x3 x4)
              go_roundw
              case rel => exact ⟨j + 1, fin, by go_num, rfl, by omega, RX.out, BX.out, G5.out⟩
              case measure => simp [intOf]; omega
          · have AN := Lib.hid (show ansB A u1 = false by unfold ansB; rw [AL.out, decide_eq_false hp, Bool.false_and])
            have dt : decide ((0 : Int) < (an : Int)) = false := decide_eq_false (by omega)
            have j0 : ¬ (0 : Int) < an := by omega
            have RX := Lib.hid (show otT A (T.drop (j + 1)) (otT A x.el (u1 + 1)) = otT A T u by rw [← RNX.out]; rw [if_pos K.out, if_neg (by rw [AN.out]; decide)])
            have LX := Lib.hid (LE.out x.el (u1 + 1))
            have IX := Lib.hid (CALL.out x.el x.u (u1 + 1) (by first | exact Nat.zero_le _ | exact Nat.le_add_right _ _ | exact Nat.le_add_left _ _) VX.out.u (by omega))
            have BX := Lib.hid (show otT A x.el (u1 + 1) + (T.drop (j + 1)).cnt ≤ 10000 by
              have := LX.out; have := HU1.out; have := CAt.out; have : (CT.nil).cnt = 0 := CT.cnt_nil; omega)
            try dsimp only at IX
            clear CALL RNX LE LX AN
            generalize otT A x.el (u1 + 1) = fin at *
            go_wp2_with (go_at_call 45; refine IX.out.mono ?_; clear IX; rintro e w5 ⟨rfl, g5⟩; have G5 := Lib.hid (gb_trans GR.out g5); clear g5 x0 x3 x4)
            go_roundw
            case rel => exact ⟨j + 1, fin, by go_num, rfl, by omega, RX.out, BX.out, G5.out⟩
            case measure => simp [intOf]; omega
        by_cases h3 : x.k = 3
        · have K := Lib.hid h3
          have K2 := Lib.hid h2
          rw [h3] at x0
          have RX := Lib.hid (show otT A (T.drop (j + 1)) (otT A x.el (u1)) = otT A T u by rw [← RNX.out]; rw [if_neg K2.out, if_pos K.out])
          have LX := Lib.hid (LE.out x.el (u1))
          have IX := Lib.hid (CALL.out x.el x.u (u1) (by first | exact Nat.zero_le _ | exact Nat.le_add_right _ _ | exact Nat.le_add_left _ _) VX.out.u (by omega))
          have BX := Lib.hid (show otT A x.el (u1) + (T.drop (j + 1)).cnt ≤ 10000 by
            have := LX.out; have := HU1.out; have := CAt.out; have : (CT.nil).cnt = 0 := CT.cnt_nil; omega)
          try dsimp only at IX
          clear CALL RNX LE LX h2 h3
          generalize otT A x.el (u1) = fin at *
          go_wp2_with (go_at_call 45; refine IX.out.mono ?_; clear IX; rintro e w5 ⟨rfl, g5⟩; have G5 := Lib.hid (gb_trans GR.out g5); clear g5 x0 x3 x4)
          go_roundw
          case rel => exact ⟨j + 1, fin, by go_num, rfl, by omega, RX.out, BX.out, G5.out⟩
          case measure => simp [intOf]; omega
        · have K := Lib.hid h3
          have K2 := Lib.hid h2
          have RX := Lib.hid (show otT A (T.drop (j + 1)) (otT A .nil (u1)) = otT A T u by rw [← RNX.out]; rw [if_neg K2.out, if_neg K.out]; rfl)
          have LX := Lib.hid (LE.out .nil (u1))
          have IX := Lib.hid (CALL.out .nil ⟨none, 0, 0⟩ (u1) (by first | exact Nat.zero_le _ | exact Nat.le_add_right _ _ | exact Nat.le_add_left _ _) (ST.nilv _) (by omega))
          have BX := Lib.hid (show otT A .nil (u1) + (T.drop (j + 1)).cnt ≤ 10000 by
            have := LX.out; have := HU1.out; have := CAt.out; have : (CT.nil).cnt = 0 := CT.cnt_nil; omega)
          try dsimp only at IX
          clear CALL RNX LE LX
          generalize otT A .nil (u1) = fin at *
          go_wp2_with (go_at_call 45; refine IX.out.mono ?_; clear IX; rintro e w5 ⟨rfl, g5⟩; have G5 := Lib.hid (gb_trans GR.out g5); clear g5 x0 x3 x4)
          go_roundw
          case rel => exact ⟨j + 1, fin, by go_num, rfl, by omega, RX.out, BX.out, G5.out⟩
          case measure => simp [intOf]; omega
      · have hje : j = sn := by omega
        have i1 : ¬ (j : Int) < sn := by omega
        have FI := Lib.hid (show u1 = otT A T u by
          have h := HR.out
          rw [CT.drop_all T j (by rw [SL.out]; omega)] at h
          exact h)
        clear HR
        go_wp2
        go_ret
        exact ⟨by rw [← FI.out] <;> rfl, GR.out⟩
end Go.Proofs.Ytdbjeihbfooipaa
end
section
/- The law Nil: nil callbacks are not called and count as false; no condition. -/
namespace Go.Proofs.Ytdbjeihbfooipaa
open Go.RowKit
set_option linter.unusedVariables false
theorem SB.keepc {w w2 : World} {a : Option Addr} {n c : Nat} {L : List Bool} (h : SB w a n c L) (k : Kc w w2) : SB w2 a n c L := ⟨h.len, h.nil, h.cap, fun ad e j hj => k _ _ (h.cells ad e j hj)⟩
set_option maxRecDepth 100000 in
set_option maxHeartbeats 16000000 in
theorem nil_walk (w : World) (s : Sl) (T : CT) (hS : ST w s T) (a : Sl) (A : List Bool) (hA : SB w a.a a.n a.c A) : Calls Try.prog 9 #[.slice s.a s.n s.c, .slice a.a a.n a.c] w (RetV (.bool true) w) := by
  have HS := Lib.hid hS
  have HA := Lib.hid hA
  have SM := Lib.hid (small20_any w s T hS 60 (by decide))
  have AW := Lib.hid (fun w => works20_any w)
  unfold RetV at AW
  clear hS hA
  go_enter Try.func9, Try.ntmps9
  go_wp2_with fail
  refine SM.out.mono ?_
  rintro e w1 ⟨⟨b, rfl, hb⟩, g1⟩
  have G1 := Lib.hid g1
  have HB := Lib.hid hb
  clear SM g1 hb
  cases b with
  | false =>
    go_wp2_with fail
    refine (AW.out _).mono ?_
    rintro e x1 ⟨rfl, g⟩
    have GZ := Lib.hid (gb_trans G1.out g)
    clear g
    go_wp2
    go_ret
    exact ⟨rfl, GZ.out⟩
  | true =>
    by_cases hl : (20 : Int) < a.n
    · go_wp2_with fail
      refine (AW.out _).mono ?_
      rintro e x1 ⟨rfl, g⟩
      have GZ := Lib.hid (gb_trans G1.out g)
      clear g
      go_wp2
      go_ret
      exact ⟨rfl, GZ.out⟩
    have AN := Lib.hid (show a.n ≤ 1000000 by omega)
    have sm := HB.out rfl
    have HC := Lib.hid (Nat.le_trans sm.1 (show 60 ≤ 1000 by decide))
    have HCD := Lib.hid (sm_cnd sm)
    have CBD := Lib.hid sm.1
    clear sm HB
    go_upto_region 4 with fail
    have GA := Lib.hid (gb_trans G1.out (gb_trans (gb_alloc w1 (.cells #[.slice a.a a.n a.c, .int .i64 0, .slice none 0 0, .slice none 0 0] 76) none) (gb_alloc _ (.cells #[.slice a.a a.n a.c, .int .i64 0, .slice none 0 0, .slice none 0 0] 76) none)))
    have B3 := (IsB.new w1 76 #[.slice a.a a.n a.c, .int .i64 0, .slice none 0 0, .slice none 0 0]).alloc (.cells #[.slice a.a a.n a.c, .int .i64 0, .slice none 0 0, .slice none 0 0] 76)
    have B4 := IsB.new (w1.alloc (.cells #[.slice a.a a.n a.c, .int .i64 0, .slice none 0 0, .slice none 0 0] 76)) 76 #[.slice a.a a.n a.c, .int .i64 0, .slice none 0 0, .slice none 0 0]
    have SZ : ((w1.alloc (.cells #[.slice a.a a.n a.c, .int .i64 0, .slice none 0 0, .slice none 0 0] 76)).alloc (.cells #[.slice a.a a.n a.c, .int .i64 0, .slice none 0 0, .slice none 0 0] 76)).heap.size = w1.heap.size + 1 + 1 := by rw [sz_al, sz_al]
    rw [sz_al] at B4
    generalize (w1.alloc (.cells #[.slice a.a a.n a.c, .int .i64 0, .slice none 0 0, .slice none 0 0] 76)).alloc (.cells #[.slice a.a a.n a.c, .int .i64 0, .slice none 0 0, .slice none 0 0] 76) = w4 at *
    obtain ⟨b, hb⟩ : ∃ b, b = w1.heap.size := ⟨_, rfl⟩
    have LB := Lib.hid (show w.heap.size ≤ b by rw [hb]; exact G1.out.size)
    rw [← hb] at B3 B4 SZ ⊢
    clear hb
    replace B3 := Lib.hid B3
    replace B4 := Lib.hid B4
    replace SZ := Lib.hid SZ
    have KC4 := Lib.hid (Kc.of_gb GA.out)
    have ON := Lib.hid (oww_low (w0 := w) (b := b) (z := b + 2) LB.out (by omega))
    have W0 := Lib.hid (walk_n0 c0_cbi w (fun _ _ _ _ _ q => q.elim) T s w4 () HC.out HS.out HCD.out KC4.out trivial (by show 0 + T.cnt ≤ 10000; have := HC.out; omega))
    have I4 := Lib.hid (wi_new (w0 := w) (a := a) (A := A) B3.out KC4.out (show b + 2 ≤ w4.heap.size by rw [SZ.out]; omega))
    obtain ⟨st, hst⟩ : ∃ q, q = runT (CA A) T ⟨0, [], []⟩ := ⟨_, rfl⟩
    obtain ⟨sv, hsv⟩ : ∃ q, q = runT (CT2 A) T ⟨0, [], []⟩ := ⟨_, rfl⟩
    have N1 := Lib.hid (show st.nx = oaT A T 0 by rw [hst]; exact oa_run A T ⟨0, [], []⟩)
    have N2 := Lib.hid (show sv.nx = otT A T 0 by rw [hsv]; exact ot_run A T ⟨0, [], []⟩)
    have W1 := Lib.hid (fun (w5 : World) (g : w4.grownBy w5 none) => walk_n2 (ca_cbi w b (b + 2) a A HA.out LB.out (by omega) AN.out) w ON.out T s w5 ⟨0, [], []⟩ HC.out HS.out HCD.out (KC4.out.trans (Kc.of_gb g)) (I4.out.keep0 g) (by
      have e : (CA A).sz ⟨0, [], []⟩ = 0 := rfl
      rw [e]; have := HC.out; omega))
    have W2 := Lib.hid (fun (w6 : World) (kc : Kc w w6) (hb4 : IsB w6 (b + 1) 76 #[.slice a.a a.n a.c, .int .i64 0, .slice none 0 0, .slice none 0 0]) (lt : b + 1 < w6.heap.size) => walk_n1 (ct_cbi w (b + 1) w6.heap.size a A HA.out (by have := LB.out; omega) lt AN.out) w (oww_low (by have := LB.out; omega) lt) T s w6 ⟨0, [], []⟩ HC.out HS.out HCD.out kc (wi_new hb4 kc (Nat.le_refl _)) (by
      have e : (CT2 A).sz ⟨0, [], []⟩ = 0 := rfl
      rw [e]; have := HC.out; omega))
    have OA := Lib.hid (fun (w2 : World) (k : Kc w w2) => oa_rec a A AN.out (T.cnt + 1) T s w2 0 (by omega) HC.out (HS.out.keepc k) (SB.keepc HA.out k) (by have := HC.out; omega))
    have OT := Lib.hid (fun (w2 : World) (k : Kc w w2) => ot_rec a A AN.out (T.cnt + 1) T s w2 0 (by omega) HC.out (HS.out.keepc k) (SB.keepc HA.out k) (by have := HC.out; omega))
    rw [← hst] at W1
    rw [← hsv] at W2
    rw [← N1.out] at OA
    rw [← N2.out] at OT
    unfold RetR at W0 W1 W2
    unfold RetV at OA OT
    dsimp only at W0 W1 W2 OA OT
    clear hst hsv
    go_upto_region 7 with (first
      | (go_at_call 40; refine W0.out.mono ?_; clear W0; rintro e w5 ⟨⟨v, rfl⟩, _, k5⟩; have G5 := Lib.hid (Kt.gb k5 (fun _ _ _ q => q)); clear k5)
      | (go_at_call 40; refine (W1.out _ G5.out).mono ?_; clear W1; rintro e w6 ⟨⟨v, rfl⟩, i6, k6⟩; have I6 := Lib.hid i6; have K6 := Lib.hid k6; have B6 := Lib.hid (Kt.isb k6 (B4.out.keep0 G5.out) (fun q => by rcases q with ⟨q, _⟩ | ⟨q, _⟩ <;> omega)); have Z6 := Lib.hid (show b + 1 < w6.heap.size by have := G5.out.size; have := k6.size; have := SZ.out; omega); clear i6 k6)
      | (go_at_call 40; refine (W2.out _ I6.out.kc B6.out Z6.out).mono ?_; clear W2; rintro e w7 ⟨⟨v, rfl⟩, i7, k7⟩; have I7 := Lib.hid i7; have K7 := Lib.hid k7; clear i7 k7))
    have GG := Lib.hid (show w.grownBy w7 none from Kt.gb (own := fun k _ => w.heap.size ≤ k) ((Kt.of_gb (gb_trans GA.out G5.out)).trans ((K6.out.mono (fun k o q => by
      have := LB.out
      cases o <;> first | exact q.elim | (rcases q with ⟨q, _⟩ | ⟨q, _⟩ <;> omega))).trans (K7.out.mono (fun k o q => by
      have := LB.out; have := GA.out.size; have := G5.out.size; have := K6.out.size
      cases o <;> first | exact q.elim | (rcases q with ⟨q, _⟩ | ⟨q, _⟩ <;> omega))))) (fun k o hk q => by omega))
    obtain ⟨V1, V2, h1, _, _, _⟩ := I6.out.ex
    obtain ⟨U1, U2, k1, _, _, _⟩ := I7.out.ex
    have X1 := Lib.hid (Kt.isb K7.out h1 (fun q => by rcases q with ⟨q, _⟩ | ⟨_, q⟩; (· omega); exact absurd q (by decide)))
    have X2 := Lib.hid k1
    have KC7 := Lib.hid I7.out.kc
    clear h1 k1 I6 I7 K6 K7 N1 N2 I4
    generalize st.nx = n1 at *
    generalize sv.nx = n2 at *
    go_upto_region 8 with (first
      | (go_at_call 44; refine (OA.out _ KC7.out).mono ?_; clear OA; rintro e w8 ⟨rfl, g8⟩; have G8 := Lib.hid g8; clear g8)
      | (go_at_call 45; refine (OT.out _ (KC7.out.trans (Kc.of_gb G8.out))).mono ?_; clear OT; rintro e w9 ⟨rfl, g9⟩; have G9 := Lib.hid (gb_trans G8.out g9); clear g9))
    have y1 := (X1.out.keep0 G9.out).cell 1
    have y2 := (X2.out.keep0 G9.out).cell 1
    dsimp at y1 y2
    have t1 : ((n1 : Int) == (n1 : Int)) = true := beq_self_eq_true _
    have t2 : ((n2 : Int) == (n2 : Int)) = true := beq_self_eq_true _
    go_wp2_with (go_at_call 27; refine (AW.out _).mono ?_; rintro e w10 ⟨rfl, g10⟩; have G10 := Lib.hid (gb_trans G9.out g10); clear g10)
    go_ret
    exact ⟨rfl, gb_trans GG.out G10.out⟩
end Go.Proofs.Ytdbjeihbfooipaa
end
