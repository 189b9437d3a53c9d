/- The queue's heap: the walk of push. -/
import Derived.Test.YtmldoeigemippaaPqC
import Derived.Deep.RegionLaw
namespace Go.Proofs.Ytmldoeigemippaa
open Go.RowKit
set_option linter.unusedVariables false

theorem gb_own {w w2 : World} {base : Nat} {e : TypeId} {size n : Nat} {v : Value} {xs : List Value} {w0 : World} (h0 : w0.grownBy w none) (hown : w.ownsRow base e size v n xs) (hb : w0.heap.size ≤ base) (k : w.grownBy w2 v.ownBlock) : w0.grownBy w2 none := by
  refine ⟨k.os.trans h0.os, k.tape.trans h0.tape, k.output.trans h0.output, Nat.le_trans h0.size k.size, fun i hi hn => ?_⟩
  refine (k.block i (Nat.lt_of_lt_of_le hi h0.size) ?_).trans (h0.block i hi (by simp))
  intro e1
  have := hown.lt i e1.symm
  omega
theorem step_pushI {ops : Array Oper} {o : Oper} {a : Act} {w : World} {K : Act → World → Prop} {Q : Exit → Act → World → Prop} {Z : Prop} (hgd : o.guard = none) (s x : Operand)
    (ho : o.op = .call { callee := .builtin .append, args := #[s, x], argTypes := #[60, 60] }) (base : Nat) (V : Value) (E : Int → Int) (L : List Int) (hs : a.eval s = V) (hown : PL w base V E L)
    (ad : Addr) (c : Nat) (y : Int) (hx : a.eval x = .slice (some ad) 1 c) (hM : ∀ j u, (itC E y)[j]? = some u → w.cell? (ad.add j) = some u) (hlen : L.length + 1 ≤ 1000000) (hbase : base ≤ w.heap.size)
    (h : ∀ V' w', PL w' base V' E (L ++ [y]) → w.grownBy w' V.ownBlock → (V'.ownBlock = V.ownBlock ∨ V'.ownBlock = some w.heap.size) → K (a.put o.dst V') w') : if Region.wanted o (yielded ops a.tmps) = true then Oper.wp Try.prog o a w K Q else Z := by
  have hw : Region.wanted o (yielded ops a.tmps) = true := by simp [Region.wanted, hgd]
  rw [if_pos hw]
  obtain ⟨i0, hi, hz0, hz1, hz2⟩ := info_parts infoItem
  obtain ⟨V', w', hr, h2, h3, h4⟩ := run_append_own (P := Try.prog) w base 60 o.type 65 i0 (.agg #[.int .i64 0, .int .u64 0, .int .i64 0]) 3 24 Try.underlying60 hi hz0 hz1 hz2 rfl (by decide) V L.length (L.flatMap (itC E)) hown ad 1 c (itC E y) rfl hM (itC_one E y) (by unfold maxLen; omega) (by omega) hbase
  have h2' : PL w' base V' E (L ++ [y]) := by
    unfold PL
    rw [List.flatMap_append, List.length_append]
    simpa using h2
  have hb : V'.ownBlock = V.ownBlock ∨ V'.ownBlock = some w.heap.size := by
    rcases hown.2 with ⟨rfl, hn⟩ | ⟨g, cap, cur, rfl, hbg, hg, hnc, hcm, hcs, htake⟩
    · have hr2 := run_append_nil (P := Try.prog) w 60 o.type 65 i0 (.agg #[.int .i64 0, .int .u64 0, .int .i64 0]) Try.underlying60 hi hz0 ad 1 c (itC E y) (by rw [hz1]; rfl) hM (by omega) (by omega) (by rw [hz2]; omega)
      rw [hr] at hr2
      injection hr2 with e1 e2
      right; rw [e1]; rfl
    · by_cases hroom : L.length + 1 ≤ cap
      · have hr2 := run_append_room (P := Try.prog) w 60 o.type 65 i0 Try.underlying60 hi g L.length cap cur hg ad 1 c (itC E y) (by rw [hz1]; rfl) hM (itC_one E y) hroom (by rw [hz1, hcs]; first | omega | (simp; omega) | (simp [itC]; omega))
        rw [hr] at hr2
        injection hr2 with e1 e2
        left; rw [e1]; rfl
      · have holds : ∀ j u, (L.flatMap (itC E))[j]? = some u → w.cell? ((⟨g, 0, none⟩ : Addr).add j) = some u := World.ownsRow.cells hown (g := g) rfl
        have hr2 := run_append_grow (P := Try.prog) w 60 o.type 65 i0 (.agg #[.int .i64 0, .int .u64 0, .int .i64 0]) Try.underlying60 hi hz0 ⟨g, 0, none⟩ L.length cap (L.flatMap (itC E)) (by rw [hz1, it_len]) holds ad 1 c (itC E y) (by rw [hz1]; rfl) hM (by omega) (by omega) (growslice_fits (by omega) (by rw [hz2]; omega))
        rw [hr] at hr2
        injection hr2 with e1 e2
        right; rw [e1]; rfl
  unfold Oper.wp execOp
  simp only [ho, resolve, invoke, builtin, Sem.run_bind, Sem.run_pure, Result.andThen_ok, List.map_toArray, List.map_cons, List.map_nil, hs, hx, hr]
  exact h V' w' h2' h3 hb
theorem three_cell (w : World) (E : Int → Int) (y : Int) (t : TypeId) (g : Nat) (hg : g = w.heap.size) : ∀ j u, (itC E y)[j]? = some u → (w.alloc (.cells #[.int .i64 (kC y), .int .u64 (tC y), .int .i64 (E (tC y))] t)).cell? ((⟨g, 0, none⟩ : Addr).add j) = some u := by
  intro j u hj
  subst hg
  have e : ((⟨w.heap.size, 0, none⟩ : Addr).add j) = ⟨w.heap.size, j, none⟩ := by unfold Addr.add; split <;> simp_all
  rw [e, (IsB.new w t _).cell j, ← hj]
  simp [itC]
def upF : Nat → Nat → List Int → List Int
  | 0, _, H => H
  | f + 1, i, H => if 0 < i ∧ H.getD i 0 < H.getD ((i - 1) / 2) 0 then upF f ((i - 1) / 2) (swapL H i ((i - 1) / 2)) else H
def pushL (H : List Int) (v : Int) : List Int := upF (H.length + 1) H.length (H ++ [v])
set_option maxRecDepth 100000 in
set_option maxHeartbeats 20000000 in
theorem push_heap (W w : World) (hb o : Nat) (t : TypeId) (cs : Array Value) (base : Nat) (V : Value) (E : Int → Int) (H : List Int) (y : Int) (h : HQ W hb o t cs base V E H w) (ht : t ≠ 65) (hn : H.length ≤ 99999) (hbase : base ≤ w.heap.size) :
    Calls Try.prog 21 #[.pointer (some ⟨hb, o, none⟩), .agg #[.int .i64 (kC y), .int .u64 (tC y), .int .i64 (E (tC y))]] w fun e w' => e = .returned (.tuple #[]) ∧ ∃ V', HQ W hb o t (cs.setIfInBounds o V') base V' E (pushL H y) w' ∧ (V'.ownBlock = V.ownBlock ∨ ∃ q, V'.ownBlock = some q ∧ w.heap.size ≤ q) ∧ Fr w w' hb V.ownBlock := by
  have HH := Lib.hid h
  obtain ⟨ha, hc, rfl⟩ := h.row.shape
  have hbl : hb < w.heap.size := h.var.lt
  have hos : o < cs.size := by
    refine Nat.lt_of_not_le fun hh => ?_
    have := h.at_
    rw [Array.getElem?_eq_none hh] at this
    cases this
  have hnb : some hb ≠ (Value.slice ha H.length hc).ownBlock := by
    intro e
    rcases h.row.2 with ⟨hn1, _⟩ | ⟨g0, cap, cur, hh1, _⟩
    · rw [hn1] at e; cases e
    · have hrow := h.row
      rw [hh1] at hrow e
      obtain ⟨cb, hbk⟩ := own_blk hrow
      injection e with e
      exact IsB.ne h.var hbk ht e
  have HNB := Lib.hid hnb
  have B1 := IsB.new w 65 #[.int .i64 (kC y), .int .u64 (tC y), .int .i64 (E (tC y))]
  have A1 := gb_alloc w (.cells #[.int .i64 (kC y), .int .u64 (tC y), .int .i64 (E (tC y))] 65) none
  clear h hnb
  go_enter Try.func21, Try.ntmps21
  go_upto_region 1 with fail
  generalize w.alloc (.cells #[.int .i64 (kC y), .int .u64 (tC y), .int .i64 (E (tC y))] 65) = wb at *
  have HA := Lib.hid (show ∀ (xs : Array Value) (ty : TypeId), w.grownBy (wb.drew.alloc (.cells xs ty)) none from fun xs ty => gb_trans A1 (gb_trans (gb_drew wb none) (gb_alloc _ _ none)))
  have OA := Lib.hid (show ∀ (xs : Array Value) (ty : TypeId), PL (wb.drew.alloc (.cells xs ty)) base (.slice ha H.length hc) E H from fun xs ty => HH.out.row.keep0 (HA.out xs ty))
  have VA := Lib.hid (show ∀ (xs : Array Value) (ty : TypeId) (w1 : World), (wb.drew.alloc (.cells xs ty)).grownBy w1 (Value.slice ha H.length hc).ownBlock → IsB w1 hb t cs from fun xs ty w1 g => (HH.out.var.keep0 (HA.out xs ty)).keep g HNB.out)
  have SZ := Lib.hid (show ∀ (xs : Array Value) (ty : TypeId), base ≤ (wb.drew.alloc (.cells xs ty)).heap.size from fun xs ty => Nat.le_trans hbase (HA.out xs ty).size)
  have WS := Lib.hid (show ∀ (xs : Array Value) (ty : TypeId), w.heap.size ≤ (wb.drew.alloc (.cells xs ty)).heap.size from fun xs ty => (HA.out xs ty).size)
  have c0 : wb.cell? ⟨w.heap.size, 0, none⟩ = some (.int .i64 (kC y)) := B1.cell 0
  have c1 : wb.cell? ⟨w.heap.size, 1, none⟩ = some (.int .u64 (tC y)) := B1.cell 1
  have c2 : wb.cell? ⟨w.heap.size, 2, none⟩ = some (.int .i64 (E (tC y))) := B1.cell 2
  have d0 : ∀ ob, (wb.alloc ob).cell? ⟨hb, o, none⟩ = some (.slice ha H.length hc) := fun ob => by rw [((HH.out.var.keep0 A1).alloc ob).cell o]; exact HH.out.at_
  have d1 : wb.cell? ⟨hb, o, none⟩ = some (.slice ha H.length hc) := by rw [(HH.out.var.keep0 A1).cell o]; exact HH.out.at_
  clear B1 A1
  go_cut [] from 6 to 13 (fun wx => ∃ b c, IsB wx hb t (cs.setIfInBounds o (.slice (some ⟨b, 0, none⟩) (H.length + 1) c)) ∧ PL wx base (.slice (some ⟨b, 0, none⟩) (H.length + 1) c) E (H ++ [y]) ∧ W.grownBy wx none ∧ Fr w wx hb (Value.slice ha H.length hc).ownBlock ∧ (some b = (Value.slice ha H.length hc).ownBlock ∨ w.heap.size ≤ b) ∧ base ≤ b ∧ b ≠ hb)
  case first =>
    go_region_law (refine step_pushI rfl _ _ rfl base _ E H rfl (OA.out _ _) _ _ y rfl (three_cell _ _ _ _ _ rfl) (by omega) (SZ.out _ _) ?_; intro V1 w1 o1 g1 n1; obtain ⟨b1, k1, rfl⟩ := o1.headn (n := H.length + 1) (by simp) (by omega); have v1 : w1.cell? ⟨hb, o, none⟩ = some (.slice ha H.length hc) := (by rw [(VA.out _ _ _ g1).cell o]; exact HH.out.at_); have f1 := (VA.out _ _ _ g1).free o)
    all_goals (go_wp2_with fail)
    all_goals (
      go_meet
      have V1 := VA.out _ _ _ g1
      have hlen : (H ++ [y]).length = H.length + 1 := by simp
      have hbk := own_blk (show w1.ownsRow base 65 3 (.slice (some ⟨b1, 0, none⟩) (H.length + 1) k1) (H.length + 1) ((H ++ [y]).flatMap (itC E)) by have h0 := o1; unfold PL at h0; rwa [hlen] at h0)
      obtain ⟨cb, hbk⟩ := hbk
      have hne : hb ≠ b1 := IsB.ne V1 hbk ht
      have hlowb : base ≤ b1 := (World.ownsRow.lt o1 b1 rfl).1
      have G1 := gb_own (gb_trans HH.out.grown (HA.out _ _)) (OA.out _ _) HH.out.lowr g1
      have F1 := ((Fr.refl w hb (Value.slice ha H.length hc).ownBlock).step (HA.out _ _) (by intro q e; cases e)).step g1 (by intro q e; exact .inr (.inl e))
      refine ⟨b1, k1, V1.set o _, World.ownsRow.kept o1 (gb_set _ _ _ _) (.inr (by intro e; injection e with e; exact hne e.symm)), gb_put G1 HH.out.lowv, F1.step (gb_set _ _ _ _) (by intro q e; injection e with e; exact .inl e.symm), ?_, hlowb, Ne.symm hne⟩
      rcases n1 with e | e
      · exact .inl e
      · right
        have e2 : b1 = _ := Option.some.inj e
        rw [e2]
        exact WS.out _ _)
  case rest =>
    obtain ⟨b, c, V0, P0, G0, F0, how, hlowb, hne2⟩ := hcut
    have HW := Lib.hid how
    have HV0 := Lib.hid V0
    have HF0 := Lib.hid F0
    have HG0 := Lib.hid G0
    have HP0 := Lib.hid P0
    have hne : hb ≠ b := Ne.symm hne2
    have cv : wc.cell? ⟨hb, o, none⟩ = some (.slice (some ⟨b, 0, none⟩) (H.length + 1) c) := by rw [V0.cell o]; simp [hos]
    have NB := Lib.hid (show ((Value.slice (some ⟨b, 0, none⟩) (H.length + 1) c).ownBlock = (Value.slice ha H.length hc).ownBlock ∨ ∃ q, (Value.slice (some ⟨b, 0, none⟩) (H.length + 1) c).ownBlock = some q ∧ w.heap.size ≤ q) by
      rcases how with e | e
      · exact .inl e
      · exact .inr ⟨b, rfl, e⟩)
    have hsub : ((H.length + 1 : Nat) : Int) - 1 = (H.length : Int) := by omega
    have hsub2 : (H.length : Int) + 1 - 1 = (H.length : Int) := by omega
    have lv := HH.out.lowv
    have lr := HH.out.lowr
    have HOS := Lib.hid hos
    have hlen1 : (H ++ [y]).length = H.length + 1 := by simp
    have HL1 := Lib.hid hlen1
    clear how V0 P0 G0 F0 HA OA VA SZ WS c0 c1 c2 d0 d1 hlen1 hos
    go_wp2
    go_loopw [5] (fun k wr => ∃ (i f : Nat) (L : List Int), k = .int .i64 i ∧ i ≤ H.length ∧ i < f ∧ H.length + 1 = L.length ∧ upF f i L = pushL H y ∧ PL wr base (.slice (some ⟨b, 0, none⟩) (H.length + 1) c) E L ∧ wc.grownBy wr (some b)) (fun k _ => (intOf k).toNat)
    case atStart => exact ⟨H.length, H.length + 1, H ++ [y], rfl, Nat.le_refl _, Nat.lt_succ_self _, HL1.out.symm, rfl, HP0.out, gb_refl _ _⟩
    case round =>
      obtain ⟨i, f, L, rfl, hin, hf, hlen, hs, hnl, hg⟩ := hrel
      have HN := Lib.hid hnl
      have HG := Lib.hid hg
      have HS := Lib.hid hs
      have HLN := Lib.hid hlen
      have HEND := Lib.hid (show ∀ wr', upF f i L = L → wr.grownBy wr' none → HQ W hb o t (cs.setIfInBounds o (.slice (some ⟨b, 0, none⟩) (H.length + 1) c)) base (.slice (some ⟨b, 0, none⟩) (H.length + 1) c) E (pushL H y) wr' ∧ Fr w wr' hb (Value.slice ha H.length hc).ownBlock by
        intro wr' he g
        have g5 := gb_trans hg (gb_any g)
        refine ⟨⟨HV0.out.keep g5 (by intro e; injection e with e; exact hne e), by simp [HOS.out], ?_, gb_new (gb_trans (gb_any HG0.out) g5) (Nat.le_trans lr hlowb), lv, lr⟩, HF0.out.step g5 (by
          intro q e
          injection e with e
          subst e
          rcases HW.out with e1 | e1
          · exact .inr (.inl e1.symm)
          · exact .inr (.inr e1))⟩
        rw [← hs, he]
        exact hnl.keep0 g)
      clear hnl hg hs hlen cv
      by_cases hi0 : 0 < i
      · obtain ⟨k, hk⟩ : ∃ k : Nat, i = k + 1 := ⟨i - 1, by omega⟩
        obtain ⟨q, hq⟩ : ∃ q : Nat, q = k / 2 := ⟨_, rfl⟩
        have h1 : (i : Int) - 1 = (k : Int) := by omega
        have h2 : (k : Int) / 2 = (q : Int) := by omega
        have h3 : Int.tdiv (k : Int) 2 = (q : Int) := by rw [Int.tdiv_eq_ediv_of_nonneg (by omega)]; exact h2
        have wk : IntKind.i64.wrap (k : Int) = (k : Int) := by rw [IntKind.wrap_i64]; omega
        have wq : IntKind.i64.wrap (q : Int) = (q : Int) := by rw [IntKind.wrap_i64]; omega
        have hkb : k ≤ 100000 := by omega
        have hqi : q < i := by omega
        have iin1 : (i : Int) < (H.length : Int) + 1 := by omega
        have iqn1 : (q : Int) < (H.length : Int) + 1 := by omega
        have ipos : (0 : Int) < i := by omega
        have i0 : (0 : Int) ≤ i := by omega
        have q0 : (0 : Int) ≤ q := by omega
        have CX := Lib.hid (fun (w2 : World) (g : wr.grownBy w2 none) => (HN.out.keep0 g).at_ HLN.out i (by have := HLN.out; omega))
        have CZ := Lib.hid (fun (w2 : World) (g : wr.grownBy w2 none) => (HN.out.keep0 g).at_ HLN.out q (by have := HLN.out; omega))
        have STEP := Lib.hid (show upF f i L = if L.getD i 0 < L.getD q 0 then upF (f - 1) q (swapL L i q) else L by
          obtain ⟨f', rfl⟩ : ∃ f', f = f' + 1 := ⟨f - 1, by omega⟩
          have e : (i - 1) / 2 = q := by omega
          show (if _ then _ else _) = _
          rw [e]
          simp only [hi0, true_and]
          rfl)
        obtain ⟨x, hx⟩ : ∃ x, x = L.getD i 0 := ⟨_, rfl⟩
        obtain ⟨z, hz⟩ : ∃ z, z = L.getD q 0 := ⟨_, rfl⟩
        rw [← hx] at CX STEP
        rw [← hz] at CZ STEP
        clear hx hz hk hq hsub hsub2
        by_cases hxz : x < z
        · skip
          have PR := Lib.hid (fun w => prec_code w E x z)
          unfold RetV at PR
          rw [decide_eq_true hxz] at PR
          have ST := STEP.out
          rw [if_pos hxz] at ST
          have ST := Lib.hid ST
          clear hxz STEP
          go_upto_region 4 with fail
          have KS := Lib.hid (fun (w' : World) (q0 : wr.grownBy w' none) => (⟨(CX.out _ q0).1, (CX.out _ q0).2.1, (CX.out _ q0).2.2, (CZ.out _ q0).1, (CZ.out _ q0).2.1, (CZ.out _ q0).2.2, q0⟩ : (fun w' => w'.cell? ⟨b, i * 3, none⟩ = some (.int .i64 (kC x : Int)) ∧ w'.cell? ⟨b, i * 3 + 1, none⟩ = some (.int .u64 (tC x : Int)) ∧ w'.cell? ⟨b, i * 3 + 2, none⟩ = some (.int .i64 (E (tC x) : Int)) ∧ w'.cell? ⟨b, q * 3, none⟩ = some (.int .i64 (kC z : Int)) ∧ w'.cell? ⟨b, q * 3 + 1, none⟩ = some (.int .u64 (tC z : Int)) ∧ w'.cell? ⟨b, q * 3 + 2, none⟩ = some (.int .i64 (E (tC z) : Int)) ∧ wr.grownBy w' none) w'))
          go_region_held3 (fun w' => w'.cell? ⟨b, i * 3, none⟩ = some (.int .i64 (kC x : Int)) ∧ w'.cell? ⟨b, i * 3 + 1, none⟩ = some (.int .u64 (tC x : Int)) ∧ w'.cell? ⟨b, i * 3 + 2, none⟩ = some (.int .i64 (E (tC x) : Int)) ∧ w'.cell? ⟨b, q * 3, none⟩ = some (.int .i64 (kC z : Int)) ∧ w'.cell? ⟨b, q * 3 + 1, none⟩ = some (.int .u64 (tC z : Int)) ∧ w'.cell? ⟨b, q * 3 + 2, none⟩ = some (.int .i64 (E (tC z) : Int)) ∧ wr.grownBy w' none)
            (first
              | assumption
              | exact KS.out _ (by repeat' first
                                        | assumption
                                        | exact (And.right (And.right (And.right (And.right (And.right (And.right (by assumption)))))))
                                        | exact World.grownBy.refl _ _
                                        | exact gb_drew _ _
                                        | exact gb_drewN _ _ _
                                        | refine gb_trans ?_ (gb_drew _ _)
                                        | refine gb_trans ?_ (by assumption)))
            (first
              | (go_at_call 25; refine (PR.out _).mono ?_; rintro e w' ⟨rfl, g⟩))
          have gS : wr.grownBy w' none := (And.right (And.right (And.right (And.right (And.right (And.right (by assumption)))))))
          clear KS
          go_wp2_with fail
          refine (swap_any _ base b (H.length + 1) c E L i q (HN.out.keep0 gS) HLN.out (by omega) (by omega) (by omega)).mono ?_
          rintro e w4 ⟨rfl, o4, g4⟩
          have O4 := Lib.hid o4
          have G4 := Lib.hid (gb_trans (gb_trans HG.out (gb_any gS)) g4)
          clear o4 g4 gS
          go_wp2
          go_roundw
          case rel => exact ⟨q, f - 1, _, rfl, by omega, by omega, by rw [swapL_len]; exact HLN.out, ST.out.symm.trans HS.out, O4.out, G4.out⟩
          case measure => simp [intOf]; omega
        · skip
          have PR := Lib.hid (fun w => prec_code w E x z)
          unfold RetV at PR
          rw [decide_eq_false hxz] at PR
          have FIN := Lib.hid (show upF f i L = L by rw [STEP.out, if_neg hxz])
          clear hxz STEP
          go_upto_region 4 with fail
          have KS := Lib.hid (fun (w' : World) (q0 : wr.grownBy w' none) => (⟨(CX.out _ q0).1, (CX.out _ q0).2.1, (CX.out _ q0).2.2, (CZ.out _ q0).1, (CZ.out _ q0).2.1, (CZ.out _ q0).2.2, q0⟩ : (fun w' => w'.cell? ⟨b, i * 3, none⟩ = some (.int .i64 (kC x : Int)) ∧ w'.cell? ⟨b, i * 3 + 1, none⟩ = some (.int .u64 (tC x : Int)) ∧ w'.cell? ⟨b, i * 3 + 2, none⟩ = some (.int .i64 (E (tC x) : Int)) ∧ w'.cell? ⟨b, q * 3, none⟩ = some (.int .i64 (kC z : Int)) ∧ w'.cell? ⟨b, q * 3 + 1, none⟩ = some (.int .u64 (tC z : Int)) ∧ w'.cell? ⟨b, q * 3 + 2, none⟩ = some (.int .i64 (E (tC z) : Int)) ∧ wr.grownBy w' none) w'))
          go_region_held3 (fun w' => w'.cell? ⟨b, i * 3, none⟩ = some (.int .i64 (kC x : Int)) ∧ w'.cell? ⟨b, i * 3 + 1, none⟩ = some (.int .u64 (tC x : Int)) ∧ w'.cell? ⟨b, i * 3 + 2, none⟩ = some (.int .i64 (E (tC x) : Int)) ∧ w'.cell? ⟨b, q * 3, none⟩ = some (.int .i64 (kC z : Int)) ∧ w'.cell? ⟨b, q * 3 + 1, none⟩ = some (.int .u64 (tC z : Int)) ∧ w'.cell? ⟨b, q * 3 + 2, none⟩ = some (.int .i64 (E (tC z) : Int)) ∧ wr.grownBy w' none)
            (first
              | assumption
              | exact KS.out _ (by repeat' first
                                        | assumption
                                        | exact (And.right (And.right (And.right (And.right (And.right (And.right (by assumption)))))))
                                        | exact World.grownBy.refl _ _
                                        | exact gb_drew _ _
                                        | exact gb_drewN _ _ _
                                        | refine gb_trans ?_ (gb_drew _ _)
                                        | refine gb_trans ?_ (by assumption)))
            (first
              | (go_at_call 25; refine (PR.out _).mono ?_; rintro e w' ⟨rfl, g⟩))
          have gS : wr.grownBy w' none := (And.right (And.right (And.right (And.right (And.right (And.right (by assumption)))))))
          clear KS
          go_wp2
          go_end0
          exact ⟨rfl, _, (HEND.out _ FIN.out gS).1, NB.out, (HEND.out _ FIN.out gS).2⟩
      · have iz : i = 0 := by omega
        subst iz
        have FIN := Lib.hid (show upF f 0 L = L by cases f with
          | zero => rfl
          | succ f => show (if _ then _ else _) = _; simp)
        go_upto_region 4 with fail
        go_quiet (fail)
        go_wp2
        go_end0
        exact ⟨rfl, _, (HEND.out _ FIN.out (gb_drewN _ _ _)).1, NB.out, (HEND.out _ FIN.out (gb_drewN _ _ _)).2⟩
end Go.Proofs.Ytmldoeigemippaa
